/- WayOfGas of both sides, second part. -/
import Derived.Test.YtnpjhhkhdeomcaaDoorWay
import Derived.Test.YtnpjhhkhdeomcaaDoorIsV
namespace Go.Proofs.YtnpjhhkhdeomcaaDoor.Way
open Go.RowKit Go.Proofs.YtnpjhhkhdeomcaaDoor.Rd Go.Proofs.YtnpjhhkhdeomcaaDoor.Rdb Go.Proofs.YtnpjhhkhdeomcaaDoor.Help Go.Proofs.YtnpjhhkhdeomcaaDoor.Ring Go.Proofs.YtnpjhhkhdeomcaaDoor.Small Go.Proofs.YtnpjhhkhdeomcaaDoor.FVal Go.Proofs.YtnpjhhkhdeomcaaDoor.Keep Go.Proofs.YtnpjhhkhdeomcaaDoor.Rule Go.Proofs.YtnpjhhkhdeomcaaDoor.GVal Go.Proofs.YtnpjhhkhdeomcaaDoor.Trn Go.Proofs.YtnpjhhkhdeomcaaDoor.Bes
set_option linter.unusedVariables false
set_option linter.unusedSimpArgs false

theorem nx5_IB {N : Nat} {w0 w w' : World} {p0 p1 p2 p3 p4 : Addr} {c0 c1 c2 c3 c4 : Value} {b0 : Nat} {v0 : Value} {z0 : List Int} {b1 : Nat} {v1 : Value} {z1 : List Bool} (bel : Below w.heap.size w w') (h : Below N w0 w ∧ w.cell? p0 = some c0 ∧ w.cell? p1 = some c1 ∧ w.cell? p2 = some c2 ∧ w.cell? p3 = some c3 ∧ w.cell? p4 = some c4 ∧ Rd w b0 v0 z0 ∧ RdB w b1 v1 z1 ∧ N ≤ w.heap.size) : Below N w0 w' ∧ w'.cell? p0 = some c0 ∧ w'.cell? p1 = some c1 ∧ w'.cell? p2 = some c2 ∧ w'.cell? p3 = some c3 ∧ w'.cell? p4 = some c4 ∧ Rd w' b0 v0 z0 ∧ RdB w' b1 v1 z1 ∧ N ≤ w'.heap.size := by obtain ⟨h0, x0, x1, x2, x3, x4, y0, y1, h5⟩ := h; exact ⟨h0.trans (bel.mono h5), cell_keep bel x0, cell_keep bel x1, cell_keep bel x2, cell_keep bel x3, cell_keep bel x4, y0.keep bel (Nat.le_refl _), y1.keep bel (Nat.le_refl _), Nat.le_trans h5 bel.size⟩
theorem drw5_IB {N : Nat} {w0 w : World} {p0 p1 p2 p3 p4 : Addr} {c0 c1 c2 c3 c4 : Value} {b0 : Nat} {v0 : Value} {z0 : List Int} {b1 : Nat} {v1 : Value} {z1 : List Bool} (h : Below N w0 w ∧ w.cell? p0 = some c0 ∧ w.cell? p1 = some c1 ∧ w.cell? p2 = some c2 ∧ w.cell? p3 = some c3 ∧ w.cell? p4 = some c4 ∧ Rd w b0 v0 z0 ∧ RdB w b1 v1 z1 ∧ N ≤ w.heap.size) : Below N w0 w.drew ∧ w.drew.cell? p0 = some c0 ∧ w.drew.cell? p1 = some c1 ∧ w.drew.cell? p2 = some c2 ∧ w.drew.cell? p3 = some c3 ∧ w.drew.cell? p4 = some c4 ∧ Rd w.drew b0 v0 z0 ∧ RdB w.drew b1 v1 z1 ∧ N ≤ w.drew.heap.size := by obtain ⟨h0, x0, x1, x2, x3, x4, y0, y1, h5⟩ := h; exact ⟨h0.drew, x0, x1, x2, x3, x4, y0, y1, h5⟩
theorem rdx5_IB_0 {N : Nat} {w0 w : World} {p0 p1 p2 p3 p4 : Addr} {c0 c1 c2 c3 c4 : Value} {b0 : Nat} {v0 : Value} {z0 : List Int} {b1 : Nat} {v1 : Value} {z1 : List Bool} (h : Below N w0 w ∧ w.cell? p0 = some c0 ∧ w.cell? p1 = some c1 ∧ w.cell? p2 = some c2 ∧ w.cell? p3 = some c3 ∧ w.cell? p4 = some c4 ∧ Rd w b0 v0 z0 ∧ RdB w b1 v1 z1 ∧ N ≤ w.heap.size) : Rd w b0 v0 z0 := by obtain ⟨h0, x0, x1, x2, x3, x4, y0, y1, h5⟩ := h; exact y0
theorem rdx5_IB_1 {N : Nat} {w0 w : World} {p0 p1 p2 p3 p4 : Addr} {c0 c1 c2 c3 c4 : Value} {b0 : Nat} {v0 : Value} {z0 : List Int} {b1 : Nat} {v1 : Value} {z1 : List Bool} (h : Below N w0 w ∧ w.cell? p0 = some c0 ∧ w.cell? p1 = some c1 ∧ w.cell? p2 = some c2 ∧ w.cell? p3 = some c3 ∧ w.cell? p4 = some c4 ∧ Rd w b0 v0 z0 ∧ RdB w b1 v1 z1 ∧ N ≤ w.heap.size) : RdB w b1 v1 z1 := by obtain ⟨h0, x0, x1, x2, x3, x4, y0, y1, h5⟩ := h; exact y1
theorem gas_parts {g s r : Int} {xs : List Int} {ys : List Bool} (h : gasB g s r xs ys = true) : (g = 4 ∨ g = 6) ∧ 1 ≤ xs.length ∧ xs.length ≤ 256 ∧ allB xs (top g + 1) = true := by
  simp only [gasB, Bool.and_eq_true, decide_eq_true_eq] at h
  obtain ⟨h1, h2, h3, h4, h5⟩ := h
  have hs : (1 ≤ s ∧ s ≤ 16) ∧ 1 ≤ r ∧ r ≤ 16 := by simp [sd16] at h2; omega
  obtain ⟨a, rfl⟩ := Int.eq_ofNat_of_zero_le (show 0 ≤ s by omega)
  obtain ⟨b, rfl⟩ := Int.eq_ofNat_of_zero_le (show 0 ≤ r by omega)
  have e1 : a * b ≤ 16 * 16 := Nat.mul_le_mul (by omega) (by omega)
  have e2 : 1 * 1 ≤ a * b := Nat.mul_le_mul (by omega) (by omega)
  have e3 : ((a * b : Nat) : Int) = (a : Int) * b := by simp
  exact ⟨h1, by omega, by omega, h5⟩
theorem cell_bd {xs : List Int} {t : Int} {k : Nat} (h : allB xs t = true) (hk : k < xs.length) : 0 ≤ xs.getD k 0 ∧ xs.getD k 0 ≤ t - 1 := by
  unfold allB at h
  rw [List.all_eq_true] at h
  have := h (xs.getD k 0) (by simp [List.getD, hk])
  simpa [okB] using this

theorem waysOf4 {w : World} {s r : Int} {v1 v2 : Value} : Calls Tryd.prog 38 #[gasV 4 s r v1 v2] w fun e w' => e = .returned (.func (.func 60) #[] #[]) ∧ Below w.heap.size w w' := by
  go_enter Tryd.func38, Tryd.ntmps38
  go_wp2
  go_ret
  exact ⟨rfl, below1 _ _⟩

theorem waysOf6 {w : World} {s r : Int} {v1 v2 : Value} : Calls Tryd.prog 38 #[gasV 6 s r v1 v2] w fun e w' => e = .returned (.func (.func 63) #[] #[]) ∧ Below w.heap.size w w' := by
  go_enter Tryd.func38, Tryd.ntmps38
  go_wp2
  go_ret
  exact ⟨rfl, below1 _ _⟩

theorem specNo {w : World} {g s r : Int} {b1 b2 : Nat} {v1 v2 : Value} {xs : List Int} {ys : List Bool} (h1 : Rd w b1 v1 xs) (h2 : RdB w b2 v2 ys) (hq : gasB g s r xs ys = false) :
    Calls Tryd.prog 13 #[gasV g s r v1 v2] w fun e w' => e = .returned (.tuple #[.int .i64 0, .int .i64 0, .bool false]) ∧ Below w.heap.size w w' := by
  have H1 := hid h1
  have H2 := hid h2
  have HQ := hid hq
  obtain ⟨ao1, cap1, rfl, _, _, _⟩ := h1
  obtain ⟨ao2, cap2, rfl, _, _, _⟩ := h2
  clear hq
  go_enter Tryd.func13, Tryd.ntmps13
  go_wp2_with fail
  obtain ⟨w1, hW⟩ : ∃ w1, w1 = w.alloc (Obj.cells #[.int .i64 g, .int .i64 s, .int .i64 r, (Value.slice ao1 xs.length cap1), (Value.slice ao2 ys.length cap2)] 38) := ⟨_, rfl⟩
  obtain ⟨N, hN⟩ : ∃ N, N = w.heap.size := ⟨_, rfl⟩
  have st : Below w.heap.size w w1 ∧ w1.cell? ⟨N, 0, none⟩ = some (.int .i64 g) ∧ w1.cell? ⟨N, 1, none⟩ = some (.int .i64 s) ∧ w1.cell? ⟨N, 2, none⟩ = some (.int .i64 r) ∧ w1.cell? ⟨N, 3, none⟩ = some ((Value.slice ao1 xs.length cap1)) ∧ w1.cell? ⟨N, 4, none⟩ = some ((Value.slice ao2 ys.length cap2)) ∧ Rd w1 b1 (Value.slice ao1 xs.length cap1) xs ∧ RdB w1 b2 (Value.slice ao2 ys.length cap2) ys ∧ w.heap.size ≤ w1.heap.size := by
    rw [hW, hN]
    exact ⟨below1 _ _, by simp, by simp, by simp, by simp, by simp, H1.out.keep (below1 _ _) (Nat.le_refl _), H2.out.keep (below1 _ _) (Nat.le_refl _), by simp⟩
  simp only [← hW, ← hN]
  clear hW hN
  go_at_call 34
  refine (GVal.l06Is st.2.1 st.2.2.1 st.2.2.2.1 st.2.2.2.2.1 st.2.2.2.2.2.1 (rdx5_IB_0 st) (rdx5_IB_1 st)).mono ?_
  rw [HQ.out]
  rintro e w2 ⟨rfl, hm⟩
  have bel : Below w1.heap.size w1 w2 := by obtain ⟨m, hm⟩ := hm; rw [hm]; exact Help.below_drewN _ _ _
  clear hm
  replace st := nx5_IB bel st
  clear bel
  have HB := hid st.1
  clear st
  go_wp2_with fail
  go_ret3
  exact ⟨rfl, HB.out⟩

theorem implNo {w : World} {g s r : Int} {b1 b2 : Nat} {v1 v2 : Value} {xs : List Int} {ys : List Bool} (h1 : Rd w b1 v1 xs) (h2 : RdB w b2 v2 ys) (hq : gasB g s r xs ys = false) :
    Calls Tryd.prog 15 #[gasV g s r v1 v2] w fun e w' => e = .returned (.tuple #[.int .i64 0, .int .i64 0, .bool false]) ∧ Below w.heap.size w w' := by
  have H1 := hid h1
  have H2 := hid h2
  have HQ := hid hq
  obtain ⟨ao1, cap1, rfl, _, _, _⟩ := h1
  obtain ⟨ao2, cap2, rfl, _, _, _⟩ := h2
  clear hq
  go_enter Tryd.func15, Tryd.ntmps15
  go_wp2_with fail
  obtain ⟨w1, hW⟩ : ∃ w1, w1 = w.alloc (Obj.cells #[.int .i64 g, .int .i64 s, .int .i64 r, (Value.slice ao1 xs.length cap1), (Value.slice ao2 ys.length cap2)] 38) := ⟨_, rfl⟩
  obtain ⟨N, hN⟩ : ∃ N, N = w.heap.size := ⟨_, rfl⟩
  have st : Below w.heap.size w w1 ∧ w1.cell? ⟨N, 0, none⟩ = some (.int .i64 g) ∧ w1.cell? ⟨N, 1, none⟩ = some (.int .i64 s) ∧ w1.cell? ⟨N, 2, none⟩ = some (.int .i64 r) ∧ w1.cell? ⟨N, 3, none⟩ = some ((Value.slice ao1 xs.length cap1)) ∧ w1.cell? ⟨N, 4, none⟩ = some ((Value.slice ao2 ys.length cap2)) ∧ Rd w1 b1 (Value.slice ao1 xs.length cap1) xs ∧ RdB w1 b2 (Value.slice ao2 ys.length cap2) ys ∧ w.heap.size ≤ w1.heap.size := by
    rw [hW, hN]
    exact ⟨below1 _ _, by simp, by simp, by simp, by simp, by simp, H1.out.keep (below1 _ _) (Nat.le_refl _), H2.out.keep (below1 _ _) (Nat.le_refl _), by simp⟩
  simp only [← hW, ← hN]
  clear hW hN
  go_at_call 37
  refine (IsW.implValidGas (rdx5_IB_0 st) (rdx5_IB_1 st)).mono ?_
  rw [HQ.out]
  rintro e w2 ⟨rfl, bel⟩
  replace st := nx5_IB bel st
  clear bel
  have HB := hid st.1
  clear st
  go_wp2_with fail
  go_ret3
  exact ⟨rfl, HB.out⟩

set_option maxHeartbeats 16000000 in
set_option maxRecDepth 20000 in
theorem specOk4 {w : World} {s r : Int} {b1 b2 : Nat} {v1 v2 : Value} {xs : List Int} {ys : List Bool} (h1 : Rd w b1 v1 xs) (h2 : RdB w b2 v2 ys) (hq : gasB 4 s r xs ys = true) :
    Calls Tryd.prog 13 #[gasV 4 s r v1 v2] w fun e w' => e = .returned (.tuple #[.int .i64 (tot (Way.wr 4) 4 xs xs.length), .int .i64 (tot (Way.wc 4) 4 xs xs.length), .bool true]) ∧ Below w.heap.size w w' := by
  obtain ⟨hg4, hn, hn256, hcb⟩ := gas_parts hq
  have HTP : Hid (top 4 ≤ 63) := by simp [Hid, top]
  have H1 := hid h1
  have H2 := hid h2
  have HQ := hid hq
  have HCB := hid hcb
  obtain ⟨ao1, cap1, rfl, _, _, h41⟩ := h1
  obtain ⟨ao2, cap2, rfl, _, _, _⟩ := h2
  obtain ⟨off1, rfl, hb1, hcell1⟩ := h41 (by omega)
  have HC1 := hid hcell1
  have HBL := hid hb1
  have hnI : (xs.length : Int) ≤ 256 := by omega
  have HD1 : Hid (∀ k, k < 4 → -1 ≤ Way.wr 4 k ∧ Way.wr 4 k ≤ 1) := fun k hk => (w4_bd k hk).1
  have HD2 : Hid (∀ k, k < 4 → -1 ≤ Way.wc 4 k ∧ Way.wc 4 k ≤ 1) := fun k hk => (w4_bd k hk).2
  clear hq hcb hg4 h41 hb1 hcell1 hn hn256
  go_enter Tryd.func13, Tryd.ntmps13
  go_wp2_with fail
  obtain ⟨w1, hW⟩ : ∃ w1, w1 = w.alloc (Obj.cells #[.int .i64 4, .int .i64 s, .int .i64 r, (Value.slice (some ⟨b1, off1, none⟩) xs.length cap1), (Value.slice ao2 ys.length cap2)] 38) := ⟨_, rfl⟩
  obtain ⟨N, hN⟩ : ∃ N, N = w.heap.size := ⟨_, rfl⟩
  have st : Below w.heap.size w w1 ∧ w1.cell? ⟨N, 0, none⟩ = some (.int .i64 4) ∧ w1.cell? ⟨N, 1, none⟩ = some (.int .i64 s) ∧ w1.cell? ⟨N, 2, none⟩ = some (.int .i64 r) ∧ w1.cell? ⟨N, 3, none⟩ = some ((Value.slice (some ⟨b1, off1, none⟩) xs.length cap1)) ∧ w1.cell? ⟨N, 4, none⟩ = some ((Value.slice ao2 ys.length cap2)) ∧ Rd w1 b1 (Value.slice (some ⟨b1, off1, none⟩) xs.length cap1) xs ∧ RdB w1 b2 (Value.slice ao2 ys.length cap2) ys ∧ w.heap.size ≤ w1.heap.size := by
    rw [hW, hN]
    exact ⟨below1 _ _, by simp, by simp, by simp, by simp, by simp, H1.out.keep (below1 _ _) (Nat.le_refl _), H2.out.keep (below1 _ _) (Nat.le_refl _), by simp⟩
  simp only [← hW, ← hN]
  clear hW hN
  go_at_call 34
  refine (GVal.l06Is st.2.1 st.2.2.1 st.2.2.2.1 st.2.2.2.2.1 st.2.2.2.2.2.1 (rdx5_IB_0 st) (rdx5_IB_1 st)).mono ?_
  rw [HQ.out]
  rintro e w2 ⟨rfl, hm⟩
  have bel : Below w1.heap.size w1 w2 := by obtain ⟨m, hm⟩ := hm; rw [hm]; exact Help.below_drewN _ _ _
  clear hm
  replace st := nx5_IB bel st
  clear bel
  have HSX := hid st
  have c3 := st.2.2.2.2.1
  clear st
  go_wp2
  clear c3
  go_loopw [5, 6, 7, 8, 9, 10] (fun a c i j8 j9 j10 wr_ => ∃ k : Nat, k ≤ xs.length ∧ i = .int .i64 k ∧ a = .int .i64 (tot (Way.wr 4) 4 xs k) ∧ c = .int .i64 (tot (Way.wc 4) 4 xs k) ∧ Below w.heap.size w wr_ ∧ wr_.cell? ⟨N, 0, none⟩ = some (.int .i64 4) ∧ wr_.cell? ⟨N, 1, none⟩ = some (.int .i64 s) ∧ wr_.cell? ⟨N, 2, none⟩ = some (.int .i64 r) ∧ wr_.cell? ⟨N, 3, none⟩ = some ((Value.slice (some ⟨b1, off1, none⟩) xs.length cap1)) ∧ wr_.cell? ⟨N, 4, none⟩ = some ((Value.slice ao2 ys.length cap2)) ∧ Rd wr_ b1 (Value.slice (some ⟨b1, off1, none⟩) xs.length cap1) xs ∧ RdB wr_ b2 (Value.slice ao2 ys.length cap2) ys ∧ w.heap.size ≤ wr_.heap.size) (fun _ _ i _ _ _ _ => xs.length - (intOf i).toNat)
  case atStart => exact ⟨0, Nat.zero_le _, rfl, rfl, rfl, HSX.out⟩
  case round =>
    obtain ⟨k, hk, rfl, rfl, rfl, st⟩ := hrel
    have c0 := st.2.1
    have c3 := st.2.2.2.2.1
    obtain ⟨ta, hta⟩ : ∃ ta, ta = (tot (Way.wr 4) 4 xs k) := ⟨_, rfl⟩
    obtain ⟨tc, htc⟩ : ∃ tc, tc = (tot (Way.wc 4) 4 xs k) := ⟨_, rfl⟩
    have hba := tot_bd (by omega) HD1.out xs k
    have hbc := tot_bd (by omega) HD2.out xs k
    rw [← hta] at hba ⊢
    rw [← htc] at hbc ⊢
    by_cases hlt : k < xs.length
    · obtain ⟨z, hz⟩ : ∃ z, z = xs.getD k 0 := ⟨_, rfl⟩
      have hzb := cell_bd HCB.out hlt
      rw [← hz] at hzb
      obtain ⟨x, rfl⟩ := Int.eq_ofNat_of_zero_le hzb.1
      have HXB : Hid (x < 64) := by have := HTP.out; simp only [Hid]; omega
      have HX : Hid ((xs.getD k 0).toNat = x) := by simp only [Hid]; rw [← hz]; rfl
      have HCX : Hid (w.cell? ⟨b1, off1 + k, none⟩ = some (.int .i64 (x : Int))) := by simp only [Hid]; rw [hz]; exact HC1.out k hlt
      have hki : (k : Int) < (xs.length : Int) := Int.ofNat_lt.2 hlt
      have hcx := (st.1.cell (p := ⟨b1, off1 + k, none⟩) HBL.out).trans HCX.out
      have HTA : Hid (tot (Way.wr 4) 4 xs (k + 1) = ta + cw (Way.wr 4) x 4) := by simp only [Hid, tot]; rw [← hta, HX.out]
      have HTC : Hid (tot (Way.wc 4) 4 xs (k + 1) = tc + cw (Way.wc 4) x 4) := by simp only [Hid, tot]; rw [← htc, HX.out]
      have HST := hid st
      clear st hz hzb hta htc
      go_wp2
      clear c0 c3 hcx
      go_loopw [5, 6, 8, 9, 10] (fun a c j j9 j10 wx => ∃ m : Nat, m ≤ 4 ∧ j = .int .i64 m ∧ a = .int .i64 (ta + cw (Way.wr 4) x m) ∧ c = .int .i64 (tc + cw (Way.wc 4) x m) ∧ Below w.heap.size w wx ∧ wx.cell? ⟨N, 0, none⟩ = some (.int .i64 4) ∧ wx.cell? ⟨N, 1, none⟩ = some (.int .i64 s) ∧ wx.cell? ⟨N, 2, none⟩ = some (.int .i64 r) ∧ wx.cell? ⟨N, 3, none⟩ = some ((Value.slice (some ⟨b1, off1, none⟩) xs.length cap1)) ∧ wx.cell? ⟨N, 4, none⟩ = some ((Value.slice ao2 ys.length cap2)) ∧ Rd wx b1 (Value.slice (some ⟨b1, off1, none⟩) xs.length cap1) xs ∧ RdB wx b2 (Value.slice ao2 ys.length cap2) ys ∧ w.heap.size ≤ wx.heap.size) (fun _ _ j _ _ _ => 4 - (intOf j).toNat)
      case atStart => exact ⟨0, by omega, rfl, by simp [cw], by simp [cw], HST.out⟩
      case round =>
        obtain ⟨m, hm, rfl, rfl, rfl, st⟩ := hrel
        have c0 := st.2.1
        have c3 := st.2.2.2.2.1
        obtain ⟨ca, hca⟩ : ∃ ca, ca = cw (Way.wr 4) x m := ⟨_, rfl⟩
        obtain ⟨cc, hcc⟩ : ∃ cc, cc = cw (Way.wc 4) x m := ⟨_, rfl⟩
        have hb1 := cw_bd HD1.out x m hm
        have hb2 := cw_bd HD2.out x m hm
        rw [← hca] at hb1 ⊢
        rw [← hcc] at hb2 ⊢
        by_cases hlm : m < 4
        · have hmi : (m : Int) < 4 := by omega
          have hcx := (st.1.cell (p := ⟨b1, off1 + k, none⟩) HBL.out).trans HCX.out
          obtain ⟨da, hda⟩ : ∃ da, da = Way.wr 4 m := ⟨_, rfl⟩
          obtain ⟨dc, hdc⟩ : ∃ dc, dc = Way.wc 4 m := ⟨_, rfl⟩
          have hd1 := HD1.out m hlm
          have hd2 := HD2.out m hlm
          rw [← hda] at hd1
          rw [← hdc] at hd2
          rcases bit_le x m with h0 | h0
          · have hand : bits .and .i64 ((x : Int) / 2 ^ m) 1 = 0 := by rw [and1_all x HXB.out m (by omega), h0]; rfl
            have E1 : Hid (cw (Way.wr 4) x (m + 1) = ca) := by simp only [Hid, cw, h0]; rw [← hca]; simp
            have E2 : Hid (cw (Way.wc 4) x (m + 1) = cc) := by simp only [Hid, cw, h0]; rw [← hcc]; simp
            have HDA := hid hda
            have HDC := hid hdc
            clear h0 hca hcc hda hdc
            have HST2 := hid st
            clear st
            go_wp2
            go_roundw
            case rel => exact ⟨m + 1, by omega, by go_num, by first | (rw [E1.out]; done) | (rw [E1.out]; congr 1; omega), by first | (rw [E2.out]; done) | (rw [E2.out]; congr 1; omega), HST2.out⟩
            case measure => simp [intOf]; omega
          · have hand : bits .and .i64 ((x : Int) / 2 ^ m) 1 = 1 := by rw [and1_all x HXB.out m (by omega), h0]; rfl
            have E1 : Hid (cw (Way.wr 4) x (m + 1) = ca + da) := by simp only [Hid, cw, h0]; rw [← hca]; rw [← hda]; rfl
            have E2 : Hid (cw (Way.wc 4) x (m + 1) = cc + dc) := by simp only [Hid, cw, h0]; rw [← hcc]; rw [← hdc]; rfl
            have HDA := hid hda
            have HDC := hid hdc
            clear h0 hca hcc hda hdc
            go_wp2_with fail
            go_at_call 35
            refine (lw4 hlm).mono ?_
            rw [← HDA.out, ← HDC.out]
            rintro e wa ⟨rfl, bel⟩
            replace st := nx5_IB bel st
            have HST2 := hid st
            clear bel st
            go_wp2
            go_roundw
            case rel => exact ⟨m + 1, by omega, by go_num, by first | (rw [E1.out]; done) | (rw [E1.out]; congr 1; omega), by first | (rw [E2.out]; done) | (rw [E2.out]; congr 1; omega), HST2.out⟩
            case measure => simp [intOf]; omega
        · have hmg : m = 4 := by omega
          subst hmg
          have HE1 := hid hca
          have HE2 := hid hcc
          have HST2 := hid st
          clear st hca hcc
          go_wp2
          go_roundw
          case rel => exact ⟨k + 1, by omega, by go_num, by rw [HTA.out, ← HE1.out], by rw [HTC.out, ← HE2.out], HST2.out⟩
          case measure => simp [intOf]; omega
    · have hkn : k = xs.length := by omega
      subst hkn
      have HA := hid hta
      have HC := hid htc
      have HB := hid st.1
      clear st hta htc
      go_wp2
      go_ret3
      exact ⟨by rw [← HA.out, ← HC.out]; rfl, HB.out⟩

set_option maxHeartbeats 16000000 in
set_option maxRecDepth 20000 in
theorem implOk4 {w : World} {s r : Int} {b1 b2 : Nat} {v1 v2 : Value} {xs : List Int} {ys : List Bool} (h1 : Rd w b1 v1 xs) (h2 : RdB w b2 v2 ys) (hg : GG w) (hq : gasB 4 s r xs ys = true) :
    Calls Tryd.prog 15 #[gasV 4 s r v1 v2] w fun e w' => e = .returned (.tuple #[.int .i64 (tot (Way.wr 4) 4 xs xs.length), .int .i64 (tot (Way.wc 4) 4 xs xs.length), .bool true]) ∧ Below w.heap.size w w' := by
  obtain ⟨hg4, hn, hn256, hcb⟩ := gas_parts hq
  have HTP : Hid (top 4 ≤ 63) := by simp [Hid, top]
  have H1 := hid h1
  have H2 := hid h2
  have HQ := hid hq
  have HCB := hid hcb
  obtain ⟨ao1, cap1, rfl, _, _, h41⟩ := h1
  obtain ⟨ao2, cap2, rfl, _, _, _⟩ := h2
  obtain ⟨off1, rfl, hb1, hcell1⟩ := h41 (by omega)
  have HC1 := hid hcell1
  have HBL := hid hb1
  have hnI : (xs.length : Int) ≤ 256 := by omega
  have HD1 : Hid (∀ k, k < 4 → -1 ≤ Way.wr 4 k ∧ Way.wr 4 k ≤ 1) := fun k hk => (w4_bd k hk).1
  have HD2 : Hid (∀ k, k < 4 → -1 ≤ Way.wc 4 k ∧ Way.wc 4 k ≤ 1) := fun k hk => (w4_bd k hk).2
  clear hq hcb hg4 h41 hb1 hcell1 hn hn256
  have hf0 : ∀ (a b : Int) (w : World), (Instr.field 54 (shapeV a b) 0).run Tryd.prog w = .ok (.int .i64 a) w := fun _ _ _ => by kernel_rfl
  have hf1 : ∀ (a b : Int) (w : World), (Instr.field 54 (shapeV a b) 1).run Tryd.prog w = .ok (.int .i64 b) w := fun _ _ _ => by kernel_rfl
  have HGG := hid hg
  clear hg
  go_enter Tryd.func15, Tryd.ntmps15
  go_wp2_with fail
  obtain ⟨w1, hW⟩ : ∃ w1, w1 = w.alloc (Obj.cells #[.int .i64 4, .int .i64 s, .int .i64 r, (Value.slice (some ⟨b1, off1, none⟩) xs.length cap1), (Value.slice ao2 ys.length cap2)] 38) := ⟨_, rfl⟩
  obtain ⟨N, hN⟩ : ∃ N, N = w.heap.size := ⟨_, rfl⟩
  have st : Below w.heap.size w w1 ∧ w1.cell? ⟨N, 0, none⟩ = some (.int .i64 4) ∧ w1.cell? ⟨N, 1, none⟩ = some (.int .i64 s) ∧ w1.cell? ⟨N, 2, none⟩ = some (.int .i64 r) ∧ w1.cell? ⟨N, 3, none⟩ = some ((Value.slice (some ⟨b1, off1, none⟩) xs.length cap1)) ∧ w1.cell? ⟨N, 4, none⟩ = some ((Value.slice ao2 ys.length cap2)) ∧ Rd w1 b1 (Value.slice (some ⟨b1, off1, none⟩) xs.length cap1) xs ∧ RdB w1 b2 (Value.slice ao2 ys.length cap2) ys ∧ w.heap.size ≤ w1.heap.size := by
    rw [hW, hN]
    exact ⟨below1 _ _, by simp, by simp, by simp, by simp, by simp, H1.out.keep (below1 _ _) (Nat.le_refl _), H2.out.keep (below1 _ _) (Nat.le_refl _), by simp⟩
  simp only [← hW, ← hN]
  clear hW hN
  go_at_call 37
  refine (IsW.implValidGas (rdx5_IB_0 st) (rdx5_IB_1 st)).mono ?_
  rw [HQ.out]
  rintro e w2 ⟨rfl, bel⟩
  replace st := nx5_IB bel st
  clear bel
  go_wp2_with fail
  go_at_call 38
  refine waysOf4.mono ?_
  rintro e w3 ⟨rfl, bel⟩
  replace st := nx5_IB bel st
  clear bel
  have HSX := hid st
  have c3 := st.2.2.2.2.1
  clear st
  go_wp2
  clear c3
  go_loopw [6, 7, 9, 10, 11, 20] (fun a c j9 j10 j11 i wr_ => ∃ k : Nat, k ≤ xs.length ∧ i = .int .i64 k ∧ a = .int .i64 (tot (Way.wr 4) 4 xs k) ∧ c = .int .i64 (tot (Way.wc 4) 4 xs k) ∧ Below w.heap.size w wr_ ∧ wr_.cell? ⟨N, 0, none⟩ = some (.int .i64 4) ∧ wr_.cell? ⟨N, 1, none⟩ = some (.int .i64 s) ∧ wr_.cell? ⟨N, 2, none⟩ = some (.int .i64 r) ∧ wr_.cell? ⟨N, 3, none⟩ = some ((Value.slice (some ⟨b1, off1, none⟩) xs.length cap1)) ∧ wr_.cell? ⟨N, 4, none⟩ = some ((Value.slice ao2 ys.length cap2)) ∧ Rd wr_ b1 (Value.slice (some ⟨b1, off1, none⟩) xs.length cap1) xs ∧ RdB wr_ b2 (Value.slice ao2 ys.length cap2) ys ∧ w.heap.size ≤ wr_.heap.size) (fun _ _ _ _ _ i _ => xs.length - (intOf i).toNat)
  case atStart => exact ⟨0, Nat.zero_le _, rfl, rfl, rfl, HSX.out⟩
  case round =>
    obtain ⟨k, hk, rfl, rfl, rfl, st⟩ := hrel
    have c0 := st.2.1
    have c3 := st.2.2.2.2.1
    obtain ⟨ta, hta⟩ : ∃ ta, ta = (tot (Way.wr 4) 4 xs k) := ⟨_, rfl⟩
    obtain ⟨tc, htc⟩ : ∃ tc, tc = (tot (Way.wc 4) 4 xs k) := ⟨_, rfl⟩
    have hba := tot_bd (by omega) HD1.out xs k
    have hbc := tot_bd (by omega) HD2.out xs k
    rw [← hta] at hba ⊢
    rw [← htc] at hbc ⊢
    by_cases hlt : k < xs.length
    · obtain ⟨z, hz⟩ : ∃ z, z = xs.getD k 0 := ⟨_, rfl⟩
      have hzb := cell_bd HCB.out hlt
      rw [← hz] at hzb
      obtain ⟨x, rfl⟩ := Int.eq_ofNat_of_zero_le hzb.1
      have HXB : Hid (x < 64) := by have := HTP.out; simp only [Hid]; omega
      have HX : Hid ((xs.getD k 0).toNat = x) := by simp only [Hid]; rw [← hz]; rfl
      have HCX : Hid (w.cell? ⟨b1, off1 + k, none⟩ = some (.int .i64 (x : Int))) := by simp only [Hid]; rw [hz]; exact HC1.out k hlt
      have hki : (k : Int) < (xs.length : Int) := Int.ofNat_lt.2 hlt
      have hcx := (st.1.cell (p := ⟨b1, off1 + k, none⟩) HBL.out).trans HCX.out
      have HTA : Hid (tot (Way.wr 4) 4 xs (k + 1) = ta + cw (Way.wr 4) x 4) := by simp only [Hid, tot]; rw [← hta, HX.out]
      have HTC : Hid (tot (Way.wc 4) 4 xs (k + 1) = tc + cw (Way.wc 4) x 4) := by simp only [Hid, tot]; rw [← htc, HX.out]
      have HST := hid st
      clear st hz hzb hta htc
      go_wp2
      clear c0 c3 hcx
      go_loopw [6, 7, 10, 11, 26] (fun a c j10 j11 j wx => ∃ m : Nat, m ≤ 4 ∧ j = .int .i64 m ∧ a = .int .i64 (ta + cw (Way.wr 4) x m) ∧ c = .int .i64 (tc + cw (Way.wc 4) x m) ∧ Below w.heap.size w wx ∧ wx.cell? ⟨N, 0, none⟩ = some (.int .i64 4) ∧ wx.cell? ⟨N, 1, none⟩ = some (.int .i64 s) ∧ wx.cell? ⟨N, 2, none⟩ = some (.int .i64 r) ∧ wx.cell? ⟨N, 3, none⟩ = some ((Value.slice (some ⟨b1, off1, none⟩) xs.length cap1)) ∧ wx.cell? ⟨N, 4, none⟩ = some ((Value.slice ao2 ys.length cap2)) ∧ Rd wx b1 (Value.slice (some ⟨b1, off1, none⟩) xs.length cap1) xs ∧ RdB wx b2 (Value.slice ao2 ys.length cap2) ys ∧ w.heap.size ≤ wx.heap.size) (fun _ _ _ _ j _ => 4 - (intOf j).toNat)
      case atStart => exact ⟨0, by omega, rfl, by simp [cw], by simp [cw], HST.out⟩
      case round =>
        obtain ⟨m, hm, rfl, rfl, rfl, st⟩ := hrel
        have c0 := st.2.1
        have c3 := st.2.2.2.2.1
        obtain ⟨ca, hca⟩ : ∃ ca, ca = cw (Way.wr 4) x m := ⟨_, rfl⟩
        obtain ⟨cc, hcc⟩ : ∃ cc, cc = cw (Way.wc 4) x m := ⟨_, rfl⟩
        have hb1 := cw_bd HD1.out x m hm
        have hb2 := cw_bd HD2.out x m hm
        rw [← hca] at hb1 ⊢
        rw [← hcc] at hb2 ⊢
        by_cases hlm : m < 4
        · have hmi : (m : Int) < 4 := by omega
          have hcx := (st.1.cell (p := ⟨b1, off1 + k, none⟩) HBL.out).trans HCX.out
          obtain ⟨da, hda⟩ : ∃ da, da = Way.wr 4 m := ⟨_, rfl⟩
          obtain ⟨dc, hdc⟩ : ∃ dc, dc = Way.wc 4 m := ⟨_, rfl⟩
          have hd1 := HD1.out m hlm
          have hd2 := HD2.out m hlm
          rw [← hda] at hd1
          rw [← hdc] at hd2
          rcases bit_le x m with h0 | h0
          · have hand : bits .and .i64 ((x : Int) / 2 ^ m) 1 = 0 := by rw [and1_all x HXB.out m (by omega), h0]; rfl
            have E1 : Hid (cw (Way.wr 4) x (m + 1) = ca) := by simp only [Hid, cw, h0]; rw [← hca]; simp
            have E2 : Hid (cw (Way.wc 4) x (m + 1) = cc) := by simp only [Hid, cw, h0]; rw [← hcc]; simp
            have HDA := hid hda
            have HDC := hid hdc
            clear h0 hca hcc hda hdc
            go_wp2_with fail
            go_at_call 60
            refine (told4 (gg_bel HGG.out st.1) hlm).mono ?_
            rw [← HDA.out, ← HDC.out]
            rintro e wa ⟨rfl, bel⟩
            replace st := nx5_IB bel st
            clear bel
            go_wp2_with fail
            go_at_call 60
            refine (told4 (gg_bel HGG.out st.1) hlm).mono ?_
            rw [← HDA.out, ← HDC.out]
            rintro e wb ⟨rfl, bel⟩
            replace st := nx5_IB bel st
            clear bel
            have HST2 := hid st
            clear st
            go_wp2
            go_roundw
            case rel => exact ⟨m + 1, by omega, by go_num, by first | (rw [E1.out]; done) | (rw [E1.out]; congr 1; omega), by first | (rw [E2.out]; done) | (rw [E2.out]; congr 1; omega), HST2.out⟩
            case measure => simp [intOf]; omega
          · have hand : bits .and .i64 ((x : Int) / 2 ^ m) 1 = 1 := by rw [and1_all x HXB.out m (by omega), h0]; rfl
            have E1 : Hid (cw (Way.wr 4) x (m + 1) = ca + da) := by simp only [Hid, cw, h0]; rw [← hca]; rw [← hda]; rfl
            have E2 : Hid (cw (Way.wc 4) x (m + 1) = cc + dc) := by simp only [Hid, cw, h0]; rw [← hcc]; rw [← hdc]; rfl
            have HDA := hid hda
            have HDC := hid hdc
            clear h0 hca hcc hda hdc
            go_wp2_with fail
            go_at_call 60
            refine (told4 (gg_bel HGG.out st.1) hlm).mono ?_
            rw [← HDA.out, ← HDC.out]
            rintro e wa ⟨rfl, bel⟩
            replace st := nx5_IB bel st
            clear bel
            go_wp2_with fail
            go_at_call 60
            refine (told4 (gg_bel HGG.out st.1) hlm).mono ?_
            rw [← HDA.out, ← HDC.out]
            rintro e wb ⟨rfl, bel⟩
            replace st := nx5_IB bel st
            clear bel
            have HST2 := hid st
            clear st
            go_wp2
            go_roundw
            case rel => exact ⟨m + 1, by omega, by go_num, by first | (rw [E1.out]; done) | (rw [E1.out]; congr 1; omega), by first | (rw [E2.out]; done) | (rw [E2.out]; congr 1; omega), HST2.out⟩
            case measure => simp [intOf]; omega
        · have hmg : m = 4 := by omega
          subst hmg
          have HE1 := hid hca
          have HE2 := hid hcc
          have HST2 := hid st
          clear st hca hcc
          go_wp2
          go_roundw
          case rel => exact ⟨k + 1, by omega, by go_num, by rw [HTA.out, ← HE1.out], by rw [HTC.out, ← HE2.out], HST2.out⟩
          case measure => simp [intOf]; omega
    · have hkn : k = xs.length := by omega
      subst hkn
      have HA := hid hta
      have HC := hid htc
      have HB := hid st.1
      clear st hta htc
      go_wp2
      go_ret3
      exact ⟨by rw [← HA.out, ← HC.out]; rfl, HB.out⟩

set_option maxHeartbeats 16000000 in
set_option maxRecDepth 20000 in
theorem specOk6 {w : World} {s r : Int} {b1 b2 : Nat} {v1 v2 : Value} {xs : List Int} {ys : List Bool} (h1 : Rd w b1 v1 xs) (h2 : RdB w b2 v2 ys) (hq : gasB 6 s r xs ys = true) :
    Calls Tryd.prog 13 #[gasV 6 s r v1 v2] w fun e w' => e = .returned (.tuple #[.int .i64 (tot (Way.wr 6) 6 xs xs.length), .int .i64 (tot (Way.wc 6) 6 xs xs.length), .bool true]) ∧ Below w.heap.size w w' := by
  obtain ⟨hg4, hn, hn256, hcb⟩ := gas_parts hq
  have HTP : Hid (top 6 ≤ 63) := by simp [Hid, top]
  have H1 := hid h1
  have H2 := hid h2
  have HQ := hid hq
  have HCB := hid hcb
  obtain ⟨ao1, cap1, rfl, _, _, h41⟩ := h1
  obtain ⟨ao2, cap2, rfl, _, _, _⟩ := h2
  obtain ⟨off1, rfl, hb1, hcell1⟩ := h41 (by omega)
  have HC1 := hid hcell1
  have HBL := hid hb1
  have hnI : (xs.length : Int) ≤ 256 := by omega
  have HD1 : Hid (∀ k, k < 6 → -1 ≤ Way.wr 6 k ∧ Way.wr 6 k ≤ 1) := fun k hk => (w6_bd k hk).1
  have HD2 : Hid (∀ k, k < 6 → -1 ≤ Way.wc 6 k ∧ Way.wc 6 k ≤ 1) := fun k hk => (w6_bd k hk).2
  clear hq hcb hg4 h41 hb1 hcell1 hn hn256
  go_enter Tryd.func13, Tryd.ntmps13
  go_wp2_with fail
  obtain ⟨w1, hW⟩ : ∃ w1, w1 = w.alloc (Obj.cells #[.int .i64 6, .int .i64 s, .int .i64 r, (Value.slice (some ⟨b1, off1, none⟩) xs.length cap1), (Value.slice ao2 ys.length cap2)] 38) := ⟨_, rfl⟩
  obtain ⟨N, hN⟩ : ∃ N, N = w.heap.size := ⟨_, rfl⟩
  have st : Below w.heap.size w w1 ∧ w1.cell? ⟨N, 0, none⟩ = some (.int .i64 6) ∧ w1.cell? ⟨N, 1, none⟩ = some (.int .i64 s) ∧ w1.cell? ⟨N, 2, none⟩ = some (.int .i64 r) ∧ w1.cell? ⟨N, 3, none⟩ = some ((Value.slice (some ⟨b1, off1, none⟩) xs.length cap1)) ∧ w1.cell? ⟨N, 4, none⟩ = some ((Value.slice ao2 ys.length cap2)) ∧ Rd w1 b1 (Value.slice (some ⟨b1, off1, none⟩) xs.length cap1) xs ∧ RdB w1 b2 (Value.slice ao2 ys.length cap2) ys ∧ w.heap.size ≤ w1.heap.size := by
    rw [hW, hN]
    exact ⟨below1 _ _, by simp, by simp, by simp, by simp, by simp, H1.out.keep (below1 _ _) (Nat.le_refl _), H2.out.keep (below1 _ _) (Nat.le_refl _), by simp⟩
  simp only [← hW, ← hN]
  clear hW hN
  go_at_call 34
  refine (GVal.l06Is st.2.1 st.2.2.1 st.2.2.2.1 st.2.2.2.2.1 st.2.2.2.2.2.1 (rdx5_IB_0 st) (rdx5_IB_1 st)).mono ?_
  rw [HQ.out]
  rintro e w2 ⟨rfl, hm⟩
  have bel : Below w1.heap.size w1 w2 := by obtain ⟨m, hm⟩ := hm; rw [hm]; exact Help.below_drewN _ _ _
  clear hm
  replace st := nx5_IB bel st
  clear bel
  have HSX := hid st
  have c3 := st.2.2.2.2.1
  clear st
  go_wp2
  clear c3
  go_loopw [5, 6, 7, 8, 9, 10] (fun a c i j8 j9 j10 wr_ => ∃ k : Nat, k ≤ xs.length ∧ i = .int .i64 k ∧ a = .int .i64 (tot (Way.wr 6) 6 xs k) ∧ c = .int .i64 (tot (Way.wc 6) 6 xs k) ∧ Below w.heap.size w wr_ ∧ wr_.cell? ⟨N, 0, none⟩ = some (.int .i64 6) ∧ wr_.cell? ⟨N, 1, none⟩ = some (.int .i64 s) ∧ wr_.cell? ⟨N, 2, none⟩ = some (.int .i64 r) ∧ wr_.cell? ⟨N, 3, none⟩ = some ((Value.slice (some ⟨b1, off1, none⟩) xs.length cap1)) ∧ wr_.cell? ⟨N, 4, none⟩ = some ((Value.slice ao2 ys.length cap2)) ∧ Rd wr_ b1 (Value.slice (some ⟨b1, off1, none⟩) xs.length cap1) xs ∧ RdB wr_ b2 (Value.slice ao2 ys.length cap2) ys ∧ w.heap.size ≤ wr_.heap.size) (fun _ _ i _ _ _ _ => xs.length - (intOf i).toNat)
  case atStart => exact ⟨0, Nat.zero_le _, rfl, rfl, rfl, HSX.out⟩
  case round =>
    obtain ⟨k, hk, rfl, rfl, rfl, st⟩ := hrel
    have c0 := st.2.1
    have c3 := st.2.2.2.2.1
    obtain ⟨ta, hta⟩ : ∃ ta, ta = (tot (Way.wr 6) 6 xs k) := ⟨_, rfl⟩
    obtain ⟨tc, htc⟩ : ∃ tc, tc = (tot (Way.wc 6) 6 xs k) := ⟨_, rfl⟩
    have hba := tot_bd (by omega) HD1.out xs k
    have hbc := tot_bd (by omega) HD2.out xs k
    rw [← hta] at hba ⊢
    rw [← htc] at hbc ⊢
    by_cases hlt : k < xs.length
    · obtain ⟨z, hz⟩ : ∃ z, z = xs.getD k 0 := ⟨_, rfl⟩
      have hzb := cell_bd HCB.out hlt
      rw [← hz] at hzb
      obtain ⟨x, rfl⟩ := Int.eq_ofNat_of_zero_le hzb.1
      have HXB : Hid (x < 64) := by have := HTP.out; simp only [Hid]; omega
      have HX : Hid ((xs.getD k 0).toNat = x) := by simp only [Hid]; rw [← hz]; rfl
      have HCX : Hid (w.cell? ⟨b1, off1 + k, none⟩ = some (.int .i64 (x : Int))) := by simp only [Hid]; rw [hz]; exact HC1.out k hlt
      have hki : (k : Int) < (xs.length : Int) := Int.ofNat_lt.2 hlt
      have hcx := (st.1.cell (p := ⟨b1, off1 + k, none⟩) HBL.out).trans HCX.out
      have HTA : Hid (tot (Way.wr 6) 6 xs (k + 1) = ta + cw (Way.wr 6) x 6) := by simp only [Hid, tot]; rw [← hta, HX.out]
      have HTC : Hid (tot (Way.wc 6) 6 xs (k + 1) = tc + cw (Way.wc 6) x 6) := by simp only [Hid, tot]; rw [← htc, HX.out]
      have HST := hid st
      clear st hz hzb hta htc
      go_wp2
      clear c0 c3 hcx
      go_loopw [5, 6, 8, 9, 10] (fun a c j j9 j10 wx => ∃ m : Nat, m ≤ 6 ∧ j = .int .i64 m ∧ a = .int .i64 (ta + cw (Way.wr 6) x m) ∧ c = .int .i64 (tc + cw (Way.wc 6) x m) ∧ Below w.heap.size w wx ∧ wx.cell? ⟨N, 0, none⟩ = some (.int .i64 6) ∧ wx.cell? ⟨N, 1, none⟩ = some (.int .i64 s) ∧ wx.cell? ⟨N, 2, none⟩ = some (.int .i64 r) ∧ wx.cell? ⟨N, 3, none⟩ = some ((Value.slice (some ⟨b1, off1, none⟩) xs.length cap1)) ∧ wx.cell? ⟨N, 4, none⟩ = some ((Value.slice ao2 ys.length cap2)) ∧ Rd wx b1 (Value.slice (some ⟨b1, off1, none⟩) xs.length cap1) xs ∧ RdB wx b2 (Value.slice ao2 ys.length cap2) ys ∧ w.heap.size ≤ wx.heap.size) (fun _ _ j _ _ _ => 6 - (intOf j).toNat)
      case atStart => exact ⟨0, by omega, rfl, by simp [cw], by simp [cw], HST.out⟩
      case round =>
        obtain ⟨m, hm, rfl, rfl, rfl, st⟩ := hrel
        have c0 := st.2.1
        have c3 := st.2.2.2.2.1
        obtain ⟨ca, hca⟩ : ∃ ca, ca = cw (Way.wr 6) x m := ⟨_, rfl⟩
        obtain ⟨cc, hcc⟩ : ∃ cc, cc = cw (Way.wc 6) x m := ⟨_, rfl⟩
        have hb1 := cw_bd HD1.out x m hm
        have hb2 := cw_bd HD2.out x m hm
        rw [← hca] at hb1 ⊢
        rw [← hcc] at hb2 ⊢
        by_cases hlm : m < 6
        · have hmi : (m : Int) < 6 := by omega
          have hcx := (st.1.cell (p := ⟨b1, off1 + k, none⟩) HBL.out).trans HCX.out
          obtain ⟨da, hda⟩ : ∃ da, da = Way.wr 6 m := ⟨_, rfl⟩
          obtain ⟨dc, hdc⟩ : ∃ dc, dc = Way.wc 6 m := ⟨_, rfl⟩
          have hd1 := HD1.out m hlm
          have hd2 := HD2.out m hlm
          rw [← hda] at hd1
          rw [← hdc] at hd2
          rcases bit_le x m with h0 | h0
          · have hand : bits .and .i64 ((x : Int) / 2 ^ m) 1 = 0 := by rw [and1_all x HXB.out m (by omega), h0]; rfl
            have E1 : Hid (cw (Way.wr 6) x (m + 1) = ca) := by simp only [Hid, cw, h0]; rw [← hca]; simp
            have E2 : Hid (cw (Way.wc 6) x (m + 1) = cc) := by simp only [Hid, cw, h0]; rw [← hcc]; simp
            have HDA := hid hda
            have HDC := hid hdc
            clear h0 hca hcc hda hdc
            have HST2 := hid st
            clear st
            go_wp2
            go_roundw
            case rel => exact ⟨m + 1, by omega, by go_num, by first | (rw [E1.out]; done) | (rw [E1.out]; congr 1; omega), by first | (rw [E2.out]; done) | (rw [E2.out]; congr 1; omega), HST2.out⟩
            case measure => simp [intOf]; omega
          · have hand : bits .and .i64 ((x : Int) / 2 ^ m) 1 = 1 := by rw [and1_all x HXB.out m (by omega), h0]; rfl
            have E1 : Hid (cw (Way.wr 6) x (m + 1) = ca + da) := by simp only [Hid, cw, h0]; rw [← hca]; rw [← hda]; rfl
            have E2 : Hid (cw (Way.wc 6) x (m + 1) = cc + dc) := by simp only [Hid, cw, h0]; rw [← hcc]; rw [← hdc]; rfl
            have HDA := hid hda
            have HDC := hid hdc
            clear h0 hca hcc hda hdc
            go_wp2_with fail
            go_at_call 35
            refine (lw6 hlm).mono ?_
            rw [← HDA.out, ← HDC.out]
            rintro e wa ⟨rfl, bel⟩
            replace st := nx5_IB bel st
            have HST2 := hid st
            clear bel st
            go_wp2
            go_roundw
            case rel => exact ⟨m + 1, by omega, by go_num, by first | (rw [E1.out]; done) | (rw [E1.out]; congr 1; omega), by first | (rw [E2.out]; done) | (rw [E2.out]; congr 1; omega), HST2.out⟩
            case measure => simp [intOf]; omega
        · have hmg : m = 6 := by omega
          subst hmg
          have HE1 := hid hca
          have HE2 := hid hcc
          have HST2 := hid st
          clear st hca hcc
          go_wp2
          go_roundw
          case rel => exact ⟨k + 1, by omega, by go_num, by rw [HTA.out, ← HE1.out], by rw [HTC.out, ← HE2.out], HST2.out⟩
          case measure => simp [intOf]; omega
    · have hkn : k = xs.length := by omega
      subst hkn
      have HA := hid hta
      have HC := hid htc
      have HB := hid st.1
      clear st hta htc
      go_wp2
      go_ret3
      exact ⟨by rw [← HA.out, ← HC.out]; rfl, HB.out⟩

set_option maxHeartbeats 16000000 in
set_option maxRecDepth 20000 in
theorem implOk6 {w : World} {s r : Int} {b1 b2 : Nat} {v1 v2 : Value} {xs : List Int} {ys : List Bool} (h1 : Rd w b1 v1 xs) (h2 : RdB w b2 v2 ys) (hg : GG w) (hq : gasB 6 s r xs ys = true) :
    Calls Tryd.prog 15 #[gasV 6 s r v1 v2] w fun e w' => e = .returned (.tuple #[.int .i64 (tot (Way.wr 6) 6 xs xs.length), .int .i64 (tot (Way.wc 6) 6 xs xs.length), .bool true]) ∧ Below w.heap.size w w' := by
  obtain ⟨hg4, hn, hn256, hcb⟩ := gas_parts hq
  have HTP : Hid (top 6 ≤ 63) := by simp [Hid, top]
  have H1 := hid h1
  have H2 := hid h2
  have HQ := hid hq
  have HCB := hid hcb
  obtain ⟨ao1, cap1, rfl, _, _, h41⟩ := h1
  obtain ⟨ao2, cap2, rfl, _, _, _⟩ := h2
  obtain ⟨off1, rfl, hb1, hcell1⟩ := h41 (by omega)
  have HC1 := hid hcell1
  have HBL := hid hb1
  have hnI : (xs.length : Int) ≤ 256 := by omega
  have HD1 : Hid (∀ k, k < 6 → -1 ≤ Way.wr 6 k ∧ Way.wr 6 k ≤ 1) := fun k hk => (w6_bd k hk).1
  have HD2 : Hid (∀ k, k < 6 → -1 ≤ Way.wc 6 k ∧ Way.wc 6 k ≤ 1) := fun k hk => (w6_bd k hk).2
  clear hq hcb hg4 h41 hb1 hcell1 hn hn256
  have hf0 : ∀ (a b : Int) (w : World), (Instr.field 54 (shapeV a b) 0).run Tryd.prog w = .ok (.int .i64 a) w := fun _ _ _ => by kernel_rfl
  have hf1 : ∀ (a b : Int) (w : World), (Instr.field 54 (shapeV a b) 1).run Tryd.prog w = .ok (.int .i64 b) w := fun _ _ _ => by kernel_rfl
  have HGG := hid hg
  clear hg
  go_enter Tryd.func15, Tryd.ntmps15
  go_wp2_with fail
  obtain ⟨w1, hW⟩ : ∃ w1, w1 = w.alloc (Obj.cells #[.int .i64 6, .int .i64 s, .int .i64 r, (Value.slice (some ⟨b1, off1, none⟩) xs.length cap1), (Value.slice ao2 ys.length cap2)] 38) := ⟨_, rfl⟩
  obtain ⟨N, hN⟩ : ∃ N, N = w.heap.size := ⟨_, rfl⟩
  have st : Below w.heap.size w w1 ∧ w1.cell? ⟨N, 0, none⟩ = some (.int .i64 6) ∧ w1.cell? ⟨N, 1, none⟩ = some (.int .i64 s) ∧ w1.cell? ⟨N, 2, none⟩ = some (.int .i64 r) ∧ w1.cell? ⟨N, 3, none⟩ = some ((Value.slice (some ⟨b1, off1, none⟩) xs.length cap1)) ∧ w1.cell? ⟨N, 4, none⟩ = some ((Value.slice ao2 ys.length cap2)) ∧ Rd w1 b1 (Value.slice (some ⟨b1, off1, none⟩) xs.length cap1) xs ∧ RdB w1 b2 (Value.slice ao2 ys.length cap2) ys ∧ w.heap.size ≤ w1.heap.size := by
    rw [hW, hN]
    exact ⟨below1 _ _, by simp, by simp, by simp, by simp, by simp, H1.out.keep (below1 _ _) (Nat.le_refl _), H2.out.keep (below1 _ _) (Nat.le_refl _), by simp⟩
  simp only [← hW, ← hN]
  clear hW hN
  go_at_call 37
  refine (IsW.implValidGas (rdx5_IB_0 st) (rdx5_IB_1 st)).mono ?_
  rw [HQ.out]
  rintro e w2 ⟨rfl, bel⟩
  replace st := nx5_IB bel st
  clear bel
  go_wp2_with fail
  go_at_call 38
  refine waysOf6.mono ?_
  rintro e w3 ⟨rfl, bel⟩
  replace st := nx5_IB bel st
  clear bel
  have HSX := hid st
  have c3 := st.2.2.2.2.1
  clear st
  go_wp2
  clear c3
  go_loopw [6, 7, 9, 10, 11, 20] (fun a c j9 j10 j11 i wr_ => ∃ k : Nat, k ≤ xs.length ∧ i = .int .i64 k ∧ a = .int .i64 (tot (Way.wr 6) 6 xs k) ∧ c = .int .i64 (tot (Way.wc 6) 6 xs k) ∧ Below w.heap.size w wr_ ∧ wr_.cell? ⟨N, 0, none⟩ = some (.int .i64 6) ∧ wr_.cell? ⟨N, 1, none⟩ = some (.int .i64 s) ∧ wr_.cell? ⟨N, 2, none⟩ = some (.int .i64 r) ∧ wr_.cell? ⟨N, 3, none⟩ = some ((Value.slice (some ⟨b1, off1, none⟩) xs.length cap1)) ∧ wr_.cell? ⟨N, 4, none⟩ = some ((Value.slice ao2 ys.length cap2)) ∧ Rd wr_ b1 (Value.slice (some ⟨b1, off1, none⟩) xs.length cap1) xs ∧ RdB wr_ b2 (Value.slice ao2 ys.length cap2) ys ∧ w.heap.size ≤ wr_.heap.size) (fun _ _ _ _ _ i _ => xs.length - (intOf i).toNat)
  case atStart => exact ⟨0, Nat.zero_le _, rfl, rfl, rfl, HSX.out⟩
  case round =>
    obtain ⟨k, hk, rfl, rfl, rfl, st⟩ := hrel
    have c0 := st.2.1
    have c3 := st.2.2.2.2.1
    obtain ⟨ta, hta⟩ : ∃ ta, ta = (tot (Way.wr 6) 6 xs k) := ⟨_, rfl⟩
    obtain ⟨tc, htc⟩ : ∃ tc, tc = (tot (Way.wc 6) 6 xs k) := ⟨_, rfl⟩
    have hba := tot_bd (by omega) HD1.out xs k
    have hbc := tot_bd (by omega) HD2.out xs k
    rw [← hta] at hba ⊢
    rw [← htc] at hbc ⊢
    by_cases hlt : k < xs.length
    · obtain ⟨z, hz⟩ : ∃ z, z = xs.getD k 0 := ⟨_, rfl⟩
      have hzb := cell_bd HCB.out hlt
      rw [← hz] at hzb
      obtain ⟨x, rfl⟩ := Int.eq_ofNat_of_zero_le hzb.1
      have HXB : Hid (x < 64) := by have := HTP.out; simp only [Hid]; omega
      have HX : Hid ((xs.getD k 0).toNat = x) := by simp only [Hid]; rw [← hz]; rfl
      have HCX : Hid (w.cell? ⟨b1, off1 + k, none⟩ = some (.int .i64 (x : Int))) := by simp only [Hid]; rw [hz]; exact HC1.out k hlt
      have hki : (k : Int) < (xs.length : Int) := Int.ofNat_lt.2 hlt
      have hcx := (st.1.cell (p := ⟨b1, off1 + k, none⟩) HBL.out).trans HCX.out
      have HTA : Hid (tot (Way.wr 6) 6 xs (k + 1) = ta + cw (Way.wr 6) x 6) := by simp only [Hid, tot]; rw [← hta, HX.out]
      have HTC : Hid (tot (Way.wc 6) 6 xs (k + 1) = tc + cw (Way.wc 6) x 6) := by simp only [Hid, tot]; rw [← htc, HX.out]
      have HST := hid st
      clear st hz hzb hta htc
      go_wp2
      clear c0 c3 hcx
      go_loopw [6, 7, 10, 11, 26] (fun a c j10 j11 j wx => ∃ m : Nat, m ≤ 6 ∧ j = .int .i64 m ∧ a = .int .i64 (ta + cw (Way.wr 6) x m) ∧ c = .int .i64 (tc + cw (Way.wc 6) x m) ∧ Below w.heap.size w wx ∧ wx.cell? ⟨N, 0, none⟩ = some (.int .i64 6) ∧ wx.cell? ⟨N, 1, none⟩ = some (.int .i64 s) ∧ wx.cell? ⟨N, 2, none⟩ = some (.int .i64 r) ∧ wx.cell? ⟨N, 3, none⟩ = some ((Value.slice (some ⟨b1, off1, none⟩) xs.length cap1)) ∧ wx.cell? ⟨N, 4, none⟩ = some ((Value.slice ao2 ys.length cap2)) ∧ Rd wx b1 (Value.slice (some ⟨b1, off1, none⟩) xs.length cap1) xs ∧ RdB wx b2 (Value.slice ao2 ys.length cap2) ys ∧ w.heap.size ≤ wx.heap.size) (fun _ _ _ _ j _ => 6 - (intOf j).toNat)
      case atStart => exact ⟨0, by omega, rfl, by simp [cw], by simp [cw], HST.out⟩
      case round =>
        obtain ⟨m, hm, rfl, rfl, rfl, st⟩ := hrel
        have c0 := st.2.1
        have c3 := st.2.2.2.2.1
        obtain ⟨ca, hca⟩ : ∃ ca, ca = cw (Way.wr 6) x m := ⟨_, rfl⟩
        obtain ⟨cc, hcc⟩ : ∃ cc, cc = cw (Way.wc 6) x m := ⟨_, rfl⟩
        have hb1 := cw_bd HD1.out x m hm
        have hb2 := cw_bd HD2.out x m hm
        rw [← hca] at hb1 ⊢
        rw [← hcc] at hb2 ⊢
        by_cases hlm : m < 6
        · have hmi : (m : Int) < 6 := by omega
          have hcx := (st.1.cell (p := ⟨b1, off1 + k, none⟩) HBL.out).trans HCX.out
          obtain ⟨da, hda⟩ : ∃ da, da = Way.wr 6 m := ⟨_, rfl⟩
          obtain ⟨dc, hdc⟩ : ∃ dc, dc = Way.wc 6 m := ⟨_, rfl⟩
          have hd1 := HD1.out m hlm
          have hd2 := HD2.out m hlm
          rw [← hda] at hd1
          rw [← hdc] at hd2
          rcases bit_le x m with h0 | h0
          · have hand : bits .and .i64 ((x : Int) / 2 ^ m) 1 = 0 := by rw [and1_all x HXB.out m (by omega), h0]; rfl
            have E1 : Hid (cw (Way.wr 6) x (m + 1) = ca) := by simp only [Hid, cw, h0]; rw [← hca]; simp
            have E2 : Hid (cw (Way.wc 6) x (m + 1) = cc) := by simp only [Hid, cw, h0]; rw [← hcc]; simp
            have HDA := hid hda
            have HDC := hid hdc
            clear h0 hca hcc hda hdc
            go_wp2_with fail
            go_at_call 63
            refine (told6 (gg_bel HGG.out st.1) hlm).mono ?_
            rw [← HDA.out, ← HDC.out]
            rintro e wa ⟨rfl, bel⟩
            replace st := nx5_IB bel st
            clear bel
            go_wp2_with fail
            go_at_call 63
            refine (told6 (gg_bel HGG.out st.1) hlm).mono ?_
            rw [← HDA.out, ← HDC.out]
            rintro e wb ⟨rfl, bel⟩
            replace st := nx5_IB bel st
            clear bel
            have HST2 := hid st
            clear st
            go_wp2
            go_roundw
            case rel => exact ⟨m + 1, by omega, by go_num, by first | (rw [E1.out]; done) | (rw [E1.out]; congr 1; omega), by first | (rw [E2.out]; done) | (rw [E2.out]; congr 1; omega), HST2.out⟩
            case measure => simp [intOf]; omega
          · have hand : bits .and .i64 ((x : Int) / 2 ^ m) 1 = 1 := by rw [and1_all x HXB.out m (by omega), h0]; rfl
            have E1 : Hid (cw (Way.wr 6) x (m + 1) = ca + da) := by simp only [Hid, cw, h0]; rw [← hca]; rw [← hda]; rfl
            have E2 : Hid (cw (Way.wc 6) x (m + 1) = cc + dc) := by simp only [Hid, cw, h0]; rw [← hcc]; rw [← hdc]; rfl
            have HDA := hid hda
            have HDC := hid hdc
            clear h0 hca hcc hda hdc
            go_wp2_with fail
            go_at_call 63
            refine (told6 (gg_bel HGG.out st.1) hlm).mono ?_
            rw [← HDA.out, ← HDC.out]
            rintro e wa ⟨rfl, bel⟩
            replace st := nx5_IB bel st
            clear bel
            go_wp2_with fail
            go_at_call 63
            refine (told6 (gg_bel HGG.out st.1) hlm).mono ?_
            rw [← HDA.out, ← HDC.out]
            rintro e wb ⟨rfl, bel⟩
            replace st := nx5_IB bel st
            clear bel
            have HST2 := hid st
            clear st
            go_wp2
            go_roundw
            case rel => exact ⟨m + 1, by omega, by go_num, by first | (rw [E1.out]; done) | (rw [E1.out]; congr 1; omega), by first | (rw [E2.out]; done) | (rw [E2.out]; congr 1; omega), HST2.out⟩
            case measure => simp [intOf]; omega
        · have hmg : m = 6 := by omega
          subst hmg
          have HE1 := hid hca
          have HE2 := hid hcc
          have HST2 := hid st
          clear st hca hcc
          go_wp2
          go_roundw
          case rel => exact ⟨k + 1, by omega, by go_num, by rw [HTA.out, ← HE1.out], by rw [HTC.out, ← HE2.out], HST2.out⟩
          case measure => simp [intOf]; omega
    · have hkn : k = xs.length := by omega
      subst hkn
      have HA := hid hta
      have HC := hid htc
      have HB := hid st.1
      clear st hta htc
      go_wp2
      go_ret3
      exact ⟨by rw [← HA.out, ← HC.out]; rfl, HB.out⟩

theorem agree (g s r : Int) (xs : List Int) (ys : List Bool) : ∃ (q0 q1 : Int) (q2 : Bool), (∀ (w : World) (b1 : Nat) (v1 : Value), Rd w b1 v1 xs → ∀ (b2 : Nat) (v2 : Value), RdB w b2 v2 ys → Calls Tryd.prog 13 #[gasV g s r v1 v2] w fun e w' => e = .returned (.tuple #[.int .i64 q0, .int .i64 q1, .bool q2]) ∧ Below w.heap.size w w') ∧ (∀ (w : World) (b1 : Nat) (v1 : Value), GG w → Rd w b1 v1 xs → ∀ (b2 : Nat) (v2 : Value), RdB w b2 v2 ys → Calls Tryd.prog 15 #[gasV g s r v1 v2] w fun e w' => e = .returned (.tuple #[.int .i64 q0, .int .i64 q1, .bool q2]) ∧ Below w.heap.size w w') := by
  cases hq : gasB g s r xs ys with
  | false => exact ⟨0, 0, false, fun w b1 v1 h1 b2 v2 h2 => specNo h1 h2 hq, fun w b1 v1 _ h1 b2 v2 h2 => implNo h1 h2 hq⟩
  | true =>
    rcases (gas_parts hq).1 with rfl | rfl
    · exact ⟨_, _, true, fun w b1 v1 h1 b2 v2 h2 => specOk4 h1 h2 hq, fun w b1 v1 hg h1 b2 v2 h2 => implOk4 h1 h2 hg hq⟩
    · exact ⟨_, _, true, fun w b1 v1 h1 b2 v2 h2 => specOk6 h1 h2 hq, fun w b1 v1 hg h1 b2 v2 h2 => implOk6 h1 h2 hg hq⟩

end Go.Proofs.YtnpjhhkhdeomcaaDoor.Way
