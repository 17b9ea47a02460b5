/- CountGas of both sides. -/
import Derived.Test.YtnpjhhkhdeomcaaGOwn
import Derived.Test.YtnpjhhkhdeomcaaIsV
import Derived.Test.YtnpjhhkhdeomcaaTrn
import Derived.Test.YtnpjhhkhdeomcaaGrow
import Derived.Test.YtnpjhhkhdeomcaaBlk
import Derived.Test.YtnpjhhkhdeomcaaDenA
namespace Go.Proofs.Ytnpjhhkhdeomcaa.Cnt
open Go.RowKit Go.Proofs.Ytnpjhhkhdeomcaa.Rd Go.Proofs.Ytnpjhhkhdeomcaa.Rdb Go.Proofs.Ytnpjhhkhdeomcaa.Help Go.Proofs.Ytnpjhhkhdeomcaa.Ring Go.Proofs.Ytnpjhhkhdeomcaa.Small Go.Proofs.Ytnpjhhkhdeomcaa.FVal Go.Proofs.Ytnpjhhkhdeomcaa.Keep Go.Proofs.Ytnpjhhkhdeomcaa.Rule Go.Proofs.Ytnpjhhkhdeomcaa.GVal Go.Proofs.Ytnpjhhkhdeomcaa.GOwn Go.Proofs.Ytnpjhhkhdeomcaa.Trn Go.Proofs.Ytnpjhhkhdeomcaa.Rev Go.Proofs.Ytnpjhhkhdeomcaa.Blk Go.Proofs.Ytnpjhhkhdeomcaa.Ones Go.Proofs.Ytnpjhhkhdeomcaa.Den
set_option linter.unusedVariables false
set_option linter.unusedSimpArgs false

theorem sumNil {w : World} : Calls Try.prog 49 #[.slice none 0 0] w fun e w' => e = .returned (.int .i64 0) ∧ w = w' := by
  go_enter Try.func49, Try.ntmps49
  go_wp2_with fail
  refine wp_loop_rounds 1 ?_
  rw [rounds_succ]
  go_wp2_with fail
  go_ret
  exact ⟨rfl, rfl⟩
theorem sumOne {w : World} {b : Nat} {v : Value} {zs : List Int} (h : Rd w b v zs) (hl : zs.length = 1) (hb : 0 ≤ zs.getD 0 0 ∧ zs.getD 0 0 ≤ 100000) :
    Calls Try.prog 49 #[v] w fun e w' => e = .returned (.int .i64 (zs.getD 0 0)) ∧ w = w' := by
  obtain ⟨ao, cap, rfl, hc, hm, h4⟩ := h
  obtain ⟨off, rfl, hb4, hcell⟩ := h4 (by omega)
  have hcx := hcell 0 (by omega)
  obtain ⟨y, hy⟩ : ∃ y, y = zs.getD 0 0 := ⟨_, rfl⟩
  rw [← hy] at hcx hb ⊢
  rw [hl]
  rw [Nat.add_zero] at hcx
  have hwy : wrap64 y = y := by unfold wrap64; omega
  clear hcell h4 hc hm hl hy hb
  go_enter Try.func49, Try.ntmps49
  go_wp2_with fail
  refine wp_loop_rounds 2 ?_
  rw [rounds_succ]
  go_wp2_with fail
  rw [rounds_succ]
  go_wp2_with fail
  go_ret
  first | exact ⟨rfl, rfl⟩ | exact ⟨by simp [hwy], rfl⟩

theorem implCountNo {w : World} {g s r : Int} {b1 b2 : Nat} {v1 v2 : Value} {xs : List Int} {ys : List Bool} (h1 : Rd w b1 v1 xs) (h2 : RdB w b2 v2 ys) (hq : gasB g s r xs ys = false) :
    Calls Try.prog 22 #[gasV g s r v1 v2] w fun e w' => e = .returned (.tuple #[.int .i64 0, .bool false]) ∧ Below w.heap.size w w' := by
  have H1 := hid h1
  have H2 := hid h2
  have HQ := hid hq
  obtain ⟨ao1, cap1, rfl, _, _, _⟩ := h1
  obtain ⟨ao2, cap2, rfl, _, _, _⟩ := h2
  clear hq
  go_enter Try.func22, Try.ntmps22
  go_wp2_with fail
  obtain ⟨w1, hW⟩ : ∃ w1, w1 = w.alloc (Obj.cells #[.int .i64 g, .int .i64 s, .int .i64 r, (Value.slice ao1 xs.length cap1), (Value.slice ao2 ys.length cap2)] 31) := ⟨_, rfl⟩
  obtain ⟨N, hN⟩ : ∃ N, N = w.heap.size := ⟨_, rfl⟩
  have st : Below w.heap.size w w1 ∧ w1.cell? ⟨N, 0, none⟩ = some (.int .i64 g) ∧ w1.cell? ⟨N, 1, none⟩ = some (.int .i64 s) ∧ w1.cell? ⟨N, 2, none⟩ = some (.int .i64 r) ∧ w1.cell? ⟨N, 3, none⟩ = some ((Value.slice ao1 xs.length cap1)) ∧ w1.cell? ⟨N, 4, none⟩ = some ((Value.slice ao2 ys.length cap2)) ∧ Rd w1 b1 (Value.slice ao1 xs.length cap1) xs ∧ RdB w1 b2 (Value.slice ao2 ys.length cap2) ys ∧ w.heap.size ≤ w1.heap.size := by
    rw [hW, hN]
    exact ⟨below1 _ _, by simp, by simp, by simp, by simp, by simp, H1.out.keep (below1 _ _) (Nat.le_refl _), H2.out.keep (below1 _ _) (Nat.le_refl _), by simp⟩
  have HNN : Hid (N < w1.heap.size ∧ N = w.heap.size) := ⟨by rw [hW, hN]; simp, hN⟩
  simp only [← hW, ← hN]
  clear hW hN
  have c1 := st.2.2.1
  have c2 := st.2.2.2.1
  go_wp2_with fail
  go_at_call 30
  refine (iNo1 (rdx5_IB_0 st) (rdx5_IB_1 st) HQ.out).mono ?_
  rintro e w2 ⟨rfl, bel⟩
  have HB := hid (st.1.trans (bel.mono st.1.size))
  clear c1 c2 bel st
  go_wp2_with (go_at_call 49; refine sumNil.mono ?_; rintro e w' ⟨rfl, rfl⟩)
  go_ret2
  exact ⟨rfl, HB.out⟩

theorem implCountOk {w : World} {g : Int} {R C : Nat} {b1 b2 : Nat} {v1 v2 : Value} {xs : List Int} {ys : List Bool} (h1 : Rd w b1 v1 xs) (h2 : RdB w b2 v2 ys) (hq : gasB g R C xs ys = true) :
    Calls Try.prog 22 #[gasV g R C v1 v2] w fun e w' => e = .returned (.tuple #[.int .i64 (popS xs xs.length), .bool true]) ∧ Below w.heap.size w w' := by
  have hRC : (1 ≤ R ∧ R ≤ 16) ∧ (1 ≤ C ∧ C ≤ 16) ∧ xs.length = R * C ∧ xs.length ≤ 256 := by
    have hp := gas_parts hq
    simp only [gasB, Bool.and_eq_true, decide_eq_true_eq] at hq
    obtain ⟨_, h2, h3, _, _⟩ := hq
    simp [sd16] at h2
    have e3 : ((R * C : Nat) : Int) = (R : Int) * C := by simp
    exact ⟨by omega, by omega, by omega, hp.2.2.1⟩
  have HRC := hid hRC
  have H1 := hid h1
  have H2 := hid h2
  have HQ := hid hq
  obtain ⟨ao1, cap1, rfl, _, _, _⟩ := h1
  obtain ⟨ao2, cap2, rfl, _, _, _⟩ := h2
  clear hq hRC
  go_enter Try.func22, Try.ntmps22
  go_wp2_with fail
  obtain ⟨w1, hW⟩ : ∃ w1, w1 = w.alloc (Obj.cells #[.int .i64 g, .int .i64 R, .int .i64 C, (Value.slice ao1 xs.length cap1), (Value.slice ao2 ys.length cap2)] 31) := ⟨_, rfl⟩
  obtain ⟨N, hN⟩ : ∃ N, N = w.heap.size := ⟨_, rfl⟩
  have st : Below w.heap.size w w1 ∧ w1.cell? ⟨N, 0, none⟩ = some (.int .i64 g) ∧ w1.cell? ⟨N, 1, none⟩ = some (.int .i64 R) ∧ w1.cell? ⟨N, 2, none⟩ = some (.int .i64 C) ∧ w1.cell? ⟨N, 3, none⟩ = some ((Value.slice ao1 xs.length cap1)) ∧ w1.cell? ⟨N, 4, none⟩ = some ((Value.slice ao2 ys.length cap2)) ∧ Rd w1 b1 (Value.slice ao1 xs.length cap1) xs ∧ RdB w1 b2 (Value.slice ao2 ys.length cap2) ys ∧ w.heap.size ≤ w1.heap.size := by
    rw [hW, hN]
    exact ⟨below1 _ _, by simp, by simp, by simp, by simp, by simp, H1.out.keep (below1 _ _) (Nat.le_refl _), H2.out.keep (below1 _ _) (Nat.le_refl _), by simp⟩
  have HNN : Hid (N < w1.heap.size ∧ N = w.heap.size) := ⟨by rw [hW, hN]; simp, hN⟩
  simp only [← hW, ← hN]
  clear hW hN
  have c1 := st.2.2.1
  have c2 := st.2.2.2.1
  go_wp2_with fail
  go_at_call 30
  refine (iOk (rdx5_IB_0 st) (rdx5_IB_1 st) HQ.out ⟨HRC.out.1.1, Nat.le_refl _⟩ ⟨HRC.out.2.1.1, Nat.le_refl _⟩ (Nat.mod_self _) (Nat.mod_self _)).mono ?_
  have eM : R / R * (C / C) = 1 := by rw [Nat.div_self (by have := HRC.out.1.1; omega), Nat.div_self (by have := HRC.out.2.1.1; omega)]
  rw [eM]
  rintro e w2 ⟨p, rfl, op, lo, bel⟩
  obtain ⟨L, hL⟩ : ∃ L, L = blk xs (fB C R C) 1 (R * C) := ⟨_, rfl⟩
  rw [← hL] at op
  have hl1 : L.length = 1 := by rw [hL, blk_len]
  have hbd : 0 ≤ L.getD 0 0 ∧ L.getD 0 0 ≤ 100000 := by
    have h := blk_bd xs (fB C R C) 1 (R * C) 0
    rw [← hL] at h
    have h2 := HRC.out.2.2
    omega
  have hs : L.getD 0 0 = popS xs xs.length := by
    have h := blk_sum xs (fB C R C) 1 (R * C) (fun i hi => by
      have h3 := fB_lt (A := R) (B := C) HRC.out.1.1 HRC.out.2.1.1 HRC.out.2.1.1 (Nat.mod_self _) (Nat.mod_self _) hi
      rw [eM] at h3
      exact h3)
    rw [← hL] at h
    rw [HRC.out.2.2.1, ← h]
    match L, hl1 with
    | [a], _ => simp [List.getD]
  have HS := hid hs
  have HO := hid op
  have HL1 := hid hl1
  have HBD := hid hbd
  have HB := hid (st.1.trans (bel.mono st.1.size))
  clear c1 c2 bel st op hl1 hbd hs lo hL eM
  go_wp2_with fail
  go_at_call 49
  refine (sumOne HO.out.rd HL1.out HBD.out).mono ?_
  rw [HS.out]
  rintro e w' ⟨rfl, rfl⟩
  go_wp2_with fail
  go_ret2
  exact ⟨rfl, HB.out⟩

theorem specCountNo {w : World} {g s r : Int} {b1 b2 : Nat} {v1 v2 : Value} {xs : List Int} {ys : List Bool} (h1 : Rd w b1 v1 xs) (h2 : RdB w b2 v2 ys) (hq : gasB g s r xs ys = false) :
    Calls Try.prog 21 #[gasV g s r v1 v2] w fun e w' => e = .returned (.tuple #[.int .i64 0, .bool false]) ∧ Below w.heap.size w w' := by
  have H1 := hid h1
  have H2 := hid h2
  have HQ := hid hq
  obtain ⟨ao1, cap1, rfl, _, _, _⟩ := h1
  obtain ⟨ao2, cap2, rfl, _, _, _⟩ := h2
  clear hq
  go_enter Try.func21, Try.ntmps21
  go_wp2_with fail
  obtain ⟨w1, hW⟩ : ∃ w1, w1 = w.alloc (Obj.cells #[.int .i64 g, .int .i64 s, .int .i64 r, (Value.slice ao1 xs.length cap1), (Value.slice ao2 ys.length cap2)] 31) := ⟨_, rfl⟩
  obtain ⟨N, hN⟩ : ∃ N, N = w.heap.size := ⟨_, rfl⟩
  have st : Below w.heap.size w w1 ∧ w1.cell? ⟨N, 0, none⟩ = some (.int .i64 g) ∧ w1.cell? ⟨N, 1, none⟩ = some (.int .i64 s) ∧ w1.cell? ⟨N, 2, none⟩ = some (.int .i64 r) ∧ w1.cell? ⟨N, 3, none⟩ = some ((Value.slice ao1 xs.length cap1)) ∧ w1.cell? ⟨N, 4, none⟩ = some ((Value.slice ao2 ys.length cap2)) ∧ Rd w1 b1 (Value.slice ao1 xs.length cap1) xs ∧ RdB w1 b2 (Value.slice ao2 ys.length cap2) ys ∧ w.heap.size ≤ w1.heap.size := by
    rw [hW, hN]
    exact ⟨below1 _ _, by simp, by simp, by simp, by simp, by simp, H1.out.keep (below1 _ _) (Nat.le_refl _), H2.out.keep (below1 _ _) (Nat.le_refl _), by simp⟩
  have HNN : Hid (N < w1.heap.size ∧ N = w.heap.size) := ⟨by rw [hW, hN]; simp, hN⟩
  simp only [← hW, ← hN]
  clear hW hN
  go_at_call 39
  refine (GVal.l06Is st.2.1 st.2.2.1 st.2.2.2.1 st.2.2.2.2.1 st.2.2.2.2.2.1 (rdx5_IB_0 st) (rdx5_IB_1 st)).mono ?_
  rw [HQ.out]
  rintro e w2 ⟨rfl, hm⟩
  have bel : Below w1.heap.size w1 w2 := by obtain ⟨m, hm⟩ := hm; rw [hm]; exact Help.below_drewN _ _ _
  clear hm
  replace st := nx5_IB bel st
  have HNN2 := hid (Nat.lt_of_lt_of_le HNN.out.1 bel.size)
  clear bel
  have HB := hid st.1
  clear st
  go_wp2_with fail
  go_ret2
  exact ⟨rfl, HB.out⟩

theorem specCountOk {w : World} {g s r : Int} {b1 b2 : Nat} {v1 v2 : Value} {xs : List Int} {ys : List Bool} (h1 : Rd w b1 v1 xs) (h2 : RdB w b2 v2 ys) (hq : gasB g s r xs ys = true) :
    Calls Try.prog 21 #[gasV g s r v1 v2] w fun e w' => e = .returned (.tuple #[.int .i64 (popS xs xs.length), .bool true]) ∧ Below w.heap.size w w' := by
  have hp := gas_parts hq
  have HP := hid hp
  have hnI : (xs.length : Int) ≤ 256 := by omega
  have HTP : Hid (top g ≤ 63) := by rcases hp.1 with rfl | rfl <;> simp [Hid, top]
  have H1 := hid h1
  have H2 := hid h2
  have HQ := hid hq
  obtain ⟨ao1, cap1, rfl, _, _, h41⟩ := h1
  obtain ⟨ao2, cap2, rfl, _, _, _⟩ := h2
  obtain ⟨off1, rfl, hb1, hcell1⟩ := h41 (by omega)
  have HC1 := hid hcell1
  have HBL := hid hb1
  clear hq hp h41 hcell1 hb1
  go_enter Try.func21, Try.ntmps21
  go_wp2_with fail
  obtain ⟨w1, hW⟩ : ∃ w1, w1 = w.alloc (Obj.cells #[.int .i64 g, .int .i64 s, .int .i64 r, (Value.slice (some ⟨b1, off1, none⟩) xs.length cap1), (Value.slice ao2 ys.length cap2)] 31) := ⟨_, rfl⟩
  obtain ⟨N, hN⟩ : ∃ N, N = w.heap.size := ⟨_, rfl⟩
  have st : Below w.heap.size w w1 ∧ w1.cell? ⟨N, 0, none⟩ = some (.int .i64 g) ∧ w1.cell? ⟨N, 1, none⟩ = some (.int .i64 s) ∧ w1.cell? ⟨N, 2, none⟩ = some (.int .i64 r) ∧ w1.cell? ⟨N, 3, none⟩ = some ((Value.slice (some ⟨b1, off1, none⟩) xs.length cap1)) ∧ w1.cell? ⟨N, 4, none⟩ = some ((Value.slice ao2 ys.length cap2)) ∧ Rd w1 b1 (Value.slice (some ⟨b1, off1, none⟩) xs.length cap1) xs ∧ RdB w1 b2 (Value.slice ao2 ys.length cap2) ys ∧ w.heap.size ≤ w1.heap.size := by
    rw [hW, hN]
    exact ⟨below1 _ _, by simp, by simp, by simp, by simp, by simp, H1.out.keep (below1 _ _) (Nat.le_refl _), H2.out.keep (below1 _ _) (Nat.le_refl _), by simp⟩
  have HNN : Hid (N < w1.heap.size ∧ N = w.heap.size) := ⟨by rw [hW, hN]; simp, hN⟩
  simp only [← hW, ← hN]
  clear hW hN
  go_at_call 39
  refine (GVal.l06Is st.2.1 st.2.2.1 st.2.2.2.1 st.2.2.2.2.1 st.2.2.2.2.2.1 (rdx5_IB_0 st) (rdx5_IB_1 st)).mono ?_
  rw [HQ.out]
  rintro e w2 ⟨rfl, hm⟩
  have bel : Below w1.heap.size w1 w2 := by obtain ⟨m, hm⟩ := hm; rw [hm]; exact Help.below_drewN _ _ _
  clear hm
  replace st := nx5_IB bel st
  have HNN2 := hid (Nat.lt_of_lt_of_le HNN.out.1 bel.size)
  clear bel
  have HSX := hid st
  clear st
  go_wp2
  go_loop [4, 5] (fun a i => ∃ k : Nat, k ≤ xs.length ∧ i = .int .i64 k ∧ a = .int .i64 (popS xs k)) (fun _ i => xs.length - (intOf i).toNat)
  case atStart => exact ⟨0, Nat.zero_le _, rfl, rfl⟩
  case round =>
    obtain ⟨k, hk, rfl, rfl⟩ := hrel
    have c3 := HSX.out.2.2.2.2.1
    by_cases hlt : k < xs.length
    · obtain ⟨z, hz⟩ : ∃ z, z = xs.getD k 0 := ⟨_, rfl⟩
      have hzb := cell_bd HP.out.2.2.2.2 hlt
      rw [← hz] at hzb
      obtain ⟨x, rfl⟩ := Int.eq_ofNat_of_zero_le hzb.1
      have HXB : Hid (x < 64) := by have := HTP.out; simp only [Hid]; omega
      have hcx : w2.cell? ⟨b1, off1 + k, none⟩ = some (.int .i64 (x : Int)) := by rw [hz]; exact (HSX.out.1.cell (p := ⟨b1, off1 + k, none⟩) HBL.out).trans (HC1.out k hlt)
      have hki : (k : Int) < (xs.length : Int) := Int.ofNat_lt.2 hlt
      obtain ⟨a, ha⟩ : ∃ a, a = popS xs k := ⟨_, rfl⟩
      have hab := popS_bd xs k
      rw [← ha] at hab ⊢
      have HS : Hid (popS xs (k + 1) = a + (popN x : Int)) := by simp only [Hid, popS]; rw [← ha, ← hz]; rfl
      have hpl := pop_le (m := x)
      clear hz hzb ha
      go_wp2_with (go_at_call 48; refine (l06Ones HXB.out).mono ?_; rintro e w' ⟨rfl, rfl⟩)
      go_round
      case rel => exact ⟨k + 1, by omega, by go_num, by rw [HS.out]⟩
      case measure => simp [intOf]; omega
    · have hkn : k = xs.length := by omega
      subst hkn
      have HB := hid HSX.out.1
      go_wp2
      go_ret2
      exact ⟨rfl, HB.out⟩

theorem agree (g s r : Int) (xs : List Int) (ys : List Bool) : ∃ (q0 : Int) (q1 : Bool), (∀ (w : World) (b1 : Nat) (v1 : Value), Rd w b1 v1 xs → ∀ (b2 : Nat) (v2 : Value), RdB w b2 v2 ys → Calls Try.prog 21 #[gasV g s r v1 v2] w fun e w' => e = .returned (.tuple #[.int .i64 q0, .bool q1]) ∧ Below w.heap.size w w') ∧ (∀ (w : World) (b1 : Nat) (v1 : Value), Rd w b1 v1 xs → ∀ (b2 : Nat) (v2 : Value), RdB w b2 v2 ys → Calls Try.prog 22 #[gasV g s r v1 v2] w fun e w' => e = .returned (.tuple #[.int .i64 q0, .bool q1]) ∧ Below w.heap.size w w') := by
  cases hq : gasB g s r xs ys with
  | false => exact ⟨0, false, fun w b1 v1 h1 b2 v2 h2 => specCountNo h1 h2 hq, fun w b1 v1 h1 b2 v2 h2 => implCountNo h1 h2 hq⟩
  | true =>
    have hsr : 0 ≤ s ∧ 0 ≤ r := by
      have h := hq
      simp only [gasB, Bool.and_eq_true, decide_eq_true_eq] at h
      obtain ⟨_, h2, _⟩ := h
      simp [sd16] at h2
      omega
    obtain ⟨R, rfl⟩ := Int.eq_ofNat_of_zero_le hsr.1
    obtain ⟨C, rfl⟩ := Int.eq_ofNat_of_zero_le hsr.2
    exact ⟨popS xs xs.length, true, fun w b1 v1 h1 b2 v2 h2 => specCountOk h1 h2 hq, fun w b1 v1 h1 b2 v2 h2 => implCountOk h1 h2 hq⟩

end Go.Proofs.Ytnpjhhkhdeomcaa.Cnt
