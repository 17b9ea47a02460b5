/- AloneSteps of both sides. -/
import Derived.Test.YtpehalecmgpbnaaRun
namespace Go.Proofs.Ytpehalecmgpbnaa.Alone
open Go.RowKit Go.Proofs.Ytpehalecmgpbnaa.Rd Go.Proofs.Ytpehalecmgpbnaa.Help Go.Proofs.Ytpehalecmgpbnaa.App Go.Proofs.Ytpehalecmgpbnaa.Ring Go.Proofs.Ytpehalecmgpbnaa.Small Go.Proofs.Ytpehalecmgpbnaa.Num Go.Proofs.Ytpehalecmgpbnaa.Keep Go.Proofs.Ytpehalecmgpbnaa.Rule Go.Proofs.Ytpehalecmgpbnaa.Step Go.Proofs.Ytpehalecmgpbnaa.Run
set_option linter.unusedVariables false
set_option linter.unusedSimpArgs false

theorem own_some {E : TypeId} {w : World} {b : Nat} {v : Value} {zs : List Int} (h : Own E w b v zs) (hn : 0 < zs.length) : ∃ cap, v = .slice (some ⟨b, 0, none⟩) zs.length cap := by
  rcases h.form with ⟨_, rfl⟩ | ⟨cap, hv, _⟩
  · simp at hn
  · exact ⟨cap, hv⟩

/-- The ring behind k steps of single cells. -/
def aloneL (tbl zs : List Int) (s r : Int) (od : List Int) : Nat → List Int
  | 0 => zs
  | k + 1 => (aloneL tbl zs s r od k).set (od.getD k 0).toNat (told tbl (aloneL tbl zs s r od k) s r (od.getD k 0))
theorem alone_length (tbl zs : List Int) (s r : Int) (od : List Int) (k : Nat) : (aloneL tbl zs s r od k).length = zs.length := by
  induction k with
  | zero => rfl
  | succ k ih => simp [aloneL, ih]
theorem all_set {l : List Int} {s x : Int} (h : allB l s = true) (hx : 0 ≤ x ∧ x ≤ s - 1) (i : Nat) : allB (l.set i x) s = true := by
  unfold allB at h ⊢
  rw [List.all_eq_true] at h ⊢
  intro y hy
  rcases List.mem_or_eq_of_mem_set hy with hy | rfl
  · exact h y hy
  · simp only [Ring.okB, decide_eq_true_eq]; exact hx
theorem alone_fit {s r : Int} {tbl zs : List Int} (F : Fit s r tbl zs) (od : List Int) (k : Nat) : Fit s r tbl (aloneL tbl zs s r od k) := by
  induction k with
  | zero => exact F
  | succ k ih => exact ⟨F.st, F.re, F.len, F.ta, all_set ih.ri (told_bd ih _) _, by rw [alone_length]; exact F.n⟩

/-- All places are places of a ring of n cells: 'allB' of n states. -/
def okP (s r : Int) (tbl zs od : List Int) : Bool := fitB s r tbl zs && (decide (od.length ≤ 1000) && allB od (zs.length : Int))

theorem alone_at {od : List Int} {n : Int} (h : allB od n = true) {k : Nat} (hk : k < od.length) : 0 ≤ od.getD k 0 ∧ od.getD k 0 ≤ n - 1 := all_getD h hk
theorem ok_of {od : List Int} {n : Int} {k : Nat} (hk : k < od.length) (h : allB (od.take k) n = true) (hx : 0 ≤ od.getD k 0 ∧ od.getD k 0 ≤ n - 1) : allB (od.take (k + 1)) n = true := by
  rw [all_take_succ od n k hk, h]
  simp only [Ring.okB, Bool.true_and, decide_eq_true_eq]
  exact hx
theorem bad_of {od : List Int} {n : Int} {k : Nat} (hk : k < od.length) (hx : ¬ (0 ≤ od.getD k 0 ∧ od.getD k 0 ≤ n - 1)) : allB od n = false :=
  all_false od n k hk (by simp only [Ring.okB, decide_eq_false hx])

set_option maxHeartbeats 4000000 in
theorem implOk {w : World} {s r : Int} {bt br bo : Nat} {vt vr vo : Value} {tbl zs od : List Int} (ht : Rd w bt vt tbl) (hr : Rd w br vr zs) (ho : Rd w bo vo od) (hf : fitB s r tbl zs = true) (hl : od.length ≤ 1000) :
    Calls Try.prog 24 #[ruleV s r vt, vr, vo] w fun e w' => ∃ v', ∃ b', e = .returned (.tuple #[v', .bool (allB od (zs.length : Int))]) ∧
      Own 2 w' b' v' (if allB od (zs.length : Int) = true then aloneL tbl zs s r od od.length else []) ∧ w.heap.size ≤ b' ∧ Below w.heap.size w w' := by
  have HT := hid ht
  have HR := hid hr
  have HOd := hid ho
  have HF := hid hf
  have HG := hid (fun k => alone_fit (fit_of hf) od k)
  have HFF := hid (fit_of hf)
  obtain ⟨aor, capr, rfl, _, _, _⟩ := hr
  obtain ⟨aoo, capo, rfl, _, _, h4⟩ := ho
  have H4 := hid h4
  have hz := (fit_of hf).n
  obtain ⟨n, hn⟩ : ∃ n, n = zs.length := ⟨_, rfl⟩
  obtain ⟨L, hL⟩ : ∃ L, L = od.length := ⟨_, rfl⟩
  have Hn := hid hn
  have HLL := hid hL
  rw [← hn] at HR hz ⊢
  rw [← hL] at HOd H4 hl ⊢
  obtain ⟨n1, n2⟩ := hz
  have hl2 : decide ((1000 : Int) < (L : Int)) = false := by simp; omega
  obtain ⟨q, hq⟩ : ∃ q, q = allB od (n : Int) := ⟨_, rfl⟩
  obtain ⟨R, hR⟩ : ∃ R, R = (if q = true then aloneL tbl zs s r od L else []) := ⟨_, rfl⟩
  rw [← hq, ← hR]
  have HQ := hid hq
  have HRR := hid hR
  clear ht hf h4 hn hL hq hR
  go_enter Try.func24, Try.ntmps24
  go_wp2_with fail
  obtain ⟨w1, hW⟩ : ∃ w1, w1 = w.alloc (Obj.cells #[.int .i64 s, .int .i64 r, vt] 28) := ⟨_, rfl⟩
  obtain ⟨N, hN⟩ : ∃ N, N = w.heap.size := ⟨_, rfl⟩
  have st : Below w.heap.size w w1 ∧ w1.cell? ⟨N, 0, none⟩ = some (.int .i64 s) ∧ w1.cell? ⟨N, 1, none⟩ = some (.int .i64 r) ∧ w1.cell? ⟨N, 2, none⟩ = some vt ∧ Rd w1 bt vt tbl ∧ Rd w1 br (.slice aor n capr) zs ∧ w.heap.size ≤ w1.heap.size := by
    rw [hW, hN]
    exact ⟨below1 _ _, by simp, by simp, by simp, HT.out.keep (below1 _ _) (Nat.le_refl _), HR.out.keep (below1 _ _) (Nat.le_refl _), by simp⟩
  simp only [← hW, ← hN]
  clear hW hN
  go_at_call 32
  refine (fits (rd3_2_0 st) (rd3_2_1 st)).mono ?_
  rw [HF.out]
  rintro e w2 ⟨rfl, bel⟩
  replace st := next3_2 bel st
  clear bel
  go_wp2_with fail
  go_at_call 37
  refine (clone (rd3_2_1 st) (by have := Hn.out; omega)).mono ?_
  rintro e w3 ⟨v', b', rfl, own, lo, bel⟩
  obtain ⟨capn, rfl⟩ := own_some own (by have := Hn.out; omega)
  rw [← Hn.out] at own ⊢
  have HO := hid own
  have HL := hid (Nat.le_trans st.1.size lo)
  have HNb := hid (Nat.lt_of_lt_of_le (World.block_lt_of_cell? _ _ st.2.1) lo)
  replace st := next3_2 bel st
  have ST := hid st
  clear bel own lo st
  go_wp2
  go_loopw [10, 24] (fun a t wr => ∃ k : Nat, k ≤ L ∧ t = .int .i64 k ∧ Hid (allB (od.take k) (n : Int) = true) ∧ Own 2 wr b' (.slice (some ⟨b', 0, none⟩) n capn) (aloneL tbl zs s r od k) ∧
      Hid (Below w.heap.size w wr ∧ wr.cell? ⟨N, 0, none⟩ = some (.int .i64 s) ∧ wr.cell? ⟨N, 1, none⟩ = some (.int .i64 r) ∧ wr.cell? ⟨N, 2, none⟩ = some vt ∧ w.heap.size ≤ wr.heap.size)) (fun _ t _ => L - (intOf t).toNat)
  case atStart => exact ⟨0, Nat.zero_le _, rfl, by simp [Hid, allB], HO.out, ⟨ST.out.1, ST.out.2.1, ST.out.2.2.1, ST.out.2.2.2.1, ST.out.1.size⟩⟩
  case round =>
    obtain ⟨k, hk, rfl, ha, own, HS⟩ := hrel
    by_cases hlt : k < L
    · obtain ⟨offo, rfl, hbo, hco⟩ := H4.out (by omega)
      obtain ⟨x, hx⟩ : ∃ x, x = od.getD k 0 := ⟨_, rfl⟩
      have hcx : wr.cell? ⟨bo, offo + k, none⟩ = some (.int .i64 x) := by rw [hx]; exact (HS.out.1.cell hbo).trans (hco k hlt)
      have HX := hid hx
      have HW := hid own
      clear hx hco own
      by_cases hok : 0 ≤ x ∧ x ≤ (n : Int) - 1
      · have HD := hid (decide_eq_true hok)
        have HOK := hid (ok_of (od := od) (k := k) (n := (n : Int)) (by have := HLL.out; omega) ha.out (by rw [← HX.out]; exact hok))
        obtain ⟨m, rfl⟩ := Int.eq_ofNat_of_zero_le hok.1
        have hmn : m < n := by omega
        have s2 := HS.out
        clear hok
        go_wp2_with fail
        go_at_call 36
        refine isCountB.mono ?_
        rw [HD.out]
        rintro e w4 ⟨rfl, hw4⟩
        subst hw4
        go_wp2_with fail
        go_at_call 40
        refine (implTold (a := (m : Int)) (HT.out.keep HS.out.1 (Nat.le_refl _)) HW.out.rd (HG.out k) (by omega)).mono ?_
        rintro e w5 ⟨rfl, bel⟩
        have own5 := HW.out.keep bel
        have hlen : (aloneL tbl zs s r od k).length = n := by rw [alone_length, ← Hn.out]
        have hox := own5.cell (i := m) (by omega)
        have hof := own5.free m
        have HO5 := hid own5
        have HB5 := hid (next3_0 bel s2)
        clear own5 bel hlen s2
        go_wp2
        go_roundw
        case rel =>
          refine ⟨k + 1, by omega, by go_num, HOK, ?_, ?_⟩
          · have h1 := HO5.out.set m (told tbl (aloneL tbl zs s r od k) s r m)
            have e1 : aloneL tbl zs s r od (k + 1) = (aloneL tbl zs s r od k).set m (told tbl (aloneL tbl zs s r od k) s r m) := by simp only [aloneL, ← HX.out, Int.toNat_natCast]
            rw [e1]
            exact h1
          · obtain ⟨t0, t1, t2, t3, t4⟩ := HB5.out
            have hne : (N : Nat) ≠ b' := Nat.ne_of_lt HNb.out
            refine ⟨t0.setCell HL.out _, ?_, ?_, ?_, by simpa [World.setCell] using t4⟩
            · rw [World.cell?_setCell_far _ _ _ _ (by simpa using fun h => hne h.symm)]; exact t1
            · rw [World.cell?_setCell_far _ _ _ _ (by simpa using fun h => hne h.symm)]; exact t2
            · rw [World.cell?_setCell_far _ _ _ _ (by simpa using fun h => hne h.symm)]; exact t3
        case measure => simp [intOf]; omega
      · have HD := hid (decide_eq_false hok)
        have HBad := hid (bad_of (od := od) (k := k) (n := (n : Int)) (by have := HLL.out; omega) (by rw [← HX.out]; exact hok))
        have s2 := HS.out
        clear hok
        go_wp2_with fail
        go_at_call 36
        refine isCountB.mono ?_
        rw [HD.out]
        rintro e w4 ⟨rfl, hw4⟩
        subst hw4
        go_wp2
        go_ret2
        refine ⟨.slice none 0 0, w.heap.size, ?_, ?_, Nat.le_refl _, s2.1⟩
        · rw [HQ.out, HBad.out]; rfl
        · rw [HRR.out, HQ.out, HBad.out]; simpa using Own.nil _ _ _
    · have hkn : L = k := by omega
      subst hkn
      have he : allB od (n : Int) = true := by have := ha.out; rwa [HLL.out, List.take_length] at this
      have HE := hid he
      have HW := hid own
      clear own he
      go_wp2
      go_ret2
      refine ⟨.slice (some ⟨b', 0, none⟩) n capn, b', ?_, ?_, HL.out, HS.out.1⟩
      · rw [HQ.out, HE.out]; rfl
      · rw [HRR.out, HQ.out, if_pos HE.out]; exact HW.out

set_option maxHeartbeats 4000000 in
theorem implNo {w : World} {s r : Int} {bt br bo : Nat} {vt vr vo : Value} {tbl zs od : List Int} (ht : Rd w bt vt tbl) (hr : Rd w br vr zs) (ho : Rd w bo vo od) (hf : ¬ (fitB s r tbl zs = true ∧ od.length ≤ 1000)) :
    Calls Try.prog 24 #[ruleV s r vt, vr, vo] w fun e w' => e = .returned (.tuple #[.slice none 0 0, .bool false]) ∧ Below w.heap.size w w' := by
  have HT := hid ht
  have HR := hid hr
  obtain ⟨aoo, capo, rfl, hco, hmo, _⟩ := ho
  have hsz : od.length ≤ 9223372036854775807 := by unfold maxLen at hmo; omega
  clear ht hr hco hmo
  cases hv : fitB s r tbl zs with
  | true =>
    have HF := hid hv
    have hl2 : decide ((1000 : Int) < (od.length : Int)) = true := by
      have : ¬ od.length ≤ 1000 := fun h => hf ⟨hv, h⟩
      simp; omega
    clear hf hv
    go_enter Try.func24, Try.ntmps24
    go_wp2_with fail
    obtain ⟨w1, hW⟩ : ∃ w1, w1 = w.alloc (Obj.cells #[.int .i64 s, .int .i64 r, vt] 28) := ⟨_, rfl⟩
    obtain ⟨N, hN⟩ : ∃ N, N = w.heap.size := ⟨_, rfl⟩
    have st : Below w.heap.size w w1 ∧ w1.cell? ⟨N, 0, none⟩ = some (.int .i64 s) ∧ w1.cell? ⟨N, 1, none⟩ = some (.int .i64 r) ∧ w1.cell? ⟨N, 2, none⟩ = some vt ∧ Rd w1 bt vt tbl ∧ Rd w1 br vr zs ∧ w.heap.size ≤ w1.heap.size := by
      rw [hW, hN]
      exact ⟨below1 _ _, by simp, by simp, by simp, HT.out.keep (below1 _ _) (Nat.le_refl _), HR.out.keep (below1 _ _) (Nat.le_refl _), by simp⟩
    simp only [← hW, ← hN]
    clear hW hN
    go_at_call 32
    refine (fits (rd3_2_0 st) (rd3_2_1 st)).mono ?_
    rw [HF.out]
    rintro e w2 ⟨rfl, bel⟩
    replace st := next3_2 bel st
    clear bel
    go_wp2
    go_ret2
    exact ⟨rfl, st.1⟩
  | false =>
    have HF := hid hv
    clear hf hv
    go_enter Try.func24, Try.ntmps24
    go_wp2_with fail
    obtain ⟨w1, hW⟩ : ∃ w1, w1 = w.alloc (Obj.cells #[.int .i64 s, .int .i64 r, vt] 28) := ⟨_, rfl⟩
    obtain ⟨N, hN⟩ : ∃ N, N = w.heap.size := ⟨_, rfl⟩
    have st : Below w.heap.size w w1 ∧ w1.cell? ⟨N, 0, none⟩ = some (.int .i64 s) ∧ w1.cell? ⟨N, 1, none⟩ = some (.int .i64 r) ∧ w1.cell? ⟨N, 2, none⟩ = some vt ∧ Rd w1 bt vt tbl ∧ Rd w1 br vr zs ∧ w.heap.size ≤ w1.heap.size := by
      rw [hW, hN]
      exact ⟨below1 _ _, by simp, by simp, by simp, HT.out.keep (below1 _ _) (Nat.le_refl _), HR.out.keep (below1 _ _) (Nat.le_refl _), by simp⟩
    simp only [← hW, ← hN]
    clear hW hN
    go_at_call 32
    refine (fits (rd3_2_0 st) (rd3_2_1 st)).mono ?_
    rw [HF.out]
    rintro e w2 ⟨rfl, bel⟩
    replace st := next3_2 bel st
    clear bel
    go_wp2
    go_ret2
    exact ⟨rfl, st.1⟩

set_option maxHeartbeats 4000000 in
theorem specNo {w : World} {s r : Int} {bt br bo : Nat} {vt vr vo : Value} {tbl zs od : List Int} (ht : Rd w bt vt tbl) (hr : Rd w br vr zs) (ho : Rd w bo vo od) (hf : ¬ (fitB s r tbl zs = true ∧ od.length ≤ 1000)) :
    Calls Try.prog 23 #[ruleV s r vt, vr, vo] w fun e w' => e = .returned (.tuple #[.slice none 0 0, .bool false]) ∧ Below w.heap.size w w' := by
  have HT := hid ht
  have HR := hid hr
  obtain ⟨aoo, capo, rfl, hco, hmo, _⟩ := ho
  have hsz : od.length ≤ 9223372036854775807 := by unfold maxLen at hmo; omega
  clear ht hr hco hmo
  cases hv : fitB s r tbl zs with
  | true =>
    have HF := hid hv
    have hl2 : decide ((1000 : Int) < (od.length : Int)) = true := by
      have : ¬ od.length ≤ 1000 := fun h => hf ⟨hv, h⟩
      simp; omega
    clear hf hv
    go_enter Try.func23, Try.ntmps23
    go_wp2_with fail
    obtain ⟨w1, hW⟩ : ∃ w1, w1 = w.alloc (Obj.cells #[.int .i64 s, .int .i64 r, vt] 28) := ⟨_, rfl⟩
    obtain ⟨N, hN⟩ : ∃ N, N = w.heap.size := ⟨_, rfl⟩
    have st : Below w.heap.size w w1 ∧ w1.cell? ⟨N, 0, none⟩ = some (.int .i64 s) ∧ w1.cell? ⟨N, 1, none⟩ = some (.int .i64 r) ∧ w1.cell? ⟨N, 2, none⟩ = some vt ∧ Rd w1 bt vt tbl ∧ Rd w1 br vr zs ∧ w.heap.size ≤ w1.heap.size := by
      rw [hW, hN]
      exact ⟨below1 _ _, by simp, by simp, by simp, HT.out.keep (below1 _ _) (Nat.le_refl _), HR.out.keep (below1 _ _) (Nat.le_refl _), by simp⟩
    simp only [← hW, ← hN]
    clear hW hN
    go_at_call 30
    refine (can st.2.1 st.2.2.1 st.2.2.2.1 (rd3_2_0 st) (rd3_2_1 st)).mono ?_
    rw [HF.out]
    rintro e w2 ⟨rfl, bel⟩
    replace st := next3_2 bel st
    clear bel
    go_wp2
    go_ret2
    exact ⟨rfl, st.1⟩
  | false =>
    have HF := hid hv
    clear hf hv
    go_enter Try.func23, Try.ntmps23
    go_wp2_with fail
    obtain ⟨w1, hW⟩ : ∃ w1, w1 = w.alloc (Obj.cells #[.int .i64 s, .int .i64 r, vt] 28) := ⟨_, rfl⟩
    obtain ⟨N, hN⟩ : ∃ N, N = w.heap.size := ⟨_, rfl⟩
    have st : Below w.heap.size w w1 ∧ w1.cell? ⟨N, 0, none⟩ = some (.int .i64 s) ∧ w1.cell? ⟨N, 1, none⟩ = some (.int .i64 r) ∧ w1.cell? ⟨N, 2, none⟩ = some vt ∧ Rd w1 bt vt tbl ∧ Rd w1 br vr zs ∧ w.heap.size ≤ w1.heap.size := by
      rw [hW, hN]
      exact ⟨below1 _ _, by simp, by simp, by simp, HT.out.keep (below1 _ _) (Nat.le_refl _), HR.out.keep (below1 _ _) (Nat.le_refl _), by simp⟩
    simp only [← hW, ← hN]
    clear hW hN
    go_at_call 30
    refine (can st.2.1 st.2.2.1 st.2.2.2.1 (rd3_2_0 st) (rd3_2_1 st)).mono ?_
    rw [HF.out]
    rintro e w2 ⟨rfl, bel⟩
    replace st := next3_2 bel st
    clear bel
    go_wp2
    go_ret2
    exact ⟨rfl, st.1⟩

set_option maxHeartbeats 4000000 in
theorem specOk {w : World} {s r : Int} {bt br bo : Nat} {vt vr vo : Value} {tbl zs od : List Int} (ht : Rd w bt vt tbl) (hr : Rd w br vr zs) (ho : Rd w bo vo od) (hf : fitB s r tbl zs = true) (hl : od.length ≤ 1000) :
    Calls Try.prog 23 #[ruleV s r vt, vr, vo] w fun e w' => ∃ v', ∃ b', e = .returned (.tuple #[v', .bool (allB od (zs.length : Int))]) ∧
      Own 2 w' b' v' (if allB od (zs.length : Int) = true then aloneL tbl zs s r od od.length else []) ∧ w.heap.size ≤ b' ∧ Below w.heap.size w w' := by
  have HT := hid ht
  have HR := hid hr
  have HOd := hid ho
  have HF := hid hf
  have HG := hid (fun k => alone_fit (fit_of hf) od k)
  have HFF := hid (fit_of hf)
  have hz := (fit_of hf).n
  obtain ⟨aor, capr, rfl, _, _, h6⟩ := hr
  obtain ⟨offr, rfl, hbr, hcr⟩ := h6 (by omega)
  have HCR := hid hcr
  obtain ⟨aoo, capo, rfl, _, _, h4⟩ := ho
  have H4 := hid h4
  obtain ⟨n, hn⟩ : ∃ n, n = zs.length := ⟨_, rfl⟩
  obtain ⟨L, hL⟩ : ∃ L, L = od.length := ⟨_, rfl⟩
  have Hn := hid hn
  have HLL := hid hL
  rw [← hL] at HOd H4 hl ⊢
  have hl2 : decide ((1000 : Int) < (L : Int)) = false := by simp; omega
  obtain ⟨q, hq⟩ : ∃ q, q = allB od (zs.length : Int) := ⟨_, rfl⟩
  obtain ⟨R, hR⟩ : ∃ R, R = (if q = true then aloneL tbl zs s r od L else []) := ⟨_, rfl⟩
  rw [← hq, ← hR]
  have HQ := hid hq
  have HRR := hid hR
  obtain ⟨n1, n2⟩ := hz
  clear ht hf h4 hn hL h6 hcr hq hR
  go_enter Try.func23, Try.ntmps23
  go_wp2_with fail
  obtain ⟨w1, hW⟩ : ∃ w1, w1 = w.alloc (Obj.cells #[.int .i64 s, .int .i64 r, vt] 28) := ⟨_, rfl⟩
  obtain ⟨N, hN⟩ : ∃ N, N = w.heap.size := ⟨_, rfl⟩
  have st : Below w.heap.size w w1 ∧ w1.cell? ⟨N, 0, none⟩ = some (.int .i64 s) ∧ w1.cell? ⟨N, 1, none⟩ = some (.int .i64 r) ∧ w1.cell? ⟨N, 2, none⟩ = some vt ∧ Rd w1 bt vt tbl ∧ Rd w1 br (.slice (some ⟨br, offr, none⟩) zs.length capr) zs ∧ w.heap.size ≤ w1.heap.size := by
    rw [hW, hN]
    exact ⟨below1 _ _, by simp, by simp, by simp, HT.out.keep (below1 _ _) (Nat.le_refl _), HR.out.keep (below1 _ _) (Nat.le_refl _), by simp⟩
  simp only [← hW, ← hN]
  clear hW hN
  go_at_call 30
  refine (can st.2.1 st.2.2.1 st.2.2.2.1 (rd3_2_0 st) (rd3_2_1 st)).mono ?_
  rw [HF.out]
  rintro e w2 ⟨rfl, bel⟩
  replace st := next3_2 bel st
  have ST := hid st
  clear bel st
  go_wp2_with (first | (at_builtin; refine appendAll rfl _ _ rfl w2.heap.size _ rfl (World.ownsRow_lit (base := w2.heap.size) (e := 2) (size := 1) w2 #[] 0 (Nat.le_refl _) (by simp) (by simp)) br offr capr zs rfl (fun i hi => cell_keep (below1 _ _) ((ST.out.1.cell hbr).trans (HCR.out i hi))) ?c1 ?c2 ?_) | go_in)
  case c1 => omega
  case c2 => simp
  · intro v' w3 hown hbel
    obtain ⟨b', hb', own⟩ := Own.of hown
    obtain ⟨capn, rfl⟩ := own_some own (by omega)
    have HO := hid own
    have HL := hid (Nat.le_trans ST.out.1.size hb')
    have HNb := hid (Nat.lt_of_lt_of_le (World.block_lt_of_cell? _ _ ST.out.2.1) hb')
    have HB3 := hid (next3_2 (((Below.refl w2.heap.size w2).alloc (Nat.le_refl _) _).trans hbel) ST.out)
    clear hown hbel own hb'
    rw [← Hn.out] at HO ⊢
    have n1' : 1 ≤ n := by have := Hn.out; omega
    have n2' : n ≤ 64 := by have := Hn.out; omega
    go_wp2
    go_loopw [9] (fun t wr => ∃ k : Nat, k ≤ L ∧ t = .int .i64 k ∧ Hid (allB (od.take k) (n : Int) = true) ∧ w3 = wr) (fun t _ => L - (intOf t).toNat)
    case atStart => exact ⟨0, Nat.zero_le _, rfl, by simp [Hid, allB], rfl⟩
    case round =>
      obtain ⟨k, hk, rfl, ha, hw⟩ := hrel
      subst hw
      by_cases hlt : k < L
      · obtain ⟨offo, rfl, hbo, hco⟩ := H4.out (by omega)
        obtain ⟨x, hx⟩ : ∃ x, x = od.getD k 0 := ⟨_, rfl⟩
        have hcx : w3.cell? ⟨bo, offo + k, none⟩ = some (.int .i64 x) := by rw [hx]; exact (HB3.out.1.cell hbo).trans (hco k hlt)
        have HX := hid hx
        clear hx hco
        by_cases hok : 0 ≤ x ∧ x ≤ (n : Int) - 1
        · have HOK := hid (ok_of (od := od) (k := k) (n := (n : Int)) (by have := HLL.out; omega) ha.out (by rw [← HX.out]; exact hok))
          go_wp2_with fail
          go_at_call 34
          refine (inYes hok.1 hok.2).mono ?_
          rintro e w4 ⟨rfl, hw4⟩
          subst hw4
          clear hok
          go_wp2
          go_roundw
          case rel => exact ⟨k + 1, by omega, by go_num, HOK, trivial⟩
          case measure => simp [intOf]; omega
        · have HBad := hid (bad_of (od := od) (k := k) (n := (n : Int)) (by have := HLL.out; omega) (by rw [← HX.out]; exact hok))
          go_wp2_with fail
          go_at_call 34
          refine (inNo hok).mono ?_
          rintro e w4 ⟨rfl, hw4⟩
          subst hw4
          clear hok
          go_wp2
          go_ret2
          refine ⟨.slice none 0 0, w.heap.size, ?_, ?_, Nat.le_refl _, HB3.out.1⟩
          · rw [HQ.out, ← Hn.out, HBad.out]; rfl
          · rw [HRR.out, HQ.out, ← Hn.out, HBad.out]; simpa using Own.nil _ _ _
      · have hkn : L = k := by omega
        subst hkn
        have he : allB od (n : Int) = true := by have := ha.out; rwa [HLL.out, List.take_length] at this
        have HE := hid he
        clear he
        go_wp2
        go_loopw [10, 11] (fun t a wr => ∃ k : Nat, k ≤ L ∧ t = .int .i64 k ∧ Own 2 wr b' (.slice (some ⟨b', 0, none⟩) n capn) (aloneL tbl zs s r od k) ∧
          Hid (Below w.heap.size w wr ∧ wr.cell? ⟨N, 0, none⟩ = some (.int .i64 s) ∧ wr.cell? ⟨N, 1, none⟩ = some (.int .i64 r) ∧ wr.cell? ⟨N, 2, none⟩ = some vt ∧ w.heap.size ≤ wr.heap.size)) (fun t _ _ => L - (intOf t).toNat)
        case atStart => exact ⟨0, Nat.zero_le _, rfl, HO.out, ⟨HB3.out.1, HB3.out.2.1, HB3.out.2.2.1, HB3.out.2.2.2.1, HB3.out.1.size⟩⟩
        case round =>
          obtain ⟨k, hk, rfl, own, HS⟩ := hrel
          by_cases hlt : k < L
          · obtain ⟨offo, rfl, hbo, hco⟩ := H4.out (by omega)
            have hat := alone_at HE.out (k := k) (by have := HLL.out; omega)
            obtain ⟨m, hm⟩ : ∃ m : Nat, od.getD k 0 = m := ⟨_, (Int.toNat_of_nonneg hat.1).symm⟩
            have hcx : wr.cell? ⟨bo, offo + k, none⟩ = some (.int .i64 m) := by rw [← hm]; exact (HS.out.1.cell hbo).trans (hco k hlt)
            have hmn : m < n := by omega
            have HM := hid hm
            have HW := hid own
            have s2 := HS.out
            clear hco own hat hm
            go_wp2_with fail
            go_at_call 39
            refine (specTold (a := (m : Int)) s2.2.1 s2.2.2.1 s2.2.2.2.1 (HT.out.keep s2.1 (Nat.le_refl _)) HW.out.rd (HG.out k) (by omega)).mono ?_
            rintro e w5 ⟨rfl, dd, hdd⟩
            have bel : Below wr.heap.size wr w5 := by rw [hdd]; exact Spec.below_drewN' _ _ _
            have own5 := HW.out.keep bel
            have hlen : (aloneL tbl zs s r od k).length = n := by rw [alone_length, ← Hn.out]
            have hox := own5.cell (i := m) (by omega)
            have hof := own5.free m
            have HO5 := hid own5
            have HB5 := hid (next3_0 bel s2)
            have hcx5 : w5.cell? ⟨bo, offo + k, none⟩ = some (.int .i64 m) := cell_keep bel hcx
            clear own5 bel hlen s2 hdd hcx
            go_wp2
            go_roundw
            case rel =>
              refine ⟨k + 1, by omega, by go_num, ?_, ?_⟩
              · have h1 := HO5.out.set m (told tbl (aloneL tbl zs s r od k) s r m)
                have e1 : aloneL tbl zs s r od (k + 1) = (aloneL tbl zs s r od k).set m (told tbl (aloneL tbl zs s r od k) s r m) := by simp only [aloneL, HM.out, Int.toNat_natCast]
                rw [e1]
                exact h1
              · obtain ⟨t0, t1, t2, t3, t4⟩ := HB5.out
                have hne : (N : Nat) ≠ b' := Nat.ne_of_lt HNb.out
                refine ⟨t0.setCell HL.out _, ?_, ?_, ?_, by simpa [World.setCell] using t4⟩
                · rw [World.cell?_setCell_far _ _ _ _ (by simpa using fun h => hne h.symm)]; exact t1
                · rw [World.cell?_setCell_far _ _ _ _ (by simpa using fun h => hne h.symm)]; exact t2
                · rw [World.cell?_setCell_far _ _ _ _ (by simpa using fun h => hne h.symm)]; exact t3
            case measure => simp [intOf]; omega
          · have hkn : L = k := by omega
            subst hkn
            have HW := hid own
            clear own
            go_wp2
            go_ret2
            refine ⟨.slice (some ⟨b', 0, none⟩) n capn, b', ?_, ?_, HL.out, HS.out.1⟩
            · rw [HQ.out, ← Hn.out, HE.out]; rfl
            · rw [HRR.out, HQ.out, ← Hn.out, if_pos HE.out]; exact HW.out

end Go.Proofs.Ytpehalecmgpbnaa.Alone
