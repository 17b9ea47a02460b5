/- Numbers of rules: spec.NumberOfRule and impl.NumberOfRule. -/
import Derived.Test.YtacggnbaoegcfaaSpec
import Derived.Laws.Bits64
namespace Go.Proofs.Ytacggnbaoegcfaa.NumRule
open Go.RowKit Go.Proofs.Ytacggnbaoegcfaa.Rd Go.Proofs.Ytacggnbaoegcfaa.Help Go.Proofs.Ytacggnbaoegcfaa.Ring Go.Proofs.Ytacggnbaoegcfaa.Small Go.Proofs.Ytacggnbaoegcfaa.Num Go.Proofs.Ytacggnbaoegcfaa.Keep Go.Proofs.Ytacggnbaoegcfaa.Rule
set_option linter.unusedVariables false
set_option linter.unusedSimpArgs false

theorem valid_parts {s r : Int} {zs : List Int} (h : validB s r zs = true) : (2 ≤ s ∧ s ≤ 3) ∧ (0 ≤ r ∧ r ≤ 2) ∧ (zs.length : Int) = s ^ (2 * r + 1).toNat ∧ allB zs s = true := by
  simp only [validB, shapeB, Bool.and_eq_true, decide_eq_true_eq] at h
  exact ⟨⟨h.1.1, h.1.2.1⟩, ⟨h.1.2.2.1, h.1.2.2.2⟩, h.2.1, h.2.2⟩

/-- The number that the states of a table make. -/
def orN (zs : List Int) : Nat → Int
  | 0 => 0
  | k + 1 => bits BinOp.or IntKind.i64 (orN zs k) (wrap64 (zs.getD k 0 * 2 ^ k))

set_option maxHeartbeats 2000000 in
theorem specOk {w : World} {b : Nat} {v : Value} {zs : List Int} (h : Rd w b v zs) (hv : validB 2 1 zs = true) :
    Calls Try.prog 28 #[ruleV 2 1 v] w fun e w' => e = .returned (.tuple #[.int .i64 (orN zs 8), .bool true]) ∧ Below w.heap.size w w' := by
  have HV := hid hv
  obtain ⟨_, _, hl, hall⟩ := valid_parts hv
  have hl8 : zs.length = 8 := by
    have : ((2 : Int) ^ (2 * 1 + 1 : Int).toNat) = 8 := by decide
    omega
  have HH := hid h
  obtain ⟨ao, cap, rfl, hc, hm, h4⟩ := h
  obtain ⟨off, rfl, hb, hcell⟩ := h4 (by omega)
  rw [hl8] at HH hc hcell ⊢
  have HC := hid hcell
  clear hv h4 hl hall hcell hl8 hm
  go_enter Try.func28, Try.ntmps28
  go_wp2_with fail
  obtain ⟨w1, hW⟩ : ∃ w1, w1 = w.alloc (Obj.cells #[.int .i64 2, .int .i64 1, (Value.slice (some ⟨b, off, none⟩) 8 cap)] 27) := ⟨_, rfl⟩
  obtain ⟨N, hN⟩ : ∃ N, N = w.heap.size := ⟨_, rfl⟩
  have st : Below w.heap.size w w1 ∧ w1.cell? ⟨N, 0, none⟩ = some (.int .i64 2) ∧ w1.cell? ⟨N, 1, none⟩ = some (.int .i64 1) ∧ w1.cell? ⟨N, 2, none⟩ = some (Value.slice (some ⟨b, off, none⟩) 8 cap) ∧ Rd w1 b (Value.slice (some ⟨b, off, none⟩) 8 cap) zs ∧ w.heap.size ≤ w1.heap.size := by
    rw [hW, hN]
    exact ⟨below1 _ _, by simp, by simp, by simp, HH.out.keep (below1 _ _) (Nat.le_refl _), by simp⟩
  simp only [← hW, ← hN]
  clear hW hN
  go_at_call 55
  refine (Spec.is (s := 2) (r := 1) (rd3_1_0 st) st.2.1 st.2.2.1 st.2.2.2.1).mono ?_
  rw [HV.out]
  rintro e w2 ⟨rfl, m, hw2⟩
  have bel : Below w1.heap.size w1 w2 := by rw [hw2]; exact Spec.below_drewN' _ _ _
  replace st := next3_1 bel st
  clear bel hw2
  go_wp2
  go_loop [4, 5] (fun x i => ∃ k : Nat, k ≤ 8 ∧ i = .int .i64 k ∧ x = .int .i64 (orN zs k)) (fun _ i => 8 - (intOf i).toNat)
  case atStart => exact ⟨0, by omega, rfl, rfl⟩
  case round =>
    obtain ⟨k, hk, rfl, rfl⟩ := hrel
    by_cases hlt : k < 8
    · obtain ⟨x, hx⟩ : ∃ x, x = zs.getD k 0 := ⟨_, rfl⟩
      have hcx : w2.cell? ⟨b, off + k, none⟩ = some (.int .i64 x) := by rw [hx]; exact (st.1.cell hb).trans (HC.out k hlt)
      obtain ⟨X, hX⟩ : ∃ X, X = orN zs k := ⟨_, rfl⟩
      have HX := hid hX
      have Hx := hid hx
      rw [← hX]
      clear hX hx
      go_wp2
      go_round
      case rel => exact ⟨k + 1, by omega, by go_num, by rw [HX.out, Hx.out]; rfl⟩
      case measure => simp [intOf]; omega
    · have hkn : k = 8 := by omega
      subst hkn
      obtain ⟨X, hX⟩ : ∃ X, X = orN zs 8 := ⟨_, rfl⟩
      have HX := hid hX
      rw [← hX]
      clear hX
      go_wp2
      go_ret2
      exact ⟨by rw [← HX.out]; rfl, st.1⟩

set_option maxHeartbeats 2000000 in
theorem implOk {w : World} {b : Nat} {v : Value} {zs : List Int} (h : Rd w b v zs) (hv : validB 2 1 zs = true) :
    Calls Try.prog 29 #[ruleV 2 1 v] w fun e w' => e = .returned (.tuple #[.int .i64 (orN zs 8), .bool true]) ∧ Below w.heap.size w w' := by
  have HV := hid hv
  obtain ⟨_, _, hl, hall⟩ := valid_parts hv
  have hl8 : zs.length = 8 := by
    have : ((2 : Int) ^ (2 * 1 + 1 : Int).toNat) = 8 := by decide
    omega
  have HH := hid h
  obtain ⟨ao, cap, rfl, hc, hm, h4⟩ := h
  obtain ⟨off, rfl, hb, hcell⟩ := h4 (by omega)
  rw [hl8] at HH hc hcell ⊢
  have HC := hid hcell
  clear hv h4 hl hall hcell hl8 hm
  go_enter Try.func29, Try.ntmps29
  go_wp2_with fail
  obtain ⟨w1, hW⟩ : ∃ w1, w1 = w.alloc (Obj.cells #[.int .i64 2, .int .i64 1, (Value.slice (some ⟨b, off, none⟩) 8 cap)] 27) := ⟨_, rfl⟩
  obtain ⟨N, hN⟩ : ∃ N, N = w.heap.size := ⟨_, rfl⟩
  have st : Below w.heap.size w w1 ∧ w1.cell? ⟨N, 0, none⟩ = some (.int .i64 2) ∧ w1.cell? ⟨N, 1, none⟩ = some (.int .i64 1) ∧ w1.cell? ⟨N, 2, none⟩ = some (Value.slice (some ⟨b, off, none⟩) 8 cap) ∧ Rd w1 b (Value.slice (some ⟨b, off, none⟩) 8 cap) zs ∧ w.heap.size ≤ w1.heap.size := by
    rw [hW, hN]
    exact ⟨below1 _ _, by simp, by simp, by simp, HH.out.keep (below1 _ _) (Nat.le_refl _), by simp⟩
  simp only [← hW, ← hN]
  clear hW hN
  go_at_call 20
  refine (implValid (rd3_1_0 st)).mono ?_
  rw [HV.out]
  rintro e w2 ⟨rfl, bel⟩
  replace st := next3_1 bel st
  clear bel
  go_wp2_with fail
  go_at_call 56
  refine shapeOf.mono ?_
  rintro e w3 ⟨rfl, bel⟩
  replace st := next3_1 bel st
  clear bel
  go_wp2
  go_loop [4, 5, 6, 19] (fun x i0 x0 i => ∃ k : Nat, k ≤ 8 ∧ i = .int .i64 k ∧ x = .int .i64 (orN zs k)) (fun _ _ _ i => 8 - (intOf i).toNat)
  case atStart => exact ⟨0, by omega, rfl, rfl⟩
  case round =>
    obtain ⟨k, hk, rfl, rfl⟩ := hrel
    by_cases hlt : k < 8
    · obtain ⟨x, hx⟩ : ∃ x, x = zs.getD k 0 := ⟨_, rfl⟩
      have hcx : w3.cell? ⟨b, off + k, none⟩ = some (.int .i64 x) := by rw [hx]; exact (st.1.cell hb).trans (HC.out k hlt)
      obtain ⟨X, hX⟩ : ∃ X, X = orN zs k := ⟨_, rfl⟩
      have HX := hid hX
      have Hx := hid hx
      rw [← hX]
      clear hX hx
      go_wp2
      go_round
      case rel => exact ⟨k + 1, by omega, by go_num, by rw [HX.out, Hx.out]; rfl⟩
      case measure => simp [intOf]; omega
    · have hkn : k = 8 := by omega
      subst hkn
      obtain ⟨X, hX⟩ : ∃ X, X = orN zs 8 := ⟨_, rfl⟩
      have HX := hid hX
      rw [← hX]
      clear hX
      go_wp2
      go_ret2
      exact ⟨by rw [← HX.out]; rfl, st.1⟩

set_option maxHeartbeats 2000000 in
theorem specNo {w : World} {s r : Int} {b : Nat} {v : Value} {zs : List Int} (h : Rd w b v zs) (hv : ¬ (validB s r zs = true ∧ s = 2 ∧ r = 1)) :
    Calls Try.prog 28 #[ruleV s r v] w fun e w' => e = .returned (.tuple #[.int .i64 0, .bool false]) ∧ Below w.heap.size w w' := by
  have HH := hid h
  obtain ⟨ao, cap, rfl, _, _, _⟩ := h
  cases hval : validB s r zs with
  | true =>
    have HV := hid hval
    by_cases h2 : s = 2
    · have h3 : ¬ r = 1 := fun h3 => hv ⟨hval, h2, h3⟩
      have h4 : (r == 1) = false := by simpa using h3
      have h5 : (r != 1) = true := by simpa using h3
      subst h2
      clear hv hval
      go_enter Try.func28, Try.ntmps28
      go_wp2_with fail
      obtain ⟨w1, hW⟩ : ∃ w1, w1 = w.alloc (Obj.cells #[.int .i64 2, .int .i64 r, (Value.slice ao zs.length cap)] 27) := ⟨_, rfl⟩
      obtain ⟨N, hN⟩ : ∃ N, N = w.heap.size := ⟨_, rfl⟩
      have st : Below w.heap.size w w1 ∧ w1.cell? ⟨N, 0, none⟩ = some (.int .i64 2) ∧ w1.cell? ⟨N, 1, none⟩ = some (.int .i64 r) ∧ w1.cell? ⟨N, 2, none⟩ = some (Value.slice ao zs.length cap) ∧ Rd w1 b (Value.slice ao zs.length cap) zs ∧ w.heap.size ≤ w1.heap.size := by
        rw [hW, hN]
        exact ⟨below1 _ _, by simp, by simp, by simp, HH.out.keep (below1 _ _) (Nat.le_refl _), by simp⟩
      simp only [← hW, ← hN]
      clear hW hN
      go_at_call 55
      refine (Spec.is (s := 2) (r := r) (rd3_1_0 st) st.2.1 st.2.2.1 st.2.2.2.1).mono ?_
      rw [HV.out]
      rintro e w2 ⟨rfl, m, hw2⟩
      have bel : Below w1.heap.size w1 w2 := by rw [hw2]; exact Spec.below_drewN' _ _ _
      replace st := next3_1 bel st
      clear bel hw2
      go_wp2
      go_ret2
      exact ⟨rfl, st.1⟩
    · have h4 : (s == 2) = false := by simpa using h2
      have h5 : (s != 2) = true := by simpa using h2
      clear hv hval
      go_enter Try.func28, Try.ntmps28
      go_wp2_with fail
      obtain ⟨w1, hW⟩ : ∃ w1, w1 = w.alloc (Obj.cells #[.int .i64 s, .int .i64 r, (Value.slice ao zs.length cap)] 27) := ⟨_, rfl⟩
      obtain ⟨N, hN⟩ : ∃ N, N = w.heap.size := ⟨_, rfl⟩
      have st : Below w.heap.size w w1 ∧ w1.cell? ⟨N, 0, none⟩ = some (.int .i64 s) ∧ w1.cell? ⟨N, 1, none⟩ = some (.int .i64 r) ∧ w1.cell? ⟨N, 2, none⟩ = some (Value.slice ao zs.length cap) ∧ Rd w1 b (Value.slice ao zs.length cap) zs ∧ w.heap.size ≤ w1.heap.size := by
        rw [hW, hN]
        exact ⟨below1 _ _, by simp, by simp, by simp, HH.out.keep (below1 _ _) (Nat.le_refl _), by simp⟩
      simp only [← hW, ← hN]
      clear hW hN
      go_at_call 55
      refine (Spec.is (s := s) (r := r) (rd3_1_0 st) st.2.1 st.2.2.1 st.2.2.2.1).mono ?_
      rw [HV.out]
      rintro e w2 ⟨rfl, m, hw2⟩
      have bel : Below w1.heap.size w1 w2 := by rw [hw2]; exact Spec.below_drewN' _ _ _
      replace st := next3_1 bel st
      clear bel hw2
      go_wp2
      go_ret2
      exact ⟨rfl, st.1⟩
  | false =>
    have HV := hid hval
    clear hv hval
    go_enter Try.func28, Try.ntmps28
    go_wp2_with fail
    obtain ⟨w1, hW⟩ : ∃ w1, w1 = w.alloc (Obj.cells #[.int .i64 s, .int .i64 r, (Value.slice ao zs.length cap)] 27) := ⟨_, rfl⟩
    obtain ⟨N, hN⟩ : ∃ N, N = w.heap.size := ⟨_, rfl⟩
    have st : Below w.heap.size w w1 ∧ w1.cell? ⟨N, 0, none⟩ = some (.int .i64 s) ∧ w1.cell? ⟨N, 1, none⟩ = some (.int .i64 r) ∧ w1.cell? ⟨N, 2, none⟩ = some (Value.slice ao zs.length cap) ∧ Rd w1 b (Value.slice ao zs.length cap) zs ∧ w.heap.size ≤ w1.heap.size := by
      rw [hW, hN]
      exact ⟨below1 _ _, by simp, by simp, by simp, HH.out.keep (below1 _ _) (Nat.le_refl _), by simp⟩
    simp only [← hW, ← hN]
    clear hW hN
    go_at_call 55
    refine (Spec.is (s := s) (r := r) (rd3_1_0 st) st.2.1 st.2.2.1 st.2.2.2.1).mono ?_
    rw [HV.out]
    rintro e w2 ⟨rfl, m, hw2⟩
    have bel : Below w1.heap.size w1 w2 := by rw [hw2]; exact Spec.below_drewN' _ _ _
    replace st := next3_1 bel st
    clear bel hw2
    go_wp2
    go_ret2
    exact ⟨rfl, st.1⟩

set_option maxHeartbeats 2000000 in
theorem implNo {w : World} {s r : Int} {b : Nat} {v : Value} {zs : List Int} (h : Rd w b v zs) (hv : ¬ (validB s r zs = true ∧ s = 2 ∧ r = 1)) :
    Calls Try.prog 29 #[ruleV s r v] w fun e w' => e = .returned (.tuple #[.int .i64 0, .bool false]) ∧ Below w.heap.size w w' := by
  have HH := hid h
  obtain ⟨ao, cap, rfl, _, _, _⟩ := h
  cases hval : validB s r zs with
  | true =>
    have HV := hid hval
    by_cases h2 : s = 2
    · have h3 : ¬ r = 1 := fun h3 => hv ⟨hval, h2, h3⟩
      have h4 : (r == 1) = false := by simpa using h3
      have h5 : (r != 1) = true := by simpa using h3
      subst h2
      clear hv hval
      go_enter Try.func29, Try.ntmps29
      go_wp2_with fail
      obtain ⟨w1, hW⟩ : ∃ w1, w1 = w.alloc (Obj.cells #[.int .i64 2, .int .i64 r, (Value.slice ao zs.length cap)] 27) := ⟨_, rfl⟩
      obtain ⟨N, hN⟩ : ∃ N, N = w.heap.size := ⟨_, rfl⟩
      have st : Below w.heap.size w w1 ∧ w1.cell? ⟨N, 0, none⟩ = some (.int .i64 2) ∧ w1.cell? ⟨N, 1, none⟩ = some (.int .i64 r) ∧ w1.cell? ⟨N, 2, none⟩ = some (Value.slice ao zs.length cap) ∧ Rd w1 b (Value.slice ao zs.length cap) zs ∧ w.heap.size ≤ w1.heap.size := by
        rw [hW, hN]
        exact ⟨below1 _ _, by simp, by simp, by simp, HH.out.keep (below1 _ _) (Nat.le_refl _), by simp⟩
      simp only [← hW, ← hN]
      clear hW hN
      go_at_call 20
      refine (implValid (rd3_1_0 st)).mono ?_
      rw [HV.out]
      rintro e w2 ⟨rfl, bel⟩
      replace st := next3_1 bel st
      clear bel
      go_wp2_with fail
      go_at_call 56
      refine shapeOf.mono ?_
      rintro e w3 ⟨rfl, bel⟩
      replace st := next3_1 bel st
      clear bel
      go_wp2
      go_ret2
      exact ⟨rfl, st.1⟩
    · have h4 : (s == 2) = false := by simpa using h2
      have h5 : (s != 2) = true := by simpa using h2
      clear hv hval
      go_enter Try.func29, Try.ntmps29
      go_wp2_with fail
      obtain ⟨w1, hW⟩ : ∃ w1, w1 = w.alloc (Obj.cells #[.int .i64 s, .int .i64 r, (Value.slice ao zs.length cap)] 27) := ⟨_, rfl⟩
      obtain ⟨N, hN⟩ : ∃ N, N = w.heap.size := ⟨_, rfl⟩
      have st : Below w.heap.size w w1 ∧ w1.cell? ⟨N, 0, none⟩ = some (.int .i64 s) ∧ w1.cell? ⟨N, 1, none⟩ = some (.int .i64 r) ∧ w1.cell? ⟨N, 2, none⟩ = some (Value.slice ao zs.length cap) ∧ Rd w1 b (Value.slice ao zs.length cap) zs ∧ w.heap.size ≤ w1.heap.size := by
        rw [hW, hN]
        exact ⟨below1 _ _, by simp, by simp, by simp, HH.out.keep (below1 _ _) (Nat.le_refl _), by simp⟩
      simp only [← hW, ← hN]
      clear hW hN
      go_at_call 20
      refine (implValid (rd3_1_0 st)).mono ?_
      rw [HV.out]
      rintro e w2 ⟨rfl, bel⟩
      replace st := next3_1 bel st
      clear bel
      go_wp2_with fail
      go_at_call 56
      refine shapeOf.mono ?_
      rintro e w3 ⟨rfl, bel⟩
      replace st := next3_1 bel st
      clear bel
      go_wp2
      go_ret2
      exact ⟨rfl, st.1⟩
  | false =>
    have HV := hid hval
    clear hv hval
    go_enter Try.func29, Try.ntmps29
    go_wp2_with fail
    obtain ⟨w1, hW⟩ : ∃ w1, w1 = w.alloc (Obj.cells #[.int .i64 s, .int .i64 r, (Value.slice ao zs.length cap)] 27) := ⟨_, rfl⟩
    obtain ⟨N, hN⟩ : ∃ N, N = w.heap.size := ⟨_, rfl⟩
    have st : Below w.heap.size w w1 ∧ w1.cell? ⟨N, 0, none⟩ = some (.int .i64 s) ∧ w1.cell? ⟨N, 1, none⟩ = some (.int .i64 r) ∧ w1.cell? ⟨N, 2, none⟩ = some (Value.slice ao zs.length cap) ∧ Rd w1 b (Value.slice ao zs.length cap) zs ∧ w.heap.size ≤ w1.heap.size := by
      rw [hW, hN]
      exact ⟨below1 _ _, by simp, by simp, by simp, HH.out.keep (below1 _ _) (Nat.le_refl _), by simp⟩
    simp only [← hW, ← hN]
    clear hW hN
    go_at_call 20
    refine (implValid (rd3_1_0 st)).mono ?_
    rw [HV.out]
    rintro e w2 ⟨rfl, bel⟩
    replace st := next3_1 bel st
    clear bel
    go_wp2
    go_ret2
    exact ⟨rfl, st.1⟩

end Go.Proofs.Ytacggnbaoegcfaa.NumRule
