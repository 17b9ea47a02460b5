/- SenseOf of both sides. -/
import Derived.Test.YtffcaffhkleclaaSenS
import Derived.Test.YtffcaffhkleclaaSenI
namespace Go.Proofs.Ytffcaffhkleclaa.SenA
open Go.RowKit Go.Proofs.Ytffcaffhkleclaa.Rd Go.Proofs.Ytffcaffhkleclaa.Help Go.Proofs.Ytffcaffhkleclaa.Ring Go.Proofs.Ytffcaffhkleclaa.Small Go.Proofs.Ytffcaffhkleclaa.Num Go.Proofs.Ytffcaffhkleclaa.Keep Go.Proofs.Ytffcaffhkleclaa.Rule Go.Proofs.Ytffcaffhkleclaa.Dig Go.Proofs.Ytffcaffhkleclaa.DigP Go.Proofs.Ytffcaffhkleclaa.Fl Go.Proofs.Ytffcaffhkleclaa.Sen
set_option linter.unusedVariables false
set_option linter.unusedSimpArgs false

set_option maxHeartbeats 1000000 in
theorem specNo {w : World} {s r : Int} {b : Nat} {v : Value} {zs : List Int} (h : Rd w b v zs) (hv : validB s r zs = false) :
    Calls Try.prog 5 #[ruleV s r v] w fun e w' => ∃ q, e = .returned (.tuple #[.float .f32 q, .bool (validB s r zs)]) ∧ Is .f32 q (senseV s r zs) ∧ Below w.heap.size w w' := by
  have HV := hid hv
  have HH := hid h
  obtain ⟨ao, cap, rfl, hc, hm, h4⟩ := h
  clear hc hm h4
  rw [hv, show senseV s r zs = some 0 by rw [senseV, hv]; rfl]
  clear hv
  go_enter Try.func5, Try.ntmps5
  go_wp2_with fail
  obtain ⟨w1, hW⟩ : ∃ w1, w1 = w.alloc (Obj.cells #[.int .i64 s, .int .i64 r, .slice ao zs.length cap] 29) := ⟨_, rfl⟩
  obtain ⟨N, hN⟩ : ∃ N, N = w.heap.size := ⟨_, rfl⟩
  have st1 : Below w.heap.size w w1 ∧ w1.cell? ⟨N, 0, none⟩ = some (.int .i64 s) ∧ w1.cell? ⟨N, 1, none⟩ = some (.int .i64 r) ∧ w1.cell? ⟨N, 2, none⟩ = some (.slice ao zs.length cap) ∧ w.heap.size ≤ w1.heap.size := by
    rw [hW, hN]
    exact ⟨below1 _ _, by simp, by simp, by simp, (below1 _ _).size⟩
  simp only [← hW, ← hN]
  clear hW hN
  go_at_call 11
  refine (Spec.is (HH.out.keep st1.1 (Nat.le_refl _)) st1.2.1 st1.2.2.1 st1.2.2.2.1).mono ?_
  rw [HV.out]
  rintro e w2 ⟨rfl, m0, hw2⟩
  have bel : Below w1.heap.size w1 w2 := by rw [hw2]; exact Spec.below_drewN' _ _ _
  have B2 := st1.1.trans (bel.mono st1.1.size)
  have c2 := (bel.cell (World.block_lt_of_cell? _ _ st1.2.2.2.1)).trans st1.2.2.2.1
  have HB2 := hid B2
  clear st1 B2 bel
  subst hw2
  go_wp2
  go_ret2
  exact ⟨_, rfl, zero_is, HB2.out⟩

set_option maxHeartbeats 1000000 in
theorem implNo {w : World} {s r : Int} {b : Nat} {v : Value} {zs : List Int} (h : Rd w b v zs) (hv : validB s r zs = false) :
    Calls Try.prog 7 #[ruleV s r v] w fun e w' => ∃ q, e = .returned (.tuple #[.float .f32 q, .bool (validB s r zs)]) ∧ Is .f32 q (senseV s r zs) ∧ Below w.heap.size w w' := by
  have HV := hid hv
  have HH := hid h
  obtain ⟨ao, cap, rfl, hc, hm, h4⟩ := h
  clear hc hm h4
  rw [hv, show senseV s r zs = some 0 by rw [senseV, hv]; rfl]
  clear hv
  go_enter Try.func7, Try.ntmps7
  go_wp2_with fail
  obtain ⟨w1, hW⟩ : ∃ w1, w1 = w.alloc (Obj.cells #[.int .i64 s, .int .i64 r, .slice ao zs.length cap] 29) := ⟨_, rfl⟩
  obtain ⟨N, hN⟩ : ∃ N, N = w.heap.size := ⟨_, rfl⟩
  have st1 : Below w.heap.size w w1 ∧ w1.cell? ⟨N, 0, none⟩ = some (.int .i64 s) ∧ w1.cell? ⟨N, 1, none⟩ = some (.int .i64 r) ∧ w1.cell? ⟨N, 2, none⟩ = some (.slice ao zs.length cap) ∧ w.heap.size ≤ w1.heap.size := by
    rw [hW, hN]
    exact ⟨below1 _ _, by simp, by simp, by simp, (below1 _ _).size⟩
  simp only [← hW, ← hN]
  clear hW hN
  have k0 := st1.2.1
  have k1 := st1.2.2.1
  have k2 := st1.2.2.2.1
  go_wp2_with fail
  go_at_call 15
  refine (implValid (HH.out.keep st1.1 (Nat.le_refl _))).mono ?_
  rw [HV.out]
  rintro e w2 ⟨rfl, bel⟩
  have B2 := st1.1.trans (bel.mono st1.1.size)
  have c2 := (bel.cell (World.block_lt_of_cell? _ _ st1.2.2.2.1)).trans st1.2.2.2.1
  have HB2 := hid B2
  clear st1 B2 bel
  skip
  go_wp2
  go_ret2
  exact ⟨_, rfl, zero_is, HB2.out⟩

theorem spec {w : World} {s r : Int} {b : Nat} {v : Value} {zs : List Int} (h : Rd w b v zs) :
    Calls Try.prog 5 #[ruleV s r v] w fun e w' => ∃ q, e = .returned (.tuple #[.float .f32 q, .bool (validB s r zs)]) ∧ Is .f32 q (senseV s r zs) ∧ Below w.heap.size w w' := by
  cases hv : validB s r zs with
  | false => rw [← hv]; exact specNo h hv
  | true =>
    obtain ⟨hs, hr, hl, ha⟩ := Al.valid_parts hv
    obtain ⟨S, hS⟩ : ∃ S : Nat, (S : Int) = s := ⟨s.toNat, by omega⟩
    obtain ⟨L, hL⟩ : ∃ L : Nat, (L : Int) = 2 * r + 1 := ⟨(2 * r + 1).toNat, by omega⟩
    have e : senseV s r zs = fop .quo .f32 (some (floatOfInt .f32 (C3 s zs L S zs.length : Nat))) (some (floatOfInt .f32 (A3 s L S zs.length : Nat))) := by
      unfold senseV
      rw [if_pos hv, show (2 * r + 1).toNat = L by omega, show s.toNat = S by omega]
    rw [e]
    exact SenS.specOk h hv hS hL rfl

theorem impl {w : World} {s r : Int} {b : Nat} {v : Value} {zs : List Int} (h : Rd w b v zs) :
    Calls Try.prog 7 #[ruleV s r v] w fun e w' => ∃ q, e = .returned (.tuple #[.float .f32 q, .bool (validB s r zs)]) ∧ Is .f32 q (senseV s r zs) ∧ Below w.heap.size w w' := by
  cases hv : validB s r zs with
  | false => rw [← hv]; exact implNo h hv
  | true =>
    obtain ⟨hs, hr, hl, ha⟩ := Al.valid_parts hv
    obtain ⟨S, hS⟩ : ∃ S : Nat, (S : Int) = s := ⟨s.toNat, by omega⟩
    obtain ⟨L, hL⟩ : ∃ L : Nat, (L : Int) = 2 * r + 1 := ⟨(2 * r + 1).toNat, by omega⟩
    have e : senseV s r zs = fop .quo .f32 (some (floatOfInt .f32 (C3 s zs L S zs.length : Nat))) (some (floatOfInt .f32 (A3 s L S zs.length : Nat))) := by
      unfold senseV
      rw [if_pos hv, show (2 * r + 1).toNat = L by omega, show s.toNat = S by omega]
    rw [e]
    exact SenI.implOk h hv hS hL rfl

end Go.Proofs.Ytffcaffhkleclaa.SenA
