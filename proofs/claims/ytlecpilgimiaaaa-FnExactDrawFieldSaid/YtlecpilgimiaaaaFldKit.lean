/- The helpers of the laws over rules: szField, toField, eqField, markField, heldField. -/
import Derived.Test.YtlecpilgimiaaaaKit0
namespace Go.Proofs.Ytlecpilgimiaaaa.Help
open Go.RowKit Go.Proofs.Ytlecpilgimiaaaa.Rd Go.Proofs.Ytlecpilgimiaaaa.Keep Go.Proofs.Ytlecpilgimiaaaa.Rule
set_option linter.unusedVariables false
set_option linter.unusedSimpArgs false

set_option maxHeartbeats 1000000 in
theorem eqR {w : World} {s r : Int} {b1 b2 : Nat} {v1 v2 : Value} {zs : List Int} (h1 : Rd w b1 v1 zs) (h2 : Rd w b2 v2 zs) :
    Calls Try.prog 6 #[ruleV s r v1, ruleV s r v2] w fun e w' => e = .returned (.bool true) ∧ Below w.heap.size w w' := by
  have HH1 := hid h1
  have HH2 := hid h2
  obtain ⟨ao1, cap1, rfl, _, _, _⟩ := h1
  obtain ⟨ao2, cap2, rfl, _, _, _⟩ := h2
  go_enter Try.func6, Try.ntmps6
  go_wp2_with fail
  obtain ⟨W2, hW⟩ : ∃ W2, W2 = (w.alloc (Obj.cells #[Value.int IntKind.i64 s, Value.int IntKind.i64 r, Value.slice ao1 zs.length cap1] 25)).alloc (Obj.cells #[Value.int IntKind.i64 s, Value.int IntKind.i64 r, Value.slice ao2 zs.length cap2] 25) := ⟨_, rfl⟩
  have B2 : Below w.heap.size w W2 := by rw [hW]; exact Go.Joins.below_alloc2 _ _ _
  simp only [← hW]
  clear hW
  go_at_call 19
  refine (eqB (HH1.out.keep B2 (Nat.le_refl _)) (HH2.out.keep B2 (Nat.le_refl _))).mono ?_
  rintro e w4 ⟨rfl, bel⟩
  go_wp2
  go_ret
  exact ⟨rfl, B2.trans (bel.mono B2.size)⟩

set_option maxHeartbeats 1000000 in
theorem markR {w : World} {s r : Int} {b : Nat} {v : Value} {zs : List Int} {q : Int} (h : Own 2 w b v zs) (h0 : 0 ≤ q) (hq : q + zs.length ≤ 4611686018427387904) :
    Calls Try.prog 7 #[ruleV s r v, .int .i64 q] w fun e w' => e = .returned (.int .i64 (q + zs.length)) ∧ Own 2 w' b v (marks q zs.length) ∧ w.grownBy w' (some b) ∧ (v = .slice none 0 0 → Below w.heap.size w w') := by
  have HH := hid h
  obtain ⟨ao, n, cap, hv⟩ : ∃ ao n cap, v = .slice ao n cap := by
    rcases h.form with ⟨hv, _⟩ | ⟨cap, hv, _⟩
    · exact ⟨_, _, _, hv⟩
    · exact ⟨_, _, _, hv⟩
  subst hv
  clear h
  have H0 := hid h0
  have HQ := hid hq
  clear h0 hq
  go_enter Try.func7, Try.ntmps7
  go_wp2_with fail
  obtain ⟨W2, hW⟩ : ∃ W2, W2 = w.alloc (Obj.cells #[Value.int IntKind.i64 s, Value.int IntKind.i64 r, Value.slice ao n cap] 25) := ⟨_, rfl⟩
  have B2 : Below w.heap.size w W2 := by rw [hW]; exact below1 _ _
  simp only [← hW]
  clear hW
  go_at_call 20
  refine (markSB (HH.out.keep B2) H0.out HQ.out).mono ?_
  rintro e w4 ⟨rfl, o, g, gn⟩
  go_wp2
  go_ret
  exact ⟨rfl, o, grown_after B2 g, fun hv => B2.trans ((gn hv).mono B2.size)⟩

set_option maxHeartbeats 1000000 in
theorem heldR {w : World} {s r : Int} {b : Nat} {v : Value} {n : Nat} {q : Int} (h : Rd w b v (marks q n)) (h0 : 0 ≤ q) (hq : q + n ≤ 4611686018427387904) :
    Calls Try.prog 8 #[ruleV s r v, .int .i64 q] w fun e w' => e = .returned (.int .i64 (q + n)) ∧ Below w.heap.size w w' := by
  have HH := hid h
  obtain ⟨ao, cap, rfl, _, _, _⟩ := h
  have h1 : decide (q + (n : Int) < 0) = false := by simp; omega
  have H0 := hid h0
  have HQ := hid hq
  clear h0 hq
  go_enter Try.func8, Try.ntmps8
  go_wp2_with fail
  go_at_call 21
  refine (heldS (HH.out.keep (below1 _ _) (Nat.le_refl _)) H0.out HQ.out).mono ?_
  rintro e w4 ⟨rfl, rfl⟩
  go_wp2
  go_ret
  exact ⟨rfl, below1 _ _⟩

end Go.Proofs.Ytlecpilgimiaaaa.Help
