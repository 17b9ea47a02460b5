/- JoinRules of both sides. -/
import Derived.Test.YtejchjjkehmgaaaJoiI
import Derived.Test.YtejchjjkehmgaaaJoiS
namespace Go.Proofs.Ytejchjjkehmgaaa.JoiA
open Go.RowKit Go.Proofs.Ytejchjjkehmgaaa.Rd Go.Proofs.Ytejchjjkehmgaaa.Help Go.Proofs.Ytejchjjkehmgaaa.Ring Go.Proofs.Ytejchjjkehmgaaa.Small Go.Proofs.Ytejchjjkehmgaaa.Num Go.Proofs.Ytejchjjkehmgaaa.Keep Go.Proofs.Ytejchjjkehmgaaa.Rule Go.Proofs.Ytejchjjkehmgaaa.Dig Go.Proofs.Ytejchjjkehmgaaa.DigP Go.Proofs.Ytejchjjkehmgaaa.Tell Go.Proofs.Ytejchjjkehmgaaa.Joi
set_option linter.unusedVariables false

theorem agree (s r : Int) (xs : List Int) (s2 r2 : Int) (ys : List Int) : ∃ (qs qr : Int) (rs : List Int) (q0 : Bool), rs.length ≤ 1000000 ∧ (∀ (w : World) (b1 : Nat) (v1 : Value) (b2 : Nat) (v2 : Value), Rd w b1 v1 xs → Rd w b2 v2 ys → Calls Try.prog 59 #[ruleV s r v1, ruleV s2 r2 v2] w fun e w' => ∃ ao c b', e = .returned (.tuple #[ruleV qs qr (.slice ao rs.length c), .bool q0]) ∧ Own 2 w' b' (.slice ao rs.length c) rs ∧ w.heap.size ≤ b' ∧ Below w.heap.size w w') ∧ (∀ (w : World) (b1 : Nat) (v1 : Value) (b2 : Nat) (v2 : Value), Rd w b1 v1 xs → Rd w b2 v2 ys → Calls Try.prog 60 #[ruleV s r v1, ruleV s2 r2 v2] w fun e w' => ∃ ao c b', e = .returned (.tuple #[ruleV qs qr (.slice ao rs.length c), .bool q0]) ∧ Own 2 w' b' (.slice ao rs.length c) rs ∧ w.heap.size ≤ b' ∧ Below w.heap.size w w') := by
  have none_ : (∀ (w : World) (b1 : Nat) (v1 : Value) (b2 : Nat) (v2 : Value), Rd w b1 v1 xs → Rd w b2 v2 ys → Calls Try.prog 59 #[ruleV s r v1, ruleV s2 r2 v2] w fun e w' => e = .returned (.tuple #[ruleV 0 0 (.slice none 0 0), .bool false]) ∧ Below w.heap.size w w') → (∀ (w : World) (b1 : Nat) (v1 : Value) (b2 : Nat) (v2 : Value), Rd w b1 v1 xs → Rd w b2 v2 ys → Calls Try.prog 60 #[ruleV s r v1, ruleV s2 r2 v2] w fun e w' => e = .returned (.tuple #[ruleV 0 0 (.slice none 0 0), .bool false]) ∧ Below w.heap.size w w') → ∃ (qs qr : Int) (rs : List Int) (q0 : Bool), rs.length ≤ 1000000 ∧ (∀ (w : World) (b1 : Nat) (v1 : Value) (b2 : Nat) (v2 : Value), Rd w b1 v1 xs → Rd w b2 v2 ys → Calls Try.prog 59 #[ruleV s r v1, ruleV s2 r2 v2] w fun e w' => ∃ ao c b', e = .returned (.tuple #[ruleV qs qr (.slice ao rs.length c), .bool q0]) ∧ Own 2 w' b' (.slice ao rs.length c) rs ∧ w.heap.size ≤ b' ∧ Below w.heap.size w w') ∧ (∀ (w : World) (b1 : Nat) (v1 : Value) (b2 : Nat) (v2 : Value), Rd w b1 v1 xs → Rd w b2 v2 ys → Calls Try.prog 60 #[ruleV s r v1, ruleV s2 r2 v2] w fun e w' => ∃ ao c b', e = .returned (.tuple #[ruleV qs qr (.slice ao rs.length c), .bool q0]) ∧ Own 2 w' b' (.slice ao rs.length c) rs ∧ w.heap.size ≤ b' ∧ Below w.heap.size w w') := by
    intro h1 h2
    refine ⟨0, 0, [], false, by simp, fun w b1 v1 b2 v2 k1 k2 => (h1 w b1 v1 b2 v2 k1 k2).mono ?_, fun w b1 v1 b2 v2 k1 k2 => (h2 w b1 v1 b2 v2 k1 k2).mono ?_⟩
    · rintro e w' ⟨rfl, bel⟩
      exact ⟨none, 0, w.heap.size, rfl, Own.nil _ _ _, Nat.le_refl _, bel⟩
    · rintro e w' ⟨rfl, bel⟩
      exact ⟨none, 0, w.heap.size, rfl, Own.nil _ _ _, Nat.le_refl _, bel⟩
  cases hv : validB s r xs with
  | false => exact none_ (fun w b1 v1 b2 v2 k1 k2 => JoiS.specNoA k1 k2 hv) (fun w b1 v1 b2 v2 k1 k2 => JoiI.implNoA k1 k2 hv)
  | true =>
    cases hv2 : validB s2 r2 ys with
    | false => exact none_ (fun w b1 v1 b2 v2 k1 k2 => JoiS.specNoB k1 k2 hv hv2) (fun w b1 v1 b2 v2 k1 k2 => JoiI.implNoB k1 k2 hv hv2)
    | true =>
      by_cases hs : s = s2
      · subst hs
        by_cases h3 : r + r2 ≤ 2
        · obtain ⟨ws, hr1, _, _⟩ := Al.valid_parts hv
          obtain ⟨_, hr2, _, _⟩ := Al.valid_parts hv2
          obtain ⟨LA, hLA⟩ : ∃ L : Nat, (L : Int) = 2 * r + 1 := ⟨(2 * r + 1).toNat, by omega⟩
          obtain ⟨LB, hLB⟩ : ∃ L : Nat, (L : Int) = 2 * r2 + 1 := ⟨(2 * r2 + 1).toNat, by omega⟩
          obtain ⟨LL, hLL⟩ : ∃ L : Nat, L + 1 = LA + LB := ⟨LA + LB - 1, by omega⟩
          obtain ⟨M, hM⟩ : ∃ M : Nat, (M : Int) = s ^ LL := ⟨(s ^ LL).toNat, by have := pow_pos' ws LL; omega⟩
          have hM2 : 1 ≤ M ∧ M ≤ 243 := by have := pow_bd ws (show LL ≤ 5 by omega); omega
          refine ⟨s, r + r2, tab (joinT s xs ys LA LB LL) M, true, by rw [tab_length]; omega, fun w b1 v1 b2 v2 k1 k2 => (JoiS.specOk k1 k2 hv hv2 h3 hLA hLB hLL hM).mono ?_, fun w b1 v1 b2 v2 k1 k2 => (JoiI.implOk k1 k2 hv hv2 h3 hLA hLB hLL hM).mono ?_⟩
          · rintro e w' ⟨v', b', rfl, own, lo, bel⟩
            rcases own.form with ⟨rfl, hz⟩ | ⟨c', rfl, _⟩
            · have := tab_length (joinT s xs ys LA LB LL) M; rw [hz] at this; simp at this; omega
            · exact ⟨_, _, b', rfl, own, lo, bel⟩
          · rintro e w' ⟨b', rfl, own, lo, bel⟩
            exact ⟨_, _, b', by rw [tab_length], by rw [tab_length]; exact own, lo, bel⟩
        · exact none_ (fun w b1 v1 b2 v2 k1 k2 => JoiS.specNoD k1 k2 hv hv2 h3) (fun w b1 v1 b2 v2 k1 k2 => JoiI.implNoD k1 k2 hv hv2 h3)
      · exact none_ (fun w b1 v1 b2 v2 k1 k2 => JoiS.specNoC k1 k2 hv hv2 hs) (fun w b1 v1 b2 v2 k1 k2 => JoiI.implNoC k1 k2 hv hv2 hs)

end Go.Proofs.Ytejchjjkehmgaaa.JoiA
