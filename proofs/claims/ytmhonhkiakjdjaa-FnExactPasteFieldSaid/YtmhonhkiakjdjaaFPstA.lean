/- PasteField of both sides: one answer. -/
import Derived.Deep.Cut
import Derived.Test.YtmhonhkiakjdjaaFPst
import Derived.Test.YtmhonhkiakjdjaaFPstI
namespace Go.Proofs.Ytmhonhkiakjdjaa.FPstA
open Go.RowKit Go.Proofs.Ytmhonhkiakjdjaa.Rd Go.Proofs.Ytmhonhkiakjdjaa.Help Go.Proofs.Ytmhonhkiakjdjaa.Ring Go.Proofs.Ytmhonhkiakjdjaa.Small Go.Proofs.Ytmhonhkiakjdjaa.FVal Go.Proofs.Ytmhonhkiakjdjaa.Keep Go.Proofs.Ytmhonhkiakjdjaa.Rule Go.Proofs.Ytmhonhkiakjdjaa.Grow Go.Proofs.Ytmhonhkiakjdjaa.Copy Go.Proofs.Ytmhonhkiakjdjaa.FCut Go.Proofs.Ytmhonhkiakjdjaa.FPst Go.Proofs.Ytmhonhkiakjdjaa.FPstI
set_option linter.unusedVariables false
set_option linter.unusedSimpArgs false

theorem agree (s r : Int) (zs : List Int) (s' r' : Int) (ps : List Int) (row col : Int) : ∃ (qs qr : Int) (rs : List Int) (ok : Bool), rs.length ≤ 1000000 ∧
    (∀ (w : World) (b : Nat) (v : Value) (b2 : Nat) (v2 : Value), Rd w b v zs → Rd w b2 v2 ps → Calls Try.prog 11 #[ruleV s r v, ruleV s' r' v2, .int .i64 row, .int .i64 col] w fun e w' => ∃ ao c b', e = .returned (.tuple #[ruleV qs qr (.slice ao rs.length c), .bool ok]) ∧ Own 2 w' b' (.slice ao rs.length c) rs ∧ w.heap.size ≤ b' ∧ Below w.heap.size w w') ∧
    (∀ (w : World) (b : Nat) (v : Value) (b2 : Nat) (v2 : Value), Rd w b v zs → Rd w b2 v2 ps → Calls Try.prog 13 #[ruleV s r v, ruleV s' r' v2, .int .i64 row, .int .i64 col] w fun e w' => ∃ ao c b', e = .returned (.tuple #[ruleV qs qr (.slice ao rs.length c), .bool ok]) ∧ Own 2 w' b' (.slice ao rs.length c) rs ∧ w.heap.size ≤ b' ∧ Below w.heap.size w w') := by
  have none_ : (∀ (w : World) (b : Nat) (v : Value) (b2 : Nat) (v2 : Value), Rd w b v zs → Rd w b2 v2 ps → Calls Try.prog 11 #[ruleV s r v, ruleV s' r' v2, .int .i64 row, .int .i64 col] w fun e w' => e = .returned (.tuple #[ruleV 0 0 (.slice none 0 0), .bool false]) ∧ Below w.heap.size w w') → (∀ (w : World) (b : Nat) (v : Value) (b2 : Nat) (v2 : Value), Rd w b v zs → Rd w b2 v2 ps → Calls Try.prog 13 #[ruleV s r v, ruleV s' r' v2, .int .i64 row, .int .i64 col] w fun e w' => e = .returned (.tuple #[ruleV 0 0 (.slice none 0 0), .bool false]) ∧ Below w.heap.size w w') →
      ∃ (qs qr : Int) (rs : List Int) (ok : Bool), rs.length ≤ 1000000 ∧
    (∀ (w : World) (b : Nat) (v : Value) (b2 : Nat) (v2 : Value), Rd w b v zs → Rd w b2 v2 ps → Calls Try.prog 11 #[ruleV s r v, ruleV s' r' v2, .int .i64 row, .int .i64 col] w fun e w' => ∃ ao c b', e = .returned (.tuple #[ruleV qs qr (.slice ao rs.length c), .bool ok]) ∧ Own 2 w' b' (.slice ao rs.length c) rs ∧ w.heap.size ≤ b' ∧ Below w.heap.size w w') ∧
    (∀ (w : World) (b : Nat) (v : Value) (b2 : Nat) (v2 : Value), Rd w b v zs → Rd w b2 v2 ps → Calls Try.prog 13 #[ruleV s r v, ruleV s' r' v2, .int .i64 row, .int .i64 col] w fun e w' => ∃ ao c b', e = .returned (.tuple #[ruleV qs qr (.slice ao rs.length c), .bool ok]) ∧ Own 2 w' b' (.slice ao rs.length c) rs ∧ w.heap.size ≤ b' ∧ Below w.heap.size w w') := by
    intro h1 h2
    refine ⟨0, 0, [], false, by simp, fun w b v b2 v2 h k => (h1 w b v b2 v2 h k).mono ?_, fun w b v b2 v2 h k => (h2 w b v b2 v2 h k).mono ?_⟩
    · rintro e w' ⟨rfl, bel⟩
      exact ⟨none, 0, w.heap.size, rfl, Own.nil _ _ _, Nat.le_refl _, bel⟩
    · rintro e w' ⟨rfl, bel⟩
      exact ⟨none, 0, w.heap.size, rfl, Own.nil _ _ _, Nat.le_refl _, bel⟩
  cases hq : fieldB s r zs with
  | false => exact none_ (fun w b v b2 v2 h k => specNo1 h k hq) (fun w b v b2 v2 h k => implNo1 h k hq)
  | true =>
    cases hp : fieldB s' r' ps with
    | false => exact none_ (fun w b v b2 v2 h k => specNo2 h k hq hp) (fun w b v b2 v2 h k => implNo2 h k hq hp)
    | true =>
      cases hk : cutB s r row col s' r' with
      | false => exact none_ (fun w b v b2 v2 h k => specNo3 h k hq hp hk) (fun w b v b2 v2 h k => implNo3 h k hq hp hk)
      | true =>
        have hb : (1 ≤ s ∧ s ≤ 24) ∧ 1 ≤ r ∧ r ≤ 24 := by
          have hq2 := hq
          simp only [fieldB, Bool.and_eq_true] at hq2
          have := hq2.1
          simp [sidesB] at this; omega
        have hk2 := of_decide_eq_true hk
        obtain ⟨R, rfl⟩ := Int.eq_ofNat_of_zero_le (show 0 ≤ s by omega)
        obtain ⟨C, rfl⟩ := Int.eq_ofNat_of_zero_le (show 0 ≤ r by omega)
        obtain ⟨ra, rfl⟩ := Int.eq_ofNat_of_zero_le (show 0 ≤ row by omega)
        obtain ⟨rb, rfl⟩ := Int.eq_ofNat_of_zero_le (show 0 ≤ col by omega)
        obtain ⟨P, rfl⟩ := Int.eq_ofNat_of_zero_le (show 0 ≤ s' by omega)
        obtain ⟨Q, rfl⟩ := Int.eq_ofNat_of_zero_le (show 0 ≤ r' by omega)
        have hkn : ra + P ≤ R ∧ rb + Q ≤ C := by omega
        have hlen : (pasteL zs ps R C P Q ra rb).length = R * C := by simp only [pasteL]; rw [grid_len]
        have hle : R * C ≤ 24 * 24 := Nat.mul_le_mul (by omega) (by omega)
        refine ⟨R, C, pasteL zs ps R C P Q ra rb, true, by omega, fun w b v b2 v2 h k => (specOk h k hq hp rfl rfl hkn).mono ?_, fun w b v b2 v2 h k => (implOk h k hq hp rfl rfl hkn).mono ?_⟩
        · rintro e w' ⟨b', kk, rfl, ow, lo, bel⟩
          exact ⟨some ⟨b', 0, none⟩, kk, b', by rw [hlen], by rw [hlen]; exact ow, lo, bel⟩
        · rintro e w' ⟨b', kk, rfl, ow, lo, bel⟩
          exact ⟨some ⟨b', 0, none⟩, kk, b', by rw [hlen], by rw [hlen]; exact ow, lo, bel⟩

end Go.Proofs.Ytmhonhkiakjdjaa.FPstA
