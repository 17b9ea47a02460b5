/- impl.rowOf: a row of a field. -/
import Derived.Test.YtonghkooncmjgaaFNew
namespace Go.Proofs.Ytonghkooncmjgaa.Row
open Go.RowKit Go.Proofs.Ytonghkooncmjgaa.Rd Go.Proofs.Ytonghkooncmjgaa.Help Go.Proofs.Ytonghkooncmjgaa.Ring Go.Proofs.Ytonghkooncmjgaa.Small Go.Proofs.Ytonghkooncmjgaa.FVal Go.Proofs.Ytonghkooncmjgaa.Keep Go.Proofs.Ytonghkooncmjgaa.Rule
set_option linter.unusedVariables false
set_option linter.unusedSimpArgs false

theorem row_in {R C row : Nat} (hrow : row < R) : row * C + C ≤ R * C := by
  have : (row + 1) * C ≤ R * C := Nat.mul_le_mul_right C (by omega)
  rw [Nat.succ_mul] at this; exact this

set_option maxHeartbeats 1000000 in
theorem rowOf {w : World} {R C n b off cap row : Nat} (hn : n = R * C) (hle : n ≤ 576) (hrow : row < R) (hR : R ≤ 24) (hC : 1 ≤ C ∧ C ≤ 24) (hcap : n ≤ cap) (hmx : cap ≤ maxLen) :
    Calls Try.prog 194 #[ruleV R C (.slice (some ⟨b, off, none⟩) n cap), .int .i64 row] w fun e w' => e = .returned (.slice (some ⟨b, off + row * C, none⟩) C C) ∧ Below w.heap.size w w' := by
  have hin := row_in (C := C) hrow
  rw [← hn] at hin
  obtain ⟨L, hL⟩ : ∃ L, L = row * C := ⟨_, rfl⟩
  have hm1 : (row : Int) * (C : Int) = (L : Int) := by rw [hL]; simp
  have hm2 : ((row : Int) + 1) * (C : Int) = (L : Int) + (C : Int) := by rw [Int.add_mul, hm1]; simp
  rw [← hL] at hin ⊢
  have h1 : IntKind.i64.wrap ((row : Int) * (C : Int)) = (L : Int) := by rw [hm1, IntKind.wrap_i64]; omega
  have h2 : IntKind.i64.wrap ((row : Int) + 1) = (row : Int) + 1 := by rw [IntKind.wrap_i64]; omega
  have h3 : IntKind.i64.wrap (((row : Int) + 1) * (C : Int)) = ((L + C : Nat) : Int) := by rw [hm2, IntKind.wrap_i64]; omega
  have hcap2 : L + C ≤ cap := by omega
  have hcap3 : ¬ cap = L := by omega
  have hmx2 : cap ≤ 9223372036854775807 := by unfold maxLen at hmx; omega
  obtain ⟨C1, C2⟩ := hC
  clear hm1 hm2 hn hL hmx hrow hR
  go_enter Try.func194, Try.ntmps194
  go_wp2_with fail
  go_quiet (fail)
  go_wp2
  simp only [Nat.add_sub_cancel_left]
  go_ret
  exact ⟨rfl, (below1 _ _).trans (FSpec.below_drewN' _ _ _)⟩

end Go.Proofs.Ytonghkooncmjgaa.Row
