/- markLife of the laws over lives. -/
import Derived.Test.YtonghkooncmjgaaLife
import Derived.Test.YtonghkooncmjgaaLawKit
namespace Go.Proofs.Ytonghkooncmjgaa.Help
open Go.RowKit Go.Proofs.Ytonghkooncmjgaa.Rd Go.Proofs.Ytonghkooncmjgaa.Keep Go.Proofs.Ytonghkooncmjgaa.Rule
set_option linter.unusedVariables false
set_option linter.unusedSimpArgs false

set_option maxHeartbeats 2000000 in
theorem markL {w : World} {b1 b2 n1 c1 n2 c2 : Nat} {xs ys : List Int} {q : Int} (h1 : Own 2 w b1 (.slice (some ⟨b1, 0, none⟩) n1 c1) xs) (h2 : Own 2 w b2 (.slice (some ⟨b2, 0, none⟩) n2 c2) ys) (hne : b1 ≠ b2) (h0 : 0 ≤ q) (hx : xs.length ≤ 1048576) (hy : ys.length ≤ 1048576) (hq : q ≤ 1000000000) :
    Calls Try.prog 70 #[lifeV (.slice (some ⟨b1, 0, none⟩) n1 c1) (.slice (some ⟨b2, 0, none⟩) n2 c2), .int .i64 q] w fun e w' => e = .returned (.int .i64 (q + xs.length + ys.length)) ∧
      ∃ wm, Own 2 w' b1 (.slice (some ⟨b1, 0, none⟩) n1 c1) (marks q xs.length) ∧ Own 2 w' b2 (.slice (some ⟨b2, 0, none⟩) n2 c2) (marks (q + xs.length) ys.length) ∧ w.grownBy wm (some b1) ∧ wm.grownBy w' (some b2) := by
  have H1 := hid h1
  have H2 := hid h2
  have HN := hid hne
  have H0 := hid h0
  have HB := hid (And.intro hx (And.intro hy hq))
  clear h1 h2 hne h0 hx hy hq
  go_enter Try.func70, Try.ntmps70
  go_wp2_with fail
  obtain ⟨W2, hW⟩ : ∃ W2, W2 = w.alloc (Obj.cells #[Value.slice (some ⟨b1, 0, none⟩) n1 c1, Value.slice (some ⟨b2, 0, none⟩) n2 c2] 35) := ⟨_, rfl⟩
  obtain ⟨N, hN⟩ : ∃ N, N = w.heap.size := ⟨_, rfl⟩
  have B2 : Below w.heap.size w W2 := by rw [hW]; exact below1 _ _
  have m1 : W2.cell? ⟨N, 1, none⟩ = some (.slice (some ⟨b2, 0, none⟩) n2 c2) := by rw [hW, hN]; simp
  have HNb : Hid (N ≠ b1 ∧ N ≠ b2) := by have := H1.out.lt; have := H2.out.lt; simp only [Hid]; omega
  simp only [← hW, ← hN]
  clear hW hN
  go_at_call 53
  refine (markSB (H1.out.keep B2) H0.out (by have := HB.out; omega)).mono ?_
  rintro e w3 ⟨rfl, o1, g, gn⟩
  have m1' := mcell g m1 HNb.out.1
  have o2 := beside (H2.out.keep B2) g (.inr (Ne.symm HN.out))
  have HG1 := hid (grown_after B2 g)
  have HO1 := hid o1
  have HO2 := hid o2
  have h0' : 0 ≤ q + (xs.length : Int) := by have := H0.out; omega
  clear g gn m1 B2 o1 o2
  go_wp2_with fail
  go_at_call 53
  refine (markSB HO2.out h0' (by have := HB.out; omega)).mono ?_
  rintro e w4 ⟨rfl, o2, g, gn⟩
  have o1 := beside HO1.out g (.inr HN.out)
  have HF := hid (And.intro o1 (And.intro o2 g))
  clear o1 o2 g gn m1'
  go_wp2
  go_ret
  exact ⟨rfl, w3, HF.out.1, HF.out.2.1, HG1.out, HF.out.2.2⟩

end Go.Proofs.Ytonghkooncmjgaa.Help
