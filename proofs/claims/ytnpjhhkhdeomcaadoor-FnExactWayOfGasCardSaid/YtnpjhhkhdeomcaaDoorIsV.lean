/- isWorld and ValidGas of the program. -/
import Derived.Test.YtnpjhhkhdeomcaaDoorIsX
import Derived.Test.YtnpjhhkhdeomcaaDoorIsY
namespace Go.Proofs.YtnpjhhkhdeomcaaDoor.IsW
open Go.RowKit Go.Proofs.YtnpjhhkhdeomcaaDoor.Rd Go.Proofs.YtnpjhhkhdeomcaaDoor.Rdb Go.Proofs.YtnpjhhkhdeomcaaDoor.Help Go.Proofs.YtnpjhhkhdeomcaaDoor.Ring Go.Proofs.YtnpjhhkhdeomcaaDoor.Small Go.Proofs.YtnpjhhkhdeomcaaDoor.FVal Go.Proofs.YtnpjhhkhdeomcaaDoor.Keep Go.Proofs.YtnpjhhkhdeomcaaDoor.Rule Go.Proofs.YtnpjhhkhdeomcaaDoor.GVal
set_option linter.unusedVariables false
set_option linter.unusedSimpArgs false

theorem isWorldG {w : World} {g s r : Int} {b1 b2 : Nat} {v1 v2 : Value} {xs : List Int} {ys : List Bool} (h1 : Rd w b1 v1 xs) (h2 : RdB w b2 v2 ys) :
    Calls Tryd.prog 62 #[.iface 38 (gasV g s r v1 v2)] w fun e w' => e = .returned (.bool (gasB g s r xs ys)) ∧ Below w.heap.size w w' := by
  cases hs : sd16 s r with
  | false =>
    have e : gasB g s r xs ys = false := by simp [gasB, hs]
    rw [e]; exact wA h1 h2 hs
  | true =>
    by_cases hl : (ys.length : Int) = s * r
    · by_cases h4 : g = 4
      · subst h4
        by_cases hx : (xs.length : Int) = s * r
        · have e : gasB 4 s r xs ys = allB xs 16 := by
            have : ys.length = xs.length := by omega
            simp [gasB, hs, hx, this, top]
          rw [e]; exact wE4 h1 h2 hs hl hx
        · have e : gasB 4 s r xs ys = false := by simp [gasB, hx]
          rw [e]; exact wD4 h1 h2 hs hl hx
      · by_cases h6 : g = 6
        · subst h6
          by_cases hx : (xs.length : Int) = s * r
          · have e : gasB 6 s r xs ys = allB xs 64 := by
              have : ys.length = xs.length := by omega
              simp [gasB, hs, hx, this, top]
            rw [e]; exact wE6 h1 h2 hs hl hx
          · have e : gasB 6 s r xs ys = false := by simp [gasB, hx]
            rw [e]; exact wD6 h1 h2 hs hl hx
        · have e : gasB g s r xs ys = false := by simp [gasB, h4, h6]
          rw [e]; exact wC h1 h2 hs hl (by simpa using h4) (by simpa using h6)
    · have e : gasB g s r xs ys = false := by
        simp only [gasB]
        by_cases hx : (xs.length : Int) = s * r
        · have : ¬ ys.length = xs.length := by omega
          simp [this]
        · simp [hx]
      rw [e]; exact wB h1 h2 hs hl

theorem implValidGas {w : World} {g s r : Int} {b1 b2 : Nat} {v1 v2 : Value} {xs : List Int} {ys : List Bool} (h1 : Rd w b1 v1 xs) (h2 : RdB w b2 v2 ys) :
    Calls Tryd.prog 37 #[gasV g s r v1 v2] w fun e w' => e = .returned (.bool (gasB g s r xs ys)) ∧ Below w.heap.size w w' := by
  have H1 := hid h1
  have H2 := hid h2
  clear h1 h2
  go_enter Tryd.func37, Tryd.ntmps37
  go_wp2_with fail
  go_at_call 62
  refine (isWorldG (H1.out.keep (below1 _ _) (Nat.le_refl _)) (H2.out.keep (below1 _ _) (Nat.le_refl _))).mono ?_
  rintro e w' ⟨rfl, bel⟩
  have HB := hid bel
  clear bel
  go_wp2
  go_ret
  exact ⟨rfl, (below1 _ _).trans (HB.out.mono (below1 _ _).size)⟩

end Go.Proofs.YtnpjhhkhdeomcaaDoor.IsW
