/- spec.l04Settle: heaps that fall, the model. -/
import Derived.Test.YtmbimekndhcgaaaDoorHeb
import Derived.Test.YtmbimekndhcgaaaDoorSOwn
import Derived.StillTailTactics
import Derived.Deep.Cut
namespace Go.Proofs.YtmbimekndhcgaaaDoor.Set
open Go.RowKit Go.Proofs.YtmbimekndhcgaaaDoor.Rd Go.Proofs.YtmbimekndhcgaaaDoor.Help Go.Proofs.YtmbimekndhcgaaaDoor.Small Go.Proofs.YtmbimekndhcgaaaDoor.FVal Go.Proofs.YtmbimekndhcgaaaDoor.Keep Go.Proofs.YtmbimekndhcgaaaDoor.Rule Go.Proofs.YtmbimekndhcgaaaDoor.Grow Go.Proofs.YtmbimekndhcgaaaDoor.Sbe Go.Proofs.YtmbimekndhcgaaaDoor.Sfi Go.Proofs.YtmbimekndhcgaaaDoor.FMir Go.Proofs.YtmbimekndhcgaaaDoor.Hea Go.Proofs.YtmbimekndhcgaaaDoor.Heb
set_option linter.unusedVariables false
set_option linter.unusedSimpArgs false

theorem take_one {L : List Nat} {i : Nat} (h : i < L.length) : L.take (i + 1) = L.take i ++ [L.getD i 0] := by
  rw [List.take_add_one, List.getElem?_eq_getElem h, List.getD_eq_getElem?_getD, List.getElem?_eq_getElem h]; rfl
theorem take_mem {L : List Nat} {i x : Nat} (h : x ∈ L.take i) : x ∈ L := List.mem_of_mem_take h
theorem cell_bd {n : Nat} {T : Int} {y : List Int} {a x : Nat} {L : List Nat} (hg : Hgd n T y) (h4 : 4 ≤ y.getD a 0) (ha : a < n) (hL : ∀ z ∈ L, z < n) (hlen : L.length ≤ 4) :
    0 ≤ (addAll (y.set a (y.getD a 0 - 4)) L).getD x 0 ∧ (addAll (y.set a (y.getD a 0 - 4)) L).getD x 0 ≤ T + 4 := by
  have hs : (y.set a (y.getD a 0 - 4)).length = n := by rw [List.length_set, hg.1]
  rw [addAll_get x L _ (fun z hz => by rw [hs]; exact hL z hz), getD_set]
  have h1 := hg.le x
  have h2 := hg.le a
  have h3 : L.count x ≤ L.length := List.count_le_length
  have hay : a < y.length := by rw [hg.1]; exact ha
  by_cases hx : x = a
  · rw [if_pos ⟨hx, hay⟩]; omega
  · rw [if_neg (fun e => hx e.1)]; omega
theorem meas {M j n a a2 : Nat} (hj : j < M) (ha : a ≤ n) (ha2 : a2 ≤ n) : (M - (j + 1)) * (n + 1) + (n - a2) < (M - j) * (n + 1) + (n - a) := by
  obtain ⟨d, hd⟩ : ∃ d, M - j = d + 1 := ⟨M - j - 1, by omega⟩
  rw [show M - (j + 1) = d by omega, hd, Nat.succ_mul]
  omega

end Go.Proofs.YtmbimekndhcgaaaDoor.Set
