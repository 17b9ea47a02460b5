/- RingText of both sides. -/
import Derived.Test.YtonghkooncmjgaaDgt
import Derived.Test.YtonghkooncmjgaaDsk
namespace Go.Proofs.Ytonghkooncmjgaa.RTx
open Go.RowKit Go.Proofs.Ytonghkooncmjgaa.Rd Go.Proofs.Ytonghkooncmjgaa.Help Go.Proofs.Ytonghkooncmjgaa.Ring Go.Proofs.Ytonghkooncmjgaa.Small Go.Proofs.Ytonghkooncmjgaa.Keep Go.Proofs.Ytonghkooncmjgaa.Dgt
set_option linter.unusedVariables false
set_option linter.unusedSimpArgs false

def val (zs : List Int) : ByteArray := if ringB zs 3 = true then ⟨(dgL zs).toArray⟩ else ⟨#[]⟩
theorem d9_of {st : Int} {zs : List Int} (hs : st ≤ 10) (h : allB zs st = true) : D9 zs := by
  intro i hi
  have := List.all_eq_true.1 h (zs.getD i 0) (by rw [List.getD_eq_getElem?_getD, List.getElem?_eq_getElem hi]; exact List.getElem_mem hi)
  simp only [okB, decide_eq_true_eq] at this
  omega
theorem ring9 {zs : List Int} (h : ringB zs 3 = true) : D9 zs ∧ zs.length ≤ 1048576 := by
  simp only [ringB, Bool.and_eq_true, decide_eq_true_eq] at h
  exact ⟨d9_of (by decide) h.1, by omega⟩
theorem implOk {w : World} {b : Nat} {v : Value} {zs : List Int} (h : Rd w b v zs) :
    Calls Try.prog 30 #[v] w fun e w' => e = .returned (.tuple #[.string (val zs), .bool (ringB zs 3)]) ∧ Below w.heap.size w w' := by
  have HH := hid h
  obtain ⟨ao, cap, rfl, _, _, _⟩ := h
  cases hq : ringB zs 3 with
  | false =>
    have hv : val zs = ⟨#[]⟩ := by unfold val; rw [hq]; rfl
    rw [hv]
    have HQ := hid hq
    clear hq hv
    go_enter Try.func30, Try.ntmps30
    go_wp2_with fail
    go_at_call 74
    refine (Dsk.ring3 HH.out).mono ?_
    rw [HQ.out]
    rintro e w2 ⟨rfl, bel⟩
    go_wp2
    go_ret2
    exact ⟨rfl, bel⟩
  | true =>
    have hv : val zs = ⟨(dgL zs).toArray⟩ := by unfold val; rw [hq]; rfl
    rw [hv]
    have HQ := hid hq
    have H9 := hid (ring9 hq)
    clear hq hv
    go_enter Try.func30, Try.ntmps30
    go_wp2_with fail
    go_at_call 74
    refine (Dsk.ring3 HH.out).mono ?_
    rw [HQ.out]
    rintro e w2 ⟨rfl, bel⟩
    have HB := hid (show Below w.heap.size w w2 from bel)
    go_wp2_with fail
    go_at_call 90
    refine (Dgt.impl (HH.out.keep HB.out (Nat.le_refl _)) H9.out.1 H9.out.2).mono ?_
    rintro e w3 ⟨rfl, bel⟩
    have HB3 := hid (HB.out.trans (bel.mono HB.out.size))
    clear bel
    go_wp2
    go_ret2
    exact ⟨rfl, HB3.out⟩

theorem specOk {w : World} {b : Nat} {v : Value} {zs : List Int} (h : Rd w b v zs) :
    Calls Try.prog 28 #[v] w fun e w' => e = .returned (.tuple #[.string (val zs), .bool (ringB zs 3)]) ∧ Below w.heap.size w w' := by
  have HH := hid h
  obtain ⟨ao, cap, rfl, _, _, _⟩ := h
  cases hq : ringB zs 3 with
  | false =>
    have hv : val zs = ⟨#[]⟩ := by unfold val; rw [hq]; rfl
    rw [hv]
    have HQ := hid hq
    clear hq hv
    go_enter Try.func28, Try.ntmps28
    go_wp2_with fail
    go_at_call 88
    refine (Ring.specL02Ring HH.out (by decide)).mono ?_
    rw [HQ.out]
    rintro e w2 ⟨rfl, hE⟩
    go_wp2
    go_ret2
    exact ⟨rfl, hE ▸ Below.refl _ _⟩
  | true =>
    have hv : val zs = ⟨(dgL zs).toArray⟩ := by unfold val; rw [hq]; rfl
    rw [hv]
    have HQ := hid hq
    have H9 := hid (ring9 hq)
    clear hq hv
    go_enter Try.func28, Try.ntmps28
    go_wp2_with fail
    go_at_call 88
    refine (Ring.specL02Ring HH.out (by decide)).mono ?_
    rw [HQ.out]
    rintro e w2 ⟨rfl, hE⟩
    have HB := hid (show Below w.heap.size w w2 from hE ▸ Below.refl _ _)
    go_wp2_with fail
    go_at_call 89
    refine (Dgt.spec (HH.out.keep HB.out (Nat.le_refl _)) H9.out.1 H9.out.2).mono ?_
    rintro e w3 ⟨rfl, bel⟩
    have HB3 := hid (HB.out.trans (bel.mono HB.out.size))
    clear bel
    go_wp2
    go_ret2
    exact ⟨rfl, HB3.out⟩

end Go.Proofs.Ytonghkooncmjgaa.RTx
