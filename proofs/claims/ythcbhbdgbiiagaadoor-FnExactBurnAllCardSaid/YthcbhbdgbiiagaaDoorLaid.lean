/- The package's variable holds what its text lays. -/
import Derived.Test.YthcbhbdgbiiagaaDoorBes
import Derived.Test.YthcbhbdgbiiagaaDoorRows
import Derived.ProofKit
import Derived.OpenShut
import Derived.ChangeSame
import Derived.LaidMore
import Derived.MakeChecks
import Derived.Stop.Joined
namespace Go.Proofs.YthcbhbdgbiiagaaDoor.Laid
open Go.ChangeShapes Go.WideShapes Go.ChangeAt Go.RowKit Go.Proofs.YthcbhbdgbiiagaaDoor.Bes
set_option linter.unusedVariables false
set_option linter.unusedSimpArgs false

abbrev nameW : String := "loop.example/g01381/impl.fourWays"
theorem gNo : Tryd.prog.globalNamed nameW = some 0 := by kernel_rfl
theorem gTy : (Tryd.prog.globals[0]?).map (·.type) = some 70 := by kernel_rfl
theorem c49 : Tryd.prog.cellsOf 60 = 2 := by kernel_rfl
theorem c77 : Tryd.prog.cellsOf 70 = 8 := by kernel_rfl
theorem c2 : Tryd.prog.cellsOf 2 = 1 := by kernel_rfl

theorem pair {H : Type} {enc : TypeId × Value → H} {W : World} {base : Nat} {spare : Nat → Bool} {held : Bool} {m : Nat} {a b : Value} {x : DataW H × List MemPlace} {i j : Int}
    (h : DataW.trod enc Tryd.prog W base spare held m 60 [a, b] = some x) (e : x.1 = .agg [.lit (.int .i64 i), .lit (.int .i64 j)]) : a = .int .i64 i ∧ b = .int .i64 j := by
  obtain ⟨y0, y1, n, rfl, _, h0, h1⟩ := trod_struct2 Tryd.underlying60 h
  simp only [c2, List.drop_zero, List.take_succ_cons, List.take_zero, List.drop_succ_cons] at h0 h1
  obtain ⟨k0, e0, f0, _⟩ := DataW.trod_int Tryd.underlying2 h0
  obtain ⟨k1, e1, f1, _⟩ := DataW.trod_int Tryd.underlying2 h1
  simp at e0 e1 e
  subst e0 e1
  rw [f0, f1] at e
  simp at e
  rw [e.1, e.2]
  exact ⟨rfl, rfl⟩

set_option maxRecDepth 100000 in
theorem gw_of_laid {W : World} (h : laidMetH Tryd.prog [("loop.example/g01381/impl.fourWays", Rows.laid_loop_example_g01381_impl_fourWays)] W) : GW W := by
  rw [MakeChecks.laidMetH_plain _ _ _ (by kernel_rfl)] at h
  obtain ⟨ps, ⟨g0, t0, cs0, f0, p0, q0, hg0, ht0, hv0, hd0, _, _⟩, _, _⟩ := h
  obtain rfl := Option.some.inj (gNo.symm.trans hg0)
  obtain rfl := Option.some.inj (gTy.symm.trans ht0)
  obtain ⟨xs, m, rfl, hx, hlen, hn, hel⟩ := DataW.trod_array Tryd.underlying70 hd0
  rw [c77] at hlen
  rw [c49] at hel
  match xs, hn with
  | [x0, x1, x2, x3], _ =>
    obtain ⟨l⟩ := cs0
    match l, hlen with
    | [a0, a1, a2, a3, a4, a5, a6, a7], _ =>
      have h0 := hel 0 (by decide)
      have h1 := hel 1 (by decide)
      have h2 := hel 2 (by decide)
      have h3 := hel 3 (by decide)
      simp [Rows.laid_loop_example_g01381_impl_fourWays] at hx
      obtain ⟨⟨e0, e1, e2, e3⟩, _⟩ := hx
      obtain ⟨rfl, rfl⟩ := pair (i := -1) (j := 0) h0 e0.symm
      obtain ⟨rfl, rfl⟩ := pair (i := 0) (j := 1) h1 e1.symm
      obtain ⟨rfl, rfl⟩ := pair (i := 1) (j := 0) h2 e2.symm
      obtain ⟨rfl, rfl⟩ := pair (i := 0) (j := -1) h3 e3.symm
      simp only [World.var?, gNo, Option.bind_some] at hv0
      split at hv0
      · rename_i c t fr hh
        simp at hv0
        subst hv0
        exact ⟨t, fr, hh⟩
      · simp at hv0
end Go.Proofs.YthcbhbdgbiiagaaDoor.Laid
