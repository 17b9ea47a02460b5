/- The package's two variables hold what their texts lay. -/
import Derived.Test.YtnpjhhkhdeomcaaDoorWay
import Derived.Test.YtnpjhhkhdeomcaaDoorRows
import Derived.ProofKit
import Derived.OpenShut
import Derived.ChangeSame
import Derived.LaidMore
import Derived.MakeChecks
import Derived.Stop.Joined
namespace Go.Proofs.YtnpjhhkhdeomcaaDoor.Laid2
open Go.ChangeShapes Go.WideShapes Go.ChangeAt Go.RowKit Go.Proofs.YtnpjhhkhdeomcaaDoor.Bes Go.Proofs.YtnpjhhkhdeomcaaDoor.Way
set_option linter.unusedVariables false
set_option linter.unusedSimpArgs false

abbrev nameW : String := "loop.example/g01381/impl.fourWays"
theorem gNo : Tryd.prog.globalNamed nameW = some 0 := by kernel_rfl
theorem gTy : (Tryd.prog.globals[0]?).map (·.type) = some 95 := by kernel_rfl
theorem c49 : Tryd.prog.cellsOf 54 = 2 := by kernel_rfl
theorem c77 : Tryd.prog.cellsOf 95 = 8 := by kernel_rfl
theorem c2 : Tryd.prog.cellsOf 2 = 1 := by kernel_rfl

theorem pair {H : Type} {enc : TypeId × Value → H} {W : World} {base : Nat} {spare : Nat → Bool} {held : Bool} {m : Nat} {a b : Value} {x : DataW H × List MemPlace} {i j : Int}
    (h : DataW.trod enc Tryd.prog W base spare held m 54 [a, b] = some x) (e : x.1 = .agg [.lit (.int .i64 i), .lit (.int .i64 j)]) : a = .int .i64 i ∧ b = .int .i64 j := by
  obtain ⟨y0, y1, n, rfl, _, h0, h1⟩ := trod_struct2 Tryd.underlying54 h
  simp only [c2, List.drop_zero, List.take_succ_cons, List.take_zero, List.drop_succ_cons] at h0 h1
  obtain ⟨k0, e0, f0, _⟩ := DataW.trod_int Tryd.underlying2 h0
  obtain ⟨k1, e1, f1, _⟩ := DataW.trod_int Tryd.underlying2 h1
  simp at e0 e1 e
  subst e0 e1
  rw [f0, f1] at e
  simp at e
  rw [e.1, e.2]
  exact ⟨rfl, rfl⟩

abbrev nameS : String := "loop.example/g01381/impl.sixWays"
theorem gNo6 : Tryd.prog.globalNamed nameS = some 1 := by kernel_rfl
theorem gTy6 : (Tryd.prog.globals[1]?).map (·.type) = some 103 := by kernel_rfl
theorem c103 : Tryd.prog.cellsOf 103 = 12 := by kernel_rfl
abbrev LL {H : Type} : List (String × DataW H) := [("loop.example/g01381/impl.fourWays", Rows.laid_loop_example_g01381_impl_fourWays), ("loop.example/g01381/impl.sixWays", Rows.laid_loop_example_g01381_impl_sixWays)]
set_option maxRecDepth 100000 in
theorem gg_of_laid {W : World} (h : laidMetH Tryd.prog [("loop.example/g01381/impl.fourWays", Rows.laid_loop_example_g01381_impl_fourWays), ("loop.example/g01381/impl.sixWays", Rows.laid_loop_example_g01381_impl_sixWays)] W) : GG W := by
  rw [MakeChecks.laidMetH_plain _ _ _ (by kernel_rfl)] at h
  obtain ⟨ps, ⟨g0, t0, cs0, f0, p0, q0, hg0, ht0, hv0, hd0, ⟨g1, t1, cs1, f1, p1, q1, hg1, ht1, hv1, hd1, _, _⟩, _⟩, _, _⟩ := h
  refine ⟨?_, ?_⟩
  · clear hg1 ht1 hv1 hd1
    obtain rfl := Option.some.inj (gNo.symm.trans hg0)
    obtain rfl := Option.some.inj (gTy.symm.trans ht0)
    obtain ⟨xs, m, rfl, hx, hlen, hn, hel⟩ := DataW.trod_array Tryd.underlying95 hd0
    rw [c77] at hlen
    rw [c49] at hel
    match xs, hn with
    | [x0, x1, x2, x3], _ =>
      obtain ⟨l⟩ := cs0
      match l, hlen with
      | [a0, a1, a2, a3, a4, a5, a6, a7], _ =>
        have h0 := hel 0 (by decide)
        have h1 := hel 1 (by decide)
        have h2 := hel 2 (by decide)
        have h3 := hel 3 (by decide)
        simp [Rows.laid_loop_example_g01381_impl_fourWays] at hx
        obtain ⟨⟨e0, e1, e2, e3⟩, _⟩ := hx
        obtain ⟨rfl, rfl⟩ := pair (i := -1) (j := 0) h0 e0.symm
        obtain ⟨rfl, rfl⟩ := pair (i := 0) (j := 1) h1 e1.symm
        obtain ⟨rfl, rfl⟩ := pair (i := 1) (j := 0) h2 e2.symm
        obtain ⟨rfl, rfl⟩ := pair (i := 0) (j := -1) h3 e3.symm
        simp only [World.var?, gNo, Option.bind_some] at hv0
        split at hv0
        · rename_i c t fr hh
          simp at hv0
          subst hv0
          exact ⟨t, fr, hh⟩
        · simp at hv0
  · clear hg0 ht0 hv0 hd0
    obtain rfl := Option.some.inj (gNo6.symm.trans hg1)
    obtain rfl := Option.some.inj (gTy6.symm.trans ht1)
    obtain ⟨xs, m, rfl, hx, hlen, hn, hel⟩ := DataW.trod_array Tryd.underlying103 hd1
    rw [c103] at hlen
    rw [c49] at hel
    match xs, hn with
    | [x0, x1, x2, x3, x4, x5], _ =>
      obtain ⟨l⟩ := cs1
      match l, hlen with
      | [a0, a1, a2, a3, a4, a5, a6, a7, a8, a9, a10, a11], _ =>
        have h0 := hel 0 (by decide)
        have h1 := hel 1 (by decide)
        have h2 := hel 2 (by decide)
        have h3 := hel 3 (by decide)
        have h4 := hel 4 (by decide)
        have h5 := hel 5 (by decide)
        simp [Rows.laid_loop_example_g01381_impl_sixWays] at hx
        obtain ⟨⟨e0, e1, e2, e3, e4, e5⟩, _⟩ := hx
        obtain ⟨rfl, rfl⟩ := pair (i := 0) (j := 1) h0 e0.symm
        obtain ⟨rfl, rfl⟩ := pair (i := -1) (j := 1) h1 e1.symm
        obtain ⟨rfl, rfl⟩ := pair (i := -1) (j := 0) h2 e2.symm
        obtain ⟨rfl, rfl⟩ := pair (i := 0) (j := -1) h3 e3.symm
        obtain ⟨rfl, rfl⟩ := pair (i := 1) (j := -1) h4 e4.symm
        obtain ⟨rfl, rfl⟩ := pair (i := 1) (j := 0) h5 e5.symm
        simp only [World.var?, gNo6, Option.bind_some] at hv1
        split at hv1
        · rename_i c t fr hh
          simp at hv1
          subst hv1
          exact ⟨t, fr, hh⟩
        · simp at hv1
end Go.Proofs.YtnpjhhkhdeomcaaDoor.Laid2
