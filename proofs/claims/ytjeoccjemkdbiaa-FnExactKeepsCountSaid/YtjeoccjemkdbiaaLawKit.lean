/- For the walks of the laws: rows that are kept behind a call or a mark. -/
import Derived.Test.YtjeoccjemkdbiaaHelp
namespace Go.Proofs.Ytjeoccjemkdbiaa.Help
open Go.RowKit Go.Proofs.Ytjeoccjemkdbiaa.Rd
set_option linter.unusedVariables false

theorem eqB {w : World} {b1 b2 : Nat} {v1 v2 : Value} {zs : List Int} (h1 : Rd w b1 v1 zs) (h2 : Rd w b2 v2 zs) :
    Calls Try.prog 14 #[v1, v2] w fun e w' => e = .returned (.bool true) ∧ Below w.heap.size w w' := by
  refine (eqS h1 h2).mono ?_
  rintro e w' ⟨rfl, m, rfl⟩
  exact ⟨rfl, Go.Proofs.Ytjeoccjemkdbiaa.Help.below_drewN _ _ _⟩

theorem lim {E : TypeId} {w : World} {b : Nat} {v : Value} {zs : List Int} (h : Own E w b v zs) : v = .slice none 0 0 ∨ b < w.heap.size := by
  rcases h.form with ⟨rfl, _⟩ | ⟨_, _, _, _, h⟩
  · exact .inl rfl
  · exact .inr h

/-- Behind a mark of another row. -/
theorem beside {E : TypeId} {w w' : World} {b c : Nat} {v : Value} {zs : List Int} (h : Own E w b v zs) (g : w.grownBy w' (some c)) (hne : v = .slice none 0 0 ∨ b ≠ c) : Own E w' b v zs := by
  rcases hne with rfl | hne
  · rcases h.form with ⟨_, rfl⟩ | ⟨_, h', _⟩
    · exact Own.nil _ _ _
    · simp at h'
  · exact h.grown g (by simp; omega)

/-- The same, of a row that came later. -/
theorem beside' {E : TypeId} {w w' : World} {b c : Nat} {v vc : Value} {zs : List Int} (h : Own E w b v zs) (g : w.grownBy w' (some c)) (hn : vc = .slice none 0 0 → w' = w) (hne : vc = .slice none 0 0 ∨ c ≠ b) : Own E w' b v zs := by
  rcases hne with hv | hne
  · rw [hn hv]; exact h
  · exact h.grown g (by simp; omega)

/-- An argument behind a mark of a row of the call's own. -/
theorem rd_beside {w0 w w' : World} {b c : Nat} {v : Value} {zs : List Int} {B : Nat} (h : Rd w b v zs) (g : w.grownBy w' (some c)) (hb : 0 < zs.length → b ≠ c) : Rd w' b v zs := by
  obtain ⟨ao, cap, h1, h2, h3, h4⟩ := h
  refine ⟨ao, cap, h1, h2, h3, fun h0 => ?_⟩
  obtain ⟨off, h5, h6, h7⟩ := h4 h0
  have hne := hb h0
  exact ⟨off, h5, Nat.lt_of_lt_of_le h6 g.size, fun i hi => (World.cell?_of_block (w := w) (g.block b h6 (by simp; exact hne))).trans (h7 i hi)⟩

theorem below_mark {B : Nat} {w0 w w' : World} {c : Nat} (bel : Below B w0 w) (g : w.grownBy w' (some c)) (hB : B ≤ w.heap.size) (hc : B ≤ c) : Below B w0 w' :=
  bel.grown g hB (fun k hk => by simp at hk; omega)

theorem hid {p : Prop} (h : p) : Hid p := h

end Go.Proofs.Ytjeoccjemkdbiaa.Help
