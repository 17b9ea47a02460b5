/- Rows of bools: what a []bool reads as (RdB) and what a call owns (OwnB). -/
import Derived.Test.YtbnndbciimfciaaLawKit
import Derived.Lib.SmallJoins
import Derived.OpenShut
namespace Go.Proofs.Ytbnndbciimfciaa.Rdb
open Go.ChangeShapes Go.WideShapes Go.Deep Go.RowKit Go.Joins Go.Proofs.Ytbnndbciimfciaa.Rd
set_option linter.unusedVariables false

/-- The slice v reads in w as the bools zs; if there are any they lie in block b. -/
def RdB (w : World) (b : Nat) (v : Value) (zs : List Bool) : Prop :=
  ∃ (ao : Option Addr) (cap : Nat), v = .slice ao zs.length cap ∧ zs.length ≤ cap ∧ cap ≤ maxLen ∧
    (0 < zs.length → ∃ off, ao = some ⟨b, off, none⟩ ∧ b < w.heap.size ∧ ∀ i, i < zs.length → w.cell? ⟨b, off + i, none⟩ = some (.bool (zs.getD i false)))

theorem RdB.keep {w w' : World} {B b : Nat} {v : Value} {zs : List Bool} (h : RdB w b v zs) (bel : Below B w w') (hB : w.heap.size ≤ B) : RdB w' b v zs := by
  obtain ⟨ao, cap, h1, h2, h3, h4⟩ := h
  refine ⟨ao, cap, h1, h2, h3, fun h0 => ?_⟩
  obtain ⟨off, h5, h6, h7⟩ := h4 h0
  exact ⟨off, h5, Nat.lt_of_lt_of_le h6 bel.size, fun i hi => (bel.cell (p := ⟨b, off + i, none⟩) (Nat.lt_of_lt_of_le h6 hB)).trans (h7 i hi)⟩

theorem RdB.keepAt {w w' : World} {B b : Nat} {v : Value} {zs : List Bool} (h : RdB w b v zs) (bel : Below B w w') (hB : b < B) : RdB w' b v zs := by
  obtain ⟨ao, cap, h1, h2, h3, h4⟩ := h
  refine ⟨ao, cap, h1, h2, h3, fun h0 => ?_⟩
  obtain ⟨off, h5, h6, h7⟩ := h4 h0
  exact ⟨off, h5, Nat.lt_of_lt_of_le h6 bel.size, fun i hi => (bel.cell (p := ⟨b, off + i, none⟩) hB).trans (h7 i hi)⟩

/-- The slice v is one that the call has made: its numbers are zs, its block b. -/
def OwnB (E : TypeId) (w : World) (b : Nat) (v : Value) (zs : List Bool) : Prop :=
  w.ownsRow b E 1 v zs.length (zs.map (Value.bool)) ∧ ∀ k, v.ownBlock = some k → k = b

theorem OwnB.nil (E : TypeId) (w : World) (b : Nat) : OwnB E w b (.slice none 0 0) [] :=
  ⟨World.ownsRow_nil w b E 1, by intro k hk; simp [Value.ownBlock] at hk⟩

theorem OwnB.of {E : TypeId} {w : World} {base : Nat} {v : Value} {n : Nat} {zs : List Bool} (h : w.ownsRow base E 1 v n (zs.map (Value.bool))) :
    ∃ b, base ≤ b ∧ OwnB E w b v zs := by
  obtain ⟨h1, h2⟩ := h
  have hn : n = zs.length := by simpa using h1.symm
  subst hn
  rcases h2 with ⟨rfl, h0⟩ | ⟨g, cap, cur, rfl, hb, r⟩
  · have : zs = [] := List.eq_nil_of_length_eq_zero h0
    subst this
    exact ⟨base, Nat.le_refl _, OwnB.nil _ _ _⟩
  · exact ⟨g, hb, ⟨h1, .inr ⟨g, cap, cur, rfl, Nat.le_refl _, r⟩⟩, by intro k hk; simp [Value.ownBlock] at hk; omega⟩

theorem OwnB.grown {E : TypeId} {w w' : World} {b : Nat} {v : Value} {zs : List Bool} (h : OwnB E w b v zs) {row : Option Nat} (g : w.grownBy w' row) (hne : row ≠ some b) : OwnB E w' b v zs := by
  refine ⟨h.1.kept g ?_, h.2⟩
  cases hv : v.ownBlock with
  | none => exact .inl rfl
  | some k => right; rw [h.2 k hv]; exact fun e => hne e.symm

theorem OwnB.keep {E : TypeId} {w w' : World} {b : Nat} {v : Value} {zs : List Bool} (h : OwnB E w b v zs) (bel : Below w.heap.size w w') : OwnB E w' b v zs :=
  h.grown (below_grown bel) (by simp)

theorem OwnB.keepAt {E : TypeId} {w w' : World} {B b : Nat} {v : Value} {zs : List Bool} (h : OwnB E w b v zs) (bel : Below B w w') (hB : b < B) : OwnB E w' b v zs := by
  obtain ⟨⟨h1, h2⟩, h3⟩ := h
  refine ⟨⟨h1, ?_⟩, h3⟩
  rcases h2 with h2 | ⟨g, cap, cur, rfl, hb, hg, r⟩
  · exact .inl h2
  · have : g = b := h3 g rfl
    subst this
    exact .inr ⟨g, cap, cur, rfl, hb, by rw [bel.block g hB]; exact hg, r⟩

/-- The form of what is owned. -/
theorem OwnB.form {E : TypeId} {w : World} {b : Nat} {v : Value} {zs : List Bool} (h : OwnB E w b v zs) :
    (v = .slice none 0 0 ∧ zs = []) ∨ ∃ cap, v = .slice (some ⟨b, 0, none⟩) zs.length cap ∧ zs.length ≤ cap ∧ cap ≤ maxLen ∧ b < w.heap.size := by
  obtain ⟨⟨h1, h2⟩, h3⟩ := h
  rcases h2 with ⟨rfl, h2⟩ | ⟨g, cap, cur, rfl, hb, hg, hn, hc, r⟩
  · exact .inl ⟨rfl, List.eq_nil_of_length_eq_zero h2⟩
  · have : g = b := h3 g rfl
    subst this
    exact .inr ⟨cap, rfl, hn, hc, (Array.getElem?_eq_some_iff.1 hg).1⟩

theorem OwnB.cell {E : TypeId} {w : World} {b cap n : Nat} {zs : List Bool} (h : OwnB E w b (.slice (some ⟨b, 0, none⟩) n cap) zs) {i : Nat} (hi : i < zs.length) :
    w.cell? ⟨b, i, none⟩ = some (.bool (zs.getD i false)) := by
  have hn : n = zs.length := by
    rcases h.1.2 with ⟨h', _⟩ | ⟨g, c, cur, h', _⟩ <;> simp at h'
    exact h'.2.1
  subst hn
  rw [World.ownsRow.cellAt h.1 i (by omega)]
  simp [List.getD, hi]

theorem OwnB.free {E : TypeId} {w : World} {b cap n : Nat} {zs : List Bool} (h : OwnB E w b (.slice (some ⟨b, 0, none⟩) n cap) zs) (i : Nat) : w.frozen? ⟨b, i, none⟩ = false := by
  have hn : n = zs.length := by
    rcases h.1.2 with ⟨h', _⟩ | ⟨g, c, cur, h', _⟩ <;> simp at h'
    exact h'.2.1
  subst hn
  exact World.ownsRow.frozenAt h.1 i

theorem OwnB.rd {E : TypeId} {w : World} {b : Nat} {v : Value} {zs : List Bool} (h : OwnB E w b v zs) : RdB w b v zs := by
  rcases h.form with ⟨rfl, rfl⟩ | ⟨cap, rfl, hn, hc, hb⟩
  · exact ⟨none, 0, rfl, by simp, by simp, by simp⟩
  · exact ⟨some ⟨b, 0, none⟩, cap, rfl, hn, hc, fun _ => ⟨0, rfl, hb, fun i hi => by rw [Nat.zero_add]; exact h.cell hi⟩⟩

theorem OwnB.set {E : TypeId} {w : World} {b cap n : Nat} {zs : List Bool} (h : OwnB E w b (.slice (some ⟨b, 0, none⟩) n cap) zs) (i : Nat) (x : Bool) :
    OwnB E (w.setCell ⟨b, i, none⟩ (.bool x)) b (.slice (some ⟨b, 0, none⟩) n cap) (zs.set i x) := by
  have hn : n = zs.length := by
    rcases h.1.2 with ⟨h', _⟩ | ⟨g, c, cur, h', _⟩ <;> simp at h'
    exact h'.2.1
  subst hn
  have := (World.ownsRow.stored h.1 i (.bool x)).1
  refine ⟨?_, h.2⟩
  simpa [List.map_set] using this

theorem OwnB.lt {E : TypeId} {w : World} {b cap n : Nat} {zs : List Bool} (h : OwnB E w b (.slice (some ⟨b, 0, none⟩) n cap) zs) : b < w.heap.size := by
  rcases h.form with ⟨h', _⟩ | ⟨_, _, _, _, h'⟩
  · simp at h'
  · exact h'

/-- What make lays. -/
theorem OwnB.made (E : TypeId) (w : World) (n : Nat) (h : n ≤ maxLen) :
    OwnB E (w.alloc (.cells (madeCells #[.bool false] n) E)) w.heap.size (.slice (some ⟨w.heap.size, 0, none⟩) n n) (List.replicate n false) := by
  refine ⟨?_, by intro k hk; simp [Value.ownBlock] at hk; exact hk.symm⟩
  have := World.ownsRow_lit (base := w.heap.size) (e := E) (size := 1) w (madeCells #[.bool false] n) n (Nat.le_refl _) h (by simpa using size_madeCells #[.bool false] n)
  rw [toList_madeCells_one] at this
  simpa using this

section
variable {H : Type} {enc : TypeId × Value → H} {P : Program} {w : World} {base : Nat} {spare : Nat → Bool} {held : Bool}
/-- A slice of bools that came in. -/
theorem rdB_open {t e : TypeId} {fuel : Nat} {a : Option Addr} {len cap : Nat} {x : DataW H × List MemPlace} (ht : P.underlying t = some (.slice e)) (he : P.underlying e = some .bool) (hc : P.cellsOf e = 1)
    (h : DataW.trod enc P w base spare held fuel t [.slice a len cap] = some x) : ∃ b zs, zs.length = len ∧ RdB w b (.slice a len cap) zs := by
  rcases DataW.trod_slice ht h with ⟨hcs, _⟩ | ⟨q, l, c, els, rest, n, _, hcs, _, _, hl, hm, hlen, hel, _, _⟩
  · simp at hcs
    obtain ⟨rfl, rfl, rfl⟩ := hcs
    exact ⟨0, [], rfl, none, 0, rfl, Nat.le_refl _, by simp, by simp⟩
  · simp at hcs
    obtain ⟨rfl, rfl, rfl⟩ := hcs
    have each : ∀ i, i < len → ∃ u, w.cell? (q.add i) = some (.bool u) := by
      intro i hi
      have h1 := hel i hi
      rw [List.getElem?_eq_getElem (by omega), hc, Nat.mul_one, Option.bind_eq_some_iff] at h1
      obtain ⟨cs', h2, h3⟩ := h1
      obtain ⟨u, rfl, _⟩ := DataW.trod_bool he h3
      exact ⟨u, Go.ChangeShapes.cell_of_cells?_one h2⟩
    rcases Nat.eq_zero_or_pos len with h0 | h0
    · subst h0
      exact ⟨0, [], rfl, some q, cap, rfl, hl, hm, by simp⟩
    · obtain ⟨b, off, spot⟩ := q
      obtain ⟨u0, hu0⟩ := each 0 h0
      have hs : spot = none := by simpa [Addr.add] using World.cell?_spot hu0
      subst hs
      refine ⟨b, (List.range len).map fun i => match w.cell? ⟨b, off + i, none⟩ with | some (.bool u) => u | _ => false, by simp, some ⟨b, off, none⟩, cap, by simp, by simpa using hl, hm, fun _ => ⟨off, rfl, ?_, fun i hi => ?_⟩⟩
      · exact World.block_lt_of_cell? w _ hu0
      · have hi2 : i < len := by simpa using hi
        obtain ⟨u, hu⟩ := each i hi2
        rw [Go.WideShapes.add_plain] at hu
        rw [hu]
        simp [List.getD, hi2, hu]

theorem list5 {α : Type} {l : List α} (h : l.length = 5) : ∃ a b c d e, l = [a, b, c, d, e] := by
  match l, h with
  | [a, b, c, d, e], _ => exact ⟨a, b, c, d, e, rfl⟩

/-- A struct of five cells that came in, by its parts. -/
theorem open_five {r : Reach} {b0 : Nat} {t : TypeId} {f0 f1 f2 f3 f4 : Field} {v : Value} {d : DataW H} {p : List MemPlace} (hs : P.underlying t = some (.struct #[f0, f1, f2, f3, f4])) (hone : oneCellFields P #[f0, f1, f2, f3, f4] = true) (hC : P.cellsOf t = 5)
    (hv : Value.okWide P w r b0 t v) (h : DataW.Trod enc P w base spare held t v d p) :
    ∃ (v0 v1 v2 v3 v4 : Value) (n : Nat), v = .agg #[v0, v1, v2, v3, v4] ∧ (∃ y, DataW.trod enc P w base spare held n f0.type [v0] = some y) ∧ (∃ y, DataW.trod enc P w base spare held n f1.type [v1] = some y) ∧
      (∃ y, DataW.trod enc P w base spare held n f2.type [v2] = some y) ∧ (∃ y, DataW.trod enc P w base spare held n f3.type [v3] = some y) ∧ (∃ y, DataW.trod enc P w base spare held n f4.type [v4] = some y) := by
  obtain ⟨cs, rfl, hsz⟩ := okWide_struct hs hv
  obtain ⟨l⟩ := cs
  obtain ⟨c0, c1, c2, c3, c4, rfl⟩ := list5 (show l.length = 5 from hsz.trans hC)
  obtain ⟨fuel, hf⟩ := h
  obtain ⟨xs, n, _, _, _, hlen, hg⟩ := DataW.trod_struct hs hf
  obtain ⟨y0, y1, y2, y3, y4, rfl⟩ := list5 (show xs.length = 5 from hlen)
  obtain ⟨o0, k0⟩ := hone_of hone 0 f0 rfl
  obtain ⟨o1, k1⟩ := hone_of hone 1 f1 rfl
  obtain ⟨o2, k2⟩ := hone_of hone 2 f2 rfl
  obtain ⟨o3, k3⟩ := hone_of hone 3 f3 rfl
  obtain ⟨o4, k4⟩ := hone_of hone 4 f4 rfl
  exact ⟨c0, c1, c2, c3, c4, n, rfl, ⟨y0, by simpa [Value.cells, o0, k0] using hg 0 f0 rfl⟩, ⟨y1, by simpa [Value.cells, o1, k1] using hg 1 f1 rfl⟩, ⟨y2, by simpa [Value.cells, o2, k2] using hg 2 f2 rfl⟩, ⟨y3, by simpa [Value.cells, o3, k3] using hg 3 f3 rfl⟩, ⟨y4, by simpa [Value.cells, o4, k4] using hg 4 f4 rfl⟩⟩
end

end Go.Proofs.Ytbnndbciimfciaa.Rdb
