/- Library, no program in it: what a []int64 reads as (Rd) and what a call owns (Own), and how both are kept. -/
import Derived.WalkKit
import Derived.Deep.OwnRows
import Derived.Below
import Derived.Carry
import Derived.OpenShut
import Derived.ChangeSlices
namespace Go.Proofs.Ytjeoccjemkdbiaa.Rd
open Go.RowKit
set_option linter.unusedVariables false

/-- The slice v reads in w as the numbers zs; if there are any they lie in block b. -/
def Rd (w : World) (b : Nat) (v : Value) (zs : List Int) : Prop :=
  ∃ (ao : Option Addr) (cap : Nat), v = .slice ao zs.length cap ∧ zs.length ≤ cap ∧ cap ≤ maxLen ∧
    (0 < zs.length → ∃ off, ao = some ⟨b, off, none⟩ ∧ b < w.heap.size ∧ ∀ i, i < zs.length → w.cell? ⟨b, off + i, none⟩ = some (.int .i64 (zs.getD i 0)))

theorem Rd.keep {w w' : World} {B b : Nat} {v : Value} {zs : List Int} (h : Rd w b v zs) (bel : Below B w w') (hB : w.heap.size ≤ B) : Rd w' b v zs := by
  obtain ⟨ao, cap, h1, h2, h3, h4⟩ := h
  refine ⟨ao, cap, h1, h2, h3, fun h0 => ?_⟩
  obtain ⟨off, h5, h6, h7⟩ := h4 h0
  exact ⟨off, h5, Nat.lt_of_lt_of_le h6 bel.size, fun i hi => (bel.cell (p := ⟨b, off + i, none⟩) (Nat.lt_of_lt_of_le h6 hB)).trans (h7 i hi)⟩

theorem Rd.keepAt {w w' : World} {B b : Nat} {v : Value} {zs : List Int} (h : Rd w b v zs) (bel : Below B w w') (hB : b < B) : Rd w' b v zs := by
  obtain ⟨ao, cap, h1, h2, h3, h4⟩ := h
  refine ⟨ao, cap, h1, h2, h3, fun h0 => ?_⟩
  obtain ⟨off, h5, h6, h7⟩ := h4 h0
  exact ⟨off, h5, Nat.lt_of_lt_of_le h6 bel.size, fun i hi => (bel.cell (p := ⟨b, off + i, none⟩) hB).trans (h7 i hi)⟩

/-- The slice v is one that the call has made: its numbers are zs, its block b. -/
def Own (E : TypeId) (w : World) (b : Nat) (v : Value) (zs : List Int) : Prop :=
  w.ownsRow b E 1 v zs.length (zs.map (Value.int .i64)) ∧ ∀ k, v.ownBlock = some k → k = b

theorem Own.nil (E : TypeId) (w : World) (b : Nat) : Own E w b (.slice none 0 0) [] :=
  ⟨World.ownsRow_nil w b E 1, by intro k hk; simp [Value.ownBlock] at hk⟩

theorem Own.of {E : TypeId} {w : World} {base : Nat} {v : Value} {n : Nat} {zs : List Int} (h : w.ownsRow base E 1 v n (zs.map (Value.int .i64))) :
    ∃ b, base ≤ b ∧ Own E w b v zs := by
  obtain ⟨h1, h2⟩ := h
  have hn : n = zs.length := by simpa using h1.symm
  subst hn
  rcases h2 with ⟨rfl, h0⟩ | ⟨g, cap, cur, rfl, hb, r⟩
  · have : zs = [] := List.eq_nil_of_length_eq_zero h0
    subst this
    exact ⟨base, Nat.le_refl _, Own.nil _ _ _⟩
  · exact ⟨g, hb, ⟨h1, .inr ⟨g, cap, cur, rfl, Nat.le_refl _, r⟩⟩, by intro k hk; simp [Value.ownBlock] at hk; omega⟩

theorem below_grown {w w' : World} (bel : Below w.heap.size w w') : w.grownBy w' none := ⟨bel.os, bel.tape, bel.output, bel.size, fun k hk _ => bel.block k hk⟩

theorem Own.grown {E : TypeId} {w w' : World} {b : Nat} {v : Value} {zs : List Int} (h : Own E w b v zs) {row : Option Nat} (g : w.grownBy w' row) (hne : row ≠ some b) : Own E w' b v zs := by
  refine ⟨h.1.kept g ?_, h.2⟩
  cases hv : v.ownBlock with
  | none => exact .inl rfl
  | some k => right; rw [h.2 k hv]; exact fun e => hne e.symm

theorem Own.keep {E : TypeId} {w w' : World} {b : Nat} {v : Value} {zs : List Int} (h : Own E w b v zs) (bel : Below w.heap.size w w') : Own E w' b v zs :=
  h.grown (below_grown bel) (by simp)

theorem Own.keepAt {E : TypeId} {w w' : World} {B b : Nat} {v : Value} {zs : List Int} (h : Own E w b v zs) (bel : Below B w w') (hB : b < B) : Own E w' b v zs := by
  obtain ⟨⟨h1, h2⟩, h3⟩ := h
  refine ⟨⟨h1, ?_⟩, h3⟩
  rcases h2 with h2 | ⟨g, cap, cur, rfl, hb, hg, r⟩
  · exact .inl h2
  · have : g = b := h3 g rfl
    subst this
    exact .inr ⟨g, cap, cur, rfl, hb, by rw [bel.block g hB]; exact hg, r⟩

/-- The form of what is owned. -/
theorem Own.form {E : TypeId} {w : World} {b : Nat} {v : Value} {zs : List Int} (h : Own E w b v zs) :
    (v = .slice none 0 0 ∧ zs = []) ∨ ∃ cap, v = .slice (some ⟨b, 0, none⟩) zs.length cap ∧ zs.length ≤ cap ∧ cap ≤ maxLen ∧ b < w.heap.size := by
  obtain ⟨⟨h1, h2⟩, h3⟩ := h
  rcases h2 with ⟨rfl, h2⟩ | ⟨g, cap, cur, rfl, hb, hg, hn, hc, r⟩
  · exact .inl ⟨rfl, List.eq_nil_of_length_eq_zero h2⟩
  · have : g = b := h3 g rfl
    subst this
    exact .inr ⟨cap, rfl, hn, hc, (Array.getElem?_eq_some_iff.1 hg).1⟩

theorem Own.cell {E : TypeId} {w : World} {b cap n : Nat} {zs : List Int} (h : Own E w b (.slice (some ⟨b, 0, none⟩) n cap) zs) {i : Nat} (hi : i < zs.length) :
    w.cell? ⟨b, i, none⟩ = some (.int .i64 (zs.getD i 0)) := by
  have hn : n = zs.length := by
    rcases h.1.2 with ⟨h', _⟩ | ⟨g, c, cur, h', _⟩ <;> simp at h'
    exact h'.2.1
  subst hn
  rw [World.ownsRow.cellAt h.1 i (by omega)]
  simp [List.getD, hi]

theorem Own.free {E : TypeId} {w : World} {b cap n : Nat} {zs : List Int} (h : Own E w b (.slice (some ⟨b, 0, none⟩) n cap) zs) (i : Nat) : w.frozen? ⟨b, i, none⟩ = false := by
  have hn : n = zs.length := by
    rcases h.1.2 with ⟨h', _⟩ | ⟨g, c, cur, h', _⟩ <;> simp at h'
    exact h'.2.1
  subst hn
  exact World.ownsRow.frozenAt h.1 i

theorem Own.rd {E : TypeId} {w : World} {b : Nat} {v : Value} {zs : List Int} (h : Own E w b v zs) : Rd w b v zs := by
  rcases h.form with ⟨rfl, rfl⟩ | ⟨cap, rfl, hn, hc, hb⟩
  · exact ⟨none, 0, rfl, by simp, by simp, by simp⟩
  · exact ⟨some ⟨b, 0, none⟩, cap, rfl, hn, hc, fun _ => ⟨0, rfl, hb, fun i hi => by rw [Nat.zero_add]; exact h.cell hi⟩⟩

theorem Own.set {E : TypeId} {w : World} {b cap n : Nat} {zs : List Int} (h : Own E w b (.slice (some ⟨b, 0, none⟩) n cap) zs) (i : Nat) (x : Int) :
    Own E (w.setCell ⟨b, i, none⟩ (.int .i64 x)) b (.slice (some ⟨b, 0, none⟩) n cap) (zs.set i x) := by
  have hn : n = zs.length := by
    rcases h.1.2 with ⟨h', _⟩ | ⟨g, c, cur, h', _⟩ <;> simp at h'
    exact h'.2.1
  subst hn
  have := (World.ownsRow.stored h.1 i (.int .i64 x)).1
  refine ⟨?_, h.2⟩
  simpa [List.map_set] using this

theorem Own.lt {E : TypeId} {w : World} {b cap n : Nat} {zs : List Int} (h : Own E w b (.slice (some ⟨b, 0, none⟩) n cap) zs) : b < w.heap.size := by
  rcases h.form with ⟨h', _⟩ | ⟨_, _, _, _, h'⟩
  · simp at h'
  · exact h'

/-- What make lays. -/
theorem Own.made (E : TypeId) (w : World) (n : Nat) (h : n ≤ maxLen) :
    Own E (w.alloc (.cells (madeCells #[.int .i64 0] n) E)) w.heap.size (.slice (some ⟨w.heap.size, 0, none⟩) n n) (List.replicate n 0) := by
  refine ⟨?_, by intro k hk; simp [Value.ownBlock] at hk; exact hk.symm⟩
  have := World.ownsRow_lit (base := w.heap.size) (e := E) (size := 1) w (madeCells #[.int .i64 0] n) n (Nat.le_refl _) h (by simpa using size_madeCells #[.int .i64 0] n)
  rw [toList_madeCells_one] at this
  simpa using this

section
variable {H : Type} {enc : TypeId × Value → H} {P : Program} {w : World} {base : Nat} {spare : Nat → Bool} {held : Bool}
/-- A slice of numbers that came in. -/
theorem rd_open {t e : TypeId} {fuel : Nat} {a : Option Addr} {len cap : Nat} {x : DataW H × List MemPlace} (ht : P.underlying t = some (.slice e)) (he : P.underlying e = some (.int .i64)) (hc : P.cellsOf e = 1)
    (h : DataW.trod enc P w base spare held fuel t [.slice a len cap] = some x) : ∃ b zs, zs.length = len ∧ Rd w b (.slice a len cap) zs := by
  rcases Go.ChangeShapes.open_ints ht he hc h with ⟨hcs, _⟩ | ⟨x, l, c, zs, hcs, _, hl, hm, hz, _, hcell, hwz⟩
  · simp at hcs
    obtain ⟨rfl, rfl, rfl⟩ := hcs
    exact ⟨0, [], rfl, none, 0, rfl, Nat.le_refl _, by simp, by simp⟩
  · simp at hcs
    obtain ⟨rfl, rfl, rfl⟩ := hcs
    have hlz : len ≤ zs.length := by rw [hz]; split <;> omega
    have hlt : (zs.take len).length = len := by simp [hlz]
    rcases Nat.eq_zero_or_pos len with h0 | h0
    · subst h0
      exact ⟨0, [], rfl, some x, cap, rfl, hl, hm, by simp⟩
    · obtain ⟨b, off, rfl, hat⟩ := ints_at hcell (by omega)
      refine ⟨b, zs.take len, hlt, some ⟨b, off, none⟩, cap, by rw [hlt], by rw [hlt]; exact hl, hm, fun _ => ⟨off, rfl, ?_, fun i hi => ?_⟩⟩
      · exact World.block_lt_of_cell? w _ (hat 0 (by omega))
      · rw [hlt] at hi
        rw [hat i (by omega)]
        simp [List.getD, hi]
end

end Go.Proofs.Ytjeoccjemkdbiaa.Rd
