/- Rows of 32-bit floats: what a []float32 reads as (RdF) and what a call owns (OwnF). -/
import Derived.Test.YtejchjjkehmgaaaLawKit
import Derived.Lib.SmallJoins
import Derived.OpenShut
namespace Go.Proofs.Ytejchjjkehmgaaa.Rdf
open Go.ChangeShapes Go.WideShapes Go.Deep Go.RowKit Go.Joins Go.Proofs.Ytejchjjkehmgaaa.Rd
set_option linter.unusedVariables false

/-- All the words of a row are of 32 bits. -/
def W32 (zs : List Nat) : Prop := ∀ i, zs.getD i 0 < 2 ^ 32
theorem W32_set {zs : List Nat} (h : W32 zs) {i x : Nat} (hx : x < 2 ^ 32) : W32 (zs.set i x) := by
  intro j
  have := h j
  simp only [List.getD, List.getElem?_set] at this ⊢
  split
  · split
    · exact hx
    · simp
  · exact this
theorem W32_zero (n : Nat) : W32 (List.replicate n 0) := by
  intro j
  simp only [List.getD, List.getElem?_replicate]
  split <;> simp
/-- The slice v reads in w as the numbers zs; if there are any they lie in block b. -/
def RdF (w : World) (b : Nat) (v : Value) (zs : List Nat) : Prop :=
  ∃ (ao : Option Addr) (cap : Nat), v = .slice ao zs.length cap ∧ zs.length ≤ cap ∧ (cap ≤ maxLen ∧ W32 zs) ∧
    (0 < zs.length → ∃ off, ao = some ⟨b, off, none⟩ ∧ b < w.heap.size ∧ ∀ i, i < zs.length → w.cell? ⟨b, off + i, none⟩ = some (.float .f32 (zs.getD i 0)))

theorem RdF.keep {w w' : World} {B b : Nat} {v : Value} {zs : List Nat} (h : RdF w b v zs) (bel : Below B w w') (hB : w.heap.size ≤ B) : RdF w' b v zs := by
  obtain ⟨ao, cap, h1, h2, h3, h4⟩ := h
  refine ⟨ao, cap, h1, h2, h3, fun h0 => ?_⟩
  obtain ⟨off, h5, h6, h7⟩ := h4 h0
  exact ⟨off, h5, Nat.lt_of_lt_of_le h6 bel.size, fun i hi => (bel.cell (p := ⟨b, off + i, none⟩) (Nat.lt_of_lt_of_le h6 hB)).trans (h7 i hi)⟩

theorem RdF.keepAt {w w' : World} {B b : Nat} {v : Value} {zs : List Nat} (h : RdF w b v zs) (bel : Below B w w') (hB : b < B) : RdF w' b v zs := by
  obtain ⟨ao, cap, h1, h2, h3, h4⟩ := h
  refine ⟨ao, cap, h1, h2, h3, fun h0 => ?_⟩
  obtain ⟨off, h5, h6, h7⟩ := h4 h0
  exact ⟨off, h5, Nat.lt_of_lt_of_le h6 bel.size, fun i hi => (bel.cell (p := ⟨b, off + i, none⟩) hB).trans (h7 i hi)⟩

/-- The slice v is one that the call has made: its numbers are zs, its block b. -/
def OwnF (E : TypeId) (w : World) (b : Nat) (v : Value) (zs : List Nat) : Prop :=
  w.ownsRow b E 1 v zs.length (zs.map (Value.float .f32)) ∧ (∀ k, v.ownBlock = some k → k = b) ∧ W32 zs

theorem OwnF.nil (E : TypeId) (w : World) (b : Nat) : OwnF E w b (.slice none 0 0) [] :=
  ⟨World.ownsRow_nil w b E 1, by intro k hk; simp [Value.ownBlock] at hk, fun i => by simp⟩

theorem OwnF.of {E : TypeId} {w : World} {base : Nat} {v : Value} {n : Nat} {zs : List Nat} (h : w.ownsRow base E 1 v n (zs.map (Value.float .f32))) (hw : W32 zs) :
    ∃ b, base ≤ b ∧ OwnF E w b v zs := by
  obtain ⟨h1, h2⟩ := h
  have hn : n = zs.length := by simpa using h1.symm
  subst hn
  rcases h2 with ⟨rfl, h0⟩ | ⟨g, cap, cur, rfl, hb, r⟩
  · have : zs = [] := List.eq_nil_of_length_eq_zero h0
    subst this
    exact ⟨base, Nat.le_refl _, OwnF.nil _ _ _⟩
  · exact ⟨g, hb, ⟨h1, .inr ⟨g, cap, cur, rfl, Nat.le_refl _, r⟩⟩, by intro k hk; simp [Value.ownBlock] at hk; omega, hw⟩

theorem OwnF.grown {E : TypeId} {w w' : World} {b : Nat} {v : Value} {zs : List Nat} (h : OwnF E w b v zs) {row : Option Nat} (g : w.grownBy w' row) (hne : row ≠ some b) : OwnF E w' b v zs := by
  refine ⟨h.1.kept g ?_, h.2⟩
  cases hv : v.ownBlock with
  | none => exact .inl rfl
  | some k => right; rw [h.2.1 k hv]; exact fun e => hne e.symm

theorem OwnF.keep {E : TypeId} {w w' : World} {b : Nat} {v : Value} {zs : List Nat} (h : OwnF E w b v zs) (bel : Below w.heap.size w w') : OwnF E w' b v zs :=
  h.grown (below_grown bel) (by simp)

theorem OwnF.keepAt {E : TypeId} {w w' : World} {B b : Nat} {v : Value} {zs : List Nat} (h : OwnF E w b v zs) (bel : Below B w w') (hB : b < B) : OwnF E w' b v zs := by
  obtain ⟨⟨h1, h2⟩, h3⟩ := h
  refine ⟨⟨h1, ?_⟩, h3⟩
  rcases h2 with h2 | ⟨g, cap, cur, rfl, hb, hg, r⟩
  · exact .inl h2
  · have : g = b := h3.1 g rfl
    subst this
    exact .inr ⟨g, cap, cur, rfl, hb, by rw [bel.block g hB]; exact hg, r⟩

/-- The form of what is owned. -/
theorem OwnF.form {E : TypeId} {w : World} {b : Nat} {v : Value} {zs : List Nat} (h : OwnF E w b v zs) :
    (v = .slice none 0 0 ∧ zs = []) ∨ ∃ cap, v = .slice (some ⟨b, 0, none⟩) zs.length cap ∧ zs.length ≤ cap ∧ cap ≤ maxLen ∧ b < w.heap.size := by
  obtain ⟨⟨h1, h2⟩, h3⟩ := h
  rcases h2 with ⟨rfl, h2⟩ | ⟨g, cap, cur, rfl, hb, hg, hn, hc, r⟩
  · exact .inl ⟨rfl, List.eq_nil_of_length_eq_zero h2⟩
  · have : g = b := h3.1 g rfl
    subst this
    exact .inr ⟨cap, rfl, hn, hc, (Array.getElem?_eq_some_iff.1 hg).1⟩

theorem OwnF.cell {E : TypeId} {w : World} {b cap n : Nat} {zs : List Nat} (h : OwnF E w b (.slice (some ⟨b, 0, none⟩) n cap) zs) {i : Nat} (hi : i < zs.length) :
    w.cell? ⟨b, i, none⟩ = some (.float .f32 (zs.getD i 0)) := by
  have hn : n = zs.length := by
    rcases h.1.2 with ⟨h', _⟩ | ⟨g, c, cur, h', _⟩ <;> simp at h'
    exact h'.2.1
  subst hn
  rw [World.ownsRow.cellAt h.1 i (by omega)]
  simp [List.getD, hi]

theorem OwnF.free {E : TypeId} {w : World} {b cap n : Nat} {zs : List Nat} (h : OwnF E w b (.slice (some ⟨b, 0, none⟩) n cap) zs) (i : Nat) : w.frozen? ⟨b, i, none⟩ = false := by
  have hn : n = zs.length := by
    rcases h.1.2 with ⟨h', _⟩ | ⟨g, c, cur, h', _⟩ <;> simp at h'
    exact h'.2.1
  subst hn
  exact World.ownsRow.frozenAt h.1 i

theorem OwnF.rd {E : TypeId} {w : World} {b : Nat} {v : Value} {zs : List Nat} (h : OwnF E w b v zs) : RdF w b v zs := by
  rcases h.form with ⟨rfl, rfl⟩ | ⟨cap, rfl, hn, hc, hb⟩
  · exact ⟨none, 0, rfl, by simp, ⟨by simp, fun i => by simp⟩, by simp⟩
  · exact ⟨some ⟨b, 0, none⟩, cap, rfl, hn, ⟨hc, h.2.2⟩, fun _ => ⟨0, rfl, hb, fun i hi => by rw [Nat.zero_add]; exact h.cell hi⟩⟩

theorem OwnF.set {E : TypeId} {w : World} {b cap n : Nat} {zs : List Nat} (h : OwnF E w b (.slice (some ⟨b, 0, none⟩) n cap) zs) (i : Nat) (x : Nat) (hx : x < 2 ^ 32) :
    OwnF E (w.setCell ⟨b, i, none⟩ (.float .f32 x)) b (.slice (some ⟨b, 0, none⟩) n cap) (zs.set i x) := by
  have hn : n = zs.length := by
    rcases h.1.2 with ⟨h', _⟩ | ⟨g, c, cur, h', _⟩ <;> simp at h'
    exact h'.2.1
  subst hn
  have := (World.ownsRow.stored h.1 i (.float .f32 x)).1
  refine ⟨?_, h.2.1, W32_set h.2.2 hx⟩
  simpa [List.map_set] using this

theorem OwnF.lt {E : TypeId} {w : World} {b cap n : Nat} {zs : List Nat} (h : OwnF E w b (.slice (some ⟨b, 0, none⟩) n cap) zs) : b < w.heap.size := by
  rcases h.form with ⟨h', _⟩ | ⟨_, _, _, _, h'⟩
  · simp at h'
  · exact h'

/-- What make lays. -/
theorem OwnF.made (E : TypeId) (w : World) (n : Nat) (h : n ≤ maxLen) :
    OwnF E (w.alloc (.cells (madeCells #[.float .f32 0] n) E)) w.heap.size (.slice (some ⟨w.heap.size, 0, none⟩) n n) (List.replicate n 0) := by
  refine ⟨?_, by intro k hk; simp [Value.ownBlock] at hk; exact hk.symm, W32_zero n⟩
  have := World.ownsRow_lit (base := w.heap.size) (e := E) (size := 1) w (madeCells #[.float .f32 0] n) n (Nat.le_refl _) h (by simpa using size_madeCells #[.float .f32 0] n)
  rw [toList_madeCells_one] at this
  simpa using this

section
variable {H : Type} {enc : TypeId × Value → H} {P : Program} {w : World} {base : Nat} {spare : Nat → Bool} {held : Bool}
theorem trod_f32 {fuel : Nat} {t : TypeId} {cs : List Value} {x : DataW H × List MemPlace} (ht : P.underlying t = some (.float .f32)) (h : DataW.trod enc P w base spare held fuel t cs = some x) : ∃ n, cs = [.float .f32 n] ∧ (Lit.float .f32 n).wf = true := by
  cases fuel with
  | zero => simp [DataW.trod] at h
  | succ n =>
    unfold DataW.trod at h
    rw [ht] at h
    split at h <;> simp_all
theorem lt32 {b : Nat} (h : (Lit.float .f32 b).wf = true) : b < 2 ^ 32 := by simpa [Lit.wf] using h
/-- A slice of floats that came in. -/
theorem rdF_open {t e : TypeId} {fuel : Nat} {a : Option Addr} {len cap : Nat} {x : DataW H × List MemPlace} (ht : P.underlying t = some (.slice e)) (he : P.underlying e = some (.float .f32)) (hc : P.cellsOf e = 1)
    (h : DataW.trod enc P w base spare held fuel t [.slice a len cap] = some x) : ∃ b zs, zs.length = len ∧ RdF w b (.slice a len cap) zs := by
  rcases DataW.trod_slice ht h with ⟨hcs, _⟩ | ⟨q, l, c, els, rest, n, _, hcs, _, _, hl, hm, hlen, hel, _, _⟩
  · simp at hcs
    obtain ⟨rfl, rfl, rfl⟩ := hcs
    exact ⟨0, [], rfl, none, 0, rfl, Nat.le_refl _, ⟨by simp, fun i => by simp⟩, by simp⟩
  · simp at hcs
    obtain ⟨rfl, rfl, rfl⟩ := hcs
    have each : ∀ i, i < len → ∃ u, w.cell? (q.add i) = some (.float .f32 u) ∧ u < 2 ^ 32 := by
      intro i hi
      have h1 := hel i hi
      rw [List.getElem?_eq_getElem (by omega), hc, Nat.mul_one, Option.bind_eq_some_iff] at h1
      obtain ⟨cs', h2, h3⟩ := h1
      obtain ⟨u, rfl, hu⟩ := trod_f32 he h3
      exact ⟨u, Go.ChangeShapes.cell_of_cells?_one h2, lt32 hu⟩
    rcases Nat.eq_zero_or_pos len with h0 | h0
    · subst h0
      exact ⟨0, [], rfl, some q, cap, rfl, hl, ⟨hm, fun i => by simp⟩, by simp⟩
    · obtain ⟨b, off, spot⟩ := q
      obtain ⟨u0, hu0, _⟩ := each 0 h0
      have hs : spot = none := by simpa [Addr.add] using World.cell?_spot hu0
      subst hs
      refine ⟨b, (List.range len).map fun i => match w.cell? ⟨b, off + i, none⟩ with | some (.float .f32 u) => u | _ => 0, by simp, some ⟨b, off, none⟩, cap, by simp, by simpa using hl, ⟨hm, fun i => ?_⟩, fun _ => ⟨off, rfl, ?_, fun i hi => ?_⟩⟩
      · by_cases hi2 : i < len
        · obtain ⟨u, hu, hlt⟩ := each i hi2
          rw [Go.WideShapes.add_plain] at hu
          simpa [List.getD, hi2, hu] using hlt
        · simp [List.getD, hi2]
      · exact World.block_lt_of_cell? w _ hu0
      · have hi2 : i < len := by simpa using hi
        obtain ⟨u, hu, _⟩ := each i hi2
        rw [Go.WideShapes.add_plain] at hu
        rw [hu]
        simp [List.getD, hi2, hu]
end

end Go.Proofs.Ytejchjjkehmgaaa.Rdf
