/- Boxes, marks of loops over functions, copies. -/
import Derived.Test.YtjeoccjemkdbiaaClone
import Derived.Test.YtjeoccjemkdbiaaFMir
import Derived.RangeFuncNested
import Derived.RangeFuncLeaves
import Derived.RangeFuncRecord
namespace Go.Proofs.Ytjeoccjemkdbiaa.Box
open Go.RowKit Go.Proofs.Ytjeoccjemkdbiaa.Rd Go.Proofs.Ytjeoccjemkdbiaa.Help Go.Proofs.Ytjeoccjemkdbiaa.FVal Go.Proofs.Ytjeoccjemkdbiaa.Keep Go.Proofs.Ytjeoccjemkdbiaa.Rule Go.Proofs.Ytjeoccjemkdbiaa.Grow
set_option linter.unusedVariables false
set_option linter.unusedSimpArgs false

theorem heap_keep {w w' : World} {n : Nat} {o : Obj} (bel : Below w.heap.size w w') (h : w.heap[n]? = some o) : w'.heap[n]? = some o :=
  (bel.block n (Array.getElem?_eq_some_iff.1 h).1).trans h
theorem heap_lt {w : World} {n : Nat} {o : Obj} (h : w.heap[n]? = some o) : n < w.heap.size := (Array.getElem?_eq_some_iff.1 h).1
/-- A statement that comes to its end alone. -/
theorem wp_noPanic {P : Program} {s : Code} {K : Act → World → Prop} {Q' : Exit → Act → World → Prop} {a : Act} {w : World} (h : s.wp P (Exit.then K (fun _ _ _ => False)) a w) : s.wp P (Exit.then K Q') a w := by
  refine wp_mono h ?_
  intro e a' w' hq
  cases e with
  | normal => exact hq
  | exit id => exact hq.elim
  | goto l => exact hq.elim
  | ret => exact hq.elim
  | panic ch => exact hq.elim
  | outgrown => exact hq.elim

/-- The mark that a loop over a function leaves. -/
def mk (D : Nat) : Deferred := { target := .collected D, args := #[] }
def Marks (w : World) (ds : List Nat) : Prop := ds.Nodup ∧ ∀ D ∈ ds, w.heap[D]? = some (.deferred (some []))
theorem leaves_marks {F : Fence} {n : Nat} {P : Program} {fn : Func} {tmps : Array Value} {R : Ending → World → Prop} {B : Nat} : ∀ (ds : List Nat) (w : World), Marks w ds → (∀ D ∈ ds, B ≤ D) →
    (∀ w', Below B w w' → (∀ (k : Nat) (o : Obj), w.heap[k]? = some o → o.isCells = true → w'.heap[k]? = some o) → ∃ v, (results fn tmps).run P w' = .ok v w' ∧ R (.returned v) w') →
    LeavesInM F n P fn tmps R (ds.map mk) .returning w
  | [], w, _, _, h => h w (Below.refl _ _) (fun _ _ h _ => h)
  | D :: ds, w, hm, hB, h => by
    have hD := hm.2 D (by simp)
    have hnd := List.nodup_cons.1 hm.1
    refine ⟨by simp, .inl ⟨D, _, rfl, run_takeDeferred hD, ?_⟩⟩
    refine leaves_marks ds _ ⟨hnd.2, fun E hE => ?_⟩ (fun E hE => hB E (by simp [hE])) (fun w' hb hc => ?_)
    · exact (World.putObj_heap_other (fun e => hnd.1 (by rw [← e]; exact hE))).trans (hm.2 E (by simp [hE]))
    · refine h w' ?_ (fun k o hk ho => ?_)
      · exact (((Below.refl B w).grown (grownBy_putObj' w D _) (by have := heap_lt hD; have := hB D (by simp); omega) (fun k e => by cases e; exact hB D (by simp)))).trans hb
      · refine hc k o ?_ ho
        by_cases e : k = D
        · subst e; rw [hD] at hk; cases hk; cases ho
        · exact (World.putObj_heap_other e).trans hk

theorem marks_at {w w' : World} {ds : List Nat} {B : Nat} (h : Marks w ds) (bel : Below B w w') (hB : ∀ D ∈ ds, D < B) : Marks w' ds :=
  ⟨h.1, fun D hD => (bel.block D (hB D hD)).trans (h.2 D hD)⟩
theorem marks_bel {w w' : World} {ds : List Nat} (h : Marks w ds) (bel : Below w.heap.size w w') : Marks w' ds := marks_at h bel (fun D hD => heap_lt (h.2 D hD))
theorem marks_set {E : TypeId} {w : World} {ds : List Nat} {b n cap : Nat} {zs : List Int} (h : Marks w ds) (ho : Rd.Own E w b (.slice (some ⟨b, 0, none⟩) n cap) zs) (i : Nat) (v : Value) : Marks (w.setCell ⟨b, i, none⟩ v) ds := by
  refine ⟨h.1, fun D hD => (Below.heap_setCell w ⟨b, i, none⟩ v D ?_).trans (h.2 D hD)⟩
  intro e
  have h1 := h.2 D hD
  rw [e] at h1
  obtain ⟨⟨_, h2⟩, h3⟩ := ho
  rcases h2 with ⟨h2, _⟩ | ⟨g, cp, cur, h2, _, hg, _⟩
  · simp at h2
  · have : b = g := by simp at h2; exact h2.1
    subst this
    rw [show (⟨b, i, none⟩ : Addr).block = b from rfl] at h1
    rw [hg] at h1
    simp at h1

theorem marks_ne {w : World} {ds : List Nat} (h : Marks w ds) {g : Nat} {cs : Array Value} {T : TypeId} {fr : Nat × Nat} (hk : w.heap[g]? = some (Obj.cells cs T fr)) : ∀ D ∈ ds, D ≠ g := by
  intro D hD e
  have h1 := h.2 D hD
  rw [e, hk] at h1
  simp at h1
theorem marks_cells {w : World} {ds : List Nat} (h : Marks w ds) (g i : Nat) (v : Value) (hne : ∀ D ∈ ds, D ≠ g) : Marks (w.setCell ⟨g, i, none⟩ v) ds :=
  ⟨h.1, fun D hD => (Below.heap_setCell w ⟨g, i, none⟩ v D (hne D hD)).trans (h.2 D hD)⟩
theorem own_cells {E : TypeId} {w w' : World} {b n cap : Nat} {zs : List Int} (h : Rd.Own E w b (.slice (some ⟨b, 0, none⟩) n cap) zs)
    (hc : ∀ (k : Nat) (o : Obj), w.heap[k]? = some o → o.isCells = true → w'.heap[k]? = some o) : Rd.Own E w' b (.slice (some ⟨b, 0, none⟩) n cap) zs := by
  obtain ⟨⟨h1, h2⟩, h3⟩ := h
  refine ⟨⟨h1, ?_⟩, h3⟩
  rcases h2 with h2 | ⟨g, cp, cur, h2, hb, hg, r⟩
  · exact .inl h2
  · exact .inr ⟨g, cp, cur, h2, hb, hc g _ hg rfl, r⟩

/-- What is kept behind all blocks below B is no loop's business. -/
theorem ownFrom_of {β : Type} {B : Nat} {I : β → World → Prop} (h : ∀ s W W', I s W → B ≤ W.heap.size → Below B W W' → I s W') (hs : ∀ s W, I s W → B ≤ W.heap.size) : OwnFrom B I :=
  fun s W W' row hi hg hr => h s W W' hi (hs s W hi) ((Below.refl B W).grown hg (hs s W hi) (fun k e => (hr k e).1))
theorem g_keep {w4 W W' : World} {b B : Nat} (g : w4.grownBy W (some b)) (hB : w4.heap.size ≤ B) (bel : Below B W W') : w4.grownBy W' (some b) :=
  ⟨bel.os.trans g.os, bel.tape.trans g.tape, bel.output.trans g.output, Nat.le_trans g.size bel.size, fun k hk hne => (bel.block k (by omega)).trans (g.block k hk hne)⟩
theorem at_list {ys : List Int} {n : Nat} {F : Nat → Int} (h : FMir.At ys n F) : ys = (List.range n).map F := by
  apply List.ext_getElem
  · simp [h.1]
  · intro i h1 h2
    have := h.2 i (by have := h.1; omega)
    rw [List.getD_eq_getElem?_getD, List.getElem?_eq_getElem h1] at this
    simpa using this

end Go.Proofs.Ytjeoccjemkdbiaa.Box
