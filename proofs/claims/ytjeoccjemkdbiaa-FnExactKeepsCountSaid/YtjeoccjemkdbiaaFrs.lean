/- Loops over a function that hands on memory which it has just made: what is known of each element in the world in which it is handed on (G). -/
import Derived.Test.YtjeoccjemkdbiaaRih
import Derived.RangeFuncBound
import Derived.RangeFuncWrites
import Derived.RangeFuncKeeps
import Derived.RangeFuncNested
namespace Go.Proofs.Ytjeoccjemkdbiaa.Frs
open Go.RowKit
set_option linter.unusedVariables false
/-- What an iterator promises: as in the library, and of each element that it hands on, G in that world. -/
def Seq {α : Type} (n : Nat) (P : Program) (g : Nat) (lb : Array Value) (encs : α → Array Value) (G : α → World → Prop) (Kp : World → World → Prop) (S Sp : List α → Prop) (N : Nat) (w : World) : Prop :=
  ∀ (l : Nat) (J Jx : List α → World → Prop) (W : World), Below w.heap.size w W → AbidesFrom W.heap.size J → AbidesFrom W.heap.size Jx →
    (∀ pre x W1, J pre W1 → G x W1 → pre.length < N → YieldAt Fence.wide (n - 1) P l (encs x) W1 fun e W' =>
      (e = .returned (.bool true) ∧ J (pre ++ [x]) W' ∧ Kp W1 W') ∨ (e = .returned (.bool false) ∧ Jx (pre ++ [x]) W')) →
    J [] W →
    CallsIn Fence.wide n P g (#[.func (.yield l) #[] #[]] ++ lb) W fun e W' => (∃ v, e = .returned v) ∧ ((∃ xs, S xs ∧ J xs W') ∨ (∃ pre, Sp pre ∧ Jx pre W'))

/-- One round: from the walk of the body to what a call of yield does. -/
theorem round {n D l : Nat} {P : Program} {fn : FuncId} {tm : Array Value} {ps : Array Tmp} {assign body : Code} {vals : Array Value} {W : World} {a1 : Act} {R : LoopState → Option Code → Loop}
    (hR : R = fun st pe => { state := st, pending := pe, fn, tmps := tm, params := ps, assign, body, defers := D }) (hl1 : l = D + 1) (hps : vals.size = ps.size)
    (hl : W.heap[l]? = some (.loop (R .ready none))) (hk : W.heap[D]? = some (.deferred (some [])))
    {I1 : World → Prop} {Ix : Code → World → Prop} {Kp : World → World → Prop} (hKt : ∀ {A B C : World}, Kp A B → Kp B C → Kp A C)
    (put : ∀ (V : World) (o o' : Loop), V.heap[l]? = some (.loop o) → (I1 V → I1 (V.putObj l (.loop o'))) ∧ (∀ c, Ix c V → Ix c (V.putObj l (.loop o'))) ∧ Kp V (V.putObj l (.loop o')))
    (hassign : ∀ K : Act → World → Prop, K a1 W → assign.wpIn (Fence.wide.inRound l) n P (Exit.then K (fun _ _ _ => False)) { tmps := (ps.zip vals).foldl (fun t (p, v) => t.setIfInBounds p v) tm, defers := [] } W)
    (hbody : body.wpIn (Fence.wide.inRound l) n P (ownPostG D Kp (fun (_ : List Unit) => I1) (fun c _ => Ix c) [] (W.putObj l (.loop { R .ready none with state := .busy }))) a1 (W.putObj l (.loop { R .ready none with state := .busy }))) :
    YieldAt Fence.wide n P l vals W fun e W' =>
      (e = .returned (.bool true) ∧ (I1 W' ∧ W'.heap[l]? = some (.loop (R .ready none)) ∧ W'.heap[D]? = some (.deferred (some []))) ∧ Kp W W') ∨
      (e = .returned (.bool false) ∧ ∃ c, Ix c W' ∧ W'.heap[l]? = some (.loop (R .done (some c))) ∧ W'.heap[D]? = some (.deferred (some []))) := by
  have hlt : l < W.heap.size := (Array.getElem?_eq_some_iff.1 hl).1
  obtain ⟨W0, hW0⟩ : ∃ W0, W0 = W.putObj l (.loop { R .ready none with state := .busy }) := ⟨_, rfl⟩
  have busy : W0.heap[l]? = some (.loop { R .ready none with state := .busy }) := by rw [hW0]; exact World.putObj_heap_same hlt
  have mark : W0.heap[D]? = some (.deferred (some [])) := by rw [hW0]; exact (World.putObj_heap_other (by omega)).trans hk
  have kp0 : Kp W W0 := by rw [hW0]; exact (put W _ _ hl).2.2
  rw [← hW0] at hbody
  have hy := run_yield (P := P) (args := vals) hl (by rw [hR]; exact hps)
  rw [hR] at hy
  have close : ∀ (jump : Option Code) (V : World), KeepsFrom D W0 V → ∃ st, (Instr.endRound l jump).run P V = .ok (.bool jump.isNone) (V.putObj l (.loop (R st jump))) ∧ st = (if jump.isNone then .ready else .done) ∧
      (∃ o, V.heap[l]? = some (.loop o)) ∧ (V.putObj l (.loop (R st jump))).heap[l]? = some (.loop (R st jump)) ∧ (V.putObj l (.loop (R st jump))).heap[D]? = some (.deferred (some [])) := by
    intro jump V hV
    have h3 := hV.same _ _ (by omega) busy rfl
    have h4 := run_endRound (P := P) jump h3
    rw [hR] at h4
    refine ⟨_, by rw [hR]; exact h4, rfl, ⟨_, h3⟩, World.putObj_heap_same (Array.getElem?_eq_some_iff.1 h3).1, (World.putObj_heap_other (by omega)).trans (hV.same _ _ (Nat.le_refl _) mark rfl)⟩
  refine ⟨fn, _, assign, body, hy, roundIn_of_wpIn trivial (hassign _ ⟨W0, by rw [hW0]; exact run_beginRound hl (by rw [hR]), ?_⟩)⟩
  refine wpIn_mono hbody ?_
  rintro e a3 V hp
  cases e with
  | normal =>
    obtain ⟨h1, h2, h3⟩ := hp
    obtain ⟨st, hr, hst, ⟨o, ho⟩, hx, hm⟩ := close none V h1
    obtain rfl : st = .ready := hst
    exact ⟨_, _, hr, .inl ⟨rfl, ⟨(put V o _ ho).1 h3, hx, hm⟩, hKt (hKt kp0 h2) (put V o _ ho).2.2⟩⟩
  | ret =>
    obtain ⟨st, hr, hst, ⟨o, ho⟩, hx, hm⟩ := close (some .ret) V hp.1
    obtain rfl : st = .done := hst
    exact ⟨_, _, hr, .inr ⟨rfl, _, (put V o _ ho).2.1 _ hp.2, hx, hm⟩⟩
  | exit id =>
    obtain ⟨st, hr, hst, ⟨o, ho⟩, hx, hm⟩ := close (some (.exit id)) V hp.1
    obtain rfl : st = .done := hst
    exact ⟨_, _, hr, .inr ⟨rfl, _, (put V o _ ho).2.1 _ hp.2, hx, hm⟩⟩
  | goto t =>
    obtain ⟨st, hr, hst, ⟨o, ho⟩, hx, hm⟩ := close (some (.goto t)) V hp.1
    obtain rfl : st = .done := hst
    exact ⟨_, _, hr, .inr ⟨rfl, _, (put V o _ ho).2.1 _ hp.2, hx, hm⟩⟩
  | panic ch => exact hp.elim
  | outgrown => exact hp.elim

/-- The loop: the body is walked with G of the element at hand. -/
theorem wpIn_rangeFunc_fresh {α : Type} {n : Nat} {P : Program} {g : Operand} {ps : Array Tmp} {assign body : Code} {Q : Exit → Act → World → Prop} {a : Act} {w : World} (h1 : 1 ≤ n) {gf : Nat} {lb : Array Value}
    (hg : a.eval g = .func (.func gf) #[] lb) (eg : ∀ args w, (callFunc gf args).run P w = .ok (.enter gf args) w)
    {encs : α → Array Value} {G : α → World → Prop} {Kp : World → World → Prop} {S Sp : List α → Prop} {N : Nat} {w0 : World} (hseq : Seq (n - 1) P gf lb encs G Kp S Sp N w0)
    (hKt : ∀ {A B C : World}, Kp A B → Kp B C → Kp A C) (hKb : ∀ (W : World) (l : Nat) (o o' : Obj), w.heap.size ≤ l → W.heap[l]? = some o → o.isCells = false → o.isWalk = false → Kp W (W.putObj l o'))
    (hb0 : Below w0.heap.size w0 w) (hps : ∀ x, (encs x).size = ps.size)
    (I : List α → World → Prop) (Ix : Code → List α → World → Prop) (hI : OwnFrom w.heap.size I) (hIx : ∀ c, OwnFrom w.heap.size (Ix c)) (hG : ∀ x, OwnFrom w.heap.size (fun (_ : Unit) W => G x W)) (h0 : I [] w) (a₁ : α → Act)
    (hassign : ∀ (l : Nat) (x : α) (W : World) (K : Act → World → Prop), K (a₁ x) W →
      assign.wpIn (Fence.wide.inRound l) (n - 1 - 1) P (Exit.then K (fun _ _ _ => False)) { tmps := (ps.zip (encs x)).foldl (fun t (p, v) => t.setIfInBounds p v) a.tmps, defers := [] } W)
    (hbody : ∀ (l : Nat) (pre : List α) (x : α) (W : World), I pre W → G x W → pre.length < N → body.wpIn (Fence.wide.inRound l) (n - 1 - 1) P (ownPostG w.heap.size Kp I Ix (pre ++ [x]) W) (a₁ x) W)
    (hdone : ∀ (D : Nat) (xs : List α) (W : World), w.heap.size ≤ D → S xs → I xs W → W.heap[D]? = some (.deferred (some [])) → Q .normal { a with defers := { target := .collected D, args := #[] } :: a.defers } W)
    (hstop : ∀ (D : Nat) (c : Code) (pre : List α) (W : World), w.heap.size ≤ D → Sp pre → Ix c pre W → W.heap[D]? = some (.deferred (some [])) → c.wpIn Fence.wide n P Q { a with defers := { target := .collected D, args := #[] } :: a.defers } W) :
    (Code.rangeFunc g ps assign body).wpIn Fence.wide n P Q a w := by
  refine wpIn_rangeFunc (fun fn _ => ?_)
  obtain ⟨R, hR⟩ : ∃ R : LoopState → Option Code → Loop, R = fun st pe => { state := st, pending := pe, fn, tmps := a.tmps, params := ps, assign, body, defers := w.heap.size } := ⟨_, rfl⟩
  obtain ⟨V, hV⟩ : ∃ V, V = (w.alloc (.deferred (some []))).alloc (.loop (R .ready none)) := ⟨_, rfl⟩
  have recd : V.heap[w.heap.size + 1]? = some (.loop (R .ready none)) := by
    have h := World.alloc_heap_new (w.alloc (.deferred (some []))) (.loop (R .ready none))
    rw [World.size_alloc, ← hV] at h
    exact h
  have mark : V.heap[w.heap.size]? = some (.deferred (some [])) := by rw [hV]; exact (Below.heap_alloc _ _ _ (by simp)).trans (World.alloc_heap_new w _)
  have sizeV : V.heap.size = w.heap.size + 2 := by rw [hV]; simp
  have start : I [] V := by rw [hV]; exact hI.alloc _ (hI.alloc _ h0)
  have belV : Below w0.heap.size w0 V := by
    rw [hV]; exact hb0.trans ((((Below.refl _ w).alloc (Nat.le_refl _) _).alloc (by simp) _).mono hb0.size)
  have walks : ∀ {A B : World} {row : Option Nat}, (∀ r, row = some r → V.heap.size ≤ r ∧ ∃ o : Obj, A.heap[r]? = some o ∧ o.isWalk = true) → (∀ r, row = some r → w.heap.size ≤ r ∧ ∃ o : Obj, A.heap[r]? = some o ∧ o.isCells = false) :=
    fun hr r e => by
      obtain ⟨h, o, ho, hw⟩ := hr r e
      exact ⟨by omega, o, ho, Obj.not_cells_of_walk hw⟩
  have put : ∀ (xs : List α) (U : World) (o o' : Loop), U.heap[w.heap.size + 1]? = some (.loop o) → (I xs U → I xs (U.putObj (w.heap.size + 1) (.loop o'))) ∧ (∀ c, Ix c xs U → Ix c xs (U.putObj (w.heap.size + 1) (.loop o'))) ∧ Kp U (U.putObj (w.heap.size + 1) (.loop o')) :=
    fun xs U o o' ho => ⟨fun h => hI.putObj _ h (by omega) ho rfl, fun c h => (hIx c).putObj _ h (by omega) ho rfl, hKb _ _ _ _ (by omega) ho rfl rfl⟩
  refine ⟨w.heap.size + 1, [{ target := .collected w.heap.size, args := #[] }], V, { target := .fn (.func gf) lb, args := #[.func (.yield (w.heap.size + 1)) #[] #[]] }, V, gf, #[.func (.yield (w.heap.size + 1)) #[] #[]] ++ lb, V, ?_, ?_, (fun _ _ => trivial), ?_, (fun _ => h1), ?_⟩
  · rw [hV, hR]; exact run_enterLoop_outer _ _ _ _ _
  · simp only [resolve, hg]
    simp [go_sem]
  · simp [invoke, go_sem, eg]
  refine (hseq (w.heap.size + 1)
    (fun pre W => I pre W ∧ W.heap[w.heap.size + 1]? = some (.loop (R .ready none)) ∧ W.heap[w.heap.size]? = some (.deferred (some [])))
    (fun pre W => ∃ c, Ix c pre W ∧ W.heap[w.heap.size + 1]? = some (.loop (R .done (some c))) ∧ W.heap[w.heap.size]? = some (.deferred (some [])))
    V belV ?_ ?_ ?_ ⟨start, recd, mark⟩).mono ?_
  · rintro s A B row ⟨h2, h3, h4⟩ hgr hr
    exact ⟨hI s A B row h2 hgr (walks (B := B) hr), (grownBy_keeps hgr (fun r e => (hr r e).2) h3 rfl).trans h3, (grownBy_keeps hgr (fun r e => (hr r e).2) h4 rfl).trans h4⟩
  · rintro s A B row ⟨c, h2, h3, h4⟩ hgr hr
    exact ⟨c, hIx c s A B row h2 hgr (walks (B := B) hr), (grownBy_keeps hgr (fun r e => (hr r e).2) h3 rfl).trans h3, (grownBy_keeps hgr (fun r e => (hr r e).2) h4 rfl).trans h4⟩
  · rintro pre x W ⟨h2, h3, h4⟩ hgx hlen
    refine round (I1 := I (pre ++ [x])) (Ix := fun c W => Ix c (pre ++ [x]) W) hR rfl (hps x) h3 h4 hKt (put _) (fun K hK => hassign _ x W K hK) ?_
    refine wpIn_mono (hbody _ pre x _ (hI.putObj _ h2 (by omega) h3 rfl) ((hG x).putObj (s := ()) _ hgx (by omega) h3 rfl) hlen) ?_
    intro e a3 W3 hp
    cases e <;> exact hp
  · rintro e W2 ⟨⟨v, rfl⟩, (⟨xs, hS, h2, h3, h4⟩ | ⟨pre, hSp, c, h2, h3, h4⟩)⟩
    · have hend := run_endLoop (P := P) h3 (by rw [hR]; simp)
      refine ⟨none, _, by rw [hR] at hend; exact hend, ?_⟩
      exact hdone _ xs _ (Nat.le_refl _) hS ((put xs W2 _ _ h3).1 h2) ((World.putObj_heap_other (by omega)).trans h4)
    · have hend := run_endLoop (P := P) h3 (by rw [hR]; simp)
      refine ⟨some c, _, by rw [hR] at hend; exact hend, ?_⟩
      exact hstop _ c pre _ (Nat.le_refl _) hSp ((put pre W2 _ _ h3).2.1 c h2) ((World.putObj_heap_other (by omega)).trans h4)
end Go.Proofs.Ytjeoccjemkdbiaa.Frs
