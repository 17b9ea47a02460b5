/- copy(..) into a row of one's own; lists told by rows. -/
import Derived.Test.YtjeoccjemkdbiaaGrow
import Derived.Laws.CopyOwn
namespace Go.Proofs.Ytjeoccjemkdbiaa.Copy
open Go.RowKit Go.Proofs.Ytjeoccjemkdbiaa.Rd Go.Proofs.Ytjeoccjemkdbiaa.Help Go.Proofs.Ytjeoccjemkdbiaa.FVal Go.Proofs.Ytjeoccjemkdbiaa.Keep Go.Proofs.Ytjeoccjemkdbiaa.Rule Go.Proofs.Ytjeoccjemkdbiaa.Grow
set_option linter.unusedVariables false
set_option linter.unusedSimpArgs false

theorem splice_get {zs xs : List Int} {off i : Nat} (hf : off + xs.length ≤ zs.length) : (splice zs off xs).getD i 0 = if off ≤ i ∧ i < off + xs.length then xs.getD (i - off) 0 else zs.getD i 0 := by
  have ht : (zs.take off).length = off := by simp; omega
  simp only [splice, List.getD]
  by_cases h1 : i < off
  · rw [if_neg (by omega), List.getElem?_append_left (by omega), List.getElem?_take, if_pos h1]
  · rw [List.getElem?_append_right (by omega), ht]
    by_cases h2 : i < off + xs.length
    · rw [if_pos (by omega), List.getElem?_append_left (by omega)]
    · rw [if_neg (by omega), List.getElem?_append_right (by omega), List.getElem?_drop]
      congr 2; omega
theorem splice_take {α : Type} (cur X : List α) (n off : Nat) (hf : off + X.length ≤ n) (hn : n ≤ cur.length) : (splice cur off X).take n = splice (cur.take n) off X := by
  have h1 : (cur.take off).length = off := by simp; omega
  have h2 : ((cur.take n).take off).length = off := by simp; omega
  apply List.ext_getElem?
  intro i
  rw [List.getElem?_take]
  simp only [splice]
  by_cases hi : i < n
  · rw [if_pos hi]
    by_cases a1 : i < off
    · rw [List.getElem?_append_left (by omega), List.getElem?_append_left (by omega), List.getElem?_take, List.getElem?_take, if_pos a1, if_pos a1, List.getElem?_take, if_pos hi]
    · rw [List.getElem?_append_right (show (cur.take off).length ≤ i by omega), List.getElem?_append_right (show ((cur.take n).take off).length ≤ i by omega), h1, h2]
      by_cases a2 : i < off + X.length
      · rw [List.getElem?_append_left (by omega), List.getElem?_append_left (by omega)]
      · rw [List.getElem?_append_right (show X.length ≤ i - off by omega), List.getElem?_append_right (show X.length ≤ i - off by omega), List.getElem?_drop, List.getElem?_drop, List.getElem?_take, if_pos (by omega)]
  · rw [if_neg hi, List.getElem?_append_right (show ((cur.take n).take off).length ≤ i by omega), h2, List.getElem?_append_right (show X.length ≤ i - off by omega), List.getElem?_drop, List.getElem?_take, if_neg (by omega)]
theorem splice_map (cur : List Value) (zs xs : List Int) (n off : Nat) (h : cur.take n = zs.map (Value.int .i64)) (hz : zs.length = n) (hf : off + xs.length ≤ n) :
    (splice cur off (xs.map (Value.int .i64))).take n = (splice zs off xs).map (Value.int .i64) := by
  have hc : n ≤ cur.length := by
    have := congrArg List.length h
    simp at this; omega
  rw [splice_take _ _ _ _ (by simp only [List.length_map]; exact hf) hc, h]
  simp [splice, List.map_take, List.map_drop]

theorem step_copy {ops : Array Oper} {o : Oper} {a : Act} {W : World} {K : Act → World → Prop} {Q : Exit → Act → World → Prop} {X : Prop} (hgd : o.guard = none) (d s : Operand)
    (ho : o.op = .call { callee := .builtin .copy, args := #[d, s], argTypes := #[22, 22] })
    {b n cap : Nat} {zs xs : List Int} (ow : Own 2 W b (.slice (some ⟨b, 0, none⟩) n cap) zs) (hz : zs.length = n)
    (off dLen dCap b2 o2 sLen sCap : Nat) (hd : a.eval d = .slice (some ⟨b, off, none⟩) dLen dCap) (hs : a.eval s = .slice (some ⟨b2, o2, none⟩) sLen sCap)
    (hn : xs.length = Nat.min sLen dLen) (hsrc : ∀ i, i < xs.length → W.cell? ⟨b2, o2 + i, none⟩ = some (.int .i64 (xs.getD i 0))) (hfit : off + xs.length ≤ n)
    (h : ∀ w', Own 2 w' b (.slice (some ⟨b, 0, none⟩) n cap) (splice zs off xs) → W.grownBy w' (some b) → K (a.put o.dst (goInt xs.length)) w') :
    if Region.wanted o (yielded ops a.tmps) = true then Oper.wp Try.prog o a W K Q else X := by
  have hw : Region.wanted o (yielded ops a.tmps) = true := by simp [Region.wanted, hgd]
  rw [if_pos hw]
  obtain ⟨⟨e1, h2⟩, e3⟩ := ow
  rcases h2 with ⟨h', _⟩ | ⟨g, cap', cur, hv, hb, hg, hnc, hcm, hcs, htake⟩
  · simp at h'
  simp only [Value.slice.injEq, Option.some.injEq, Addr.mk.injEq, and_true, true_and] at hv
  obtain ⟨rfl, hl, rfl⟩ := hv
  have hcl : cur.toList.length = cap := by simpa using hcs
  have htk : cur.toList.take n = zs.map (Value.int .i64) := by rw [hz] at htake; simpa using htake
  have hrun := run_copy_row (P := Try.prog) W 22 22 o.type 2 b off dLen dCap ⟨b2, o2, none⟩ sLen sCap cur 2 (xs.map (Value.int .i64)) Try.underlying22 (by kernel_rfl) hg (by simpa using hn)
    (by
      intro j v hj
      have hjl : j < xs.length := by have := (List.getElem?_eq_some_iff.1 hj).1; simpa using this
      rw [Go.WideShapes.add_plain, hsrc j hjl]
      simp [hjl] at hj
      simp [List.getD, hjl, hj])
    (by simp only [List.length_map]; omega)
    (by intro u hu; simp at hu; obtain ⟨x, _, rfl⟩ := hu; rfl)
  unfold Oper.wp
  simp [execOp, ho, resolve, invoke, builtin, hd, hs, hrun, Result.andThen]
  have hk := h (W.setRow b (splice cur.toList off (xs.map (Value.int .i64))).toArray) ?_ ⟨rfl, rfl, rfl, by simp [World.setRow], fun k _ hne => setRow_other W b k _ (fun e => hne (by rw [e]))⟩
  · simpa [splice, Oper.upon] using hk
  · have hsl : (splice cur.toList off (xs.map (Value.int .i64))).length = cap := by rw [length_splice _ _ _ (by simp only [List.length_map]; omega)]; exact hcl
    have hsz : (splice zs off xs).length = n := by rw [length_splice _ _ _ (by omega)]; exact hz
    refine ⟨⟨by simp [hsz, hz], .inr ⟨b, cap, (splice cur.toList off (xs.map (Value.int .i64))).toArray, by rw [hsz], hb, setRow_heap W b cur _ 2 (0, 0) hg, by rw [hsz]; omega, hcm, by simp [hsl], ?_⟩⟩, e3⟩
    rw [hsz, Nat.mul_one]
    exact splice_map _ _ _ _ _ htk hz (by omega)

/-- A list of R rows of C cells. -/
def AtG (ys : List Int) (R C : Nat) (f : Nat → Nat → Int) : Prop := ys.length = R * C ∧ ∀ i k, i < R → k < C → ys.getD (i * C + k) 0 = f i k
theorem at_grid {ys : List Int} {R C : Nat} {f : Nat → Nat → Int} (hl : ys.length = R * C) (h : ∀ i k, i < R → k < C → ys.getD (i * C + k) 0 = f i k) : ys = grid R C f := by
  apply List.ext_getElem
  · rw [hl, grid_len]
  · intro t h1 h2
    have hC : 0 < C := by
      rcases Nat.eq_zero_or_pos C with e | e
      · subst e; simp at hl; rw [hl] at h1; simp at h1
      · exact e
    have ht : t / C * C + t % C = t := by rw [Nat.mul_comm]; exact Nat.div_add_mod t C
    have hk : t % C < C := Nat.mod_lt _ hC
    have hi : t / C < R := by rw [Nat.div_lt_iff_lt_mul hC]; omega
    have e1 := h (t / C) (t % C) hi hk
    have e2 := grid_get f hi hk
    rw [ht] at e1 e2
    simp only [List.getD, List.getElem?_eq_getElem h1, List.getElem?_eq_getElem h2, Option.getD_some] at e1 e2
    rw [e1, e2]
/-- The rows before p are as F says, the others as G. -/
def upTo (F G : Nat → Nat → Int) (p i k : Nat) : Int := if i < p then F i k else G i k
theorem row_step {ys xs : List Int} {R C p : Nat} {F G : Nat → Nat → Int} (hp : p < R) (h : AtG ys R C (upTo F G p)) (hx : xs.length = C) (hf : ∀ k, k < C → xs.getD k 0 = F p k) : AtG (splice ys (p * C) xs) R C (upTo F G (p + 1)) := by
  have hin := Row.row_in (C := C) hp
  have hfit : p * C + xs.length ≤ ys.length := by rw [h.1, hx]; exact hin
  refine ⟨by rw [length_splice _ _ _ hfit]; exact h.1, fun i k hi hk => ?_⟩
  rw [splice_get hfit, hx]
  rcases Nat.lt_trichotomy i p with hip | hip | hip
  · have hm := Nat.mul_le_mul_right C (show i + 1 ≤ p by omega)
    rw [Nat.succ_mul] at hm
    rw [if_neg (by omega), h.2 i k hi hk, upTo, upTo, if_pos hip, if_pos (by omega)]
  · subst hip
    rw [if_pos (by omega), Nat.add_sub_cancel_left, hf k hk, upTo, if_pos (by omega)]
  · have hm := Nat.mul_le_mul_right C (show p + 1 ≤ i by omega)
    rw [Nat.succ_mul] at hm
    rw [if_neg (by omega), h.2 i k hi hk, upTo, upTo, if_neg (by omega), if_neg (by omega)]
theorem rows_start {ys : List Int} {R C : Nat} {F G : Nat → Nat → Int} (hl : ys.length = R * C) (h : ∀ i k, i < R → k < C → ys.getD (i * C + k) 0 = G i k) : AtG ys R C (upTo F G 0) :=
  ⟨hl, fun i k hi hk => by rw [h i k hi hk, upTo, if_neg (by omega)]⟩
theorem rows_end {ys : List Int} {R C : Nat} {F G : Nat → Nat → Int} (h : AtG ys R C (upTo F G R)) : ys = grid R C F :=
  at_grid h.1 (fun i k hi hk => by rw [h.2 i k hi hk, upTo, if_pos hi])
theorem zeros_get {n i : Nat} : (List.replicate n (0 : Int)).getD i 0 = 0 := by
  simp only [List.getD, List.getElem?_replicate]
  split <;> rfl

end Go.Proofs.Ytjeoccjemkdbiaa.Copy
