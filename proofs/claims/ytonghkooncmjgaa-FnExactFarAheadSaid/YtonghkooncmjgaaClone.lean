/- slices.Clone of a list that is not empty; copyOf. -/
import Derived.Test.YtonghkooncmjgaaGrow
import Derived.WalkSpells
import Derived.Lib.LazyBuf
namespace Go.Proofs.Ytonghkooncmjgaa.Clone
open Go.RowKit Go.Proofs.Ytonghkooncmjgaa.Rd Go.Proofs.Ytonghkooncmjgaa.Help Go.Proofs.Ytonghkooncmjgaa.FVal Go.Proofs.Ytonghkooncmjgaa.Keep Go.Proofs.Ytonghkooncmjgaa.Rule
set_option linter.unusedVariables false
set_option linter.unusedSimpArgs false

theorem appendAll {ops : Array Oper} {rest : List Oper} {o : Oper} {a : Act} {Q : Exit → Act → World → Prop} {W : World} (hgd : o.guard = none) (s x : Operand)
    (ho : o.op = .call { callee := .builtin .append, args := #[s, x], argTypes := #[22, 22] })
    (base : Nat) (v : Value) (hs : a.eval s = v) (hown : W.ownsRow base 2 1 v 0 []) (b off c : Nat) (zs : List Int)
    (hx : a.eval x = .slice (some ⟨b, off, none⟩) zs.length c) (hc : ∀ i, i < zs.length → W.cell? ⟨b, off + i, none⟩ = some (.int .i64 (zs.getD i 0))) (hlen : zs.length ≤ 1000000000) (hbase : base ≤ W.heap.size)
    (h : ∀ v' w', w'.ownsRow base 2 1 v' zs.length (zs.map (Value.int .i64)) → Below base W w' → wpList Try.prog ops Q rest (a.put o.dst v') w') :
    wpList Try.prog ops Q (o :: rest) a W := by
  obtain ⟨i, hi, hz0, hz1, hz2⟩ := info_parts infoI
  refine wpList_append_own W hgd s x 22 ho base 2 i (.int .i64 0) 1 8 Try.underlying22 hi hz0 hz1 hz2 rfl (by decide) v 0 [] hs hown ⟨b, off, none⟩ zs.length c (zs.map (Value.int .i64)) hx (by simp) ?_ ?_ ?_ ?_ hbase ?_
  · intro j u hj
    have hjl : j < zs.length := by have := (List.getElem?_eq_some_iff.1 hj).1; simpa using this
    rw [Go.WideShapes.add_plain, hc j hjl]
    simp [hjl] at hj
    simp [List.getD, hjl, hj]
  · intro u hu
    simp at hu
    obtain ⟨n, _, rfl⟩ := hu
    rfl
  · unfold maxLen; omega
  · omega
  · intro v' w' h1 hg _
    exact h v' w' (by simpa using h1) ((Below.refl base W).grown hg hbase (fun k hk => (hown.lt k hk).1))

set_option maxHeartbeats 1000000 in
theorem clone {w : World} {b : Nat} {v : Value} {zs : List Int} (h : Rd w b v zs) (hn : 1 ≤ zs.length ∧ zs.length ≤ 1048576) :
    Calls Try.prog 120 #[v] w fun e w' => ∃ v' b', e = .returned v' ∧ Own 2 w' b' v' zs ∧ w.heap.size ≤ b' ∧ Below w.heap.size w w' := by
  obtain ⟨ao, cap, rfl, hc, hm, h4⟩ := h
  obtain ⟨off, rfl, hb, hcell⟩ := h4 (by omega)
  have hnil : ∀ w : World, (binOp .eql 22 (.slice (some ⟨b, off, none⟩) zs.length cap) (.slice none 0 0)).run Try.prog w = .ok (.bool false) w := fun w => Lib.run_eql_slice_nil w _ _ _ _ _ _ _ Try.underlying22
  have HC := hid hcell
  clear hcell h4
  go_enter Try.func120, Try.ntmps120
  go_wp2_with (first | (at_builtin; refine appendAll rfl _ _ rfl w.heap.size _ rfl (World.ownsRow_lit (base := w.heap.size) (e := 2) (size := 1) w #[] 0 (Nat.le_refl _) (by simp) (by simp)) b off cap zs rfl (fun i hi => cell_keep (below1 _ _) (HC.out i hi)) ?c1 ?c2 ?_) | go_in)
  case c1 => omega
  case c2 => simp
  · intro v' w1 hown hbel
    have HO := hid hown
    have HB := hid (((Below.refl w.heap.size w).alloc (Nat.le_refl _) _).trans hbel)
    clear hown hbel
    go_wp2
    go_ret
    obtain ⟨b', hb', ho⟩ := Own.of HO.out
    exact ⟨_, b', rfl, ho, hb', HB.out⟩

end Go.Proofs.Ytonghkooncmjgaa.Clone
