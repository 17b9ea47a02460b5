/- Copies of a gas: appends to an empty list, slices.Clone of bools, impl.withParticles, spec.l06Own. -/
import Derived.Test.YtnpjhhkhdeomcaaGasM
import Derived.Test.YtnpjhhkhdeomcaaGVal
import Derived.WalkSpells
import Derived.Lib.LazyBuf
namespace Go.Proofs.Ytnpjhhkhdeomcaa.GOwn
open Go.RowKit Go.Proofs.Ytnpjhhkhdeomcaa.Rd Go.Proofs.Ytnpjhhkhdeomcaa.Rdb Go.Proofs.Ytnpjhhkhdeomcaa.Help Go.Proofs.Ytnpjhhkhdeomcaa.FVal Go.Proofs.Ytnpjhhkhdeomcaa.Keep Go.Proofs.Ytnpjhhkhdeomcaa.Rule
set_option linter.unusedVariables false
set_option linter.unusedSimpArgs false

theorem op_appendI {ops : Array Oper} {o : Oper} {a : Act} {K : Act → World → Prop} {Q : Exit → Act → World → Prop} {X : Prop} {W : World} (hgd : o.guard = none) (s x : Operand)
    (ho : o.op = .call { callee := .builtin .append, args := #[s, x], argTypes := #[22, 22] })
    (base : Nat) (v : Value) (hs : a.eval s = v) (hown : W.ownsRow base 2 1 v 0 []) (b off c : Nat) (zs : List Int)
    (hx : a.eval x = .slice (some ⟨b, off, none⟩) zs.length c) (hc : ∀ i, i < zs.length → W.cell? ⟨b, off + i, none⟩ = some (Value.int .i64 (zs.getD i 0))) (hlen : zs.length ≤ 1000000000) (hbase : base ≤ W.heap.size)
    (h : ∀ v' w', w'.ownsRow base 2 1 v' zs.length (zs.map (Value.int .i64)) → Below base W w' → W.grownBy w' v.ownBlock → (v'.ownBlock = v.ownBlock ∨ v'.ownBlock = some W.heap.size) → K (a.put o.dst v') w') :
    if Region.wanted o (yielded ops a.tmps) = true then Oper.wp Try.prog o a W K Q else X := by
  have hw : Region.wanted o (yielded ops a.tmps) = true := by simp [Region.wanted, hgd]
  rw [if_pos hw]
  obtain ⟨i, hi, hz0, hz1, hz2⟩ := info_parts infoI
  obtain ⟨v', w', hr, h2, h3, h4, h5⟩ := run_append_own_at (P := Try.prog) (w := W) base 22 o.type 2 i (Value.int .i64 0) 1 8 Try.underlying22 hi hz0 hz1 hz2 rfl (by decide) v 0 [] hown ⟨b, off, none⟩ zs.length c (zs.map (Value.int .i64)) (by simp)
    (by
      intro j u hj
      have hjl : j < zs.length := by have := (List.getElem?_eq_some_iff.1 hj).1; simpa using this
      rw [Go.WideShapes.add_plain, hc j hjl]
      simp [hjl] at hj
      simp [List.getD, hjl, hj])
    (by intro u hu; rw [List.mem_map] at hu; obtain ⟨x, _, rfl⟩ := hu; rfl) (by unfold maxLen; omega) (by omega) hbase
  unfold Oper.wp execOp
  simp only [ho, resolve, invoke, builtin, Sem.run_bind, Sem.run_pure, Result.andThen_ok, List.map_toArray, List.map_cons, List.map_nil, hs, hx, hr]
  refine h v' w' (by simpa using h2) ((Below.refl base W).grown h3 hbase (fun k hk => (hown.lt k hk).1)) h3 h5

theorem appendI {ops : Array Oper} {rest : List Oper} {o : Oper} {a : Act} {Q : Exit → Act → World → Prop} {W : World} (hgd : o.guard = none) (s x : Operand)
    (ho : o.op = .call { callee := .builtin .append, args := #[s, x], argTypes := #[22, 22] })
    (base : Nat) (v : Value) (hs : a.eval s = v) (hown : W.ownsRow base 2 1 v 0 []) (b off c : Nat) (zs : List Int)
    (hx : a.eval x = .slice (some ⟨b, off, none⟩) zs.length c) (hc : ∀ i, i < zs.length → W.cell? ⟨b, off + i, none⟩ = some (Value.int .i64 (zs.getD i 0))) (hlen : zs.length ≤ 1000000000) (hbase : base ≤ W.heap.size)
    (h : ∀ v' w', w'.ownsRow base 2 1 v' zs.length (zs.map (Value.int .i64)) → Below base W w' → wpList Try.prog ops Q rest (a.put o.dst v') w') :
    wpList Try.prog ops Q (o :: rest) a W := by
  obtain ⟨i, hi, hz0, hz1, hz2⟩ := info_parts infoI
  refine wpList_append_own W hgd s x 22 ho base 2 i (Value.int .i64 0) 1 8 Try.underlying22 hi hz0 hz1 hz2 rfl (by decide) v 0 [] hs hown ⟨b, off, none⟩ zs.length c (zs.map (Value.int .i64)) hx (by simp) ?_ ?_ ?_ ?_ hbase ?_
  · intro j u hj
    have hjl : j < zs.length := by have := (List.getElem?_eq_some_iff.1 hj).1; simpa using this
    rw [Go.WideShapes.add_plain, hc j hjl]
    simp [hjl] at hj
    simp [List.getD, hjl, hj]
  · intro u hu
    rw [List.mem_map] at hu
    obtain ⟨n, _, rfl⟩ := hu
    rfl
  · unfold maxLen; omega
  · omega
  · intro v' w' h1 hg _
    exact h v' w' (by simpa using h1) ((Below.refl base W).grown hg hbase (fun k hk => (hown.lt k hk).1))

theorem op_appendB {ops : Array Oper} {o : Oper} {a : Act} {K : Act → World → Prop} {Q : Exit → Act → World → Prop} {X : Prop} {W : World} (hgd : o.guard = none) (s x : Operand)
    (ho : o.op = .call { callee := .builtin .append, args := #[s, x], argTypes := #[26, 26] })
    (base : Nat) (v : Value) (hs : a.eval s = v) (hown : W.ownsRow base 4 1 v 0 []) (b off c : Nat) (zs : List Bool)
    (hx : a.eval x = .slice (some ⟨b, off, none⟩) zs.length c) (hc : ∀ i, i < zs.length → W.cell? ⟨b, off + i, none⟩ = some (Value.bool (zs.getD i false))) (hlen : zs.length ≤ 1000000000) (hbase : base ≤ W.heap.size)
    (h : ∀ v' w', w'.ownsRow base 4 1 v' zs.length (zs.map (Value.bool)) → Below base W w' → W.grownBy w' v.ownBlock → (v'.ownBlock = v.ownBlock ∨ v'.ownBlock = some W.heap.size) → K (a.put o.dst v') w') :
    if Region.wanted o (yielded ops a.tmps) = true then Oper.wp Try.prog o a W K Q else X := by
  have hw : Region.wanted o (yielded ops a.tmps) = true := by simp [Region.wanted, hgd]
  rw [if_pos hw]
  obtain ⟨i, hi, hz0, hz1, hz2⟩ := info_parts infoB
  obtain ⟨v', w', hr, h2, h3, h4, h5⟩ := run_append_own_at (P := Try.prog) (w := W) base 26 o.type 4 i (Value.bool false) 1 1 Try.underlying26 hi hz0 hz1 hz2 rfl (by decide) v 0 [] hown ⟨b, off, none⟩ zs.length c (zs.map (Value.bool)) (by simp)
    (by
      intro j u hj
      have hjl : j < zs.length := by have := (List.getElem?_eq_some_iff.1 hj).1; simpa using this
      rw [Go.WideShapes.add_plain, hc j hjl]
      simp [hjl] at hj
      simp [List.getD, hjl, hj])
    (by intro u hu; rw [List.mem_map] at hu; obtain ⟨x, _, rfl⟩ := hu; rfl) (by unfold maxLen; omega) (by omega) hbase
  unfold Oper.wp execOp
  simp only [ho, resolve, invoke, builtin, Sem.run_bind, Sem.run_pure, Result.andThen_ok, List.map_toArray, List.map_cons, List.map_nil, hs, hx, hr]
  refine h v' w' (by simpa using h2) ((Below.refl base W).grown h3 hbase (fun k hk => (hown.lt k hk).1)) h3 h5

theorem appendB {ops : Array Oper} {rest : List Oper} {o : Oper} {a : Act} {Q : Exit → Act → World → Prop} {W : World} (hgd : o.guard = none) (s x : Operand)
    (ho : o.op = .call { callee := .builtin .append, args := #[s, x], argTypes := #[26, 26] })
    (base : Nat) (v : Value) (hs : a.eval s = v) (hown : W.ownsRow base 4 1 v 0 []) (b off c : Nat) (zs : List Bool)
    (hx : a.eval x = .slice (some ⟨b, off, none⟩) zs.length c) (hc : ∀ i, i < zs.length → W.cell? ⟨b, off + i, none⟩ = some (Value.bool (zs.getD i false))) (hlen : zs.length ≤ 1000000000) (hbase : base ≤ W.heap.size)
    (h : ∀ v' w', w'.ownsRow base 4 1 v' zs.length (zs.map (Value.bool)) → Below base W w' → wpList Try.prog ops Q rest (a.put o.dst v') w') :
    wpList Try.prog ops Q (o :: rest) a W := by
  obtain ⟨i, hi, hz0, hz1, hz2⟩ := info_parts infoB
  refine wpList_append_own W hgd s x 26 ho base 4 i (Value.bool false) 1 1 Try.underlying26 hi hz0 hz1 hz2 rfl (by decide) v 0 [] hs hown ⟨b, off, none⟩ zs.length c (zs.map (Value.bool)) hx (by simp) ?_ ?_ ?_ ?_ hbase ?_
  · intro j u hj
    have hjl : j < zs.length := by have := (List.getElem?_eq_some_iff.1 hj).1; simpa using this
    rw [Go.WideShapes.add_plain, hc j hjl]
    simp [hjl] at hj
    simp [List.getD, hjl, hj]
  · intro u hu
    rw [List.mem_map] at hu
    obtain ⟨n, _, rfl⟩ := hu
    rfl
  · unfold maxLen; omega
  · omega
  · intro v' w' h1 hg _
    exact h v' w' (by simpa using h1) ((Below.refl base W).grown hg hbase (fun k hk => (hown.lt k hk).1))

theorem nx5_B {N : Nat} {w0 w w' : World} {p0 p1 p2 p3 p4 : Addr} {c0 c1 c2 c3 c4 : Value} {b0 : Nat} {v0 : Value} {z0 : List Bool} (bel : Below w.heap.size w w') (h : Below N w0 w ∧ w.cell? p0 = some c0 ∧ w.cell? p1 = some c1 ∧ w.cell? p2 = some c2 ∧ w.cell? p3 = some c3 ∧ w.cell? p4 = some c4 ∧ RdB w b0 v0 z0 ∧ N ≤ w.heap.size) : Below N w0 w' ∧ w'.cell? p0 = some c0 ∧ w'.cell? p1 = some c1 ∧ w'.cell? p2 = some c2 ∧ w'.cell? p3 = some c3 ∧ w'.cell? p4 = some c4 ∧ RdB w' b0 v0 z0 ∧ N ≤ w'.heap.size := by obtain ⟨h0, x0, x1, x2, x3, x4, y0, h5⟩ := h; exact ⟨h0.trans (bel.mono h5), cell_keep bel x0, cell_keep bel x1, cell_keep bel x2, cell_keep bel x3, cell_keep bel x4, y0.keep bel (Nat.le_refl _), Nat.le_trans h5 bel.size⟩
theorem drw5_B {N : Nat} {w0 w : World} {p0 p1 p2 p3 p4 : Addr} {c0 c1 c2 c3 c4 : Value} {b0 : Nat} {v0 : Value} {z0 : List Bool} (h : Below N w0 w ∧ w.cell? p0 = some c0 ∧ w.cell? p1 = some c1 ∧ w.cell? p2 = some c2 ∧ w.cell? p3 = some c3 ∧ w.cell? p4 = some c4 ∧ RdB w b0 v0 z0 ∧ N ≤ w.heap.size) : Below N w0 w.drew ∧ w.drew.cell? p0 = some c0 ∧ w.drew.cell? p1 = some c1 ∧ w.drew.cell? p2 = some c2 ∧ w.drew.cell? p3 = some c3 ∧ w.drew.cell? p4 = some c4 ∧ RdB w.drew b0 v0 z0 ∧ N ≤ w.drew.heap.size := by obtain ⟨h0, x0, x1, x2, x3, x4, y0, h5⟩ := h; exact ⟨h0.drew, x0, x1, x2, x3, x4, y0, h5⟩
theorem rdx5_B_0 {N : Nat} {w0 w : World} {p0 p1 p2 p3 p4 : Addr} {c0 c1 c2 c3 c4 : Value} {b0 : Nat} {v0 : Value} {z0 : List Bool} (h : Below N w0 w ∧ w.cell? p0 = some c0 ∧ w.cell? p1 = some c1 ∧ w.cell? p2 = some c2 ∧ w.cell? p3 = some c3 ∧ w.cell? p4 = some c4 ∧ RdB w b0 v0 z0 ∧ N ≤ w.heap.size) : RdB w b0 v0 z0 := by obtain ⟨h0, x0, x1, x2, x3, x4, y0, h5⟩ := h; exact y0
theorem nx5_ {N : Nat} {w0 w w' : World} {p0 p1 p2 p3 p4 : Addr} {c0 c1 c2 c3 c4 : Value} (bel : Below w.heap.size w w') (h : Below N w0 w ∧ w.cell? p0 = some c0 ∧ w.cell? p1 = some c1 ∧ w.cell? p2 = some c2 ∧ w.cell? p3 = some c3 ∧ w.cell? p4 = some c4 ∧ N ≤ w.heap.size) : Below N w0 w' ∧ w'.cell? p0 = some c0 ∧ w'.cell? p1 = some c1 ∧ w'.cell? p2 = some c2 ∧ w'.cell? p3 = some c3 ∧ w'.cell? p4 = some c4 ∧ N ≤ w'.heap.size := by obtain ⟨h0, x0, x1, x2, x3, x4, h5⟩ := h; exact ⟨h0.trans (bel.mono h5), cell_keep bel x0, cell_keep bel x1, cell_keep bel x2, cell_keep bel x3, cell_keep bel x4, Nat.le_trans h5 bel.size⟩
theorem drw5_ {N : Nat} {w0 w : World} {p0 p1 p2 p3 p4 : Addr} {c0 c1 c2 c3 c4 : Value} (h : Below N w0 w ∧ w.cell? p0 = some c0 ∧ w.cell? p1 = some c1 ∧ w.cell? p2 = some c2 ∧ w.cell? p3 = some c3 ∧ w.cell? p4 = some c4 ∧ N ≤ w.heap.size) : Below N w0 w.drew ∧ w.drew.cell? p0 = some c0 ∧ w.drew.cell? p1 = some c1 ∧ w.drew.cell? p2 = some c2 ∧ w.drew.cell? p3 = some c3 ∧ w.drew.cell? p4 = some c4 ∧ N ≤ w.drew.heap.size := by obtain ⟨h0, x0, x1, x2, x3, x4, h5⟩ := h; exact ⟨h0.drew, x0, x1, x2, x3, x4, h5⟩

set_option maxHeartbeats 1000000 in
theorem cloneB {w : World} {b : Nat} {v : Value} {zs : List Bool} (h : RdB w b v zs) (hn : 1 ≤ zs.length ∧ zs.length ≤ 1048576) :
    Calls Try.prog 68 #[v] w fun e w' => ∃ b' k, e = .returned (.slice (some ⟨b', 0, none⟩) zs.length k) ∧ OwnB 4 w' b' (.slice (some ⟨b', 0, none⟩) zs.length k) zs ∧ w.heap.size ≤ b' ∧ Below w.heap.size w w' := by
  have HN := hid hn
  obtain ⟨ao, cap, rfl, hc, hm, h4⟩ := h
  obtain ⟨off, rfl, hb, hcell⟩ := h4 (by omega)
  have hnil : ∀ w : World, (binOp .eql 26 (.slice (some ⟨b, off, none⟩) zs.length cap) (.slice none 0 0)).run Try.prog w = .ok (.bool false) w := fun w => Lib.run_eql_slice_nil w _ _ _ _ _ _ _ Try.underlying26
  have HC := hid hcell
  clear hcell h4
  go_enter Try.func68, Try.ntmps68
  go_wp2_with (first | (at_builtin; refine appendB rfl _ _ rfl w.heap.size _ rfl (World.ownsRow_lit (base := w.heap.size) (e := 4) (size := 1) w #[] 0 (Nat.le_refl _) (by simp) (by simp)) b off cap zs rfl (fun i hi => cell_keep (below1 _ _) (HC.out i hi)) ?c1 ?c2 ?_) | go_in)
  case c1 => omega
  case c2 => simp
  · intro v' w1 hown hbel
    have HB := hid (((Below.refl w.heap.size w).alloc (Nat.le_refl _) _).trans hbel)
    obtain ⟨b', hb', ho⟩ := OwnB.of hown
    rcases ho.form with ⟨_, he⟩ | ⟨k, rfl, hk1, hk2, _⟩
    · exact absurd he (by intro e; have := HN.out.1; rw [e] at this; simp at this)
    have HO := hid ho
    have HL := hid hb'
    clear hown hbel ho hb'
    go_wp2
    go_ret
    exact ⟨b', k, rfl, HO.out, HL.out, HB.out⟩

set_option maxHeartbeats 4000000 in
set_option maxRecDepth 8000 in
theorem withP {w : World} {g s r : Int} {b2 n1 cap1 : Nat} {ao1 : Option Addr} {v2 : Value} {ys : List Bool} {vC : Value} {aoC : Option Addr} {nC cC : Nat} (hC : vC = .slice aoC nC cC) (h2 : RdB w b2 v2 ys) (hz : 1 ≤ ys.length ∧ ys.length ≤ 1048576) :
    Calls Try.prog 53 #[gasV g s r (.slice ao1 n1 cap1) v2, vC] w fun e w' => ∃ b' k, e = .returned (gasV g s r vC (.slice (some ⟨b', 0, none⟩) ys.length k)) ∧ OwnB 4 w' b' (.slice (some ⟨b', 0, none⟩) ys.length k) ys ∧ w.heap.size ≤ b' ∧ Below w.heap.size w w' := by
  have HH0 := hid h2
  have HZ := hid hz
  obtain ⟨ao2, cap2, rfl, hc, hm, _⟩ := h2
  clear hc hm hz
  subst hC
  go_enter Try.func53, Try.ntmps53
  go_wp2_with fail
  obtain ⟨w1, hW⟩ : ∃ w1, w1 = (w.alloc (Obj.cells #[.int .i64 g, .int .i64 s, .int .i64 r, (Value.slice ao1 n1 cap1), (Value.slice ao2 ys.length cap2)] 31)).alloc (Obj.cells #[.int .i64 0, .int .i64 0, .int .i64 0, .slice none 0 0, .slice none 0 0] 31) := ⟨_, rfl⟩
  obtain ⟨N, hN⟩ : ∃ N, N = w.heap.size := ⟨_, rfl⟩
  obtain ⟨NT, hM⟩ : ∃ NT, NT = N + 1 := ⟨_, rfl⟩
  have st : Below w.heap.size w w1 ∧ w1.cell? ⟨N, 0, none⟩ = some (.int .i64 g) ∧ w1.cell? ⟨N, 1, none⟩ = some (.int .i64 s) ∧ w1.cell? ⟨N, 2, none⟩ = some (.int .i64 r) ∧ w1.cell? ⟨N, 3, none⟩ = some ((Value.slice ao1 n1 cap1)) ∧ w1.cell? ⟨N, 4, none⟩ = some ((Value.slice ao2 ys.length cap2)) ∧ RdB w1 b2 (Value.slice ao2 ys.length cap2) ys ∧ w.heap.size ≤ w1.heap.size := by
    rw [hW, hN]
    exact ⟨Go.Joins.below_alloc2 _ _ _, by simp, by simp, by simp, by simp, by simp, HH0.out.keep (Go.Joins.below_alloc2 _ _ _) (Nat.le_refl _), by simp; omega⟩
  have kT : w1.heap[NT]? = some (Obj.cells #[.int .i64 0, .int .i64 0, .int .i64 0, .slice none 0 0, .slice none 0 0] 31) := by rw [hW]; exact FNew.heap_top (by rw [hM, hN]; simp)
  have HNT : Hid (w.heap.size ≤ NT) := by simp only [Hid]; omega
  have HNN : Hid (NT = N + 1) := hM
  simp only [← hW, ← hN, ← hM]
  clear hW hN hM
  refine wp_region_held_drew (S := (fun ww => Below w.heap.size w ww ∧ ww.cell? ⟨N, 0, none⟩ = some (.int .i64 g) ∧ ww.cell? ⟨N, 1, none⟩ = some (.int .i64 s) ∧ ww.cell? ⟨N, 2, none⟩ = some (.int .i64 r) ∧ ww.cell? ⟨N, 3, none⟩ = some ((Value.slice ao1 n1 cap1)) ∧ ww.cell? ⟨N, 4, none⟩ = some ((Value.slice ao2 ys.length cap2)) ∧ RdB ww b2 (Value.slice ao2 ys.length cap2) ys ∧ w.heap.size ≤ ww.heap.size)) (by kernel_rfl) ?_ (fun hHeld => ?_)
  · ((try dsimp only); exact drw5_B st)
  clear st
  (refine wpAnyH_take (i := 0) (v := ?_) rfl ?_ ?_ ?_ (fun _ _ _ h => h) (Or.inl ⟨?_, ?_⟩) ?_ ?_; rotate_left 1; (focus decide +kernel); (focus decide +kernel); (focus decide +kernel); (focus rfl); (focus (intro w hSw; (try dsimp only at hSw); go_simp; (try (with_reducible rfl)); done)); (focus assumption); (try simp only [Act.put, List.setIfInBounds_toArray, List.set_cons_zero, List.set_cons_succ, List.getElem_toArray, List.getElem_cons_succ, List.getElem_cons_zero]))
  (refine wpAnyH_take (i := 1) (v := ?_) rfl ?_ ?_ ?_ (fun _ _ _ h => h) (Or.inl ⟨?_, ?_⟩) ?_ ?_; rotate_left 1; (focus decide +kernel); (focus decide +kernel); (focus decide +kernel); (focus rfl); (focus (intro w hSw; (try dsimp only at hSw); go_simp; (try (with_reducible rfl)); done)); (focus assumption); (try simp only [Act.put, List.setIfInBounds_toArray, List.set_cons_zero, List.set_cons_succ, List.getElem_toArray, List.getElem_cons_succ, List.getElem_cons_zero]))
  (refine wpAnyH_take (i := 2) (v := ?_) rfl ?_ ?_ ?_ (fun _ _ _ h => h) (Or.inl ⟨?_, ?_⟩) ?_ ?_; rotate_left 1; (focus decide +kernel); (focus decide +kernel); (focus decide +kernel); (focus rfl); (focus (intro w hSw; (try dsimp only at hSw); go_simp; (try (with_reducible rfl)); done)); (focus assumption); (try simp only [Act.put, List.setIfInBounds_toArray, List.set_cons_zero, List.set_cons_succ, List.getElem_toArray, List.getElem_cons_succ, List.getElem_cons_zero]))
  (refine wpAnyH_take (i := 3) (v := ?_) rfl ?_ ?_ ?_ (fun _ _ _ h => h) (Or.inl ⟨?_, ?_⟩) ?_ ?_; rotate_left 1; (focus decide +kernel); (focus decide +kernel); (focus decide +kernel); (focus rfl); (focus (intro w hSw; (try dsimp only at hSw); go_simp; (try (with_reducible rfl)); done)); (focus assumption); (try simp only [Act.put, List.setIfInBounds_toArray, List.set_cons_zero, List.set_cons_succ, List.getElem_toArray, List.getElem_cons_succ, List.getElem_cons_zero]))
  (refine wpAnyH_take (i := 4) (v := ?_) rfl ?_ ?_ ?_ (fun _ _ _ h => h) (Or.inl ⟨?_, ?_⟩) ?_ ?_; rotate_left 1; (focus decide +kernel); (focus decide +kernel); (focus decide +kernel); (focus rfl); (focus (intro w hSw; (try dsimp only at hSw); go_simp; (try (with_reducible rfl)); done)); (focus assumption); (try simp only [Act.put, List.setIfInBounds_toArray, List.set_cons_zero, List.set_cons_succ, List.getElem_toArray, List.getElem_cons_succ, List.getElem_cons_zero]))
  (refine wpAnyH_take (i := 5) (v := ?_) rfl ?_ ?_ ?_ (fun _ _ _ h => h) (Or.inl ⟨?_, ?_⟩) ?_ ?_; rotate_left 1; (focus decide +kernel); (focus decide +kernel); (focus decide +kernel); (focus rfl); (focus (intro w hSw; (try dsimp only at hSw); go_simp; (try (with_reducible rfl)); done)); (focus assumption); (try simp only [Act.put, List.setIfInBounds_toArray, List.set_cons_zero, List.set_cons_succ, List.getElem_toArray, List.getElem_cons_succ, List.getElem_cons_zero]))
  (refine wpAnyH_take (i := 6) (v := ?_) rfl ?_ ?_ ?_ (fun _ _ _ h => h) (Or.inl ⟨?_, ?_⟩) ?_ ?_; rotate_left 1; (focus decide +kernel); (focus decide +kernel); (focus decide +kernel); (focus rfl); (focus (intro w hSw; (try dsimp only at hSw); go_simp; (try (with_reducible rfl)); done)); (focus assumption); (try simp only [Act.put, List.setIfInBounds_toArray, List.set_cons_zero, List.set_cons_succ, List.getElem_toArray, List.getElem_cons_succ, List.getElem_cons_zero]))
  (refine wpAnyH_take (i := 7) (v := ?_) rfl ?_ ?_ ?_ (fun _ _ _ h => h) (Or.inl ⟨?_, ?_⟩) ?_ ?_; rotate_left 1; (focus decide +kernel); (focus decide +kernel); (focus decide +kernel); (focus rfl); (focus (intro w hSw; (try dsimp only at hSw); go_simp; (try (with_reducible rfl)); done)); (focus assumption); (try simp only [Act.put, List.setIfInBounds_toArray, List.set_cons_zero, List.set_cons_succ, List.getElem_toArray, List.getElem_cons_succ, List.getElem_cons_zero]))
  (refine wpAnyH_take (i := 8) (v := ?_) rfl ?_ ?_ ?_ (fun _ _ _ h => h) (Or.inl ⟨?_, ?_⟩) ?_ ?_; rotate_left 1; (focus decide +kernel); (focus decide +kernel); (focus decide +kernel); (focus rfl); (focus (intro w hSw; (try dsimp only at hSw); go_simp; (try (with_reducible rfl)); done)); (focus assumption); (try simp only [Act.put, List.setIfInBounds_toArray, List.set_cons_zero, List.set_cons_succ, List.getElem_toArray, List.getElem_cons_succ, List.getElem_cons_zero]))
  refine wpAnyH_ready (rs := [9]) ?_ (by simp) ?_
  · decide +kernel
  refine AllReadyH.cons rfl (fun K hK => ?_) AllReadyH.nil
  go_simp
  go_at_call 68
  refine (cloneB (rdx5_B_0 hHeld) HZ.out).mono ?_
  rintro e w3 ⟨b5, k, rfl, ow, lo, bel⟩
  have kT3 := (bel.block NT (Array.getElem?_eq_some_iff.1 kT).1).trans kT
  have HNB : Hid (NT ≠ b5) := Nat.ne_of_lt (Nat.lt_of_lt_of_le (Array.getElem?_eq_some_iff.1 kT).1 lo)
  have HLo : Hid (w.heap.size ≤ b5) := Nat.le_trans hHeld.2.2.2.2.2.2.2 lo
  have HO := hid ow
  refine hK.out _ _ ?_ (fun hHeld3 => ?_)
  · (try dsimp only); exact nx5_B bel hHeld
  clear hK K hHeld kT bel ow lo
  (try simp only [Act.put, List.setIfInBounds_toArray, List.set_cons_zero, List.set_cons_succ, List.getElem_toArray, List.getElem_cons_succ, List.getElem_cons_zero])
  (refine wpAnyH_take (i := 10) (v := ?_) rfl ?_ ?_ ?_ (fun _ _ _ h => h) (Or.inl ⟨?_, ?_⟩) ?_ ?_; rotate_left 1; (focus decide +kernel); (focus decide +kernel); (focus decide +kernel); (focus rfl); (focus (intro w hSw; (try dsimp only at hSw); go_simp; (try (with_reducible rfl)); done)); (focus assumption); (try simp only [Act.put, List.setIfInBounds_toArray, List.set_cons_zero, List.set_cons_succ, List.getElem_toArray, List.getElem_cons_succ, List.getElem_cons_zero]))
  refine wpAnyH_ready (rs := [11]) ?_ (by simp) ?_
  · decide +kernel
  refine AllReadyH.cons rfl (fun K hK => ?_) AllReadyH.nil
  have y0 : w3.cell? ⟨NT, 0, none⟩ = some (.int .i64 0) := Go.Joins.cell_of_block kT3 0
  have y1 : w3.cell? ⟨NT, 1, none⟩ = some (.int .i64 0) := Go.Joins.cell_of_block kT3 1
  have y2 : w3.cell? ⟨NT, 2, none⟩ = some (.int .i64 0) := Go.Joins.cell_of_block kT3 2
  have y3 : w3.cell? ⟨NT, 3, none⟩ = some (.slice none 0 0) := Go.Joins.cell_of_block kT3 3
  have y4 : w3.cell? ⟨NT, 4, none⟩ = some (.slice none 0 0) := Go.Joins.cell_of_block kT3 4
  have g0 : w3.frozen? ⟨NT, 0, none⟩ = false := Go.Joins.unfrozen_of_block kT3 0
  have g1 : w3.frozen? ⟨NT, 1, none⟩ = false := Go.Joins.unfrozen_of_block kT3 1
  have g2 : w3.frozen? ⟨NT, 2, none⟩ = false := Go.Joins.unfrozen_of_block kT3 2
  have g3 : w3.frozen? ⟨NT, 3, none⟩ = false := Go.Joins.unfrozen_of_block kT3 3
  have g4 : w3.frozen? ⟨NT, 4, none⟩ = false := Go.Joins.unfrozen_of_block kT3 4
  have HKx := hid kT3
  clear kT3
  have HH4 := hid hHeld3
  go_simp
  have q0 := (Go.Joins.block_setCell (i := 4) (Go.Joins.block_setCell (i := 3) (Go.Joins.block_setCell (i := 2) (Go.Joins.block_setCell (i := 1) (Go.Joins.block_setCell (i := 0) HKx.out (.int .i64 g)) (.int .i64 s)) (.int .i64 r)) ((Value.slice aoC nC cC))) ((Value.slice (some ⟨b5, 0, none⟩) ys.length k)))
  have O5 := (ownB_set (ownB_set (ownB_set (ownB_set (ownB_set HO.out ⟨NT, 0, none⟩ (.int .i64 g) HNB.out) ⟨NT, 1, none⟩ (.int .i64 s) HNB.out) ⟨NT, 2, none⟩ (.int .i64 r) HNB.out) ⟨NT, 3, none⟩ ((Value.slice aoC nC cC)) HNB.out) ⟨NT, 4, none⟩ ((Value.slice (some ⟨b5, 0, none⟩) ys.length k)) HNB.out)
  have B5 := (((((HH4.out.1.setCell (p := ⟨NT, 0, none⟩) HNT.out (.int .i64 g)).setCell (p := ⟨NT, 1, none⟩) HNT.out (.int .i64 s)).setCell (p := ⟨NT, 2, none⟩) HNT.out (.int .i64 r)).setCell (p := ⟨NT, 3, none⟩) HNT.out ((Value.slice aoC nC cC))).setCell (p := ⟨NT, 4, none⟩) HNT.out ((Value.slice (some ⟨b5, 0, none⟩) ys.length k)))
  obtain ⟨W5, hW⟩ : ∃ W5, W5 = (((((w3.setCell ⟨NT, 0, none⟩ (.int .i64 g)).setCell ⟨NT, 1, none⟩ (.int .i64 s)).setCell ⟨NT, 2, none⟩ (.int .i64 r)).setCell ⟨NT, 3, none⟩ ((Value.slice aoC nC cC))).setCell ⟨NT, 4, none⟩ ((Value.slice (some ⟨b5, 0, none⟩) ys.length k))) := ⟨_, rfl⟩
  rw [← hW] at q0 O5 B5
  have z0 : W5.cell? ⟨NT, 0, none⟩ = some (.int .i64 g) := Go.Joins.cell_of_block q0 0
  have z1 : W5.cell? ⟨NT, 1, none⟩ = some (.int .i64 s) := Go.Joins.cell_of_block q0 1
  have z2 : W5.cell? ⟨NT, 2, none⟩ = some (.int .i64 r) := Go.Joins.cell_of_block q0 2
  have z3 : W5.cell? ⟨NT, 3, none⟩ = some ((Value.slice aoC nC cC)) := Go.Joins.cell_of_block q0 3
  have z4 : W5.cell? ⟨NT, 4, none⟩ = some ((Value.slice (some ⟨b5, 0, none⟩) ys.length k)) := Go.Joins.cell_of_block q0 4
  have hx := HNN.out
  have m0 : W5.cell? ⟨N, 0, none⟩ = some (.int .i64 g) := by rw [hW]; exact (FNew.set_cell (FNew.set_cell (FNew.set_cell (FNew.set_cell (FNew.set_cell HH4.out.2.1 (by simp; omega)) (by simp; omega)) (by simp; omega)) (by simp; omega)) (by simp; omega))
  have m1 : W5.cell? ⟨N, 1, none⟩ = some (.int .i64 s) := by rw [hW]; exact (FNew.set_cell (FNew.set_cell (FNew.set_cell (FNew.set_cell (FNew.set_cell HH4.out.2.2.1 (by simp; omega)) (by simp; omega)) (by simp; omega)) (by simp; omega)) (by simp; omega))
  have m2 : W5.cell? ⟨N, 2, none⟩ = some (.int .i64 r) := by rw [hW]; exact (FNew.set_cell (FNew.set_cell (FNew.set_cell (FNew.set_cell (FNew.set_cell HH4.out.2.2.2.1 (by simp; omega)) (by simp; omega)) (by simp; omega)) (by simp; omega)) (by simp; omega))
  have m3 : W5.cell? ⟨N, 3, none⟩ = some ((Value.slice ao1 n1 cap1)) := by rw [hW]; exact (FNew.set_cell (FNew.set_cell (FNew.set_cell (FNew.set_cell (FNew.set_cell HH4.out.2.2.2.2.1 (by simp; omega)) (by simp; omega)) (by simp; omega)) (by simp; omega)) (by simp; omega))
  have m4 : W5.cell? ⟨N, 4, none⟩ = some ((Value.slice ao2 ys.length cap2)) := by rw [hW]; exact (FNew.set_cell (FNew.set_cell (FNew.set_cell (FNew.set_cell (FNew.set_cell HH4.out.2.2.2.2.2.1 (by simp; omega)) (by simp; omega)) (by simp; omega)) (by simp; omega)) (by simp; omega))
  refine hK.out _ _ ?_ (fun hHeld5 => ?_)
  · (try dsimp only); rw [← hW]; exact ⟨B5, m0, m1, m2, m3, m4, HH0.out.keep B5 (Nat.le_refl _), B5.size⟩
  clear hK K
  simp only [← hW] at hHeld5 ⊢
  clear hW q0 y0 y1 y2 y3 y4 g0 g1 g2 g3 g4 hHeld3 m0 m1 m2 m3 m4
  (try simp only [Act.put, List.setIfInBounds_toArray, List.set_cons_zero, List.set_cons_succ, List.getElem_toArray, List.getElem_cons_succ, List.getElem_cons_zero])
  refine wpAnyH_done (by kernel_rfl) ?_ _
  go_wp2
  simp [bodyPost, results, Try.results53, go_sem, z0, z1, z2, z3, z4]
  exact ⟨b5, k, by simp, O5, HLo.out, B5⟩

set_option maxHeartbeats 8000000 in
set_option maxRecDepth 8000 in
theorem l06Own {w : World} {N : Nat} {g s r : Int} {b1 b2 : Nat} {v1 v2 : Value} {xs : List Int} {ys : List Bool} (k0 : w.cell? ⟨N, 0, none⟩ = some (.int .i64 g)) (k1 : w.cell? ⟨N, 1, none⟩ = some (.int .i64 s)) (k2 : w.cell? ⟨N, 2, none⟩ = some (.int .i64 r)) (k3 : w.cell? ⟨N, 3, none⟩ = some v1) (k4 : w.cell? ⟨N, 4, none⟩ = some v2) (h1 : Rd w b1 v1 xs) (h2 : RdB w b2 v2 ys) (hz : 1 ≤ xs.length ∧ xs.length ≤ 1048576) (hz2 : 1 ≤ ys.length ∧ ys.length ≤ 1048576) :
    Calls Try.prog 50 #[.pointer (some ⟨N, 0, none⟩)] w fun e w' => ∃ p kp q kq, e = .returned (gasV g s r (.slice (some ⟨p, 0, none⟩) xs.length kp) (.slice (some ⟨q, 0, none⟩) ys.length kq)) ∧ Own 2 w' p (.slice (some ⟨p, 0, none⟩) xs.length kp) xs ∧ OwnB 4 w' q (.slice (some ⟨q, 0, none⟩) ys.length kq) ys ∧ w.heap.size ≤ p ∧ p < q ∧ xs.length ≤ kp ∧ kp ≤ maxLen ∧ Below w.heap.size w w' := by
  have HZ := hid hz
  have HZ2 := hid hz2
  obtain ⟨ao1, cap1, rfl, _, _, h41⟩ := h1
  obtain ⟨ao2, cap2, rfl, _, _, h42⟩ := h2
  obtain ⟨off1, rfl, hb1, hcell1⟩ := h41 (by omega)
  obtain ⟨off2, rfl, hb2, hcell2⟩ := h42 (by omega)
  have HB0 := hid hb1
  have HB2 := hid hb2
  have HCell := hid hcell1
  have HCell2 := hid hcell2
  have HK := hid (And.intro k0 (And.intro k1 (And.intro k2 (And.intro k3 k4))))
  clear hz hz2 h41 h42 hb1 hb2 hcell1 hcell2 k0 k1 k2 k3 k4
  go_enter Try.func50, Try.ntmps50
  go_wp2_with fail
  obtain ⟨w1, hW⟩ : ∃ w1, w1 = w.alloc (Obj.cells #[.int .i64 0, .int .i64 0, .int .i64 0, .slice none 0 0, .slice none 0 0] 31) := ⟨_, rfl⟩
  obtain ⟨NT, hM⟩ : ∃ NT, NT = w.heap.size := ⟨_, rfl⟩
  have bw : Below w.heap.size w w1 := by rw [hW]; exact below1 _ _
  have kt : w1.heap[NT]? = some (Obj.cells #[.int .i64 0, .int .i64 0, .int .i64 0, .slice none 0 0, .slice none 0 0] 31) := by rw [hW]; exact FNew.heap_top hM
  have HNT : Hid (w.heap.size ≤ NT) := by simp only [Hid]; omega
  simp only [← hW, ← hM]
  clear hW hM
  refine wp_region_held_drew (S := (fun ww => Below w.heap.size w ww ∧ ww.cell? ⟨N, 0, none⟩ = some (.int .i64 g) ∧ ww.cell? ⟨N, 1, none⟩ = some (.int .i64 s) ∧ ww.cell? ⟨N, 2, none⟩ = some (.int .i64 r) ∧ ww.cell? ⟨N, 3, none⟩ = some ((Value.slice (some ⟨b1, off1, none⟩) xs.length cap1)) ∧ ww.cell? ⟨N, 4, none⟩ = some ((Value.slice (some ⟨b2, off2, none⟩) ys.length cap2)) ∧ w.heap.size ≤ ww.heap.size)) (by kernel_rfl) ?_ (fun hHeld => ?_)
  · ((try dsimp only); exact (show _ from by have B := bw.drew; exact ⟨B, cell_keep B HK.out.1, cell_keep B HK.out.2.1, cell_keep B HK.out.2.2.1, cell_keep B HK.out.2.2.2.1, cell_keep B HK.out.2.2.2.2, B.size⟩))
  generalize hD : w1.drew = wD at hHeld ⊢
  replace kt : wD.heap[NT]? = some (Obj.cells #[.int .i64 0, .int .i64 0, .int .i64 0, .slice none 0 0, .slice none 0 0] 31) := by rw [← hD]; exact kt
  clear hD bw
  (refine wpAnyH_take (i := 0) (v := ?_) rfl ?_ ?_ ?_ (fun _ _ _ h => h) (Or.inl ⟨?_, ?_⟩) ?_ ?_; rotate_left 1; (focus decide +kernel); (focus decide +kernel); (focus decide +kernel); (focus rfl); (focus (intro w hSw; (try dsimp only at hSw); go_simp; (try (with_reducible rfl)); done)); (focus assumption); (try simp only [Act.put, List.setIfInBounds_toArray, List.set_cons_zero, List.set_cons_succ, List.getElem_toArray, List.getElem_cons_succ, List.getElem_cons_zero]))
  (refine wpAnyH_take (i := 1) (v := ?_) rfl ?_ ?_ ?_ (fun _ _ _ h => h) (Or.inl ⟨?_, ?_⟩) ?_ ?_; rotate_left 1; (focus decide +kernel); (focus decide +kernel); (focus decide +kernel); (focus rfl); (focus (intro w hSw; (try dsimp only at hSw); go_simp; (try (with_reducible rfl)); done)); (focus assumption); (try simp only [Act.put, List.setIfInBounds_toArray, List.set_cons_zero, List.set_cons_succ, List.getElem_toArray, List.getElem_cons_succ, List.getElem_cons_zero]))
  (refine wpAnyH_take (i := 2) (v := ?_) rfl ?_ ?_ ?_ (fun _ _ _ h => h) (Or.inl ⟨?_, ?_⟩) ?_ ?_; rotate_left 1; (focus decide +kernel); (focus decide +kernel); (focus decide +kernel); (focus rfl); (focus (intro w hSw; (try dsimp only at hSw); go_simp; (try (with_reducible rfl)); done)); (focus assumption); (try simp only [Act.put, List.setIfInBounds_toArray, List.set_cons_zero, List.set_cons_succ, List.getElem_toArray, List.getElem_cons_succ, List.getElem_cons_zero]))
  (refine wpAnyH_take (i := 3) (v := ?_) rfl ?_ ?_ ?_ (fun _ _ _ h => h) (Or.inl ⟨?_, ?_⟩) ?_ ?_; rotate_left 1; (focus decide +kernel); (focus decide +kernel); (focus decide +kernel); (focus rfl); (focus (intro w hSw; (try dsimp only at hSw); go_simp; (try (with_reducible rfl)); done)); (focus assumption); (try simp only [Act.put, List.setIfInBounds_toArray, List.set_cons_zero, List.set_cons_succ, List.getElem_toArray, List.getElem_cons_succ, List.getElem_cons_zero]))
  (refine wpAnyH_take (i := 4) (v := ?_) rfl ?_ ?_ ?_ (fun _ _ _ h => h) (Or.inl ⟨?_, ?_⟩) ?_ ?_; rotate_left 1; (focus decide +kernel); (focus decide +kernel); (focus decide +kernel); (focus rfl); (focus (intro w hSw; (try dsimp only at hSw); go_simp; (try (with_reducible rfl)); done)); (focus assumption); (try simp only [Act.put, List.setIfInBounds_toArray, List.set_cons_zero, List.set_cons_succ, List.getElem_toArray, List.getElem_cons_succ, List.getElem_cons_zero]))
  (refine wpAnyH_take (i := 5) (v := ?_) rfl ?_ ?_ ?_ (fun _ _ _ h => h) (Or.inl ⟨?_, ?_⟩) ?_ ?_; rotate_left 1; (focus decide +kernel); (focus decide +kernel); (focus decide +kernel); (focus rfl); (focus (intro w hSw; (try dsimp only at hSw); go_simp; (try (with_reducible rfl)); done)); (focus assumption); (try simp only [Act.put, List.setIfInBounds_toArray, List.set_cons_zero, List.set_cons_succ, List.getElem_toArray, List.getElem_cons_succ, List.getElem_cons_zero]))
  (refine wpAnyH_take (i := 6) (v := ?_) rfl ?_ ?_ ?_ (fun _ _ _ h => h) (Or.inl ⟨?_, ?_⟩) ?_ ?_; rotate_left 1; (focus decide +kernel); (focus decide +kernel); (focus decide +kernel); (focus rfl); (focus (intro w hSw; (try dsimp only at hSw); go_simp; (try (with_reducible rfl)); done)); (focus assumption); (try simp only [Act.put, List.setIfInBounds_toArray, List.set_cons_zero, List.set_cons_succ, List.getElem_toArray, List.getElem_cons_succ, List.getElem_cons_zero]))
  (refine wpAnyH_take (i := 7) (v := ?_) rfl ?_ ?_ ?_ (fun _ _ _ h => h) (Or.inl ⟨?_, ?_⟩) ?_ ?_; rotate_left 1; (focus decide +kernel); (focus decide +kernel); (focus decide +kernel); (focus rfl); (focus (intro w hSw; (try dsimp only at hSw); go_simp; (try (with_reducible rfl)); done)); (focus assumption); (try simp only [Act.put, List.setIfInBounds_toArray, List.set_cons_zero, List.set_cons_succ, List.getElem_toArray, List.getElem_cons_succ, List.getElem_cons_zero]))
  (refine wpAnyH_take (i := 8) (v := ?_) rfl ?_ ?_ ?_ (fun _ _ _ h => h) (Or.inl ⟨?_, ?_⟩) ?_ ?_; rotate_left 1; (focus decide +kernel); (focus decide +kernel); (focus decide +kernel); (focus rfl); (focus (intro w hSw; (try dsimp only at hSw); go_simp; (try (with_reducible rfl)); done)); (focus assumption); (try simp only [Act.put, List.setIfInBounds_toArray, List.set_cons_zero, List.set_cons_succ, List.getElem_toArray, List.getElem_cons_succ, List.getElem_cons_zero]))
  (refine wpAnyH_take (i := 9) (v := ?_) rfl ?_ ?_ ?_ (fun _ _ _ h => h) (Or.inl ⟨?_, ?_⟩) ?_ ?_; rotate_left 1; (focus decide +kernel); (focus decide +kernel); (focus decide +kernel); (focus rfl); (focus (intro w hSw; (try dsimp only at hSw); go_simp; (try (with_reducible rfl)); done)); (focus assumption); (try simp only [Act.put, List.setIfInBounds_toArray, List.set_cons_zero, List.set_cons_succ, List.getElem_toArray, List.getElem_cons_succ, List.getElem_cons_zero]))
  (refine wpAnyH_take (i := 10) (v := ?_) rfl ?_ ?_ ?_ (fun _ _ _ h => h) (Or.inl ⟨?_, ?_⟩) ?_ ?_; rotate_left 1; (focus decide +kernel); (focus decide +kernel); (focus decide +kernel); (focus rfl); (focus (intro w hSw; (try dsimp only at hSw); go_simp; (try (with_reducible rfl)); done)); (focus assumption); (try simp only [Act.put, List.setIfInBounds_toArray, List.set_cons_zero, List.set_cons_succ, List.getElem_toArray, List.getElem_cons_succ, List.getElem_cons_zero]))
  (refine wpAnyH_take (i := 11) (v := ?_) rfl ?_ ?_ ?_ (fun _ _ _ h => h) (Or.inl ⟨?_, ?_⟩) ?_ ?_; rotate_left 1; (focus decide +kernel); (focus decide +kernel); (focus decide +kernel); (focus rfl); (focus (intro w hSw; (try dsimp only at hSw); go_simp; (try (with_reducible rfl)); done)); (focus assumption); (try simp only [Act.put, List.setIfInBounds_toArray, List.set_cons_zero, List.set_cons_succ, List.getElem_toArray, List.getElem_cons_succ, List.getElem_cons_zero]))
  (refine wpAnyH_take (i := 13) (v := ?_) rfl ?_ ?_ ?_ (fun _ _ _ h => h) (Or.inl ⟨?_, ?_⟩) ?_ ?_; rotate_left 1; (focus decide +kernel); (focus decide +kernel); (focus decide +kernel); (focus rfl); (focus (intro w hSw; (try dsimp only at hSw); go_simp; (try (with_reducible rfl)); done)); (focus assumption); (try simp only [Act.put, List.setIfInBounds_toArray, List.set_cons_zero, List.set_cons_succ, List.getElem_toArray, List.getElem_cons_succ, List.getElem_cons_zero]))
  (refine wpAnyH_take (i := 14) (v := ?_) rfl ?_ ?_ ?_ (fun _ _ _ h => h) (Or.inl ⟨?_, ?_⟩) ?_ ?_; rotate_left 1; (focus decide +kernel); (focus decide +kernel); (focus decide +kernel); (focus rfl); (focus (intro w hSw; (try dsimp only at hSw); go_simp; (try (with_reducible rfl)); done)); (focus assumption); (try simp only [Act.put, List.setIfInBounds_toArray, List.set_cons_zero, List.set_cons_succ, List.getElem_toArray, List.getElem_cons_succ, List.getElem_cons_zero]))
  (refine wpAnyH_take (i := 15) (v := ?_) rfl ?_ ?_ ?_ (fun _ _ _ h => h) (Or.inl ⟨?_, ?_⟩) ?_ ?_; rotate_left 1; (focus decide +kernel); (focus decide +kernel); (focus decide +kernel); (focus rfl); (focus (intro w hSw; (try dsimp only at hSw); go_simp; (try (with_reducible rfl)); done)); (focus assumption); (try simp only [Act.put, List.setIfInBounds_toArray, List.set_cons_zero, List.set_cons_succ, List.getElem_toArray, List.getElem_cons_succ, List.getElem_cons_zero]))
  (refine wpAnyH_take (i := 16) (v := ?_) rfl ?_ ?_ ?_ (fun _ _ _ h => h) (Or.inl ⟨?_, ?_⟩) ?_ ?_; rotate_left 1; (focus decide +kernel); (focus decide +kernel); (focus decide +kernel); (focus rfl); (focus (intro w hSw; (try dsimp only at hSw); go_simp; (try (with_reducible rfl)); done)); (focus assumption); (try simp only [Act.put, List.setIfInBounds_toArray, List.set_cons_zero, List.set_cons_succ, List.getElem_toArray, List.getElem_cons_succ, List.getElem_cons_zero]))
  refine wpAnyH_ready (rs := [12, 19]) ?_ (by simp) ?_
  · decide +kernel
  refine AllReadyH.cons rfl (fun K hK => ?_) (AllReadyH.cons rfl (fun K hK => ?_) AllReadyH.nil)
  · go_simp
    refine hK.out _ _ ?_ (fun hHeld2 => ?_)
    · (try dsimp only); exact nx5_ (below1 _ _) hHeld
    clear hK K
    have hrow := World.ownsRow_lit (base := wD.heap.size) (e := 2) (size := 1) wD #[] 0 (Nat.le_refl _) (by simp) (by simp)
    obtain ⟨wB, hWB⟩ : ∃ wB, wB = wD.alloc (Obj.cells #[] 2) := ⟨_, rfl⟩
    obtain ⟨NB, hNB⟩ : ∃ NB, NB = wD.heap.size := ⟨_, rfl⟩
    have bel : Below wD.heap.size wD wB := by rw [hWB]; exact below1 _ _
    have hTB : NT < NB := by rw [hNB]; exact (Array.getElem?_eq_some_iff.1 kt).1
    replace kt := (bel.block NT (Array.getElem?_eq_some_iff.1 kt).1).trans kt
    have hBs : NB < wB.heap.size := by rw [hNB, hWB]; simp
    have hwB : w.heap.size ≤ NB := by rw [hNB]; exact hHeld.1.size
    rw [← hWB] at hrow hHeld2
    rw [← hNB] at hrow
    simp only [← hWB, ← hNB]
    clear hHeld bel hWB hNB
    have hHeld := hHeld2
    clear hHeld2
    (try simp only [Act.put, List.setIfInBounds_toArray, List.set_cons_zero, List.set_cons_succ, List.getElem_toArray, List.getElem_cons_succ, List.getElem_cons_zero])
    refine wpAnyH_ready (rs := [17, 19]) ?_ (by simp) ?_
    · decide +kernel
    refine AllReadyH.cons rfl (fun K hK => ?_) (AllReadyH.cons rfl (fun K hK => ?_) AllReadyH.nil)
    · refine op_appendI rfl _ _ rfl NB _ rfl hrow b1 off1 cap1 xs rfl ?c1 ?c2 ?c3 ?_
      case c1 => intro i hi; exact (hHeld.1.cell (p := ⟨b1, off1 + i, none⟩) HB0.out).trans (HCell.out i hi)
      case c2 => have := HZ.out; omega
      case c3 => exact Nat.le_of_lt hBs
      intro v' wA hown5 hbel5 hgr5 hob5
      refine hK.out _ _ ?_ (fun hHeld3 => ?_)
      · (try dsimp only); exact (show _ from by have B := hHeld.1.trans (hbel5.mono hwB); exact ⟨B, cell_keep B HK.out.1, cell_keep B HK.out.2.1, cell_keep B HK.out.2.2.1, cell_keep B HK.out.2.2.2.1, cell_keep B HK.out.2.2.2.2, B.size⟩)
      clear hK K
      replace kt := (hbel5.block NT hTB).trans kt
      obtain ⟨p, hp5, ow⟩ := Own.of hown5
      rcases ow.form with ⟨_, he⟩ | ⟨kp, rfl, hk1, hk2, _⟩
      · exact absurd he (by intro e; have := HZ.out.1; rw [e] at this; simp at this)
      have hNTp : NT < p := Nat.lt_of_lt_of_le hTB hp5
      have lop : w.heap.size ≤ p := Nat.le_trans hwB hp5
      have HKB := hid (And.intro hk1 hk2)
      clear hrow hTB hBs hwB hHeld hown5 hbel5 hp5 hk1 hk2 hgr5 hob5
      have hHeld := hHeld3
      clear hHeld3
      (try simp only [Act.put, List.setIfInBounds_toArray, List.set_cons_zero, List.set_cons_succ, List.getElem_toArray, List.getElem_cons_succ, List.getElem_cons_zero])
      (refine wpAnyH_take (i := 18) (v := ?_) rfl ?_ ?_ ?_ (fun _ _ _ h => h) (Or.inl ⟨?_, ?_⟩) ?_ ?_; rotate_left 1; (focus decide +kernel); (focus decide +kernel); (focus decide +kernel); (focus rfl); (focus (intro w hSw; (try dsimp only at hSw); go_simp; (try (with_reducible rfl)); done)); (focus assumption); (try simp only [Act.put, List.setIfInBounds_toArray, List.set_cons_zero, List.set_cons_succ, List.getElem_toArray, List.getElem_cons_succ, List.getElem_cons_zero]))
      refine wpAnyH_ready (rs := [19]) ?_ (by simp) ?_
      · decide +kernel
      refine AllReadyH.cons rfl (fun K hK => ?_) AllReadyH.nil
      go_simp
      refine hK.out _ _ ?_ (fun hHeld2 => ?_)
      · (try dsimp only); exact nx5_ (below1 _ _) hHeld
      clear hK K
      obtain ⟨wC, hWC⟩ : ∃ wC, wC = wA.alloc (Obj.cells #[.int .i64 0, .int .i64 0, .int .i64 0, .slice none 0 0, .slice none 0 0] 31) := ⟨_, rfl⟩
      obtain ⟨NO, hO⟩ : ∃ NO, NO = wA.heap.size := ⟨_, rfl⟩
      have kO : wC.heap[NO]? = some (Obj.cells #[.int .i64 0, .int .i64 0, .int .i64 0, .slice none 0 0, .slice none 0 0] 31) := by rw [hWC]; exact FNew.heap_top hO
      have hTO : NT < NO := by rw [hO]; exact (Array.getElem?_eq_some_iff.1 kt).1
      have bel : Below wA.heap.size wA wC := by rw [hWC]; exact below1 _ _
      replace kt := (bel.block NT (Array.getElem?_eq_some_iff.1 kt).1).trans kt
      have hOp : NO ≠ p := by rw [hO]; exact Nat.ne_of_gt ow.lt
      replace ow := ow.keep bel
      rw [← hWC] at hHeld2
      simp only [← hWC, ← hO]
      clear hHeld bel hWC hO
      have hHeld := hHeld2
      clear hHeld2
      (try simp only [Act.put, List.setIfInBounds_toArray, List.set_cons_zero, List.set_cons_succ, List.getElem_toArray, List.getElem_cons_succ, List.getElem_cons_zero])
      refine wpAnyH_ready (rs := [20]) ?_ (by simp) ?_
      · decide +kernel
      refine AllReadyH.cons rfl (fun K hK => ?_) AllReadyH.nil
      have y0 : wC.cell? ⟨NO, 0, none⟩ = some (.int .i64 0) := Go.Joins.cell_of_block kO 0
      have y1 : wC.cell? ⟨NO, 1, none⟩ = some (.int .i64 0) := Go.Joins.cell_of_block kO 1
      have y2 : wC.cell? ⟨NO, 2, none⟩ = some (.int .i64 0) := Go.Joins.cell_of_block kO 2
      have y3 : wC.cell? ⟨NO, 3, none⟩ = some (.slice none 0 0) := Go.Joins.cell_of_block kO 3
      have y4 : wC.cell? ⟨NO, 4, none⟩ = some (.slice none 0 0) := Go.Joins.cell_of_block kO 4
      have g0 : wC.frozen? ⟨NO, 0, none⟩ = false := Go.Joins.unfrozen_of_block kO 0
      have g1 : wC.frozen? ⟨NO, 1, none⟩ = false := Go.Joins.unfrozen_of_block kO 1
      have g2 : wC.frozen? ⟨NO, 2, none⟩ = false := Go.Joins.unfrozen_of_block kO 2
      have g3 : wC.frozen? ⟨NO, 3, none⟩ = false := Go.Joins.unfrozen_of_block kO 3
      have g4 : wC.frozen? ⟨NO, 4, none⟩ = false := Go.Joins.unfrozen_of_block kO 4
      have HKx := hid kO
      have HHx := hid hHeld
      have HTO := hid (And.intro hTO (And.intro hOp (And.intro hNTp lop)))
      have HKt := hid kt
      have HOx := hid ow
      clear kO hTO hOp hNTp lop kt ow
      go_simp
      have kO := (Go.Joins.block_setCell (i := 4) (Go.Joins.block_setCell (i := 3) (Go.Joins.block_setCell (i := 2) (Go.Joins.block_setCell (i := 1) (Go.Joins.block_setCell (i := 0) HKx.out (.int .i64 g)) (.int .i64 s)) (.int .i64 r)) ((Value.slice (some ⟨p, 0, none⟩) xs.length kp))) (.slice none 0 0))
      have kT := ((Below.heap_setCell ((((wC.setCell ⟨NO, 0, none⟩ (.int .i64 g)).setCell ⟨NO, 1, none⟩ (.int .i64 s)).setCell ⟨NO, 2, none⟩ (.int .i64 r)).setCell ⟨NO, 3, none⟩ ((Value.slice (some ⟨p, 0, none⟩) xs.length kp))) ⟨NO, 4, none⟩ (.slice none 0 0) NT (Nat.ne_of_lt HTO.out.1)).trans ((Below.heap_setCell (((wC.setCell ⟨NO, 0, none⟩ (.int .i64 g)).setCell ⟨NO, 1, none⟩ (.int .i64 s)).setCell ⟨NO, 2, none⟩ (.int .i64 r)) ⟨NO, 3, none⟩ ((Value.slice (some ⟨p, 0, none⟩) xs.length kp)) NT (Nat.ne_of_lt HTO.out.1)).trans ((Below.heap_setCell ((wC.setCell ⟨NO, 0, none⟩ (.int .i64 g)).setCell ⟨NO, 1, none⟩ (.int .i64 s)) ⟨NO, 2, none⟩ (.int .i64 r) NT (Nat.ne_of_lt HTO.out.1)).trans ((Below.heap_setCell (wC.setCell ⟨NO, 0, none⟩ (.int .i64 g)) ⟨NO, 1, none⟩ (.int .i64 s) NT (Nat.ne_of_lt HTO.out.1)).trans ((Below.heap_setCell wC ⟨NO, 0, none⟩ (.int .i64 g) NT (Nat.ne_of_lt HTO.out.1)).trans HKt.out)))))
      have ow := (own_set (own_set (own_set (own_set (own_set HOx.out ⟨NO, 0, none⟩ (.int .i64 g) HTO.out.2.1) ⟨NO, 1, none⟩ (.int .i64 s) HTO.out.2.1) ⟨NO, 2, none⟩ (.int .i64 r) HTO.out.2.1) ⟨NO, 3, none⟩ ((Value.slice (some ⟨p, 0, none⟩) xs.length kp)) HTO.out.2.1) ⟨NO, 4, none⟩ (.slice none 0 0) HTO.out.2.1)
      have B4 := (((((HHx.out.1.setCell (p := ⟨NO, 0, none⟩) (Nat.le_trans HNT.out (Nat.le_of_lt HTO.out.1)) (.int .i64 g)).setCell (p := ⟨NO, 1, none⟩) (Nat.le_trans HNT.out (Nat.le_of_lt HTO.out.1)) (.int .i64 s)).setCell (p := ⟨NO, 2, none⟩) (Nat.le_trans HNT.out (Nat.le_of_lt HTO.out.1)) (.int .i64 r)).setCell (p := ⟨NO, 3, none⟩) (Nat.le_trans HNT.out (Nat.le_of_lt HTO.out.1)) ((Value.slice (some ⟨p, 0, none⟩) xs.length kp))).setCell (p := ⟨NO, 4, none⟩) (Nat.le_trans HNT.out (Nat.le_of_lt HTO.out.1)) (.slice none 0 0))
      obtain ⟨w4, hW⟩ : ∃ w4, w4 = (((((wC.setCell ⟨NO, 0, none⟩ (.int .i64 g)).setCell ⟨NO, 1, none⟩ (.int .i64 s)).setCell ⟨NO, 2, none⟩ (.int .i64 r)).setCell ⟨NO, 3, none⟩ ((Value.slice (some ⟨p, 0, none⟩) xs.length kp))).setCell ⟨NO, 4, none⟩ (.slice none 0 0)) := ⟨_, rfl⟩
      rw [← hW] at kO kT ow B4
      refine hK.out _ _ ?_ (fun hHeld5 => ?_)
      · (try dsimp only); rw [← hW]; exact ⟨B4, cell_keep B4 HK.out.1, cell_keep B4 HK.out.2.1, cell_keep B4 HK.out.2.2.1, cell_keep B4 HK.out.2.2.2.1, cell_keep B4 HK.out.2.2.2.2, B4.size⟩
      clear hK K hHeld5
      simp only [← hW]
      clear hW y0 y1 y2 y3 y4 g0 g1 g2 g3 g4 hHeld
      have HKT := hid kT
      have HKO := hid kO
      have HOW := hid ow
      have HB4 := hid B4
      clear kT kO ow B4
      (try simp only [Act.put, List.setIfInBounds_toArray, List.set_cons_zero, List.set_cons_succ, List.getElem_toArray, List.getElem_cons_succ, List.getElem_cons_zero])
      refine wpAnyH_done (by kernel_rfl) ?_ _
      have m4 := cell_keep HB4.out HK.out.2.2.2.2
      have m4b := cell_keep (below1 w4 (Obj.cells #[] 4)) m4
      go_wp2_with (at_builtin; refine appendB rfl _ _ rfl w4.heap.size _ rfl (World.ownsRow_lit (base := w4.heap.size) (e := 4) (size := 1) w4 #[] 0 (Nat.le_refl _) (by simp) (by simp)) b2 off2 cap2 ys rfl (fun i hi => ((HB4.out.trans ((below1 _ _).mono HB4.out.size)).cell (p := ⟨b2, off2 + i, none⟩) HB2.out).trans (HCell2.out i hi)) ?c1 ?c2 ?_)
      case c1 => have := HZ2.out; omega
      case c2 => simp
      intro v' w6 hown6 hbel6
      have bel46 : Below w4.heap.size w4 w6 := (below1 _ _).trans hbel6
      have kT6 := (bel46.block NT (Array.getElem?_eq_some_iff.1 HKT.out).1).trans HKT.out
      have kO6 := (bel46.block NO (Array.getElem?_eq_some_iff.1 HKO.out).1).trans HKO.out
      obtain ⟨q, hq6, oq⟩ := OwnB.of hown6
      rcases oq.form with ⟨_, he⟩ | ⟨kq, rfl, hq1, hq2, _⟩
      · exact absurd he (by intro e; have := HZ2.out.1; rw [e] at this; simp at this)
      have HPQ : Hid (p < q ∧ NO < q ∧ NT < q) := ⟨Nat.lt_of_lt_of_le HOW.out.lt hq6, Nat.lt_of_lt_of_le (Array.getElem?_eq_some_iff.1 HKO.out).1 hq6, Nat.lt_of_lt_of_le (Array.getElem?_eq_some_iff.1 HKT.out).1 hq6⟩
      have HO6 := hid (And.intro (HOW.out.keep bel46) oq)
      have HB6 := hid (HB4.out.trans (bel46.mono HB4.out.size))
      have HK6 := hid kT6
      have x0 : w6.cell? ⟨NO, 0, none⟩ = some (.int .i64 g) := Go.Joins.cell_of_block kO6 0
      have x1 : w6.cell? ⟨NO, 1, none⟩ = some (.int .i64 s) := Go.Joins.cell_of_block kO6 1
      have x2 : w6.cell? ⟨NO, 2, none⟩ = some (.int .i64 r) := Go.Joins.cell_of_block kO6 2
      have x3 : w6.cell? ⟨NO, 3, none⟩ = some ((Value.slice (some ⟨p, 0, none⟩) xs.length kp)) := Go.Joins.cell_of_block kO6 3
      have x4 : w6.cell? ⟨NO, 4, none⟩ = some (.slice none 0 0) := Go.Joins.cell_of_block kO6 4
      have f4 : w6.frozen? ⟨NO, 4, none⟩ = false := Go.Joins.unfrozen_of_block kO6 4
      have y0 : w6.cell? ⟨NT, 0, none⟩ = some (.int .i64 0) := Go.Joins.cell_of_block kT6 0
      have y1 : w6.cell? ⟨NT, 1, none⟩ = some (.int .i64 0) := Go.Joins.cell_of_block kT6 1
      have y2 : w6.cell? ⟨NT, 2, none⟩ = some (.int .i64 0) := Go.Joins.cell_of_block kT6 2
      have y3 : w6.cell? ⟨NT, 3, none⟩ = some (.slice none 0 0) := Go.Joins.cell_of_block kT6 3
      have y4 : w6.cell? ⟨NT, 4, none⟩ = some (.slice none 0 0) := Go.Joins.cell_of_block kT6 4
      have g0 : w6.frozen? ⟨NT, 0, none⟩ = false := Go.Joins.unfrozen_of_block kT6 0
      have g1 : w6.frozen? ⟨NT, 1, none⟩ = false := Go.Joins.unfrozen_of_block kT6 1
      have g2 : w6.frozen? ⟨NT, 2, none⟩ = false := Go.Joins.unfrozen_of_block kT6 2
      have g3 : w6.frozen? ⟨NT, 3, none⟩ = false := Go.Joins.unfrozen_of_block kT6 3
      have g4 : w6.frozen? ⟨NT, 4, none⟩ = false := Go.Joins.unfrozen_of_block kT6 4
      have hne2 : ¬ NO = NT := by have := HTO.out.1; omega
      have hne3 : ¬ NT = NO := by have := HTO.out.1; omega
      clear kT6 kO6 oq hown6 hbel6 bel46 hq6 hq1 hq2 m4 m4b
      go_wp2
      have q0 := (Go.Joins.block_setCell (i := 4) (Go.Joins.block_setCell (i := 3) (Go.Joins.block_setCell (i := 2) (Go.Joins.block_setCell (i := 1) (Go.Joins.block_setCell (i := 0) ((Below.heap_setCell w6 ⟨NO, 4, none⟩ (Value.slice (some ⟨q, 0, none⟩) ys.length kq) NT hne3).trans HK6.out) (.int .i64 g)) (.int .i64 s)) (.int .i64 r)) ((Value.slice (some ⟨p, 0, none⟩) xs.length kp))) ((Value.slice (some ⟨q, 0, none⟩) ys.length kq)))
      have O1 := (own_set (own_set (own_set (own_set (own_set (own_set HO6.out.1 ⟨NO, 4, none⟩ (Value.slice (some ⟨q, 0, none⟩) ys.length kq) HTO.out.2.1) ⟨NT, 0, none⟩ (.int .i64 g) (Nat.ne_of_lt HTO.out.2.2.1)) ⟨NT, 1, none⟩ (.int .i64 s) (Nat.ne_of_lt HTO.out.2.2.1)) ⟨NT, 2, none⟩ (.int .i64 r) (Nat.ne_of_lt HTO.out.2.2.1)) ⟨NT, 3, none⟩ ((Value.slice (some ⟨p, 0, none⟩) xs.length kp)) (Nat.ne_of_lt HTO.out.2.2.1)) ⟨NT, 4, none⟩ ((Value.slice (some ⟨q, 0, none⟩) ys.length kq)) (Nat.ne_of_lt HTO.out.2.2.1))
      have O2 := (ownB_set (ownB_set (ownB_set (ownB_set (ownB_set (ownB_set HO6.out.2 ⟨NO, 4, none⟩ (Value.slice (some ⟨q, 0, none⟩) ys.length kq) (Nat.ne_of_lt HPQ.out.2.1)) ⟨NT, 0, none⟩ (.int .i64 g) (Nat.ne_of_lt HPQ.out.2.2)) ⟨NT, 1, none⟩ (.int .i64 s) (Nat.ne_of_lt HPQ.out.2.2)) ⟨NT, 2, none⟩ (.int .i64 r) (Nat.ne_of_lt HPQ.out.2.2)) ⟨NT, 3, none⟩ ((Value.slice (some ⟨p, 0, none⟩) xs.length kp)) (Nat.ne_of_lt HPQ.out.2.2)) ⟨NT, 4, none⟩ ((Value.slice (some ⟨q, 0, none⟩) ys.length kq)) (Nat.ne_of_lt HPQ.out.2.2))
      have B5 := ((((((HB6.out.setCell (p := ⟨NO, 4, none⟩) (Nat.le_trans HNT.out (Nat.le_of_lt HTO.out.1)) (Value.slice (some ⟨q, 0, none⟩) ys.length kq)).setCell (p := ⟨NT, 0, none⟩) HNT.out (.int .i64 g)).setCell (p := ⟨NT, 1, none⟩) HNT.out (.int .i64 s)).setCell (p := ⟨NT, 2, none⟩) HNT.out (.int .i64 r)).setCell (p := ⟨NT, 3, none⟩) HNT.out ((Value.slice (some ⟨p, 0, none⟩) xs.length kp))).setCell (p := ⟨NT, 4, none⟩) HNT.out ((Value.slice (some ⟨q, 0, none⟩) ys.length kq)))
      obtain ⟨W5, hW⟩ : ∃ W5, W5 = ((((((w6.setCell ⟨NO, 4, none⟩ (Value.slice (some ⟨q, 0, none⟩) ys.length kq)).setCell ⟨NT, 0, none⟩ (.int .i64 g)).setCell ⟨NT, 1, none⟩ (.int .i64 s)).setCell ⟨NT, 2, none⟩ (.int .i64 r)).setCell ⟨NT, 3, none⟩ ((Value.slice (some ⟨p, 0, none⟩) xs.length kp))).setCell ⟨NT, 4, none⟩ ((Value.slice (some ⟨q, 0, none⟩) ys.length kq))) := ⟨_, rfl⟩
      rw [← hW] at q0 O1 O2 B5
      have z0 : W5.cell? ⟨NT, 0, none⟩ = some (.int .i64 g) := Go.Joins.cell_of_block q0 0
      have z1 : W5.cell? ⟨NT, 1, none⟩ = some (.int .i64 s) := Go.Joins.cell_of_block q0 1
      have z2 : W5.cell? ⟨NT, 2, none⟩ = some (.int .i64 r) := Go.Joins.cell_of_block q0 2
      have z3 : W5.cell? ⟨NT, 3, none⟩ = some ((Value.slice (some ⟨p, 0, none⟩) xs.length kp)) := Go.Joins.cell_of_block q0 3
      have z4 : W5.cell? ⟨NT, 4, none⟩ = some ((Value.slice (some ⟨q, 0, none⟩) ys.length kq)) := Go.Joins.cell_of_block q0 4
      simp only [← hW]
      clear hW q0
      simp [bodyPost, results, Try.results50, go_sem, z0, z1, z2, z3, z4]
      exact ⟨p, kp, q, kq, by simp, O1, O2, HTO.out.2.2.2, HPQ.out.1, HKB.out.1, HKB.out.2, B5⟩
    · go_simp
      refine hK.out _ _ ?_ (fun hHeld2 => ?_)
      · (try dsimp only); exact nx5_ (below1 _ _) hHeld
      clear hK K
      obtain ⟨wC, hWC⟩ : ∃ wC, wC = wB.alloc (Obj.cells #[.int .i64 0, .int .i64 0, .int .i64 0, .slice none 0 0, .slice none 0 0] 31) := ⟨_, rfl⟩
      obtain ⟨NO, hO⟩ : ∃ NO, NO = wB.heap.size := ⟨_, rfl⟩
      have kO : wC.heap[NO]? = some (Obj.cells #[.int .i64 0, .int .i64 0, .int .i64 0, .slice none 0 0, .slice none 0 0] 31) := by rw [hWC]; exact FNew.heap_top hO
      have hTO : NT < NO := by rw [hO]; exact (Array.getElem?_eq_some_iff.1 kt).1
      have bel : Below wB.heap.size wB wC := by rw [hWC]; exact below1 _ _
      replace kt := (bel.block NT (Array.getElem?_eq_some_iff.1 kt).1).trans kt
      have hOB : NO ≠ NB := by rw [hO]; exact Nat.ne_of_gt hBs
      replace hBs := Nat.lt_of_lt_of_le hBs bel.size
      replace hrow := hrow.kept (below_grown bel) (.inr (by simp [Value.ownBlock]))
      rw [← hWC] at hHeld2
      simp only [← hWC, ← hO]
      clear hHeld bel hWC hO
      have hHeld := hHeld2
      clear hHeld2
      (try simp only [Act.put, List.setIfInBounds_toArray, List.set_cons_zero, List.set_cons_succ, List.getElem_toArray, List.getElem_cons_succ, List.getElem_cons_zero])
      refine wpAnyH_ready (rs := [17]) ?_ (by simp) ?_
      · decide +kernel
      refine AllReadyH.cons rfl (fun K hK => ?_) AllReadyH.nil
      refine op_appendI rfl _ _ rfl NB _ rfl hrow b1 off1 cap1 xs rfl ?c1 ?c2 ?c3 ?_
      case c1 => intro i hi; exact (hHeld.1.cell (p := ⟨b1, off1 + i, none⟩) HB0.out).trans (HCell.out i hi)
      case c2 => have := HZ.out; omega
      case c3 => exact Nat.le_of_lt hBs
      intro v' wA hown5 hbel5 hgr5 hob5
      refine hK.out _ _ ?_ (fun hHeld3 => ?_)
      · (try dsimp only); exact (show _ from by have B := hHeld.1.trans (hbel5.mono hwB); exact ⟨B, cell_keep B HK.out.1, cell_keep B HK.out.2.1, cell_keep B HK.out.2.2.1, cell_keep B HK.out.2.2.2.1, cell_keep B HK.out.2.2.2.2, B.size⟩)
      clear hK K
      replace kt := (hbel5.block NT hTB).trans kt
      obtain ⟨p, hp5, ow⟩ := Own.of hown5
      rcases ow.form with ⟨_, he⟩ | ⟨kp, rfl, hk1, hk2, _⟩
      · exact absurd he (by intro e; have := HZ.out.1; rw [e] at this; simp at this)
      have hNTp : NT < p := Nat.lt_of_lt_of_le hTB hp5
      have lop : w.heap.size ≤ p := Nat.le_trans hwB hp5
      have HKB := hid (And.intro hk1 hk2)
      have hOLt := (Array.getElem?_eq_some_iff.1 kO).1
      have hOp : NO ≠ p := hob5.elim (fun h e => hOB (e.trans (Option.some.inj (show some p = some NB from h)))) (fun h => by have h2 := Option.some.inj (show some p = some _ from h); omega)
      replace kO := (hgr5.block NO hOLt (show (some NO : Option Nat) ≠ some NB from fun e => hOB (Option.some.inj e))).trans kO
      clear hOLt hOB
      clear hrow hTB hBs hwB hHeld hown5 hbel5 hp5 hk1 hk2 hgr5 hob5
      have hHeld := hHeld3
      clear hHeld3
      (try simp only [Act.put, List.setIfInBounds_toArray, List.set_cons_zero, List.set_cons_succ, List.getElem_toArray, List.getElem_cons_succ, List.getElem_cons_zero])
      (refine wpAnyH_take (i := 18) (v := ?_) rfl ?_ ?_ ?_ (fun _ _ _ h => h) (Or.inl ⟨?_, ?_⟩) ?_ ?_; rotate_left 1; (focus decide +kernel); (focus decide +kernel); (focus decide +kernel); (focus rfl); (focus (intro w hSw; (try dsimp only at hSw); go_simp; (try (with_reducible rfl)); done)); (focus assumption); (try simp only [Act.put, List.setIfInBounds_toArray, List.set_cons_zero, List.set_cons_succ, List.getElem_toArray, List.getElem_cons_succ, List.getElem_cons_zero]))
      refine wpAnyH_ready (rs := [20]) ?_ (by simp) ?_
      · decide +kernel
      refine AllReadyH.cons rfl (fun K hK => ?_) AllReadyH.nil
      have y0 : wA.cell? ⟨NO, 0, none⟩ = some (.int .i64 0) := Go.Joins.cell_of_block kO 0
      have y1 : wA.cell? ⟨NO, 1, none⟩ = some (.int .i64 0) := Go.Joins.cell_of_block kO 1
      have y2 : wA.cell? ⟨NO, 2, none⟩ = some (.int .i64 0) := Go.Joins.cell_of_block kO 2
      have y3 : wA.cell? ⟨NO, 3, none⟩ = some (.slice none 0 0) := Go.Joins.cell_of_block kO 3
      have y4 : wA.cell? ⟨NO, 4, none⟩ = some (.slice none 0 0) := Go.Joins.cell_of_block kO 4
      have g0 : wA.frozen? ⟨NO, 0, none⟩ = false := Go.Joins.unfrozen_of_block kO 0
      have g1 : wA.frozen? ⟨NO, 1, none⟩ = false := Go.Joins.unfrozen_of_block kO 1
      have g2 : wA.frozen? ⟨NO, 2, none⟩ = false := Go.Joins.unfrozen_of_block kO 2
      have g3 : wA.frozen? ⟨NO, 3, none⟩ = false := Go.Joins.unfrozen_of_block kO 3
      have g4 : wA.frozen? ⟨NO, 4, none⟩ = false := Go.Joins.unfrozen_of_block kO 4
      have HKx := hid kO
      have HHx := hid hHeld
      have HTO := hid (And.intro hTO (And.intro hOp (And.intro hNTp lop)))
      have HKt := hid kt
      have HOx := hid ow
      clear kO hTO hOp hNTp lop kt ow
      go_simp
      have kO := (Go.Joins.block_setCell (i := 4) (Go.Joins.block_setCell (i := 3) (Go.Joins.block_setCell (i := 2) (Go.Joins.block_setCell (i := 1) (Go.Joins.block_setCell (i := 0) HKx.out (.int .i64 g)) (.int .i64 s)) (.int .i64 r)) ((Value.slice (some ⟨p, 0, none⟩) xs.length kp))) (.slice none 0 0))
      have kT := ((Below.heap_setCell ((((wA.setCell ⟨NO, 0, none⟩ (.int .i64 g)).setCell ⟨NO, 1, none⟩ (.int .i64 s)).setCell ⟨NO, 2, none⟩ (.int .i64 r)).setCell ⟨NO, 3, none⟩ ((Value.slice (some ⟨p, 0, none⟩) xs.length kp))) ⟨NO, 4, none⟩ (.slice none 0 0) NT (Nat.ne_of_lt HTO.out.1)).trans ((Below.heap_setCell (((wA.setCell ⟨NO, 0, none⟩ (.int .i64 g)).setCell ⟨NO, 1, none⟩ (.int .i64 s)).setCell ⟨NO, 2, none⟩ (.int .i64 r)) ⟨NO, 3, none⟩ ((Value.slice (some ⟨p, 0, none⟩) xs.length kp)) NT (Nat.ne_of_lt HTO.out.1)).trans ((Below.heap_setCell ((wA.setCell ⟨NO, 0, none⟩ (.int .i64 g)).setCell ⟨NO, 1, none⟩ (.int .i64 s)) ⟨NO, 2, none⟩ (.int .i64 r) NT (Nat.ne_of_lt HTO.out.1)).trans ((Below.heap_setCell (wA.setCell ⟨NO, 0, none⟩ (.int .i64 g)) ⟨NO, 1, none⟩ (.int .i64 s) NT (Nat.ne_of_lt HTO.out.1)).trans ((Below.heap_setCell wA ⟨NO, 0, none⟩ (.int .i64 g) NT (Nat.ne_of_lt HTO.out.1)).trans HKt.out)))))
      have ow := (own_set (own_set (own_set (own_set (own_set HOx.out ⟨NO, 0, none⟩ (.int .i64 g) HTO.out.2.1) ⟨NO, 1, none⟩ (.int .i64 s) HTO.out.2.1) ⟨NO, 2, none⟩ (.int .i64 r) HTO.out.2.1) ⟨NO, 3, none⟩ ((Value.slice (some ⟨p, 0, none⟩) xs.length kp)) HTO.out.2.1) ⟨NO, 4, none⟩ (.slice none 0 0) HTO.out.2.1)
      have B4 := (((((HHx.out.1.setCell (p := ⟨NO, 0, none⟩) (Nat.le_trans HNT.out (Nat.le_of_lt HTO.out.1)) (.int .i64 g)).setCell (p := ⟨NO, 1, none⟩) (Nat.le_trans HNT.out (Nat.le_of_lt HTO.out.1)) (.int .i64 s)).setCell (p := ⟨NO, 2, none⟩) (Nat.le_trans HNT.out (Nat.le_of_lt HTO.out.1)) (.int .i64 r)).setCell (p := ⟨NO, 3, none⟩) (Nat.le_trans HNT.out (Nat.le_of_lt HTO.out.1)) ((Value.slice (some ⟨p, 0, none⟩) xs.length kp))).setCell (p := ⟨NO, 4, none⟩) (Nat.le_trans HNT.out (Nat.le_of_lt HTO.out.1)) (.slice none 0 0))
      obtain ⟨w4, hW⟩ : ∃ w4, w4 = (((((wA.setCell ⟨NO, 0, none⟩ (.int .i64 g)).setCell ⟨NO, 1, none⟩ (.int .i64 s)).setCell ⟨NO, 2, none⟩ (.int .i64 r)).setCell ⟨NO, 3, none⟩ ((Value.slice (some ⟨p, 0, none⟩) xs.length kp))).setCell ⟨NO, 4, none⟩ (.slice none 0 0)) := ⟨_, rfl⟩
      rw [← hW] at kO kT ow B4
      refine hK.out _ _ ?_ (fun hHeld5 => ?_)
      · (try dsimp only); rw [← hW]; exact ⟨B4, cell_keep B4 HK.out.1, cell_keep B4 HK.out.2.1, cell_keep B4 HK.out.2.2.1, cell_keep B4 HK.out.2.2.2.1, cell_keep B4 HK.out.2.2.2.2, B4.size⟩
      clear hK K hHeld5
      simp only [← hW]
      clear hW y0 y1 y2 y3 y4 g0 g1 g2 g3 g4 hHeld
      have HKT := hid kT
      have HKO := hid kO
      have HOW := hid ow
      have HB4 := hid B4
      clear kT kO ow B4
      (try simp only [Act.put, List.setIfInBounds_toArray, List.set_cons_zero, List.set_cons_succ, List.getElem_toArray, List.getElem_cons_succ, List.getElem_cons_zero])
      refine wpAnyH_done (by kernel_rfl) ?_ _
      have m4 := cell_keep HB4.out HK.out.2.2.2.2
      have m4b := cell_keep (below1 w4 (Obj.cells #[] 4)) m4
      go_wp2_with (at_builtin; refine appendB rfl _ _ rfl w4.heap.size _ rfl (World.ownsRow_lit (base := w4.heap.size) (e := 4) (size := 1) w4 #[] 0 (Nat.le_refl _) (by simp) (by simp)) b2 off2 cap2 ys rfl (fun i hi => ((HB4.out.trans ((below1 _ _).mono HB4.out.size)).cell (p := ⟨b2, off2 + i, none⟩) HB2.out).trans (HCell2.out i hi)) ?c1 ?c2 ?_)
      case c1 => have := HZ2.out; omega
      case c2 => simp
      intro v' w6 hown6 hbel6
      have bel46 : Below w4.heap.size w4 w6 := (below1 _ _).trans hbel6
      have kT6 := (bel46.block NT (Array.getElem?_eq_some_iff.1 HKT.out).1).trans HKT.out
      have kO6 := (bel46.block NO (Array.getElem?_eq_some_iff.1 HKO.out).1).trans HKO.out
      obtain ⟨q, hq6, oq⟩ := OwnB.of hown6
      rcases oq.form with ⟨_, he⟩ | ⟨kq, rfl, hq1, hq2, _⟩
      · exact absurd he (by intro e; have := HZ2.out.1; rw [e] at this; simp at this)
      have HPQ : Hid (p < q ∧ NO < q ∧ NT < q) := ⟨Nat.lt_of_lt_of_le HOW.out.lt hq6, Nat.lt_of_lt_of_le (Array.getElem?_eq_some_iff.1 HKO.out).1 hq6, Nat.lt_of_lt_of_le (Array.getElem?_eq_some_iff.1 HKT.out).1 hq6⟩
      have HO6 := hid (And.intro (HOW.out.keep bel46) oq)
      have HB6 := hid (HB4.out.trans (bel46.mono HB4.out.size))
      have HK6 := hid kT6
      have x0 : w6.cell? ⟨NO, 0, none⟩ = some (.int .i64 g) := Go.Joins.cell_of_block kO6 0
      have x1 : w6.cell? ⟨NO, 1, none⟩ = some (.int .i64 s) := Go.Joins.cell_of_block kO6 1
      have x2 : w6.cell? ⟨NO, 2, none⟩ = some (.int .i64 r) := Go.Joins.cell_of_block kO6 2
      have x3 : w6.cell? ⟨NO, 3, none⟩ = some ((Value.slice (some ⟨p, 0, none⟩) xs.length kp)) := Go.Joins.cell_of_block kO6 3
      have x4 : w6.cell? ⟨NO, 4, none⟩ = some (.slice none 0 0) := Go.Joins.cell_of_block kO6 4
      have f4 : w6.frozen? ⟨NO, 4, none⟩ = false := Go.Joins.unfrozen_of_block kO6 4
      have y0 : w6.cell? ⟨NT, 0, none⟩ = some (.int .i64 0) := Go.Joins.cell_of_block kT6 0
      have y1 : w6.cell? ⟨NT, 1, none⟩ = some (.int .i64 0) := Go.Joins.cell_of_block kT6 1
      have y2 : w6.cell? ⟨NT, 2, none⟩ = some (.int .i64 0) := Go.Joins.cell_of_block kT6 2
      have y3 : w6.cell? ⟨NT, 3, none⟩ = some (.slice none 0 0) := Go.Joins.cell_of_block kT6 3
      have y4 : w6.cell? ⟨NT, 4, none⟩ = some (.slice none 0 0) := Go.Joins.cell_of_block kT6 4
      have g0 : w6.frozen? ⟨NT, 0, none⟩ = false := Go.Joins.unfrozen_of_block kT6 0
      have g1 : w6.frozen? ⟨NT, 1, none⟩ = false := Go.Joins.unfrozen_of_block kT6 1
      have g2 : w6.frozen? ⟨NT, 2, none⟩ = false := Go.Joins.unfrozen_of_block kT6 2
      have g3 : w6.frozen? ⟨NT, 3, none⟩ = false := Go.Joins.unfrozen_of_block kT6 3
      have g4 : w6.frozen? ⟨NT, 4, none⟩ = false := Go.Joins.unfrozen_of_block kT6 4
      have hne2 : ¬ NO = NT := by have := HTO.out.1; omega
      have hne3 : ¬ NT = NO := by have := HTO.out.1; omega
      clear kT6 kO6 oq hown6 hbel6 bel46 hq6 hq1 hq2 m4 m4b
      go_wp2
      have q0 := (Go.Joins.block_setCell (i := 4) (Go.Joins.block_setCell (i := 3) (Go.Joins.block_setCell (i := 2) (Go.Joins.block_setCell (i := 1) (Go.Joins.block_setCell (i := 0) ((Below.heap_setCell w6 ⟨NO, 4, none⟩ (Value.slice (some ⟨q, 0, none⟩) ys.length kq) NT hne3).trans HK6.out) (.int .i64 g)) (.int .i64 s)) (.int .i64 r)) ((Value.slice (some ⟨p, 0, none⟩) xs.length kp))) ((Value.slice (some ⟨q, 0, none⟩) ys.length kq)))
      have O1 := (own_set (own_set (own_set (own_set (own_set (own_set HO6.out.1 ⟨NO, 4, none⟩ (Value.slice (some ⟨q, 0, none⟩) ys.length kq) HTO.out.2.1) ⟨NT, 0, none⟩ (.int .i64 g) (Nat.ne_of_lt HTO.out.2.2.1)) ⟨NT, 1, none⟩ (.int .i64 s) (Nat.ne_of_lt HTO.out.2.2.1)) ⟨NT, 2, none⟩ (.int .i64 r) (Nat.ne_of_lt HTO.out.2.2.1)) ⟨NT, 3, none⟩ ((Value.slice (some ⟨p, 0, none⟩) xs.length kp)) (Nat.ne_of_lt HTO.out.2.2.1)) ⟨NT, 4, none⟩ ((Value.slice (some ⟨q, 0, none⟩) ys.length kq)) (Nat.ne_of_lt HTO.out.2.2.1))
      have O2 := (ownB_set (ownB_set (ownB_set (ownB_set (ownB_set (ownB_set HO6.out.2 ⟨NO, 4, none⟩ (Value.slice (some ⟨q, 0, none⟩) ys.length kq) (Nat.ne_of_lt HPQ.out.2.1)) ⟨NT, 0, none⟩ (.int .i64 g) (Nat.ne_of_lt HPQ.out.2.2)) ⟨NT, 1, none⟩ (.int .i64 s) (Nat.ne_of_lt HPQ.out.2.2)) ⟨NT, 2, none⟩ (.int .i64 r) (Nat.ne_of_lt HPQ.out.2.2)) ⟨NT, 3, none⟩ ((Value.slice (some ⟨p, 0, none⟩) xs.length kp)) (Nat.ne_of_lt HPQ.out.2.2)) ⟨NT, 4, none⟩ ((Value.slice (some ⟨q, 0, none⟩) ys.length kq)) (Nat.ne_of_lt HPQ.out.2.2))
      have B5 := ((((((HB6.out.setCell (p := ⟨NO, 4, none⟩) (Nat.le_trans HNT.out (Nat.le_of_lt HTO.out.1)) (Value.slice (some ⟨q, 0, none⟩) ys.length kq)).setCell (p := ⟨NT, 0, none⟩) HNT.out (.int .i64 g)).setCell (p := ⟨NT, 1, none⟩) HNT.out (.int .i64 s)).setCell (p := ⟨NT, 2, none⟩) HNT.out (.int .i64 r)).setCell (p := ⟨NT, 3, none⟩) HNT.out ((Value.slice (some ⟨p, 0, none⟩) xs.length kp))).setCell (p := ⟨NT, 4, none⟩) HNT.out ((Value.slice (some ⟨q, 0, none⟩) ys.length kq)))
      obtain ⟨W5, hW⟩ : ∃ W5, W5 = ((((((w6.setCell ⟨NO, 4, none⟩ (Value.slice (some ⟨q, 0, none⟩) ys.length kq)).setCell ⟨NT, 0, none⟩ (.int .i64 g)).setCell ⟨NT, 1, none⟩ (.int .i64 s)).setCell ⟨NT, 2, none⟩ (.int .i64 r)).setCell ⟨NT, 3, none⟩ ((Value.slice (some ⟨p, 0, none⟩) xs.length kp))).setCell ⟨NT, 4, none⟩ ((Value.slice (some ⟨q, 0, none⟩) ys.length kq))) := ⟨_, rfl⟩
      rw [← hW] at q0 O1 O2 B5
      have z0 : W5.cell? ⟨NT, 0, none⟩ = some (.int .i64 g) := Go.Joins.cell_of_block q0 0
      have z1 : W5.cell? ⟨NT, 1, none⟩ = some (.int .i64 s) := Go.Joins.cell_of_block q0 1
      have z2 : W5.cell? ⟨NT, 2, none⟩ = some (.int .i64 r) := Go.Joins.cell_of_block q0 2
      have z3 : W5.cell? ⟨NT, 3, none⟩ = some ((Value.slice (some ⟨p, 0, none⟩) xs.length kp)) := Go.Joins.cell_of_block q0 3
      have z4 : W5.cell? ⟨NT, 4, none⟩ = some ((Value.slice (some ⟨q, 0, none⟩) ys.length kq)) := Go.Joins.cell_of_block q0 4
      simp only [← hW]
      clear hW q0
      simp [bodyPost, results, Try.results50, go_sem, z0, z1, z2, z3, z4]
      exact ⟨p, kp, q, kq, by simp, O1, O2, HTO.out.2.2.2, HPQ.out.1, HKB.out.1, HKB.out.2, B5⟩
  · go_simp
    refine hK.out _ _ ?_ (fun hHeld2 => ?_)
    · (try dsimp only); exact nx5_ (below1 _ _) hHeld
    clear hK K
    obtain ⟨wC, hWC⟩ : ∃ wC, wC = wD.alloc (Obj.cells #[.int .i64 0, .int .i64 0, .int .i64 0, .slice none 0 0, .slice none 0 0] 31) := ⟨_, rfl⟩
    obtain ⟨NO, hO⟩ : ∃ NO, NO = wD.heap.size := ⟨_, rfl⟩
    have kO : wC.heap[NO]? = some (Obj.cells #[.int .i64 0, .int .i64 0, .int .i64 0, .slice none 0 0, .slice none 0 0] 31) := by rw [hWC]; exact FNew.heap_top hO
    have hTO : NT < NO := by rw [hO]; exact (Array.getElem?_eq_some_iff.1 kt).1
    have bel : Below wD.heap.size wD wC := by rw [hWC]; exact below1 _ _
    replace kt := (bel.block NT (Array.getElem?_eq_some_iff.1 kt).1).trans kt
    rw [← hWC] at hHeld2
    simp only [← hWC, ← hO]
    clear hHeld bel hWC hO
    have hHeld := hHeld2
    clear hHeld2
    (try simp only [Act.put, List.setIfInBounds_toArray, List.set_cons_zero, List.set_cons_succ, List.getElem_toArray, List.getElem_cons_succ, List.getElem_cons_zero])
    refine wpAnyH_ready (rs := [12]) ?_ (by simp) ?_
    · decide +kernel
    refine AllReadyH.cons rfl (fun K hK => ?_) AllReadyH.nil
    go_simp
    refine hK.out _ _ ?_ (fun hHeld2 => ?_)
    · (try dsimp only); exact nx5_ (below1 _ _) hHeld
    clear hK K
    have hrow := World.ownsRow_lit (base := wC.heap.size) (e := 2) (size := 1) wC #[] 0 (Nat.le_refl _) (by simp) (by simp)
    obtain ⟨wB, hWB⟩ : ∃ wB, wB = wC.alloc (Obj.cells #[] 2) := ⟨_, rfl⟩
    obtain ⟨NB, hNB⟩ : ∃ NB, NB = wC.heap.size := ⟨_, rfl⟩
    have bel : Below wC.heap.size wC wB := by rw [hWB]; exact below1 _ _
    have hTB : NT < NB := by rw [hNB]; exact (Array.getElem?_eq_some_iff.1 kt).1
    have hOB : NO ≠ NB := by rw [hNB]; exact Nat.ne_of_lt (Array.getElem?_eq_some_iff.1 kO).1
    replace kt := (bel.block NT (Array.getElem?_eq_some_iff.1 kt).1).trans kt
    replace kO := (bel.block NO (Array.getElem?_eq_some_iff.1 kO).1).trans kO
    have hBs : NB < wB.heap.size := by rw [hNB, hWB]; simp
    have hwB : w.heap.size ≤ NB := by rw [hNB]; exact hHeld.1.size
    rw [← hWB] at hrow hHeld2
    rw [← hNB] at hrow
    simp only [← hWB, ← hNB]
    clear hHeld bel hWB hNB
    have hHeld := hHeld2
    clear hHeld2
    (try simp only [Act.put, List.setIfInBounds_toArray, List.set_cons_zero, List.set_cons_succ, List.getElem_toArray, List.getElem_cons_succ, List.getElem_cons_zero])
    refine wpAnyH_ready (rs := [17]) ?_ (by simp) ?_
    · decide +kernel
    refine AllReadyH.cons rfl (fun K hK => ?_) AllReadyH.nil
    refine op_appendI rfl _ _ rfl NB _ rfl hrow b1 off1 cap1 xs rfl ?c1 ?c2 ?c3 ?_
    case c1 => intro i hi; exact (hHeld.1.cell (p := ⟨b1, off1 + i, none⟩) HB0.out).trans (HCell.out i hi)
    case c2 => have := HZ.out; omega
    case c3 => exact Nat.le_of_lt hBs
    intro v' wA hown5 hbel5 hgr5 hob5
    refine hK.out _ _ ?_ (fun hHeld3 => ?_)
    · (try dsimp only); exact (show _ from by have B := hHeld.1.trans (hbel5.mono hwB); exact ⟨B, cell_keep B HK.out.1, cell_keep B HK.out.2.1, cell_keep B HK.out.2.2.1, cell_keep B HK.out.2.2.2.1, cell_keep B HK.out.2.2.2.2, B.size⟩)
    clear hK K
    replace kt := (hbel5.block NT hTB).trans kt
    obtain ⟨p, hp5, ow⟩ := Own.of hown5
    rcases ow.form with ⟨_, he⟩ | ⟨kp, rfl, hk1, hk2, _⟩
    · exact absurd he (by intro e; have := HZ.out.1; rw [e] at this; simp at this)
    have hNTp : NT < p := Nat.lt_of_lt_of_le hTB hp5
    have lop : w.heap.size ≤ p := Nat.le_trans hwB hp5
    have HKB := hid (And.intro hk1 hk2)
    have hOLt := (Array.getElem?_eq_some_iff.1 kO).1
    have hOp : NO ≠ p := hob5.elim (fun h e => hOB (e.trans (Option.some.inj (show some p = some NB from h)))) (fun h => by have h2 := Option.some.inj (show some p = some _ from h); omega)
    replace kO := (hgr5.block NO hOLt (show (some NO : Option Nat) ≠ some NB from fun e => hOB (Option.some.inj e))).trans kO
    clear hOLt hOB
    clear hrow hTB hBs hwB hHeld hown5 hbel5 hp5 hk1 hk2 hgr5 hob5
    have hHeld := hHeld3
    clear hHeld3
    (try simp only [Act.put, List.setIfInBounds_toArray, List.set_cons_zero, List.set_cons_succ, List.getElem_toArray, List.getElem_cons_succ, List.getElem_cons_zero])
    (refine wpAnyH_take (i := 18) (v := ?_) rfl ?_ ?_ ?_ (fun _ _ _ h => h) (Or.inl ⟨?_, ?_⟩) ?_ ?_; rotate_left 1; (focus decide +kernel); (focus decide +kernel); (focus decide +kernel); (focus rfl); (focus (intro w hSw; (try dsimp only at hSw); go_simp; (try (with_reducible rfl)); done)); (focus assumption); (try simp only [Act.put, List.setIfInBounds_toArray, List.set_cons_zero, List.set_cons_succ, List.getElem_toArray, List.getElem_cons_succ, List.getElem_cons_zero]))
    refine wpAnyH_ready (rs := [20]) ?_ (by simp) ?_
    · decide +kernel
    refine AllReadyH.cons rfl (fun K hK => ?_) AllReadyH.nil
    have y0 : wA.cell? ⟨NO, 0, none⟩ = some (.int .i64 0) := Go.Joins.cell_of_block kO 0
    have y1 : wA.cell? ⟨NO, 1, none⟩ = some (.int .i64 0) := Go.Joins.cell_of_block kO 1
    have y2 : wA.cell? ⟨NO, 2, none⟩ = some (.int .i64 0) := Go.Joins.cell_of_block kO 2
    have y3 : wA.cell? ⟨NO, 3, none⟩ = some (.slice none 0 0) := Go.Joins.cell_of_block kO 3
    have y4 : wA.cell? ⟨NO, 4, none⟩ = some (.slice none 0 0) := Go.Joins.cell_of_block kO 4
    have g0 : wA.frozen? ⟨NO, 0, none⟩ = false := Go.Joins.unfrozen_of_block kO 0
    have g1 : wA.frozen? ⟨NO, 1, none⟩ = false := Go.Joins.unfrozen_of_block kO 1
    have g2 : wA.frozen? ⟨NO, 2, none⟩ = false := Go.Joins.unfrozen_of_block kO 2
    have g3 : wA.frozen? ⟨NO, 3, none⟩ = false := Go.Joins.unfrozen_of_block kO 3
    have g4 : wA.frozen? ⟨NO, 4, none⟩ = false := Go.Joins.unfrozen_of_block kO 4
    have HKx := hid kO
    have HHx := hid hHeld
    have HTO := hid (And.intro hTO (And.intro hOp (And.intro hNTp lop)))
    have HKt := hid kt
    have HOx := hid ow
    clear kO hTO hOp hNTp lop kt ow
    go_simp
    have kO := (Go.Joins.block_setCell (i := 4) (Go.Joins.block_setCell (i := 3) (Go.Joins.block_setCell (i := 2) (Go.Joins.block_setCell (i := 1) (Go.Joins.block_setCell (i := 0) HKx.out (.int .i64 g)) (.int .i64 s)) (.int .i64 r)) ((Value.slice (some ⟨p, 0, none⟩) xs.length kp))) (.slice none 0 0))
    have kT := ((Below.heap_setCell ((((wA.setCell ⟨NO, 0, none⟩ (.int .i64 g)).setCell ⟨NO, 1, none⟩ (.int .i64 s)).setCell ⟨NO, 2, none⟩ (.int .i64 r)).setCell ⟨NO, 3, none⟩ ((Value.slice (some ⟨p, 0, none⟩) xs.length kp))) ⟨NO, 4, none⟩ (.slice none 0 0) NT (Nat.ne_of_lt HTO.out.1)).trans ((Below.heap_setCell (((wA.setCell ⟨NO, 0, none⟩ (.int .i64 g)).setCell ⟨NO, 1, none⟩ (.int .i64 s)).setCell ⟨NO, 2, none⟩ (.int .i64 r)) ⟨NO, 3, none⟩ ((Value.slice (some ⟨p, 0, none⟩) xs.length kp)) NT (Nat.ne_of_lt HTO.out.1)).trans ((Below.heap_setCell ((wA.setCell ⟨NO, 0, none⟩ (.int .i64 g)).setCell ⟨NO, 1, none⟩ (.int .i64 s)) ⟨NO, 2, none⟩ (.int .i64 r) NT (Nat.ne_of_lt HTO.out.1)).trans ((Below.heap_setCell (wA.setCell ⟨NO, 0, none⟩ (.int .i64 g)) ⟨NO, 1, none⟩ (.int .i64 s) NT (Nat.ne_of_lt HTO.out.1)).trans ((Below.heap_setCell wA ⟨NO, 0, none⟩ (.int .i64 g) NT (Nat.ne_of_lt HTO.out.1)).trans HKt.out)))))
    have ow := (own_set (own_set (own_set (own_set (own_set HOx.out ⟨NO, 0, none⟩ (.int .i64 g) HTO.out.2.1) ⟨NO, 1, none⟩ (.int .i64 s) HTO.out.2.1) ⟨NO, 2, none⟩ (.int .i64 r) HTO.out.2.1) ⟨NO, 3, none⟩ ((Value.slice (some ⟨p, 0, none⟩) xs.length kp)) HTO.out.2.1) ⟨NO, 4, none⟩ (.slice none 0 0) HTO.out.2.1)
    have B4 := (((((HHx.out.1.setCell (p := ⟨NO, 0, none⟩) (Nat.le_trans HNT.out (Nat.le_of_lt HTO.out.1)) (.int .i64 g)).setCell (p := ⟨NO, 1, none⟩) (Nat.le_trans HNT.out (Nat.le_of_lt HTO.out.1)) (.int .i64 s)).setCell (p := ⟨NO, 2, none⟩) (Nat.le_trans HNT.out (Nat.le_of_lt HTO.out.1)) (.int .i64 r)).setCell (p := ⟨NO, 3, none⟩) (Nat.le_trans HNT.out (Nat.le_of_lt HTO.out.1)) ((Value.slice (some ⟨p, 0, none⟩) xs.length kp))).setCell (p := ⟨NO, 4, none⟩) (Nat.le_trans HNT.out (Nat.le_of_lt HTO.out.1)) (.slice none 0 0))
    obtain ⟨w4, hW⟩ : ∃ w4, w4 = (((((wA.setCell ⟨NO, 0, none⟩ (.int .i64 g)).setCell ⟨NO, 1, none⟩ (.int .i64 s)).setCell ⟨NO, 2, none⟩ (.int .i64 r)).setCell ⟨NO, 3, none⟩ ((Value.slice (some ⟨p, 0, none⟩) xs.length kp))).setCell ⟨NO, 4, none⟩ (.slice none 0 0)) := ⟨_, rfl⟩
    rw [← hW] at kO kT ow B4
    refine hK.out _ _ ?_ (fun hHeld5 => ?_)
    · (try dsimp only); rw [← hW]; exact ⟨B4, cell_keep B4 HK.out.1, cell_keep B4 HK.out.2.1, cell_keep B4 HK.out.2.2.1, cell_keep B4 HK.out.2.2.2.1, cell_keep B4 HK.out.2.2.2.2, B4.size⟩
    clear hK K hHeld5
    simp only [← hW]
    clear hW y0 y1 y2 y3 y4 g0 g1 g2 g3 g4 hHeld
    have HKT := hid kT
    have HKO := hid kO
    have HOW := hid ow
    have HB4 := hid B4
    clear kT kO ow B4
    (try simp only [Act.put, List.setIfInBounds_toArray, List.set_cons_zero, List.set_cons_succ, List.getElem_toArray, List.getElem_cons_succ, List.getElem_cons_zero])
    refine wpAnyH_done (by kernel_rfl) ?_ _
    have m4 := cell_keep HB4.out HK.out.2.2.2.2
    have m4b := cell_keep (below1 w4 (Obj.cells #[] 4)) m4
    go_wp2_with (at_builtin; refine appendB rfl _ _ rfl w4.heap.size _ rfl (World.ownsRow_lit (base := w4.heap.size) (e := 4) (size := 1) w4 #[] 0 (Nat.le_refl _) (by simp) (by simp)) b2 off2 cap2 ys rfl (fun i hi => ((HB4.out.trans ((below1 _ _).mono HB4.out.size)).cell (p := ⟨b2, off2 + i, none⟩) HB2.out).trans (HCell2.out i hi)) ?c1 ?c2 ?_)
    case c1 => have := HZ2.out; omega
    case c2 => simp
    intro v' w6 hown6 hbel6
    have bel46 : Below w4.heap.size w4 w6 := (below1 _ _).trans hbel6
    have kT6 := (bel46.block NT (Array.getElem?_eq_some_iff.1 HKT.out).1).trans HKT.out
    have kO6 := (bel46.block NO (Array.getElem?_eq_some_iff.1 HKO.out).1).trans HKO.out
    obtain ⟨q, hq6, oq⟩ := OwnB.of hown6
    rcases oq.form with ⟨_, he⟩ | ⟨kq, rfl, hq1, hq2, _⟩
    · exact absurd he (by intro e; have := HZ2.out.1; rw [e] at this; simp at this)
    have HPQ : Hid (p < q ∧ NO < q ∧ NT < q) := ⟨Nat.lt_of_lt_of_le HOW.out.lt hq6, Nat.lt_of_lt_of_le (Array.getElem?_eq_some_iff.1 HKO.out).1 hq6, Nat.lt_of_lt_of_le (Array.getElem?_eq_some_iff.1 HKT.out).1 hq6⟩
    have HO6 := hid (And.intro (HOW.out.keep bel46) oq)
    have HB6 := hid (HB4.out.trans (bel46.mono HB4.out.size))
    have HK6 := hid kT6
    have x0 : w6.cell? ⟨NO, 0, none⟩ = some (.int .i64 g) := Go.Joins.cell_of_block kO6 0
    have x1 : w6.cell? ⟨NO, 1, none⟩ = some (.int .i64 s) := Go.Joins.cell_of_block kO6 1
    have x2 : w6.cell? ⟨NO, 2, none⟩ = some (.int .i64 r) := Go.Joins.cell_of_block kO6 2
    have x3 : w6.cell? ⟨NO, 3, none⟩ = some ((Value.slice (some ⟨p, 0, none⟩) xs.length kp)) := Go.Joins.cell_of_block kO6 3
    have x4 : w6.cell? ⟨NO, 4, none⟩ = some (.slice none 0 0) := Go.Joins.cell_of_block kO6 4
    have f4 : w6.frozen? ⟨NO, 4, none⟩ = false := Go.Joins.unfrozen_of_block kO6 4
    have y0 : w6.cell? ⟨NT, 0, none⟩ = some (.int .i64 0) := Go.Joins.cell_of_block kT6 0
    have y1 : w6.cell? ⟨NT, 1, none⟩ = some (.int .i64 0) := Go.Joins.cell_of_block kT6 1
    have y2 : w6.cell? ⟨NT, 2, none⟩ = some (.int .i64 0) := Go.Joins.cell_of_block kT6 2
    have y3 : w6.cell? ⟨NT, 3, none⟩ = some (.slice none 0 0) := Go.Joins.cell_of_block kT6 3
    have y4 : w6.cell? ⟨NT, 4, none⟩ = some (.slice none 0 0) := Go.Joins.cell_of_block kT6 4
    have g0 : w6.frozen? ⟨NT, 0, none⟩ = false := Go.Joins.unfrozen_of_block kT6 0
    have g1 : w6.frozen? ⟨NT, 1, none⟩ = false := Go.Joins.unfrozen_of_block kT6 1
    have g2 : w6.frozen? ⟨NT, 2, none⟩ = false := Go.Joins.unfrozen_of_block kT6 2
    have g3 : w6.frozen? ⟨NT, 3, none⟩ = false := Go.Joins.unfrozen_of_block kT6 3
    have g4 : w6.frozen? ⟨NT, 4, none⟩ = false := Go.Joins.unfrozen_of_block kT6 4
    have hne2 : ¬ NO = NT := by have := HTO.out.1; omega
    have hne3 : ¬ NT = NO := by have := HTO.out.1; omega
    clear kT6 kO6 oq hown6 hbel6 bel46 hq6 hq1 hq2 m4 m4b
    go_wp2
    have q0 := (Go.Joins.block_setCell (i := 4) (Go.Joins.block_setCell (i := 3) (Go.Joins.block_setCell (i := 2) (Go.Joins.block_setCell (i := 1) (Go.Joins.block_setCell (i := 0) ((Below.heap_setCell w6 ⟨NO, 4, none⟩ (Value.slice (some ⟨q, 0, none⟩) ys.length kq) NT hne3).trans HK6.out) (.int .i64 g)) (.int .i64 s)) (.int .i64 r)) ((Value.slice (some ⟨p, 0, none⟩) xs.length kp))) ((Value.slice (some ⟨q, 0, none⟩) ys.length kq)))
    have O1 := (own_set (own_set (own_set (own_set (own_set (own_set HO6.out.1 ⟨NO, 4, none⟩ (Value.slice (some ⟨q, 0, none⟩) ys.length kq) HTO.out.2.1) ⟨NT, 0, none⟩ (.int .i64 g) (Nat.ne_of_lt HTO.out.2.2.1)) ⟨NT, 1, none⟩ (.int .i64 s) (Nat.ne_of_lt HTO.out.2.2.1)) ⟨NT, 2, none⟩ (.int .i64 r) (Nat.ne_of_lt HTO.out.2.2.1)) ⟨NT, 3, none⟩ ((Value.slice (some ⟨p, 0, none⟩) xs.length kp)) (Nat.ne_of_lt HTO.out.2.2.1)) ⟨NT, 4, none⟩ ((Value.slice (some ⟨q, 0, none⟩) ys.length kq)) (Nat.ne_of_lt HTO.out.2.2.1))
    have O2 := (ownB_set (ownB_set (ownB_set (ownB_set (ownB_set (ownB_set HO6.out.2 ⟨NO, 4, none⟩ (Value.slice (some ⟨q, 0, none⟩) ys.length kq) (Nat.ne_of_lt HPQ.out.2.1)) ⟨NT, 0, none⟩ (.int .i64 g) (Nat.ne_of_lt HPQ.out.2.2)) ⟨NT, 1, none⟩ (.int .i64 s) (Nat.ne_of_lt HPQ.out.2.2)) ⟨NT, 2, none⟩ (.int .i64 r) (Nat.ne_of_lt HPQ.out.2.2)) ⟨NT, 3, none⟩ ((Value.slice (some ⟨p, 0, none⟩) xs.length kp)) (Nat.ne_of_lt HPQ.out.2.2)) ⟨NT, 4, none⟩ ((Value.slice (some ⟨q, 0, none⟩) ys.length kq)) (Nat.ne_of_lt HPQ.out.2.2))
    have B5 := ((((((HB6.out.setCell (p := ⟨NO, 4, none⟩) (Nat.le_trans HNT.out (Nat.le_of_lt HTO.out.1)) (Value.slice (some ⟨q, 0, none⟩) ys.length kq)).setCell (p := ⟨NT, 0, none⟩) HNT.out (.int .i64 g)).setCell (p := ⟨NT, 1, none⟩) HNT.out (.int .i64 s)).setCell (p := ⟨NT, 2, none⟩) HNT.out (.int .i64 r)).setCell (p := ⟨NT, 3, none⟩) HNT.out ((Value.slice (some ⟨p, 0, none⟩) xs.length kp))).setCell (p := ⟨NT, 4, none⟩) HNT.out ((Value.slice (some ⟨q, 0, none⟩) ys.length kq)))
    obtain ⟨W5, hW⟩ : ∃ W5, W5 = ((((((w6.setCell ⟨NO, 4, none⟩ (Value.slice (some ⟨q, 0, none⟩) ys.length kq)).setCell ⟨NT, 0, none⟩ (.int .i64 g)).setCell ⟨NT, 1, none⟩ (.int .i64 s)).setCell ⟨NT, 2, none⟩ (.int .i64 r)).setCell ⟨NT, 3, none⟩ ((Value.slice (some ⟨p, 0, none⟩) xs.length kp))).setCell ⟨NT, 4, none⟩ ((Value.slice (some ⟨q, 0, none⟩) ys.length kq))) := ⟨_, rfl⟩
    rw [← hW] at q0 O1 O2 B5
    have z0 : W5.cell? ⟨NT, 0, none⟩ = some (.int .i64 g) := Go.Joins.cell_of_block q0 0
    have z1 : W5.cell? ⟨NT, 1, none⟩ = some (.int .i64 s) := Go.Joins.cell_of_block q0 1
    have z2 : W5.cell? ⟨NT, 2, none⟩ = some (.int .i64 r) := Go.Joins.cell_of_block q0 2
    have z3 : W5.cell? ⟨NT, 3, none⟩ = some ((Value.slice (some ⟨p, 0, none⟩) xs.length kp)) := Go.Joins.cell_of_block q0 3
    have z4 : W5.cell? ⟨NT, 4, none⟩ = some ((Value.slice (some ⟨q, 0, none⟩) ys.length kq)) := Go.Joins.cell_of_block q0 4
    simp only [← hW]
    clear hW q0
    simp [bodyPost, results, Try.results50, go_sem, z0, z1, z2, z3, z4]
    exact ⟨p, kp, q, kq, by simp, O1, O2, HTO.out.2.2.2, HPQ.out.1, HKB.out.1, HKB.out.2, B5⟩

end Go.Proofs.Ytnpjhhkhdeomcaa.GOwn
