/- An inner step, both sides. -/
import Derived.Test.YtmbimekndhcgaaaSq
import Derived.Test.YtmbimekndhcgaaaCt
import Derived.Test.YtmbimekndhcgaaaStp
namespace Go.Proofs.Ytmbimekndhcgaaa.In
open Go.RowKit Go.Proofs.Ytmbimekndhcgaaa.Rd Go.Proofs.Ytmbimekndhcgaaa.Help Go.Proofs.Ytmbimekndhcgaaa.Ring Go.Proofs.Ytmbimekndhcgaaa.Small Go.Proofs.Ytmbimekndhcgaaa.FVal Go.Proofs.Ytmbimekndhcgaaa.Keep Go.Proofs.Ytmbimekndhcgaaa.Rule Go.Proofs.Ytmbimekndhcgaaa.Grow Go.Proofs.Ytmbimekndhcgaaa.Arr Go.Proofs.Ytmbimekndhcgaaa.Lf Go.Proofs.Ytmbimekndhcgaaa.FCut
open Go.Proofs.Ytmbimekndhcgaaa.Nf (heap_lt heap_keep)
set_option linter.unusedVariables false
set_option linter.unusedSimpArgs false

theorem nxt_01 (xs ys zs : List Int) (R C : Nat) (rd : Bool) (i k : Nat) : nxt xs ys zs R C rd i k = 0 ∨ nxt xs ys zs R C rd i k = 1 := by
  unfold nxt; split <;> simp
theorem life_all (xs ys zs : List Int) (R C : Nat) (rd : Bool) (p : Int → Bool) (h0 : p 0 = true) (h1 : p 1 = true) : (lifeL xs ys zs R C rd).all p = true := by
  unfold lifeL grid
  rw [List.all_map, List.all_eq_true]
  intro t _
  rcases nxt_01 xs ys zs R C rd (t / C) (t % C) with h | h <;> simp [h, h0, h1]
theorem life_len (xs ys zs : List Int) (R C : Nat) (rd : Bool) : (lifeL xs ys zs R C rd).length = R * C := by unfold lifeL; rw [grid_len]
theorem life_field {R C : Nat} {zs : List Int} (h : fieldB R C zs = true) (xs ys z : List Int) (rd : Bool) : fieldB R C (lifeL xs ys z R C rd) = true := by
  simp only [fieldB, Bool.and_eq_true] at h ⊢
  refine ⟨h.1, ?_, ?_⟩
  · rw [life_len]; simp
  · unfold allB; exact life_all xs ys z R C rd _ (by decide) (by decide)
theorem life_plain (xs ys z : List Int) (R C : Nat) (rd : Bool) : plainB (lifeL xs ys z R C rd) = true := by
  unfold plainB; exact life_all xs ys z R C rd _ (by decide) (by decide)
theorem step_loadA {ops : Array Oper} {o : Oper} {a : Act} {W : World} {K : Act → World → Prop} {Q : Exit → Act → World → Prop} {X : Prop} (hgd : o.guard = none) (x : Operand) (ho : o.op = .load 82 x)
    (g : Nat) (hx : a.eval x = .pointer (some ⟨g, 0, none⟩)) (t : TypeId) (cs : Array Value) (hg : W.heap[g]? = some (.cells cs t (0, 0)))
    (hi : (Try.prog.info? 82).map (·.size) = some cs.size) (h : K (a.put o.dst (.agg cs)) W) :
    if Region.wanted o (yielded ops a.tmps) = true then Oper.wp Try.prog o a W K Q else X := by
  have hw : Region.wanted o (yielded ops a.tmps) = true := by simp [Region.wanted, hgd]
  rw [if_pos hw]
  exact wp_load_row 82 x ho g hx t cs (0, 0) _ hg Try.underlying82 rfl hi h
theorem cutOne {w : World} {R C n rc rd mt : Nat} {b : Nat} {v : Value} {zs : List Int} (h : Rd w b v zs) (hq : fieldB R C zs = true) (hn : n = R * C) (hk : 1 + rc ≤ R ∧ 1 + rd ≤ C ∧ 1 ≤ rc ∧ 1 ≤ rd) (hmt : mt = rc * rd) :
    Calls Try.prog 91 #[ruleV R C v, .int .i64 1, .int .i64 1, .int .i64 rc, .int .i64 rd] w fun e w' => ∃ b', e = .returned ((.tuple #[ruleV rc rd (.slice (some ⟨b', 0, none⟩) mt mt), .bool true])) ∧ Own 2 w' b' (.slice (some ⟨b', 0, none⟩) mt mt) (cutL zs C 1 1 rc rd) ∧ w.heap.size ≤ b' ∧ Below w.heap.size w w' :=
  FCut.implOk (ra := 1) (rb := 1) h hq hn hk hmt
theorem l05CutOne {w : World} {R C n N rc rd mt : Nat} {b : Nat} {v : Value} {zs : List Int} (k0 : w.cell? ⟨N, 0, none⟩ = some (.int .i64 R)) (k1 : w.cell? ⟨N, 1, none⟩ = some (.int .i64 C)) (k2 : w.cell? ⟨N, 2, none⟩ = some v) (h : Rd w b v zs) (hq : fieldB R C zs = true) (hn : n = R * C) (hk : 1 + rc ≤ R ∧ 1 + rd ≤ C ∧ 1 ≤ rc ∧ 1 ≤ rd) (hmt : mt = rc * rd) :
    Calls Try.prog 89 #[.pointer (some ⟨N, 0, none⟩), .int .i64 1, .int .i64 1, .int .i64 rc, .int .i64 rd] w fun e w' => ∃ b', e = .returned (ruleV rc rd (.slice (some ⟨b', 0, none⟩) mt mt)) ∧ Own 2 w' b' (.slice (some ⟨b', 0, none⟩) mt mt) (cutL zs C 1 1 rc rd) ∧ w.heap.size ≤ b' ∧ Below w.heap.size w w' :=
  Ct.l05Cut (ra := 1) (rb := 1) k0 k1 k2 h hq hn hk hmt

set_option maxHeartbeats 4000000 in
theorem l04Step {w : World} {N LB R C n : Nat} {b1 b2 b : Nat} {v1 v2 v : Value} {xs ys zs : List Int} (kl0 : w.cell? ⟨LB, 0, none⟩ = some v1) (kl1 : w.cell? ⟨LB, 1, none⟩ = some v2) (h1 : Rd w b1 v1 xs) (h2 : Rd w b2 v2 ys) (k0 : w.cell? ⟨N, 0, none⟩ = some (.int .i64 R)) (k1 : w.cell? ⟨N, 1, none⟩ = some (.int .i64 C)) (k2 : w.cell? ⟨N, 2, none⟩ = some v) (h : Rd w b v zs) (hq : fieldB R C zs = true) (hn : n = R * C) (hpl : plainB zs = true) :
    Calls Try.prog 93 #[.pointer (some ⟨LB, 0, none⟩), .pointer (some ⟨N, 0, none⟩)] w fun e w' => ∃ b', e = .returned (ruleV R C (.slice (some ⟨b', 0, none⟩) n n)) ∧ Own 2 w' b' (.slice (some ⟨b', 0, none⟩) n n) (lifeL xs ys zs R C false) ∧ w.heap.size ≤ b' ∧ Below w.heap.size w w' := by
  have HL0 := hid kl0
  have HL1 := hid kl1
  have H1 := hid h1
  have H2 := hid h2
  have HK := hid (And.intro k0 (And.intro k1 k2))
  have HH := hid h
  have HQ := hid hq
  have HN := hid hn
  have HPL := hid hpl
  clear kl0 kl1 h1 h2 k0 k1 k2 h hq hn hpl
  go_enter Try.func93, Try.ntmps93
  go_wp2_with fail
  obtain ⟨w1, hW⟩ : ∃ w1, w1 = w.alloc (Obj.cells #[.int .i64 0, .int .i64 0, .slice none 0 0] 26) := ⟨_, rfl⟩
  obtain ⟨NT, hM⟩ : ∃ NT, NT = w.heap.size := ⟨_, rfl⟩
  have HB1 : Hid (Below w.heap.size w w1) := by simp only [Hid]; rw [hW]; exact below1 _ _
  have kT : w1.heap[NT]? = some (Obj.cells #[.int .i64 0, .int .i64 0, .slice none 0 0] 26) := by rw [hW]; exact FNew.heap_top hM
  have HNT : Hid (w.heap.size ≤ NT) := by simp only [Hid]; omega
  simp only [← hW, ← hM]
  clear hW hM
  go_at_call 73
  refine (Ls.specNext (cell_keep HB1.out HL0.out) (cell_keep HB1.out HL1.out) (H1.out.keep HB1.out (Nat.le_refl _)) (H2.out.keep HB1.out (Nat.le_refl _)) (cell_keep HB1.out HK.out.1) (cell_keep HB1.out HK.out.2.1) (cell_keep HB1.out HK.out.2.2) (HH.out.keep HB1.out (Nat.le_refl _)) HQ.out HN.out HPL.out).mono ?_
  rintro e w3 ⟨b', rfl, ow, lo, bel⟩
  have HNB : Hid (NT ≠ b') := Nat.ne_of_lt (Nat.lt_of_lt_of_le (Array.getElem?_eq_some_iff.1 kT).1 lo)
  have HLo : Hid (w.heap.size ≤ b') := Nat.le_trans HB1.out.size lo
  have HB := hid (HB1.out.trans (bel.mono HB1.out.size))
  replace kT := (bel.block NT (Array.getElem?_eq_some_iff.1 kT).1).trans kT
  have HO := hid ow
  clear ow lo bel
  have y0 : w3.cell? ⟨NT, 0, none⟩ = some (.int .i64 0) := Go.Joins.cell_of_block kT 0
  have y1 : w3.cell? ⟨NT, 1, none⟩ = some (.int .i64 0) := Go.Joins.cell_of_block kT 1
  have y2 : w3.cell? ⟨NT, 2, none⟩ = some (.slice none 0 0) := Go.Joins.cell_of_block kT 2
  have g0 : w3.frozen? ⟨NT, 0, none⟩ = false := Go.Joins.unfrozen_of_block kT 0
  have g1 : w3.frozen? ⟨NT, 1, none⟩ = false := Go.Joins.unfrozen_of_block kT 1
  have g2 : w3.frozen? ⟨NT, 2, none⟩ = false := Go.Joins.unfrozen_of_block kT 2
  have HKx := hid kT
  clear kT
  go_wp2
  obtain ⟨W5, hW⟩ : ∃ W5, W5 = (((w3.setCell ⟨NT, 0, none⟩ (.int .i64 R)).setCell ⟨NT, 1, none⟩ (.int .i64 C)).setCell ⟨NT, 2, none⟩ (.slice (some ⟨b', 0, none⟩) n n)) := ⟨_, rfl⟩
  have q0 := (Go.Joins.block_setCell (i := 2) (Go.Joins.block_setCell (i := 1) (Go.Joins.block_setCell (i := 0) HKx.out (.int .i64 R)) (.int .i64 C)) (.slice (some ⟨b', 0, none⟩) n n))
  rw [← hW] at q0
  have z0 : W5.cell? ⟨NT, 0, none⟩ = some (.int .i64 R) := Go.Joins.cell_of_block q0 0
  have z1 : W5.cell? ⟨NT, 1, none⟩ = some (.int .i64 C) := Go.Joins.cell_of_block q0 1
  have z2 : W5.cell? ⟨NT, 2, none⟩ = some (.slice (some ⟨b', 0, none⟩) n n) := Go.Joins.cell_of_block q0 2
  have O5 := (own_set (own_set (own_set HO.out ⟨NT, 0, none⟩ (.int .i64 R) HNB.out) ⟨NT, 1, none⟩ (.int .i64 C) HNB.out) ⟨NT, 2, none⟩ (.slice (some ⟨b', 0, none⟩) n n) HNB.out)
  rw [← hW] at O5
  have B5 : Below w.heap.size w W5 := by
    have h1 := HNT.out
    rw [hW]
    exact ((HB.out.setCell (by simp; omega) _).setCell (by simp; omega) _).setCell (by simp; omega) _
  simp only [← hW]
  clear hW q0
  simp [bodyPost, results, Try.results93, go_sem, z0, z1, z2]
  exact ⟨O5, HLo.out, B5⟩

set_option maxHeartbeats 8000000 in
theorem l05Inner {w : World} {N LB R C n mt : Nat} {b1 b2 b : Nat} {v1 v2 v : Value} {xs ys zs : List Int} (kl0 : w.cell? ⟨LB, 0, none⟩ = some v1) (kl1 : w.cell? ⟨LB, 1, none⟩ = some v2) (h1 : Rd w b1 v1 xs) (h2 : Rd w b2 v2 ys) (k0 : w.cell? ⟨N, 0, none⟩ = some (.int .i64 R)) (k1 : w.cell? ⟨N, 1, none⟩ = some (.int .i64 C)) (k2 : w.cell? ⟨N, 2, none⟩ = some v) (h : Rd w b v zs) (hq : fieldB R C zs = true) (hn : n = R * C) (hpl : plainB zs = true) (h3 : 3 ≤ R ∧ 3 ≤ C) (hmt : mt = (R - 2) * (C - 2)) :
    Calls Try.prog 65 #[.pointer (some ⟨LB, 0, none⟩), .pointer (some ⟨N, 0, none⟩)] w fun e w' => ∃ b', e = .returned (ruleV (R - 2 : Nat) (C - 2 : Nat) (.slice (some ⟨b', 0, none⟩) mt mt)) ∧ Own 2 w' b' (.slice (some ⟨b', 0, none⟩) mt mt) (cutL (lifeL xs ys zs R C false) C 1 1 (R - 2) (C - 2)) ∧ w.heap.size ≤ b' ∧ Below w.heap.size w w' := by
  have HL0 := hid kl0
  have HL1 := hid kl1
  have H1 := hid h1
  have H2 := hid h2
  have HK := hid (And.intro k0 (And.intro k1 k2))
  have HH := hid h
  have HQ := hid hq
  have HN := hid hn
  have HPL := hid hpl
  have hR := (field_nat hq).1
  have hC := (field_nat hq).2.1
  have f1 : IntKind.i64.wrap ((R : Int) - 2) = ((R - 2 : Nat) : Int) := by rw [IntKind.wrap_i64]; omega
  have f2 : IntKind.i64.wrap ((C : Int) - 2) = ((C - 2 : Nat) : Int) := by rw [IntKind.wrap_i64]; omega
  have HCK : Hid (1 + (R - 2) ≤ R ∧ 1 + (C - 2) ≤ C ∧ 1 ≤ R - 2 ∧ 1 ≤ C - 2) := by simp only [Hid]; omega
  have HMT := hid hmt
  clear kl0 kl1 h1 h2 k0 k1 k2 h hq hn hpl h3 hmt
  go_enter Try.func65, Try.ntmps65
  go_wp2_with fail
  obtain ⟨w1, hW⟩ : ∃ w1, w1 = w.alloc (Obj.cells #[.int .i64 0, .int .i64 0, .slice none 0 0] 26) := ⟨_, rfl⟩
  obtain ⟨NT, hM⟩ : ∃ NT, NT = w.heap.size := ⟨_, rfl⟩
  have HB1 : Hid (Below w.heap.size w w1) := by simp only [Hid]; rw [hW]; exact below1 _ _
  have kT : w1.heap[NT]? = some (Obj.cells #[.int .i64 0, .int .i64 0, .slice none 0 0] 26) := by rw [hW]; exact FNew.heap_top hM
  have HNT : Hid (w.heap.size ≤ NT) := by simp only [Hid]; omega
  simp only [← hW, ← hM]
  clear hW hM
  go_at_call 93
  refine (l04Step (cell_keep HB1.out HL0.out) (cell_keep HB1.out HL1.out) (H1.out.keep HB1.out (Nat.le_refl _)) (H2.out.keep HB1.out (Nat.le_refl _)) (cell_keep HB1.out HK.out.1) (cell_keep HB1.out HK.out.2.1) (cell_keep HB1.out HK.out.2.2) (HH.out.keep HB1.out (Nat.le_refl _)) HQ.out HN.out HPL.out).mono ?_
  rintro e w3 ⟨bs, rfl, os, los, bel⟩
  have HB3 := hid (HB1.out.trans (bel.mono HB1.out.size))
  replace kT := (bel.block NT (Array.getElem?_eq_some_iff.1 kT).1).trans kT
  clear bel los
  go_wp2_with fail
  obtain ⟨w4, hW⟩ : ∃ w4, w4 = w3.alloc (Obj.cells #[.int .i64 R, .int .i64 C, .slice (some ⟨bs, 0, none⟩) n n] 26) := ⟨_, rfl⟩
  obtain ⟨NO, hO⟩ : ∃ NO, NO = w3.heap.size := ⟨_, rfl⟩
  have bel : Below w3.heap.size w3 w4 := by rw [hW]; exact below1 _ _
  have HB4 := hid (HB3.out.trans (bel.mono HB3.out.size))
  have HKT4 := hid ((bel.block NT (Array.getElem?_eq_some_iff.1 kT).1).trans kT)
  have HKO4 : Hid (w4.heap[NO]? = some (Obj.cells #[.int .i64 R, .int .i64 C, .slice (some ⟨bs, 0, none⟩) n n] 26)) := by simp only [Hid]; rw [hW]; exact FNew.heap_top hO
  have HO4 := hid (os.keep bel)
  simp only [← hW, ← hO]
  clear hW hO bel kT os
  refine wp_region_held_drew (S := (fun ww => Below w.heap.size w ww ∧ ww.cell? ⟨N, 0, none⟩ = some (.int .i64 R) ∧ ww.cell? ⟨N, 1, none⟩ = some (.int .i64 C) ∧ w.heap.size ≤ ww.heap.size)) (by kernel_rfl) ?_ (fun hHeld => ?_)
  · ((try dsimp only); exact ⟨HB4.out.drew, (cell_keep HB4.out.drew HK.out.1), (cell_keep HB4.out.drew HK.out.2.1), HB4.out.drew.size⟩)
  generalize hD : w4.drew = wD at hHeld ⊢
  have kT : wD.heap[NT]? = some (Obj.cells #[.int .i64 0, .int .i64 0, .slice none 0 0] 26) := by rw [← hD]; exact HKT4.out
  have kO : wD.heap[NO]? = some (Obj.cells #[.int .i64 R, .int .i64 C, .slice (some ⟨bs, 0, none⟩) n n] 26) := by rw [← hD]; exact HKO4.out
  have HOs : Hid (Own 2 wD bs (.slice (some ⟨bs, 0, none⟩) n n) (lifeL xs ys zs R C false)) := by simp only [Hid]; rw [← hD]; exact HO4.out
  clear hD
  (refine wpAnyH_take (i := 0) (v := ?_) rfl ?_ ?_ ?_ (fun _ _ _ h => h) (Or.inl ⟨?_, ?_⟩) ?_ ?_; rotate_left 1; (focus decide +kernel); (focus decide +kernel); (focus decide +kernel); (focus rfl); (focus (intro w hSw; (try dsimp only at hSw); go_simp; (try (with_reducible rfl)); done)); (focus assumption); (try simp only [Act.put, List.setIfInBounds_toArray, List.set_cons_zero, List.set_cons_succ, List.getElem_toArray, List.getElem_cons_succ, List.getElem_cons_zero]))
  (refine wpAnyH_take (i := 1) (v := ?_) rfl ?_ ?_ ?_ (fun _ _ _ h => h) (Or.inl ⟨?_, ?_⟩) ?_ ?_; rotate_left 1; (focus decide +kernel); (focus decide +kernel); (focus decide +kernel); (focus rfl); (focus (intro w hSw; (try dsimp only at hSw); go_simp; (try (with_reducible rfl)); done)); (focus assumption); (try simp only [Act.put, List.setIfInBounds_toArray, List.set_cons_zero, List.set_cons_succ, List.getElem_toArray, List.getElem_cons_succ, List.getElem_cons_zero]))
  (refine wpAnyH_take (i := 2) (v := ?_) rfl ?_ ?_ ?_ (fun _ _ _ h => h) (Or.inl ⟨?_, ?_⟩) ?_ ?_; rotate_left 1; (focus decide +kernel); (focus decide +kernel); (focus decide +kernel); (focus rfl); (focus (intro w hSw; (try dsimp only at hSw); go_simp; (try (with_reducible rfl)); done)); (focus assumption); (try simp only [Act.put, List.setIfInBounds_toArray, List.set_cons_zero, List.set_cons_succ, List.getElem_toArray, List.getElem_cons_succ, List.getElem_cons_zero]))
  (refine wpAnyH_take (i := 3) (v := ?_) rfl ?_ ?_ ?_ (fun _ _ _ h => h) (Or.inl ⟨?_, ?_⟩) ?_ ?_; rotate_left 1; (focus decide +kernel); (focus decide +kernel); (focus decide +kernel); (focus rfl); (focus (intro w hSw; (try dsimp only at hSw); go_simp; (try (with_reducible rfl)); done)); (focus assumption); (try simp only [Act.put, List.setIfInBounds_toArray, List.set_cons_zero, List.set_cons_succ, List.getElem_toArray, List.getElem_cons_succ, List.getElem_cons_zero]))
  (refine wpAnyH_take (i := 4) (v := ?_) rfl ?_ ?_ ?_ (fun _ _ _ h => h) (Or.inl ⟨?_, ?_⟩) ?_ ?_; rotate_left 1; (focus decide +kernel); (focus decide +kernel); (focus decide +kernel); (focus rfl); (focus (intro w hSw; (try dsimp only at hSw); go_simp; (try (with_reducible rfl)); done)); (focus assumption); (try simp only [Act.put, List.setIfInBounds_toArray, List.set_cons_zero, List.set_cons_succ, List.getElem_toArray, List.getElem_cons_succ, List.getElem_cons_zero]))
  (refine wpAnyH_take (i := 5) (v := ?_) rfl ?_ ?_ ?_ (fun _ _ _ h => h) (Or.inl ⟨?_, ?_⟩) ?_ ?_; rotate_left 1; (focus decide +kernel); (focus decide +kernel); (focus decide +kernel); (focus rfl); (focus (intro w hSw; (try dsimp only at hSw); go_simp; (try (with_reducible rfl)); done)); (focus assumption); (try simp only [Act.put, List.setIfInBounds_toArray, List.set_cons_zero, List.set_cons_succ, List.getElem_toArray, List.getElem_cons_succ, List.getElem_cons_zero]))
  (refine wpAnyH_take (i := 6) (v := ?_) rfl ?_ ?_ ?_ (fun _ _ _ h => h) (Or.inl ⟨?_, ?_⟩) ?_ ?_; rotate_left 1; (focus decide +kernel); (focus decide +kernel); (focus decide +kernel); (focus rfl); (focus (intro w hSw; (try dsimp only at hSw); go_simp; (try (with_reducible rfl)); done)); (focus assumption); (try simp only [Act.put, List.setIfInBounds_toArray, List.set_cons_zero, List.set_cons_succ, List.getElem_toArray, List.getElem_cons_succ, List.getElem_cons_zero]))
  (refine wpAnyH_take (i := 7) (v := ?_) rfl ?_ ?_ ?_ (fun _ _ _ h => h) (Or.inl ⟨?_, ?_⟩) ?_ ?_; rotate_left 1; (focus decide +kernel); (focus decide +kernel); (focus decide +kernel); (focus rfl); (focus (intro w hSw; (try dsimp only at hSw); go_simp; (try (with_reducible rfl)); done)); (focus assumption); (try simp only [Act.put, List.setIfInBounds_toArray, List.set_cons_zero, List.set_cons_succ, List.getElem_toArray, List.getElem_cons_succ, List.getElem_cons_zero]))
  (refine wpAnyH_take (i := 8) (v := ?_) rfl ?_ ?_ ?_ (fun _ _ _ h => h) (Or.inl ⟨?_, ?_⟩) ?_ ?_; rotate_left 1; (focus decide +kernel); (focus decide +kernel); (focus decide +kernel); (focus rfl); (focus (intro w hSw; (try dsimp only at hSw); go_simp; (try (with_reducible rfl)); done)); (focus assumption); (try simp only [Act.put, List.setIfInBounds_toArray, List.set_cons_zero, List.set_cons_succ, List.getElem_toArray, List.getElem_cons_succ, List.getElem_cons_zero]))
  (refine wpAnyH_take (i := 9) (v := ?_) rfl ?_ ?_ ?_ (fun _ _ _ h => h) (Or.inl ⟨?_, ?_⟩) ?_ ?_; rotate_left 1; (focus decide +kernel); (focus decide +kernel); (focus decide +kernel); (focus rfl); (focus (intro w hSw; (try dsimp only at hSw); go_simp; (try (with_reducible rfl)); done)); (focus assumption); (try simp only [Act.put, List.setIfInBounds_toArray, List.set_cons_zero, List.set_cons_succ, List.getElem_toArray, List.getElem_cons_succ, List.getElem_cons_zero]))
  refine wpAnyH_ready (rs := [10]) ?_ (by simp) ?_
  · decide +kernel
  refine AllReadyH.cons rfl (fun K hK => ?_) AllReadyH.nil
  go_simp
  go_at_call 89
  refine (l05CutOne (Go.Joins.cell_of_block kO 0) (Go.Joins.cell_of_block kO 1) (Go.Joins.cell_of_block kO 2) HOs.out.rd (life_field HQ.out _ _ _ _) HN.out HCK.out HMT.out).mono ?_
  rintro e w6 ⟨b', rfl, ow, lo, bel⟩
  have HLo : Hid (w.heap.size ≤ b') := Nat.le_trans hHeld.1.size lo
  have HNB : Hid (NT ≠ b') := Nat.ne_of_lt (Nat.lt_of_lt_of_le (Array.getElem?_eq_some_iff.1 kT).1 lo)
  replace kT := (bel.block NT (Array.getElem?_eq_some_iff.1 kT).1).trans kT
  refine hK.out _ _ ?_ (fun hHeld2 => ?_)
  · (try dsimp only); exact next2_0 bel hHeld
  clear hK K hHeld bel lo kO
  have hHeld := hHeld2
  clear hHeld2
  (try simp only [Act.put, List.setIfInBounds_toArray, List.set_cons_zero, List.set_cons_succ, List.getElem_toArray, List.getElem_cons_succ, List.getElem_cons_zero])
  refine wpAnyH_ready (rs := [11]) ?_ (by simp) ?_
  · decide +kernel
  refine AllReadyH.cons rfl (fun K hK => ?_) AllReadyH.nil
  have y0 : w6.cell? ⟨NT, 0, none⟩ = some (.int .i64 0) := Go.Joins.cell_of_block kT 0
  have y1 : w6.cell? ⟨NT, 1, none⟩ = some (.int .i64 0) := Go.Joins.cell_of_block kT 1
  have y2 : w6.cell? ⟨NT, 2, none⟩ = some (.slice none 0 0) := Go.Joins.cell_of_block kT 2
  have g0 : w6.frozen? ⟨NT, 0, none⟩ = false := Go.Joins.unfrozen_of_block kT 0
  have g1 : w6.frozen? ⟨NT, 1, none⟩ = false := Go.Joins.unfrozen_of_block kT 1
  have g2 : w6.frozen? ⟨NT, 2, none⟩ = false := Go.Joins.unfrozen_of_block kT 2
  have HKT := hid kT
  have HHx := hid hHeld
  have HOw := hid ow
  clear kT hHeld ow
  go_simp
  clear y0 y1 y2 g0 g1 g2
  have q0 := (Go.Joins.block_setCell (i := 2) (Go.Joins.block_setCell (i := 1) (Go.Joins.block_setCell (i := 0) HKT.out (.int .i64 (R - 2 : Nat))) (.int .i64 (C - 2 : Nat))) (.slice (some ⟨b', 0, none⟩) mt mt))
  have oz := (own_set (own_set (own_set HOw.out ⟨NT, 0, none⟩ (.int .i64 (R - 2 : Nat)) HNB.out) ⟨NT, 1, none⟩ (.int .i64 (C - 2 : Nat)) HNB.out) ⟨NT, 2, none⟩ (.slice (some ⟨b', 0, none⟩) mt mt) HNB.out)
  have bz := (((HHx.out.1.setCell (p := ⟨NT, 0, none⟩) HNT.out (.int .i64 (R - 2 : Nat))).setCell (p := ⟨NT, 1, none⟩) HNT.out (.int .i64 (C - 2 : Nat))).setCell (p := ⟨NT, 2, none⟩) HNT.out (.slice (some ⟨b', 0, none⟩) mt mt))
  obtain ⟨W5, hW5⟩ : ∃ W5, W5 = (((w6.setCell ⟨NT, 0, none⟩ (.int .i64 (R - 2 : Nat))).setCell ⟨NT, 1, none⟩ (.int .i64 (C - 2 : Nat))).setCell ⟨NT, 2, none⟩ (.slice (some ⟨b', 0, none⟩) mt mt)) := ⟨_, rfl⟩
  rw [← hW5] at q0 oz bz
  refine hK.out _ _ ?_ (fun hHeld2 => ?_)
  · (try dsimp only); rw [← hW5]; exact ⟨bz, (cell_keep bz HK.out.1), (cell_keep bz HK.out.2.1), bz.size⟩
  clear hK K
  (try dsimp only at hHeld2)
  simp only [← hW5] at hHeld2 ⊢
  clear hW5
  have hHeld := hHeld2
  clear hHeld2
  (try simp only [Act.put, List.setIfInBounds_toArray, List.set_cons_zero, List.set_cons_succ, List.getElem_toArray, List.getElem_cons_succ, List.getElem_cons_zero])
  refine wpAnyH_done (by kernel_rfl) ?_ _
  have z0 : W5.cell? ⟨NT, 0, none⟩ = some (.int .i64 (R - 2 : Nat)) := Go.Joins.cell_of_block q0 0
  have z1 : W5.cell? ⟨NT, 1, none⟩ = some (.int .i64 (C - 2 : Nat)) := Go.Joins.cell_of_block q0 1
  have z2 : W5.cell? ⟨NT, 2, none⟩ = some (.slice (some ⟨b', 0, none⟩) mt mt) := Go.Joins.cell_of_block q0 2
  have HOZ := hid oz
  have HBZ := hid bz
  clear q0 oz bz hHeld
  go_wp2
  simp [bodyPost, results, Try.results65, go_sem, z0, z1, z2]
  exact ⟨HOZ.out, HLo.out, HBZ.out⟩

set_option maxHeartbeats 16000000 in
set_option maxRecDepth 4000 in
theorem innerStep {w : World} {R C n mt : Nat} {b : Nat} {v : Value} {xs ys zs : List Int} (h : Rd w b v zs) (hq : fieldB R C zs = true) (hn : n = R * C) (hpl : plainB zs = true) (h3 : 3 ≤ R ∧ 3 ≤ C) (hmt : mt = (R - 2) * (C - 2)) :
    Calls Try.prog 68 #[.agg (cellsA (tabL xs ys xs.length ys.length)), ruleV R C v] w fun e w' => ∃ b', e = .returned (ruleV (R - 2 : Nat) (C - 2 : Nat) (.slice (some ⟨b', 0, none⟩) mt mt)) ∧ Own 2 w' b' (.slice (some ⟨b', 0, none⟩) mt mt) (cutL (lifeL xs ys zs R C false) C 1 1 (R - 2) (C - 2)) ∧ w.heap.size ≤ b' ∧ Below w.heap.size w w' := by
  have HH := hid h
  have HQ := hid hq
  have HN := hid hn
  have HPL := hid hpl
  have hR := (field_nat hq).1
  have hC := (field_nat hq).2.1
  have f1 : IntKind.i64.wrap ((R : Int) - 2) = ((R - 2 : Nat) : Int) := by rw [IntKind.wrap_i64]; omega
  have f2 : IntKind.i64.wrap ((C : Int) - 2) = ((C - 2 : Nat) : Int) := by rw [IntKind.wrap_i64]; omega
  have HCK : Hid (1 + (R - 2) ≤ R ∧ 1 + (C - 2) ≤ C ∧ 1 ≤ R - 2 ∧ 1 ≤ C - 2) := by simp only [Hid]; omega
  have HMT := hid hmt
  obtain ⟨ao, cap, rfl, hc, hm, _⟩ := h
  clear hc hm hq hn hpl h3 hmt
  go_enter Try.func68, Try.ntmps68
  go_wp2_with fail
  obtain ⟨w1, hW⟩ : ∃ w1, w1 = (((w.alloc (Obj.cells (cellsA (tabL xs ys xs.length ys.length)) 82)).alloc (Obj.cells #[.int .i64 R, .int .i64 C, .slice ao zs.length cap] 26)).alloc (Obj.cells #[.int .i64 0, .int .i64 0, .slice none 0 0] 26)) := ⟨_, rfl⟩
  obtain ⟨NL, hL⟩ : ∃ NL, NL = w.heap.size := ⟨_, rfl⟩
  obtain ⟨N, hN⟩ : ∃ N, N = NL + 1 := ⟨_, rfl⟩
  obtain ⟨NT, hT⟩ : ∃ NT, NT = N + 1 := ⟨_, rfl⟩
  have st : Below w.heap.size w w1 ∧ w1.cell? ⟨N, 0, none⟩ = some (.int .i64 R) ∧ w1.cell? ⟨N, 1, none⟩ = some (.int .i64 C) ∧ w1.cell? ⟨N, 2, none⟩ = some (.slice ao zs.length cap) ∧ w.heap.size ≤ w1.heap.size := by
    rw [hW, hN, hL]
    exact ⟨Go.Joins.below_alloc3 _ _ _ _, cell_keep (below1 _ _) (by simp), cell_keep (below1 _ _) (by simp), cell_keep (below1 _ _) (by simp), by simp <;> omega⟩
  have kL0 : w1.heap[NL]? = some (Obj.cells (cellsA (tabL xs ys xs.length ys.length)) 82) := by rw [hW]; exact FNew.heap_old (FNew.heap_old (FNew.heap_top hL))
  have kT : w1.heap[NT]? = some (Obj.cells #[.int .i64 0, .int .i64 0, .slice none 0 0] 26) := by rw [hW]; exact FNew.heap_top (by rw [hT, hN, hL]; simp)
  have HNT : Hid (w.heap.size ≤ NT) := by simp only [Hid]; omega
  simp only [← hW, ← hL, ← hN, ← hT]
  clear hW hL hN hT
  refine wp_region_held_drew (S := (fun ww => Below w.heap.size w ww ∧ ww.cell? ⟨N, 0, none⟩ = some (.int .i64 R) ∧ ww.cell? ⟨N, 1, none⟩ = some (.int .i64 C) ∧ ww.cell? ⟨N, 2, none⟩ = some (.slice ao zs.length cap) ∧ w.heap.size ≤ ww.heap.size)) (by kernel_rfl) ?_ (fun hHeld => ?_)
  · ((try dsimp only); exact drew3_0 st)
  generalize hD : w1.drew = wD at hHeld ⊢
  have HKT : Hid (wD.heap[NT]? = some (Obj.cells #[.int .i64 0, .int .i64 0, .slice none 0 0] 26)) := by simp only [Hid]; rw [← hD]; exact kT
  have kL : wD.heap[NL]? = some (Obj.cells (cellsA (tabL xs ys xs.length ys.length)) 82) := by rw [← hD]; exact kL0
  have HD0 := hid hHeld
  clear hD st kT kL0
  have belD : Below wD.heap.size wD wD := Below.refl _ _
  (refine wpAnyH_take (i := 1) (v := ?_) rfl ?_ ?_ ?_ (fun _ _ _ h => h) (Or.inl ⟨?_, ?_⟩) ?_ ?_; rotate_left 1; (focus decide +kernel); (focus decide +kernel); (focus decide +kernel); (focus rfl); (focus (intro w hSw; (try dsimp only at hSw); go_simp; (try (with_reducible rfl)); done)); (focus assumption); (try simp only [Act.put, List.setIfInBounds_toArray, List.set_cons_zero, List.set_cons_succ, List.getElem_toArray, List.getElem_cons_succ, List.getElem_cons_zero]))
  (refine wpAnyH_take (i := 3) (v := ?_) rfl ?_ ?_ ?_ (fun _ _ _ h => h) (Or.inl ⟨?_, ?_⟩) ?_ ?_; rotate_left 1; (focus decide +kernel); (focus decide +kernel); (focus decide +kernel); (focus rfl); (focus (intro w hSw; (try dsimp only at hSw); go_simp; (try (with_reducible rfl)); done)); (focus assumption); (try simp only [Act.put, List.setIfInBounds_toArray, List.set_cons_zero, List.set_cons_succ, List.getElem_toArray, List.getElem_cons_succ, List.getElem_cons_zero]))
  (refine wpAnyH_take (i := 4) (v := ?_) rfl ?_ ?_ ?_ (fun _ _ _ h => h) (Or.inl ⟨?_, ?_⟩) ?_ ?_; rotate_left 1; (focus decide +kernel); (focus decide +kernel); (focus decide +kernel); (focus rfl); (focus (intro w hSw; (try dsimp only at hSw); go_simp; (try (with_reducible rfl)); done)); (focus assumption); (try simp only [Act.put, List.setIfInBounds_toArray, List.set_cons_zero, List.set_cons_succ, List.getElem_toArray, List.getElem_cons_succ, List.getElem_cons_zero]))
  (refine wpAnyH_take (i := 5) (v := ?_) rfl ?_ ?_ ?_ (fun _ _ _ h => h) (Or.inl ⟨?_, ?_⟩) ?_ ?_; rotate_left 1; (focus decide +kernel); (focus decide +kernel); (focus decide +kernel); (focus rfl); (focus (intro w hSw; (try dsimp only at hSw); go_simp; (try (with_reducible rfl)); done)); (focus assumption); (try simp only [Act.put, List.setIfInBounds_toArray, List.set_cons_zero, List.set_cons_succ, List.getElem_toArray, List.getElem_cons_succ, List.getElem_cons_zero]))
  (refine wpAnyH_take (i := 6) (v := ?_) rfl ?_ ?_ ?_ (fun _ _ _ h => h) (Or.inl ⟨?_, ?_⟩) ?_ ?_; rotate_left 1; (focus decide +kernel); (focus decide +kernel); (focus decide +kernel); (focus rfl); (focus (intro w hSw; (try dsimp only at hSw); go_simp; (try (with_reducible rfl)); done)); (focus assumption); (try simp only [Act.put, List.setIfInBounds_toArray, List.set_cons_zero, List.set_cons_succ, List.getElem_toArray, List.getElem_cons_succ, List.getElem_cons_zero]))
  (refine wpAnyH_take (i := 7) (v := ?_) rfl ?_ ?_ ?_ (fun _ _ _ h => h) (Or.inl ⟨?_, ?_⟩) ?_ ?_; rotate_left 1; (focus decide +kernel); (focus decide +kernel); (focus decide +kernel); (focus rfl); (focus (intro w hSw; (try dsimp only at hSw); go_simp; (try (with_reducible rfl)); done)); (focus assumption); (try simp only [Act.put, List.setIfInBounds_toArray, List.set_cons_zero, List.set_cons_succ, List.getElem_toArray, List.getElem_cons_succ, List.getElem_cons_zero]))
  (refine wpAnyH_take (i := 8) (v := ?_) rfl ?_ ?_ ?_ (fun _ _ _ h => h) (Or.inl ⟨?_, ?_⟩) ?_ ?_; rotate_left 1; (focus decide +kernel); (focus decide +kernel); (focus decide +kernel); (focus rfl); (focus (intro w hSw; (try dsimp only at hSw); go_simp; (try (with_reducible rfl)); done)); (focus assumption); (try simp only [Act.put, List.setIfInBounds_toArray, List.set_cons_zero, List.set_cons_succ, List.getElem_toArray, List.getElem_cons_succ, List.getElem_cons_zero]))
  refine wpAnyH_ready (rs := [0, 13]) ?_ (by simp) ?_
  · decide +kernel
  refine AllReadyH.cons rfl (fun K hK => ?_) (AllReadyH.cons rfl (fun K hK => ?_) AllReadyH.nil)
  · refine step_loadA rfl _ rfl NL rfl 82 _ kL (by rw [cellsA_size, tabL_len]; kernel_rfl) ?_
    refine hK.out _ _ ?_ (fun hHeld2 => ?_)
    · (try dsimp only); exact hHeld
    clear hK K hHeld
    have hHeld := hHeld2
    clear hHeld2
    (try simp only [Act.put, List.setIfInBounds_toArray, List.set_cons_zero, List.set_cons_succ, List.getElem_toArray, List.getElem_cons_succ, List.getElem_cons_zero])
    refine wpAnyH_ready (rs := [2, 13]) ?_ (by simp) ?_
    · decide +kernel
    refine AllReadyH.cons rfl (fun K hK => ?_) (AllReadyH.cons rfl (fun K hK => ?_) AllReadyH.nil)
    · go_simp
      go_at_call 95
      refine (Nf.nextField (HH.out.keep (HD0.out.1.trans (belD.mono HD0.out.1.size)) (Nat.le_refl _)) HQ.out HN.out HPL.out).mono ?_
      rintro e wn ⟨b2, rfl, oA, loA, bel⟩
      have lmA : wD.heap.size ≤ b2 := Nat.le_trans belD.size loA
      have nL_A : NL ≠ b2 := Nat.ne_of_lt (Nat.lt_of_lt_of_le (heap_lt kL) loA)
      clear loA
      replace belD := belD.trans (bel.mono belD.size)
      replace kL := heap_keep bel kL
      refine hK.out _ _ ?_ (fun hHeld2 => ?_)
      · (try dsimp only); exact next3_0 belD HD0.out
      clear hK K hHeld bel
      have hHeld := hHeld2
      clear hHeld2
      (try simp only [Act.put, List.setIfInBounds_toArray, List.set_cons_zero, List.set_cons_succ, List.getElem_toArray, List.getElem_cons_succ, List.getElem_cons_zero])
      refine wpAnyH_ready (rs := [9, 13]) ?_ (by simp) ?_
      · decide +kernel
      refine AllReadyH.cons rfl (fun K hK => ?_) (AllReadyH.cons rfl (fun K hK => ?_) AllReadyH.nil)
      · go_simp
        go_at_call 91
        refine (cutOne oA.rd (life_field HQ.out _ _ _ _) HN.out HCK.out HMT.out).mono ?_
        rintro e wc ⟨b', rfl, oB, loB, bel⟩
        have lmB : wD.heap.size ≤ b' := Nat.le_trans belD.size loB
        have nL_B : NL ≠ b' := Nat.ne_of_lt (Nat.lt_of_lt_of_le (heap_lt kL) loB)
        have nA_B : b2 ≠ b' := Nat.ne_of_lt (Nat.lt_of_lt_of_le (oA.lt) loB)
        clear loB
        replace belD := belD.trans (bel.mono belD.size)
        replace kL := heap_keep bel kL
        replace oA := oA.keep bel
        refine hK.out _ _ ?_ (fun hHeld2 => ?_)
        · (try dsimp only); exact next3_0 belD HD0.out
        clear hK K hHeld bel
        have hHeld := hHeld2
        clear hHeld2
        (try simp only [Act.put, List.setIfInBounds_toArray, List.set_cons_zero, List.set_cons_succ, List.getElem_toArray, List.getElem_cons_succ, List.getElem_cons_zero])
        (refine wpAnyH_take (i := 10) (v := ?_) rfl ?_ ?_ ?_ (fun _ _ _ h => h) (Or.inl ⟨?_, ?_⟩) ?_ ?_; rotate_left 1; (focus decide +kernel); (focus decide +kernel); (focus decide +kernel); (focus rfl); (focus (intro w hSw; (try dsimp only at hSw); go_simp; (try (with_reducible rfl)); done)); (focus assumption); (try simp only [Act.put, List.setIfInBounds_toArray, List.set_cons_zero, List.set_cons_succ, List.getElem_toArray, List.getElem_cons_succ, List.getElem_cons_zero]))
        (refine wpAnyH_take (i := 11) (v := ?_) rfl ?_ ?_ ?_ (fun _ _ _ h => h) (Or.inl ⟨?_, ?_⟩) ?_ ?_; rotate_left 1; (focus decide +kernel); (focus decide +kernel); (focus decide +kernel); (focus rfl); (focus (intro w hSw; (try dsimp only at hSw); go_simp; (try (with_reducible rfl)); done)); (focus assumption); (try simp only [Act.put, List.setIfInBounds_toArray, List.set_cons_zero, List.set_cons_succ, List.getElem_toArray, List.getElem_cons_succ, List.getElem_cons_zero]))
        (refine wpAnyH_take (i := 12) (v := ?_) rfl ?_ ?_ ?_ (fun _ _ _ h => h) (Or.inl ⟨?_, ?_⟩) ?_ ?_; rotate_left 1; (focus decide +kernel); (focus decide +kernel); (focus decide +kernel); (focus rfl); (focus (intro w hSw; (try dsimp only at hSw); go_simp; (try (with_reducible rfl)); done)); (focus assumption); (try simp only [Act.put, List.setIfInBounds_toArray, List.set_cons_zero, List.set_cons_succ, List.getElem_toArray, List.getElem_cons_succ, List.getElem_cons_zero]))
        refine wpAnyH_ready (rs := [13]) ?_ (by simp) ?_
        · decide +kernel
        refine AllReadyH.cons rfl (fun K hK => ?_) AllReadyH.nil
        go_simp
        have bel := below1 wc (Obj.cells #[.int .i64 0, .int .i64 0, .slice none 0 0] 26)
        have lmS := belD.size
        have ltL := (heap_lt kL)
        have ltA := (oA.lt)
        have ltB := (oB.lt)
        replace belD := belD.trans (bel.mono belD.size)
        replace kL := heap_keep bel kL
        replace oA := oA.keep bel
        replace oB := oB.keep bel
        refine hK.out _ _ ?_ (fun hHeld2 => ?_)
        · (try dsimp only); exact next3_0 belD HD0.out
        clear hK K hHeld bel
        obtain ⟨vo, hWa⟩ : ∃ vo, vo = wc.alloc (Obj.cells #[.int .i64 0, .int .i64 0, .slice none 0 0] 26) := ⟨_, rfl⟩
        obtain ⟨NO, hNa⟩ : ∃ NO, NO = wc.heap.size := ⟨_, rfl⟩
        have kO : vo.heap[NO]? = some (Obj.cells #[.int .i64 0, .int .i64 0, .slice none 0 0] 26) := by rw [hWa]; exact FNew.heap_top hNa
        have lmO : wD.heap.size ≤ NO := by rw [hNa]; exact lmS
        clear lmS
        have nL_O : NL ≠ NO := by rw [hNa]; exact Nat.ne_of_lt ltL
        clear ltL
        have nA_O : b2 ≠ NO := by rw [hNa]; exact Nat.ne_of_lt ltA
        clear ltA
        have nB_O : b' ≠ NO := by rw [hNa]; exact Nat.ne_of_lt ltB
        clear ltB
        rw [← hWa] at belD kL oA oB
        (try dsimp only at hHeld2)
        simp only [← hWa, ← hNa] at hHeld2 ⊢
        clear hWa hNa
        have hHeld := hHeld2
        clear hHeld2
        (try simp only [Act.put, List.setIfInBounds_toArray, List.set_cons_zero, List.set_cons_succ, List.getElem_toArray, List.getElem_cons_succ, List.getElem_cons_zero])
        refine wpAnyH_ready (rs := [14]) ?_ (by simp) ?_
        · decide +kernel
        refine AllReadyH.cons rfl (fun K hK => ?_) AllReadyH.nil
        have y0 : vo.cell? ⟨NO, 0, none⟩ = some (.int .i64 0) := Go.Joins.cell_of_block kO 0
        have y1 : vo.cell? ⟨NO, 1, none⟩ = some (.int .i64 0) := Go.Joins.cell_of_block kO 1
        have y2 : vo.cell? ⟨NO, 2, none⟩ = some (.slice none 0 0) := Go.Joins.cell_of_block kO 2
        have g0 : vo.frozen? ⟨NO, 0, none⟩ = false := Go.Joins.unfrozen_of_block kO 0
        have g1 : vo.frozen? ⟨NO, 1, none⟩ = false := Go.Joins.unfrozen_of_block kO 1
        have g2 : vo.frozen? ⟨NO, 2, none⟩ = false := Go.Joins.unfrozen_of_block kO 2
        have HKO := hid kO
        clear kO
        have HKL := hid kL
        clear kL
        go_simp
        clear y0 g0 y1 g1 y2 g2
        have qO := (Go.Joins.block_setCell (i := 2) (Go.Joins.block_setCell (i := 1) (Go.Joins.block_setCell (i := 0) HKO.out (.int .i64 (R - 2 : Nat))) (.int .i64 (C - 2 : Nat))) (.slice (some ⟨b', 0, none⟩) mt mt))
        have bz := (((belD.setCell (p := ⟨NO, 0, none⟩) lmO (.int .i64 (R - 2 : Nat))).setCell (p := ⟨NO, 1, none⟩) lmO (.int .i64 (C - 2 : Nat))).setCell (p := ⟨NO, 2, none⟩) lmO (.slice (some ⟨b', 0, none⟩) mt mt))
        have qL := ((Below.heap_setCell _ ⟨NO, 2, none⟩ (.slice (some ⟨b', 0, none⟩) mt mt) _ nL_O).trans ((Below.heap_setCell _ ⟨NO, 1, none⟩ (.int .i64 (C - 2 : Nat)) _ nL_O).trans ((Below.heap_setCell _ ⟨NO, 0, none⟩ (.int .i64 (R - 2 : Nat)) _ nL_O).trans HKL.out)))
        have qA := (own_set (own_set (own_set oA ⟨NO, 0, none⟩ (.int .i64 (R - 2 : Nat)) (Ne.symm nA_O)) ⟨NO, 1, none⟩ (.int .i64 (C - 2 : Nat)) (Ne.symm nA_O)) ⟨NO, 2, none⟩ (.slice (some ⟨b', 0, none⟩) mt mt) (Ne.symm nA_O))
        have qB := (own_set (own_set (own_set oB ⟨NO, 0, none⟩ (.int .i64 (R - 2 : Nat)) (Ne.symm nB_O)) ⟨NO, 1, none⟩ (.int .i64 (C - 2 : Nat)) (Ne.symm nB_O)) ⟨NO, 2, none⟩ (.slice (some ⟨b', 0, none⟩) mt mt) (Ne.symm nB_O))
        obtain ⟨ws, hW5⟩ : ∃ ws, ws = (((vo.setCell ⟨NO, 0, none⟩ (.int .i64 (R - 2 : Nat))).setCell ⟨NO, 1, none⟩ (.int .i64 (C - 2 : Nat))).setCell ⟨NO, 2, none⟩ (.slice (some ⟨b', 0, none⟩) mt mt)) := ⟨_, rfl⟩
        rw [← hW5] at qO bz qL qA qB
        clear HKO belD HKL oA oB
        have kO : ws.heap[NO]? = some (Obj.cells #[.int .i64 (R - 2 : Nat), .int .i64 (C - 2 : Nat), .slice (some ⟨b', 0, none⟩) mt mt] 26) := qO
        have belD := bz
        have kL := qL
        have oA := qA
        have oB := qB
        clear qO bz qL qA qB
        refine hK.out _ _ ?_ (fun hHeld2 => ?_)
        · (try dsimp only); rw [← hW5]; exact next3_0 belD HD0.out
        clear hK K hHeld
        (try dsimp only at hHeld2)
        simp only [← hW5] at hHeld2 ⊢
        clear hW5
        have hHeld := hHeld2
        clear hHeld2
        (try simp only [Act.put, List.setIfInBounds_toArray, List.set_cons_zero, List.set_cons_succ, List.getElem_toArray, List.getElem_cons_succ, List.getElem_cons_zero])
        (refine wpAnyH_take (i := 15) (v := ?_) rfl ?_ ?_ ?_ (fun _ _ _ h => h) (Or.inl ⟨?_, ?_⟩) ?_ ?_; rotate_left 1; (focus decide +kernel); (focus decide +kernel); (focus decide +kernel); (focus rfl); (focus (intro w hSw; (try dsimp only at hSw); go_simp; (try (with_reducible rfl)); done)); (focus assumption); (try simp only [Act.put, List.setIfInBounds_toArray, List.set_cons_zero, List.set_cons_succ, List.getElem_toArray, List.getElem_cons_succ, List.getElem_cons_zero]))
        refine wpAnyH_done (by kernel_rfl) ?_ _
        have HHF := hid hHeld
        have HKO : Hid (ws.heap[NO]? = some (Obj.cells #[.int .i64 (R - 2 : Nat), .int .i64 (C - 2 : Nat), .slice (some ⟨b', 0, none⟩) mt mt] 26)) := kO
        have HOB := hid oB
        have kTr : ws.heap[NT]? = some (Obj.cells #[.int .i64 0, .int .i64 0, .slice none 0 0] 26) := heap_keep belD HKT.out
        have HB := hid (HD0.out.1.trans (belD.mono HD0.out.1.size))
        have HNB : Hid (NT ≠ b') := Nat.ne_of_lt (Nat.lt_of_lt_of_le (heap_lt HKT.out) lmB)
        have HLo : Hid (w.heap.size ≤ b') := Nat.le_trans HD0.out.1.size lmB
        clear hHeld kO oB oA kL belD
        have o0 : ws.cell? ⟨NO, 0, none⟩ = some (.int .i64 (R - 2 : Nat)) := Go.Joins.cell_of_block HKO.out 0
        have o1 : ws.cell? ⟨NO, 1, none⟩ = some (.int .i64 (C - 2 : Nat)) := Go.Joins.cell_of_block HKO.out 1
        have o2 : ws.cell? ⟨NO, 2, none⟩ = some (.slice (some ⟨b', 0, none⟩) mt mt) := Go.Joins.cell_of_block HKO.out 2
        have y0 : ws.cell? ⟨NT, 0, none⟩ = some (.int .i64 0) := Go.Joins.cell_of_block kTr 0
        have y1 : ws.cell? ⟨NT, 1, none⟩ = some (.int .i64 0) := Go.Joins.cell_of_block kTr 1
        have y2 : ws.cell? ⟨NT, 2, none⟩ = some (.slice none 0 0) := Go.Joins.cell_of_block kTr 2
        have g0 : ws.frozen? ⟨NT, 0, none⟩ = false := Go.Joins.unfrozen_of_block kTr 0
        have g1 : ws.frozen? ⟨NT, 1, none⟩ = false := Go.Joins.unfrozen_of_block kTr 1
        have g2 : ws.frozen? ⟨NT, 2, none⟩ = false := Go.Joins.unfrozen_of_block kTr 2
        have HKx := hid kTr
        clear kTr
        go_wp2
        obtain ⟨W5, hW⟩ : ∃ W5, W5 = (((ws.setCell ⟨NT, 0, none⟩ (.int .i64 (R - 2 : Nat))).setCell ⟨NT, 1, none⟩ (.int .i64 (C - 2 : Nat))).setCell ⟨NT, 2, none⟩ (.slice (some ⟨b', 0, none⟩) mt mt)) := ⟨_, rfl⟩
        have q0 := (Go.Joins.block_setCell (i := 2) (Go.Joins.block_setCell (i := 1) (Go.Joins.block_setCell (i := 0) HKx.out (.int .i64 (R - 2 : Nat))) (.int .i64 (C - 2 : Nat))) (.slice (some ⟨b', 0, none⟩) mt mt))
        rw [← hW] at q0
        have z0 : W5.cell? ⟨NT, 0, none⟩ = some (.int .i64 (R - 2 : Nat)) := Go.Joins.cell_of_block q0 0
        have z1 : W5.cell? ⟨NT, 1, none⟩ = some (.int .i64 (C - 2 : Nat)) := Go.Joins.cell_of_block q0 1
        have z2 : W5.cell? ⟨NT, 2, none⟩ = some (.slice (some ⟨b', 0, none⟩) mt mt) := Go.Joins.cell_of_block q0 2
        have O5 := (own_set (own_set (own_set HOB.out ⟨NT, 0, none⟩ (.int .i64 (R - 2 : Nat)) HNB.out) ⟨NT, 1, none⟩ (.int .i64 (C - 2 : Nat)) HNB.out) ⟨NT, 2, none⟩ (.slice (some ⟨b', 0, none⟩) mt mt) HNB.out)
        rw [← hW] at O5
        have B5 : Below w.heap.size w W5 := by
          have h1 := HNT.out
          rw [hW]
          exact ((HB.out.setCell (by simp; omega) _).setCell (by simp; omega) _).setCell (by simp; omega) _
        simp only [← hW]
        clear hW q0
        simp [bodyPost, results, Try.results68, go_sem, z0, z1, z2]
        exact ⟨O5, HLo.out, B5⟩
      · go_simp
        have bel := below1 wn (Obj.cells #[.int .i64 0, .int .i64 0, .slice none 0 0] 26)
        have lmS := belD.size
        have ltL := (heap_lt kL)
        have ltA := (oA.lt)
        replace belD := belD.trans (bel.mono belD.size)
        replace kL := heap_keep bel kL
        replace oA := oA.keep bel
        refine hK.out _ _ ?_ (fun hHeld2 => ?_)
        · (try dsimp only); exact next3_0 belD HD0.out
        clear hK K hHeld bel
        obtain ⟨vo, hWa⟩ : ∃ vo, vo = wn.alloc (Obj.cells #[.int .i64 0, .int .i64 0, .slice none 0 0] 26) := ⟨_, rfl⟩
        obtain ⟨NO, hNa⟩ : ∃ NO, NO = wn.heap.size := ⟨_, rfl⟩
        have kO : vo.heap[NO]? = some (Obj.cells #[.int .i64 0, .int .i64 0, .slice none 0 0] 26) := by rw [hWa]; exact FNew.heap_top hNa
        have lmO : wD.heap.size ≤ NO := by rw [hNa]; exact lmS
        clear lmS
        have nL_O : NL ≠ NO := by rw [hNa]; exact Nat.ne_of_lt ltL
        clear ltL
        have nA_O : b2 ≠ NO := by rw [hNa]; exact Nat.ne_of_lt ltA
        clear ltA
        rw [← hWa] at belD kL oA
        (try dsimp only at hHeld2)
        simp only [← hWa, ← hNa] at hHeld2 ⊢
        clear hWa hNa
        have hHeld := hHeld2
        clear hHeld2
        (try simp only [Act.put, List.setIfInBounds_toArray, List.set_cons_zero, List.set_cons_succ, List.getElem_toArray, List.getElem_cons_succ, List.getElem_cons_zero])
        refine wpAnyH_ready (rs := [9]) ?_ (by simp) ?_
        · decide +kernel
        refine AllReadyH.cons rfl (fun K hK => ?_) AllReadyH.nil
        go_simp
        go_at_call 91
        refine (cutOne oA.rd (life_field HQ.out _ _ _ _) HN.out HCK.out HMT.out).mono ?_
        rintro e wc ⟨b', rfl, oB, loB, bel⟩
        have lmB : wD.heap.size ≤ b' := Nat.le_trans belD.size loB
        have nL_B : NL ≠ b' := Nat.ne_of_lt (Nat.lt_of_lt_of_le (heap_lt kL) loB)
        have nA_B : b2 ≠ b' := Nat.ne_of_lt (Nat.lt_of_lt_of_le (oA.lt) loB)
        have nO_B : NO ≠ b' := Nat.ne_of_lt (Nat.lt_of_lt_of_le (heap_lt kO) loB)
        clear loB
        replace belD := belD.trans (bel.mono belD.size)
        replace kL := heap_keep bel kL
        replace oA := oA.keep bel
        replace kO := heap_keep bel kO
        refine hK.out _ _ ?_ (fun hHeld2 => ?_)
        · (try dsimp only); exact next3_0 belD HD0.out
        clear hK K hHeld bel
        have hHeld := hHeld2
        clear hHeld2
        (try simp only [Act.put, List.setIfInBounds_toArray, List.set_cons_zero, List.set_cons_succ, List.getElem_toArray, List.getElem_cons_succ, List.getElem_cons_zero])
        (refine wpAnyH_take (i := 10) (v := ?_) rfl ?_ ?_ ?_ (fun _ _ _ h => h) (Or.inl ⟨?_, ?_⟩) ?_ ?_; rotate_left 1; (focus decide +kernel); (focus decide +kernel); (focus decide +kernel); (focus rfl); (focus (intro w hSw; (try dsimp only at hSw); go_simp; (try (with_reducible rfl)); done)); (focus assumption); (try simp only [Act.put, List.setIfInBounds_toArray, List.set_cons_zero, List.set_cons_succ, List.getElem_toArray, List.getElem_cons_succ, List.getElem_cons_zero]))
        (refine wpAnyH_take (i := 11) (v := ?_) rfl ?_ ?_ ?_ (fun _ _ _ h => h) (Or.inl ⟨?_, ?_⟩) ?_ ?_; rotate_left 1; (focus decide +kernel); (focus decide +kernel); (focus decide +kernel); (focus rfl); (focus (intro w hSw; (try dsimp only at hSw); go_simp; (try (with_reducible rfl)); done)); (focus assumption); (try simp only [Act.put, List.setIfInBounds_toArray, List.set_cons_zero, List.set_cons_succ, List.getElem_toArray, List.getElem_cons_succ, List.getElem_cons_zero]))
        (refine wpAnyH_take (i := 12) (v := ?_) rfl ?_ ?_ ?_ (fun _ _ _ h => h) (Or.inl ⟨?_, ?_⟩) ?_ ?_; rotate_left 1; (focus decide +kernel); (focus decide +kernel); (focus decide +kernel); (focus rfl); (focus (intro w hSw; (try dsimp only at hSw); go_simp; (try (with_reducible rfl)); done)); (focus assumption); (try simp only [Act.put, List.setIfInBounds_toArray, List.set_cons_zero, List.set_cons_succ, List.getElem_toArray, List.getElem_cons_succ, List.getElem_cons_zero]))
        refine wpAnyH_ready (rs := [14]) ?_ (by simp) ?_
        · decide +kernel
        refine AllReadyH.cons rfl (fun K hK => ?_) AllReadyH.nil
        have y0 : wc.cell? ⟨NO, 0, none⟩ = some (.int .i64 0) := Go.Joins.cell_of_block kO 0
        have y1 : wc.cell? ⟨NO, 1, none⟩ = some (.int .i64 0) := Go.Joins.cell_of_block kO 1
        have y2 : wc.cell? ⟨NO, 2, none⟩ = some (.slice none 0 0) := Go.Joins.cell_of_block kO 2
        have g0 : wc.frozen? ⟨NO, 0, none⟩ = false := Go.Joins.unfrozen_of_block kO 0
        have g1 : wc.frozen? ⟨NO, 1, none⟩ = false := Go.Joins.unfrozen_of_block kO 1
        have g2 : wc.frozen? ⟨NO, 2, none⟩ = false := Go.Joins.unfrozen_of_block kO 2
        have HKO := hid kO
        clear kO
        have HKL := hid kL
        clear kL
        go_simp
        clear y0 g0 y1 g1 y2 g2
        have qO := (Go.Joins.block_setCell (i := 2) (Go.Joins.block_setCell (i := 1) (Go.Joins.block_setCell (i := 0) HKO.out (.int .i64 (R - 2 : Nat))) (.int .i64 (C - 2 : Nat))) (.slice (some ⟨b', 0, none⟩) mt mt))
        have bz := (((belD.setCell (p := ⟨NO, 0, none⟩) lmO (.int .i64 (R - 2 : Nat))).setCell (p := ⟨NO, 1, none⟩) lmO (.int .i64 (C - 2 : Nat))).setCell (p := ⟨NO, 2, none⟩) lmO (.slice (some ⟨b', 0, none⟩) mt mt))
        have qL := ((Below.heap_setCell _ ⟨NO, 2, none⟩ (.slice (some ⟨b', 0, none⟩) mt mt) _ nL_O).trans ((Below.heap_setCell _ ⟨NO, 1, none⟩ (.int .i64 (C - 2 : Nat)) _ nL_O).trans ((Below.heap_setCell _ ⟨NO, 0, none⟩ (.int .i64 (R - 2 : Nat)) _ nL_O).trans HKL.out)))
        have qA := (own_set (own_set (own_set oA ⟨NO, 0, none⟩ (.int .i64 (R - 2 : Nat)) (Ne.symm nA_O)) ⟨NO, 1, none⟩ (.int .i64 (C - 2 : Nat)) (Ne.symm nA_O)) ⟨NO, 2, none⟩ (.slice (some ⟨b', 0, none⟩) mt mt) (Ne.symm nA_O))
        have qB := (own_set (own_set (own_set oB ⟨NO, 0, none⟩ (.int .i64 (R - 2 : Nat)) nO_B) ⟨NO, 1, none⟩ (.int .i64 (C - 2 : Nat)) nO_B) ⟨NO, 2, none⟩ (.slice (some ⟨b', 0, none⟩) mt mt) nO_B)
        obtain ⟨ws, hW5⟩ : ∃ ws, ws = (((wc.setCell ⟨NO, 0, none⟩ (.int .i64 (R - 2 : Nat))).setCell ⟨NO, 1, none⟩ (.int .i64 (C - 2 : Nat))).setCell ⟨NO, 2, none⟩ (.slice (some ⟨b', 0, none⟩) mt mt)) := ⟨_, rfl⟩
        rw [← hW5] at qO bz qL qA qB
        clear HKO belD HKL oA oB
        have kO : ws.heap[NO]? = some (Obj.cells #[.int .i64 (R - 2 : Nat), .int .i64 (C - 2 : Nat), .slice (some ⟨b', 0, none⟩) mt mt] 26) := qO
        have belD := bz
        have kL := qL
        have oA := qA
        have oB := qB
        clear qO bz qL qA qB
        refine hK.out _ _ ?_ (fun hHeld2 => ?_)
        · (try dsimp only); rw [← hW5]; exact next3_0 belD HD0.out
        clear hK K hHeld
        (try dsimp only at hHeld2)
        simp only [← hW5] at hHeld2 ⊢
        clear hW5
        have hHeld := hHeld2
        clear hHeld2
        (try simp only [Act.put, List.setIfInBounds_toArray, List.set_cons_zero, List.set_cons_succ, List.getElem_toArray, List.getElem_cons_succ, List.getElem_cons_zero])
        (refine wpAnyH_take (i := 15) (v := ?_) rfl ?_ ?_ ?_ (fun _ _ _ h => h) (Or.inl ⟨?_, ?_⟩) ?_ ?_; rotate_left 1; (focus decide +kernel); (focus decide +kernel); (focus decide +kernel); (focus rfl); (focus (intro w hSw; (try dsimp only at hSw); go_simp; (try (with_reducible rfl)); done)); (focus assumption); (try simp only [Act.put, List.setIfInBounds_toArray, List.set_cons_zero, List.set_cons_succ, List.getElem_toArray, List.getElem_cons_succ, List.getElem_cons_zero]))
        refine wpAnyH_done (by kernel_rfl) ?_ _
        have HHF := hid hHeld
        have HKO : Hid (ws.heap[NO]? = some (Obj.cells #[.int .i64 (R - 2 : Nat), .int .i64 (C - 2 : Nat), .slice (some ⟨b', 0, none⟩) mt mt] 26)) := kO
        have HOB := hid oB
        have kTr : ws.heap[NT]? = some (Obj.cells #[.int .i64 0, .int .i64 0, .slice none 0 0] 26) := heap_keep belD HKT.out
        have HB := hid (HD0.out.1.trans (belD.mono HD0.out.1.size))
        have HNB : Hid (NT ≠ b') := Nat.ne_of_lt (Nat.lt_of_lt_of_le (heap_lt HKT.out) lmB)
        have HLo : Hid (w.heap.size ≤ b') := Nat.le_trans HD0.out.1.size lmB
        clear hHeld kO oB oA kL belD
        have o0 : ws.cell? ⟨NO, 0, none⟩ = some (.int .i64 (R - 2 : Nat)) := Go.Joins.cell_of_block HKO.out 0
        have o1 : ws.cell? ⟨NO, 1, none⟩ = some (.int .i64 (C - 2 : Nat)) := Go.Joins.cell_of_block HKO.out 1
        have o2 : ws.cell? ⟨NO, 2, none⟩ = some (.slice (some ⟨b', 0, none⟩) mt mt) := Go.Joins.cell_of_block HKO.out 2
        have y0 : ws.cell? ⟨NT, 0, none⟩ = some (.int .i64 0) := Go.Joins.cell_of_block kTr 0
        have y1 : ws.cell? ⟨NT, 1, none⟩ = some (.int .i64 0) := Go.Joins.cell_of_block kTr 1
        have y2 : ws.cell? ⟨NT, 2, none⟩ = some (.slice none 0 0) := Go.Joins.cell_of_block kTr 2
        have g0 : ws.frozen? ⟨NT, 0, none⟩ = false := Go.Joins.unfrozen_of_block kTr 0
        have g1 : ws.frozen? ⟨NT, 1, none⟩ = false := Go.Joins.unfrozen_of_block kTr 1
        have g2 : ws.frozen? ⟨NT, 2, none⟩ = false := Go.Joins.unfrozen_of_block kTr 2
        have HKx := hid kTr
        clear kTr
        go_wp2
        obtain ⟨W5, hW⟩ : ∃ W5, W5 = (((ws.setCell ⟨NT, 0, none⟩ (.int .i64 (R - 2 : Nat))).setCell ⟨NT, 1, none⟩ (.int .i64 (C - 2 : Nat))).setCell ⟨NT, 2, none⟩ (.slice (some ⟨b', 0, none⟩) mt mt)) := ⟨_, rfl⟩
        have q0 := (Go.Joins.block_setCell (i := 2) (Go.Joins.block_setCell (i := 1) (Go.Joins.block_setCell (i := 0) HKx.out (.int .i64 (R - 2 : Nat))) (.int .i64 (C - 2 : Nat))) (.slice (some ⟨b', 0, none⟩) mt mt))
        rw [← hW] at q0
        have z0 : W5.cell? ⟨NT, 0, none⟩ = some (.int .i64 (R - 2 : Nat)) := Go.Joins.cell_of_block q0 0
        have z1 : W5.cell? ⟨NT, 1, none⟩ = some (.int .i64 (C - 2 : Nat)) := Go.Joins.cell_of_block q0 1
        have z2 : W5.cell? ⟨NT, 2, none⟩ = some (.slice (some ⟨b', 0, none⟩) mt mt) := Go.Joins.cell_of_block q0 2
        have O5 := (own_set (own_set (own_set HOB.out ⟨NT, 0, none⟩ (.int .i64 (R - 2 : Nat)) HNB.out) ⟨NT, 1, none⟩ (.int .i64 (C - 2 : Nat)) HNB.out) ⟨NT, 2, none⟩ (.slice (some ⟨b', 0, none⟩) mt mt) HNB.out)
        rw [← hW] at O5
        have B5 : Below w.heap.size w W5 := by
          have h1 := HNT.out
          rw [hW]
          exact ((HB.out.setCell (by simp; omega) _).setCell (by simp; omega) _).setCell (by simp; omega) _
        simp only [← hW]
        clear hW q0
        simp [bodyPost, results, Try.results68, go_sem, z0, z1, z2]
        exact ⟨O5, HLo.out, B5⟩
    · go_simp
      have bel := below1 wD (Obj.cells #[.int .i64 0, .int .i64 0, .slice none 0 0] 26)
      have lmS := belD.size
      have ltL := (heap_lt kL)
      replace belD := belD.trans (bel.mono belD.size)
      replace kL := heap_keep bel kL
      refine hK.out _ _ ?_ (fun hHeld2 => ?_)
      · (try dsimp only); exact next3_0 belD HD0.out
      clear hK K hHeld bel
      obtain ⟨vo, hWa⟩ : ∃ vo, vo = wD.alloc (Obj.cells #[.int .i64 0, .int .i64 0, .slice none 0 0] 26) := ⟨_, rfl⟩
      obtain ⟨NO, hNa⟩ : ∃ NO, NO = wD.heap.size := ⟨_, rfl⟩
      have kO : vo.heap[NO]? = some (Obj.cells #[.int .i64 0, .int .i64 0, .slice none 0 0] 26) := by rw [hWa]; exact FNew.heap_top hNa
      have lmO : wD.heap.size ≤ NO := by rw [hNa]; exact lmS
      clear lmS
      have nL_O : NL ≠ NO := by rw [hNa]; exact Nat.ne_of_lt ltL
      clear ltL
      rw [← hWa] at belD kL
      (try dsimp only at hHeld2)
      simp only [← hWa, ← hNa] at hHeld2 ⊢
      clear hWa hNa
      have hHeld := hHeld2
      clear hHeld2
      (try simp only [Act.put, List.setIfInBounds_toArray, List.set_cons_zero, List.set_cons_succ, List.getElem_toArray, List.getElem_cons_succ, List.getElem_cons_zero])
      refine wpAnyH_ready (rs := [2]) ?_ (by simp) ?_
      · decide +kernel
      refine AllReadyH.cons rfl (fun K hK => ?_) AllReadyH.nil
      go_simp
      go_at_call 95
      refine (Nf.nextField (HH.out.keep (HD0.out.1.trans (belD.mono HD0.out.1.size)) (Nat.le_refl _)) HQ.out HN.out HPL.out).mono ?_
      rintro e wn ⟨b2, rfl, oA, loA, bel⟩
      have lmA : wD.heap.size ≤ b2 := Nat.le_trans belD.size loA
      have nL_A : NL ≠ b2 := Nat.ne_of_lt (Nat.lt_of_lt_of_le (heap_lt kL) loA)
      have nO_A : NO ≠ b2 := Nat.ne_of_lt (Nat.lt_of_lt_of_le (heap_lt kO) loA)
      clear loA
      replace belD := belD.trans (bel.mono belD.size)
      replace kL := heap_keep bel kL
      replace kO := heap_keep bel kO
      refine hK.out _ _ ?_ (fun hHeld2 => ?_)
      · (try dsimp only); exact next3_0 belD HD0.out
      clear hK K hHeld bel
      have hHeld := hHeld2
      clear hHeld2
      (try simp only [Act.put, List.setIfInBounds_toArray, List.set_cons_zero, List.set_cons_succ, List.getElem_toArray, List.getElem_cons_succ, List.getElem_cons_zero])
      refine wpAnyH_ready (rs := [9]) ?_ (by simp) ?_
      · decide +kernel
      refine AllReadyH.cons rfl (fun K hK => ?_) AllReadyH.nil
      go_simp
      go_at_call 91
      refine (cutOne oA.rd (life_field HQ.out _ _ _ _) HN.out HCK.out HMT.out).mono ?_
      rintro e wc ⟨b', rfl, oB, loB, bel⟩
      have lmB : wD.heap.size ≤ b' := Nat.le_trans belD.size loB
      have nL_B : NL ≠ b' := Nat.ne_of_lt (Nat.lt_of_lt_of_le (heap_lt kL) loB)
      have nO_B : NO ≠ b' := Nat.ne_of_lt (Nat.lt_of_lt_of_le (heap_lt kO) loB)
      have nA_B : b2 ≠ b' := Nat.ne_of_lt (Nat.lt_of_lt_of_le (oA.lt) loB)
      clear loB
      replace belD := belD.trans (bel.mono belD.size)
      replace kL := heap_keep bel kL
      replace kO := heap_keep bel kO
      replace oA := oA.keep bel
      refine hK.out _ _ ?_ (fun hHeld2 => ?_)
      · (try dsimp only); exact next3_0 belD HD0.out
      clear hK K hHeld bel
      have hHeld := hHeld2
      clear hHeld2
      (try simp only [Act.put, List.setIfInBounds_toArray, List.set_cons_zero, List.set_cons_succ, List.getElem_toArray, List.getElem_cons_succ, List.getElem_cons_zero])
      (refine wpAnyH_take (i := 10) (v := ?_) rfl ?_ ?_ ?_ (fun _ _ _ h => h) (Or.inl ⟨?_, ?_⟩) ?_ ?_; rotate_left 1; (focus decide +kernel); (focus decide +kernel); (focus decide +kernel); (focus rfl); (focus (intro w hSw; (try dsimp only at hSw); go_simp; (try (with_reducible rfl)); done)); (focus assumption); (try simp only [Act.put, List.setIfInBounds_toArray, List.set_cons_zero, List.set_cons_succ, List.getElem_toArray, List.getElem_cons_succ, List.getElem_cons_zero]))
      (refine wpAnyH_take (i := 11) (v := ?_) rfl ?_ ?_ ?_ (fun _ _ _ h => h) (Or.inl ⟨?_, ?_⟩) ?_ ?_; rotate_left 1; (focus decide +kernel); (focus decide +kernel); (focus decide +kernel); (focus rfl); (focus (intro w hSw; (try dsimp only at hSw); go_simp; (try (with_reducible rfl)); done)); (focus assumption); (try simp only [Act.put, List.setIfInBounds_toArray, List.set_cons_zero, List.set_cons_succ, List.getElem_toArray, List.getElem_cons_succ, List.getElem_cons_zero]))
      (refine wpAnyH_take (i := 12) (v := ?_) rfl ?_ ?_ ?_ (fun _ _ _ h => h) (Or.inl ⟨?_, ?_⟩) ?_ ?_; rotate_left 1; (focus decide +kernel); (focus decide +kernel); (focus decide +kernel); (focus rfl); (focus (intro w hSw; (try dsimp only at hSw); go_simp; (try (with_reducible rfl)); done)); (focus assumption); (try simp only [Act.put, List.setIfInBounds_toArray, List.set_cons_zero, List.set_cons_succ, List.getElem_toArray, List.getElem_cons_succ, List.getElem_cons_zero]))
      refine wpAnyH_ready (rs := [14]) ?_ (by simp) ?_
      · decide +kernel
      refine AllReadyH.cons rfl (fun K hK => ?_) AllReadyH.nil
      have y0 : wc.cell? ⟨NO, 0, none⟩ = some (.int .i64 0) := Go.Joins.cell_of_block kO 0
      have y1 : wc.cell? ⟨NO, 1, none⟩ = some (.int .i64 0) := Go.Joins.cell_of_block kO 1
      have y2 : wc.cell? ⟨NO, 2, none⟩ = some (.slice none 0 0) := Go.Joins.cell_of_block kO 2
      have g0 : wc.frozen? ⟨NO, 0, none⟩ = false := Go.Joins.unfrozen_of_block kO 0
      have g1 : wc.frozen? ⟨NO, 1, none⟩ = false := Go.Joins.unfrozen_of_block kO 1
      have g2 : wc.frozen? ⟨NO, 2, none⟩ = false := Go.Joins.unfrozen_of_block kO 2
      have HKO := hid kO
      clear kO
      have HKL := hid kL
      clear kL
      go_simp
      clear y0 g0 y1 g1 y2 g2
      have qO := (Go.Joins.block_setCell (i := 2) (Go.Joins.block_setCell (i := 1) (Go.Joins.block_setCell (i := 0) HKO.out (.int .i64 (R - 2 : Nat))) (.int .i64 (C - 2 : Nat))) (.slice (some ⟨b', 0, none⟩) mt mt))
      have bz := (((belD.setCell (p := ⟨NO, 0, none⟩) lmO (.int .i64 (R - 2 : Nat))).setCell (p := ⟨NO, 1, none⟩) lmO (.int .i64 (C - 2 : Nat))).setCell (p := ⟨NO, 2, none⟩) lmO (.slice (some ⟨b', 0, none⟩) mt mt))
      have qL := ((Below.heap_setCell _ ⟨NO, 2, none⟩ (.slice (some ⟨b', 0, none⟩) mt mt) _ nL_O).trans ((Below.heap_setCell _ ⟨NO, 1, none⟩ (.int .i64 (C - 2 : Nat)) _ nL_O).trans ((Below.heap_setCell _ ⟨NO, 0, none⟩ (.int .i64 (R - 2 : Nat)) _ nL_O).trans HKL.out)))
      have qA := (own_set (own_set (own_set oA ⟨NO, 0, none⟩ (.int .i64 (R - 2 : Nat)) nO_A) ⟨NO, 1, none⟩ (.int .i64 (C - 2 : Nat)) nO_A) ⟨NO, 2, none⟩ (.slice (some ⟨b', 0, none⟩) mt mt) nO_A)
      have qB := (own_set (own_set (own_set oB ⟨NO, 0, none⟩ (.int .i64 (R - 2 : Nat)) nO_B) ⟨NO, 1, none⟩ (.int .i64 (C - 2 : Nat)) nO_B) ⟨NO, 2, none⟩ (.slice (some ⟨b', 0, none⟩) mt mt) nO_B)
      obtain ⟨ws, hW5⟩ : ∃ ws, ws = (((wc.setCell ⟨NO, 0, none⟩ (.int .i64 (R - 2 : Nat))).setCell ⟨NO, 1, none⟩ (.int .i64 (C - 2 : Nat))).setCell ⟨NO, 2, none⟩ (.slice (some ⟨b', 0, none⟩) mt mt)) := ⟨_, rfl⟩
      rw [← hW5] at qO bz qL qA qB
      clear HKO belD HKL oA oB
      have kO : ws.heap[NO]? = some (Obj.cells #[.int .i64 (R - 2 : Nat), .int .i64 (C - 2 : Nat), .slice (some ⟨b', 0, none⟩) mt mt] 26) := qO
      have belD := bz
      have kL := qL
      have oA := qA
      have oB := qB
      clear qO bz qL qA qB
      refine hK.out _ _ ?_ (fun hHeld2 => ?_)
      · (try dsimp only); rw [← hW5]; exact next3_0 belD HD0.out
      clear hK K hHeld
      (try dsimp only at hHeld2)
      simp only [← hW5] at hHeld2 ⊢
      clear hW5
      have hHeld := hHeld2
      clear hHeld2
      (try simp only [Act.put, List.setIfInBounds_toArray, List.set_cons_zero, List.set_cons_succ, List.getElem_toArray, List.getElem_cons_succ, List.getElem_cons_zero])
      (refine wpAnyH_take (i := 15) (v := ?_) rfl ?_ ?_ ?_ (fun _ _ _ h => h) (Or.inl ⟨?_, ?_⟩) ?_ ?_; rotate_left 1; (focus decide +kernel); (focus decide +kernel); (focus decide +kernel); (focus rfl); (focus (intro w hSw; (try dsimp only at hSw); go_simp; (try (with_reducible rfl)); done)); (focus assumption); (try simp only [Act.put, List.setIfInBounds_toArray, List.set_cons_zero, List.set_cons_succ, List.getElem_toArray, List.getElem_cons_succ, List.getElem_cons_zero]))
      refine wpAnyH_done (by kernel_rfl) ?_ _
      have HHF := hid hHeld
      have HKO : Hid (ws.heap[NO]? = some (Obj.cells #[.int .i64 (R - 2 : Nat), .int .i64 (C - 2 : Nat), .slice (some ⟨b', 0, none⟩) mt mt] 26)) := kO
      have HOB := hid oB
      have kTr : ws.heap[NT]? = some (Obj.cells #[.int .i64 0, .int .i64 0, .slice none 0 0] 26) := heap_keep belD HKT.out
      have HB := hid (HD0.out.1.trans (belD.mono HD0.out.1.size))
      have HNB : Hid (NT ≠ b') := Nat.ne_of_lt (Nat.lt_of_lt_of_le (heap_lt HKT.out) lmB)
      have HLo : Hid (w.heap.size ≤ b') := Nat.le_trans HD0.out.1.size lmB
      clear hHeld kO oB oA kL belD
      have o0 : ws.cell? ⟨NO, 0, none⟩ = some (.int .i64 (R - 2 : Nat)) := Go.Joins.cell_of_block HKO.out 0
      have o1 : ws.cell? ⟨NO, 1, none⟩ = some (.int .i64 (C - 2 : Nat)) := Go.Joins.cell_of_block HKO.out 1
      have o2 : ws.cell? ⟨NO, 2, none⟩ = some (.slice (some ⟨b', 0, none⟩) mt mt) := Go.Joins.cell_of_block HKO.out 2
      have y0 : ws.cell? ⟨NT, 0, none⟩ = some (.int .i64 0) := Go.Joins.cell_of_block kTr 0
      have y1 : ws.cell? ⟨NT, 1, none⟩ = some (.int .i64 0) := Go.Joins.cell_of_block kTr 1
      have y2 : ws.cell? ⟨NT, 2, none⟩ = some (.slice none 0 0) := Go.Joins.cell_of_block kTr 2
      have g0 : ws.frozen? ⟨NT, 0, none⟩ = false := Go.Joins.unfrozen_of_block kTr 0
      have g1 : ws.frozen? ⟨NT, 1, none⟩ = false := Go.Joins.unfrozen_of_block kTr 1
      have g2 : ws.frozen? ⟨NT, 2, none⟩ = false := Go.Joins.unfrozen_of_block kTr 2
      have HKx := hid kTr
      clear kTr
      go_wp2
      obtain ⟨W5, hW⟩ : ∃ W5, W5 = (((ws.setCell ⟨NT, 0, none⟩ (.int .i64 (R - 2 : Nat))).setCell ⟨NT, 1, none⟩ (.int .i64 (C - 2 : Nat))).setCell ⟨NT, 2, none⟩ (.slice (some ⟨b', 0, none⟩) mt mt)) := ⟨_, rfl⟩
      have q0 := (Go.Joins.block_setCell (i := 2) (Go.Joins.block_setCell (i := 1) (Go.Joins.block_setCell (i := 0) HKx.out (.int .i64 (R - 2 : Nat))) (.int .i64 (C - 2 : Nat))) (.slice (some ⟨b', 0, none⟩) mt mt))
      rw [← hW] at q0
      have z0 : W5.cell? ⟨NT, 0, none⟩ = some (.int .i64 (R - 2 : Nat)) := Go.Joins.cell_of_block q0 0
      have z1 : W5.cell? ⟨NT, 1, none⟩ = some (.int .i64 (C - 2 : Nat)) := Go.Joins.cell_of_block q0 1
      have z2 : W5.cell? ⟨NT, 2, none⟩ = some (.slice (some ⟨b', 0, none⟩) mt mt) := Go.Joins.cell_of_block q0 2
      have O5 := (own_set (own_set (own_set HOB.out ⟨NT, 0, none⟩ (.int .i64 (R - 2 : Nat)) HNB.out) ⟨NT, 1, none⟩ (.int .i64 (C - 2 : Nat)) HNB.out) ⟨NT, 2, none⟩ (.slice (some ⟨b', 0, none⟩) mt mt) HNB.out)
      rw [← hW] at O5
      have B5 : Below w.heap.size w W5 := by
        have h1 := HNT.out
        rw [hW]
        exact ((HB.out.setCell (by simp; omega) _).setCell (by simp; omega) _).setCell (by simp; omega) _
      simp only [← hW]
      clear hW q0
      simp [bodyPost, results, Try.results68, go_sem, z0, z1, z2]
      exact ⟨O5, HLo.out, B5⟩
  · go_simp
    have bel := below1 wD (Obj.cells #[.int .i64 0, .int .i64 0, .slice none 0 0] 26)
    have lmS := belD.size
    have ltL := (heap_lt kL)
    replace belD := belD.trans (bel.mono belD.size)
    replace kL := heap_keep bel kL
    refine hK.out _ _ ?_ (fun hHeld2 => ?_)
    · (try dsimp only); exact next3_0 belD HD0.out
    clear hK K hHeld bel
    obtain ⟨vo, hWa⟩ : ∃ vo, vo = wD.alloc (Obj.cells #[.int .i64 0, .int .i64 0, .slice none 0 0] 26) := ⟨_, rfl⟩
    obtain ⟨NO, hNa⟩ : ∃ NO, NO = wD.heap.size := ⟨_, rfl⟩
    have kO : vo.heap[NO]? = some (Obj.cells #[.int .i64 0, .int .i64 0, .slice none 0 0] 26) := by rw [hWa]; exact FNew.heap_top hNa
    have lmO : wD.heap.size ≤ NO := by rw [hNa]; exact lmS
    clear lmS
    have nL_O : NL ≠ NO := by rw [hNa]; exact Nat.ne_of_lt ltL
    clear ltL
    rw [← hWa] at belD kL
    (try dsimp only at hHeld2)
    simp only [← hWa, ← hNa] at hHeld2 ⊢
    clear hWa hNa
    have hHeld := hHeld2
    clear hHeld2
    (try simp only [Act.put, List.setIfInBounds_toArray, List.set_cons_zero, List.set_cons_succ, List.getElem_toArray, List.getElem_cons_succ, List.getElem_cons_zero])
    refine wpAnyH_ready (rs := [0]) ?_ (by simp) ?_
    · decide +kernel
    refine AllReadyH.cons rfl (fun K hK => ?_) AllReadyH.nil
    refine step_loadA rfl _ rfl NL rfl 82 _ kL (by rw [cellsA_size, tabL_len]; kernel_rfl) ?_
    refine hK.out _ _ ?_ (fun hHeld2 => ?_)
    · (try dsimp only); exact hHeld
    clear hK K hHeld
    have hHeld := hHeld2
    clear hHeld2
    (try simp only [Act.put, List.setIfInBounds_toArray, List.set_cons_zero, List.set_cons_succ, List.getElem_toArray, List.getElem_cons_succ, List.getElem_cons_zero])
    refine wpAnyH_ready (rs := [2]) ?_ (by simp) ?_
    · decide +kernel
    refine AllReadyH.cons rfl (fun K hK => ?_) AllReadyH.nil
    go_simp
    go_at_call 95
    refine (Nf.nextField (HH.out.keep (HD0.out.1.trans (belD.mono HD0.out.1.size)) (Nat.le_refl _)) HQ.out HN.out HPL.out).mono ?_
    rintro e wn ⟨b2, rfl, oA, loA, bel⟩
    have lmA : wD.heap.size ≤ b2 := Nat.le_trans belD.size loA
    have nL_A : NL ≠ b2 := Nat.ne_of_lt (Nat.lt_of_lt_of_le (heap_lt kL) loA)
    have nO_A : NO ≠ b2 := Nat.ne_of_lt (Nat.lt_of_lt_of_le (heap_lt kO) loA)
    clear loA
    replace belD := belD.trans (bel.mono belD.size)
    replace kL := heap_keep bel kL
    replace kO := heap_keep bel kO
    refine hK.out _ _ ?_ (fun hHeld2 => ?_)
    · (try dsimp only); exact next3_0 belD HD0.out
    clear hK K hHeld bel
    have hHeld := hHeld2
    clear hHeld2
    (try simp only [Act.put, List.setIfInBounds_toArray, List.set_cons_zero, List.set_cons_succ, List.getElem_toArray, List.getElem_cons_succ, List.getElem_cons_zero])
    refine wpAnyH_ready (rs := [9]) ?_ (by simp) ?_
    · decide +kernel
    refine AllReadyH.cons rfl (fun K hK => ?_) AllReadyH.nil
    go_simp
    go_at_call 91
    refine (cutOne oA.rd (life_field HQ.out _ _ _ _) HN.out HCK.out HMT.out).mono ?_
    rintro e wc ⟨b', rfl, oB, loB, bel⟩
    have lmB : wD.heap.size ≤ b' := Nat.le_trans belD.size loB
    have nL_B : NL ≠ b' := Nat.ne_of_lt (Nat.lt_of_lt_of_le (heap_lt kL) loB)
    have nO_B : NO ≠ b' := Nat.ne_of_lt (Nat.lt_of_lt_of_le (heap_lt kO) loB)
    have nA_B : b2 ≠ b' := Nat.ne_of_lt (Nat.lt_of_lt_of_le (oA.lt) loB)
    clear loB
    replace belD := belD.trans (bel.mono belD.size)
    replace kL := heap_keep bel kL
    replace kO := heap_keep bel kO
    replace oA := oA.keep bel
    refine hK.out _ _ ?_ (fun hHeld2 => ?_)
    · (try dsimp only); exact next3_0 belD HD0.out
    clear hK K hHeld bel
    have hHeld := hHeld2
    clear hHeld2
    (try simp only [Act.put, List.setIfInBounds_toArray, List.set_cons_zero, List.set_cons_succ, List.getElem_toArray, List.getElem_cons_succ, List.getElem_cons_zero])
    (refine wpAnyH_take (i := 10) (v := ?_) rfl ?_ ?_ ?_ (fun _ _ _ h => h) (Or.inl ⟨?_, ?_⟩) ?_ ?_; rotate_left 1; (focus decide +kernel); (focus decide +kernel); (focus decide +kernel); (focus rfl); (focus (intro w hSw; (try dsimp only at hSw); go_simp; (try (with_reducible rfl)); done)); (focus assumption); (try simp only [Act.put, List.setIfInBounds_toArray, List.set_cons_zero, List.set_cons_succ, List.getElem_toArray, List.getElem_cons_succ, List.getElem_cons_zero]))
    (refine wpAnyH_take (i := 11) (v := ?_) rfl ?_ ?_ ?_ (fun _ _ _ h => h) (Or.inl ⟨?_, ?_⟩) ?_ ?_; rotate_left 1; (focus decide +kernel); (focus decide +kernel); (focus decide +kernel); (focus rfl); (focus (intro w hSw; (try dsimp only at hSw); go_simp; (try (with_reducible rfl)); done)); (focus assumption); (try simp only [Act.put, List.setIfInBounds_toArray, List.set_cons_zero, List.set_cons_succ, List.getElem_toArray, List.getElem_cons_succ, List.getElem_cons_zero]))
    (refine wpAnyH_take (i := 12) (v := ?_) rfl ?_ ?_ ?_ (fun _ _ _ h => h) (Or.inl ⟨?_, ?_⟩) ?_ ?_; rotate_left 1; (focus decide +kernel); (focus decide +kernel); (focus decide +kernel); (focus rfl); (focus (intro w hSw; (try dsimp only at hSw); go_simp; (try (with_reducible rfl)); done)); (focus assumption); (try simp only [Act.put, List.setIfInBounds_toArray, List.set_cons_zero, List.set_cons_succ, List.getElem_toArray, List.getElem_cons_succ, List.getElem_cons_zero]))
    refine wpAnyH_ready (rs := [14]) ?_ (by simp) ?_
    · decide +kernel
    refine AllReadyH.cons rfl (fun K hK => ?_) AllReadyH.nil
    have y0 : wc.cell? ⟨NO, 0, none⟩ = some (.int .i64 0) := Go.Joins.cell_of_block kO 0
    have y1 : wc.cell? ⟨NO, 1, none⟩ = some (.int .i64 0) := Go.Joins.cell_of_block kO 1
    have y2 : wc.cell? ⟨NO, 2, none⟩ = some (.slice none 0 0) := Go.Joins.cell_of_block kO 2
    have g0 : wc.frozen? ⟨NO, 0, none⟩ = false := Go.Joins.unfrozen_of_block kO 0
    have g1 : wc.frozen? ⟨NO, 1, none⟩ = false := Go.Joins.unfrozen_of_block kO 1
    have g2 : wc.frozen? ⟨NO, 2, none⟩ = false := Go.Joins.unfrozen_of_block kO 2
    have HKO := hid kO
    clear kO
    have HKL := hid kL
    clear kL
    go_simp
    clear y0 g0 y1 g1 y2 g2
    have qO := (Go.Joins.block_setCell (i := 2) (Go.Joins.block_setCell (i := 1) (Go.Joins.block_setCell (i := 0) HKO.out (.int .i64 (R - 2 : Nat))) (.int .i64 (C - 2 : Nat))) (.slice (some ⟨b', 0, none⟩) mt mt))
    have bz := (((belD.setCell (p := ⟨NO, 0, none⟩) lmO (.int .i64 (R - 2 : Nat))).setCell (p := ⟨NO, 1, none⟩) lmO (.int .i64 (C - 2 : Nat))).setCell (p := ⟨NO, 2, none⟩) lmO (.slice (some ⟨b', 0, none⟩) mt mt))
    have qL := ((Below.heap_setCell _ ⟨NO, 2, none⟩ (.slice (some ⟨b', 0, none⟩) mt mt) _ nL_O).trans ((Below.heap_setCell _ ⟨NO, 1, none⟩ (.int .i64 (C - 2 : Nat)) _ nL_O).trans ((Below.heap_setCell _ ⟨NO, 0, none⟩ (.int .i64 (R - 2 : Nat)) _ nL_O).trans HKL.out)))
    have qA := (own_set (own_set (own_set oA ⟨NO, 0, none⟩ (.int .i64 (R - 2 : Nat)) nO_A) ⟨NO, 1, none⟩ (.int .i64 (C - 2 : Nat)) nO_A) ⟨NO, 2, none⟩ (.slice (some ⟨b', 0, none⟩) mt mt) nO_A)
    have qB := (own_set (own_set (own_set oB ⟨NO, 0, none⟩ (.int .i64 (R - 2 : Nat)) nO_B) ⟨NO, 1, none⟩ (.int .i64 (C - 2 : Nat)) nO_B) ⟨NO, 2, none⟩ (.slice (some ⟨b', 0, none⟩) mt mt) nO_B)
    obtain ⟨ws, hW5⟩ : ∃ ws, ws = (((wc.setCell ⟨NO, 0, none⟩ (.int .i64 (R - 2 : Nat))).setCell ⟨NO, 1, none⟩ (.int .i64 (C - 2 : Nat))).setCell ⟨NO, 2, none⟩ (.slice (some ⟨b', 0, none⟩) mt mt)) := ⟨_, rfl⟩
    rw [← hW5] at qO bz qL qA qB
    clear HKO belD HKL oA oB
    have kO : ws.heap[NO]? = some (Obj.cells #[.int .i64 (R - 2 : Nat), .int .i64 (C - 2 : Nat), .slice (some ⟨b', 0, none⟩) mt mt] 26) := qO
    have belD := bz
    have kL := qL
    have oA := qA
    have oB := qB
    clear qO bz qL qA qB
    refine hK.out _ _ ?_ (fun hHeld2 => ?_)
    · (try dsimp only); rw [← hW5]; exact next3_0 belD HD0.out
    clear hK K hHeld
    (try dsimp only at hHeld2)
    simp only [← hW5] at hHeld2 ⊢
    clear hW5
    have hHeld := hHeld2
    clear hHeld2
    (try simp only [Act.put, List.setIfInBounds_toArray, List.set_cons_zero, List.set_cons_succ, List.getElem_toArray, List.getElem_cons_succ, List.getElem_cons_zero])
    (refine wpAnyH_take (i := 15) (v := ?_) rfl ?_ ?_ ?_ (fun _ _ _ h => h) (Or.inl ⟨?_, ?_⟩) ?_ ?_; rotate_left 1; (focus decide +kernel); (focus decide +kernel); (focus decide +kernel); (focus rfl); (focus (intro w hSw; (try dsimp only at hSw); go_simp; (try (with_reducible rfl)); done)); (focus assumption); (try simp only [Act.put, List.setIfInBounds_toArray, List.set_cons_zero, List.set_cons_succ, List.getElem_toArray, List.getElem_cons_succ, List.getElem_cons_zero]))
    refine wpAnyH_done (by kernel_rfl) ?_ _
    have HHF := hid hHeld
    have HKO : Hid (ws.heap[NO]? = some (Obj.cells #[.int .i64 (R - 2 : Nat), .int .i64 (C - 2 : Nat), .slice (some ⟨b', 0, none⟩) mt mt] 26)) := kO
    have HOB := hid oB
    have kTr : ws.heap[NT]? = some (Obj.cells #[.int .i64 0, .int .i64 0, .slice none 0 0] 26) := heap_keep belD HKT.out
    have HB := hid (HD0.out.1.trans (belD.mono HD0.out.1.size))
    have HNB : Hid (NT ≠ b') := Nat.ne_of_lt (Nat.lt_of_lt_of_le (heap_lt HKT.out) lmB)
    have HLo : Hid (w.heap.size ≤ b') := Nat.le_trans HD0.out.1.size lmB
    clear hHeld kO oB oA kL belD
    have o0 : ws.cell? ⟨NO, 0, none⟩ = some (.int .i64 (R - 2 : Nat)) := Go.Joins.cell_of_block HKO.out 0
    have o1 : ws.cell? ⟨NO, 1, none⟩ = some (.int .i64 (C - 2 : Nat)) := Go.Joins.cell_of_block HKO.out 1
    have o2 : ws.cell? ⟨NO, 2, none⟩ = some (.slice (some ⟨b', 0, none⟩) mt mt) := Go.Joins.cell_of_block HKO.out 2
    have y0 : ws.cell? ⟨NT, 0, none⟩ = some (.int .i64 0) := Go.Joins.cell_of_block kTr 0
    have y1 : ws.cell? ⟨NT, 1, none⟩ = some (.int .i64 0) := Go.Joins.cell_of_block kTr 1
    have y2 : ws.cell? ⟨NT, 2, none⟩ = some (.slice none 0 0) := Go.Joins.cell_of_block kTr 2
    have g0 : ws.frozen? ⟨NT, 0, none⟩ = false := Go.Joins.unfrozen_of_block kTr 0
    have g1 : ws.frozen? ⟨NT, 1, none⟩ = false := Go.Joins.unfrozen_of_block kTr 1
    have g2 : ws.frozen? ⟨NT, 2, none⟩ = false := Go.Joins.unfrozen_of_block kTr 2
    have HKx := hid kTr
    clear kTr
    go_wp2
    obtain ⟨W5, hW⟩ : ∃ W5, W5 = (((ws.setCell ⟨NT, 0, none⟩ (.int .i64 (R - 2 : Nat))).setCell ⟨NT, 1, none⟩ (.int .i64 (C - 2 : Nat))).setCell ⟨NT, 2, none⟩ (.slice (some ⟨b', 0, none⟩) mt mt)) := ⟨_, rfl⟩
    have q0 := (Go.Joins.block_setCell (i := 2) (Go.Joins.block_setCell (i := 1) (Go.Joins.block_setCell (i := 0) HKx.out (.int .i64 (R - 2 : Nat))) (.int .i64 (C - 2 : Nat))) (.slice (some ⟨b', 0, none⟩) mt mt))
    rw [← hW] at q0
    have z0 : W5.cell? ⟨NT, 0, none⟩ = some (.int .i64 (R - 2 : Nat)) := Go.Joins.cell_of_block q0 0
    have z1 : W5.cell? ⟨NT, 1, none⟩ = some (.int .i64 (C - 2 : Nat)) := Go.Joins.cell_of_block q0 1
    have z2 : W5.cell? ⟨NT, 2, none⟩ = some (.slice (some ⟨b', 0, none⟩) mt mt) := Go.Joins.cell_of_block q0 2
    have O5 := (own_set (own_set (own_set HOB.out ⟨NT, 0, none⟩ (.int .i64 (R - 2 : Nat)) HNB.out) ⟨NT, 1, none⟩ (.int .i64 (C - 2 : Nat)) HNB.out) ⟨NT, 2, none⟩ (.slice (some ⟨b', 0, none⟩) mt mt) HNB.out)
    rw [← hW] at O5
    have B5 : Below w.heap.size w W5 := by
      have h1 := HNT.out
      rw [hW]
      exact ((HB.out.setCell (by simp; omega) _).setCell (by simp; omega) _).setCell (by simp; omega) _
    simp only [← hW]
    clear hW q0
    simp [bodyPost, results, Try.results68, go_sem, z0, z1, z2]
    exact ⟨O5, HLo.out, B5⟩

end Go.Proofs.Ytmbimekndhcgaaa.In
