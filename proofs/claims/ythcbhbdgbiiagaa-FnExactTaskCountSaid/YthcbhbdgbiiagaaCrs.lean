/- Crossed rules: both sides' functions on tables. -/
import Derived.Test.YthcbhbdgbiiagaaTwo
import Derived.Test.YthcbhbdgbiiagaaTurn
import Derived.Test.YthcbhbdgbiiagaaROwn
import Derived.Test.YthcbhbdgbiiagaaRCopy
import Derived.Deep.Cut
import Derived.BigQuiet
namespace Go.Proofs.Ythcbhbdgbiiagaa.Crs
open Go.RowKit Go.Proofs.Ythcbhbdgbiiagaa.Rd Go.Proofs.Ythcbhbdgbiiagaa.Help Go.Proofs.Ythcbhbdgbiiagaa.Ring Go.Proofs.Ythcbhbdgbiiagaa.Small Go.Proofs.Ythcbhbdgbiiagaa.Keep Go.Proofs.Ythcbhbdgbiiagaa.Rule Go.Proofs.Ythcbhbdgbiiagaa.Grow Go.Proofs.Ythcbhbdgbiiagaa.Two
set_option linter.unusedVariables false
set_option linter.unusedSimpArgs false

theorem heap_keep {w w' : World} {n : Nat} {o : Obj} (bel : Below w.heap.size w w') (h : w.heap[n]? = some o) : w'.heap[n]? = some o :=
  (bel.block n (Array.getElem?_eq_some_iff.1 h).1).trans h
theorem heap_lt {w : World} {n : Nat} {o : Obj} (h : w.heap[n]? = some o) : n < w.heap.size := (Array.getElem?_eq_some_iff.1 h).1
theorem set_cellN {w : World} {c : Addr} {g i : Nat} {v u : Value} (h : w.cell? ⟨g, i, none⟩ = some u) (hne : g ≠ c.block) : (w.setCell c v).cell? ⟨g, i, none⟩ = some u := by
  exact FNew.set_cell h hne
/-- The table of two. -/
def crossL (xs ys : List Int) (p : Nat) : List Int := xs.take p ++ ys.drop p
theorem cross_len {xs ys : List Int} {n p : Nat} (hx : xs.length = n) (hy : ys.length = n) (hp : p ≤ n) : (crossL xs ys p).length = n := by
  simp [crossL, hx, hy]; omega
theorem cross_set {xs ys : List Int} {n p : Nat} (hx : xs.length = n) (hy : ys.length = n) (hp : p < n) : (crossL xs ys p).set p (xs.getD p 0) = crossL xs ys (p + 1) := by
  refine List.ext_getElem? fun i => ?_
  rw [List.getElem?_set]
  unfold crossL
  have l1 : (xs.take p).length = p := by simp; omega
  have l2 : (xs.take (p + 1)).length = p + 1 := by simp; omega
  by_cases h : p = i
  · subst h
    rw [if_pos rfl, if_pos (by simp; omega), List.getElem?_append_left (by omega), List.getElem?_take, if_pos (by omega), List.getD_eq_getElem?_getD, List.getElem?_eq_getElem (by omega)]
    rfl
  · rw [if_neg h]
    rcases Nat.lt_or_ge i p with hi | hi
    · rw [List.getElem?_append_left (by omega), List.getElem?_append_left (by omega), List.getElem?_take, List.getElem?_take, if_pos hi, if_pos (by omega)]
    · rw [List.getElem?_append_right (by omega), List.getElem?_append_right (by omega), l1, l2, List.getElem?_drop, List.getElem?_drop]
      congr 1; omega
theorem cross_zero (xs ys : List Int) : crossL xs ys 0 = ys := by simp [crossL]
theorem cross_all {xs ys : List Int} {s : Int} (hx : allB xs s = true) (hy : allB ys s = true) (p : Nat) : allB (crossL xs ys p) s = true := by
  unfold allB crossL at *
  rw [List.all_append, Bool.and_eq_true]
  rw [List.all_eq_true] at hx hy
  exact ⟨List.all_eq_true.2 fun x h => hx x (List.mem_of_mem_take h), List.all_eq_true.2 fun x h => hy x (List.mem_of_mem_drop h)⟩

set_option maxHeartbeats 1000000 in
theorem concatCut {w : World} {c b1 o1 c1 b2 o2 o3 c3 n p : Nat} {xs ys : List Int} (hx : xs.length = n) (hy : ys.length = n) (hn : 1 ≤ n ∧ n ≤ 1000) (hp : p ≤ n)
    (k0 : w.cell? ⟨c, 0, none⟩ = some (.slice (some ⟨b1, o1, none⟩) p c1)) (k1 : w.cell? ⟨c, 1, none⟩ = some (.slice (some ⟨b2, o3, none⟩) (n - p) c3)) (ho : o3 = o2 + p ∨ p = n)
    (q1 : b1 < w.heap.size) (q2 : b2 < w.heap.size) (r1 : ∀ i, i < n → w.cell? ⟨b1, o1 + i, none⟩ = some (.int .i64 (xs.getD i 0))) (r2 : ∀ i, i < n → w.cell? ⟨b2, o2 + i, none⟩ = some (.int .i64 (ys.getD i 0))) :
    Calls Try.prog 109 #[.slice (some ⟨c, 0, none⟩) 2 2] w fun e w' => ∃ b' k, e = .returned (.slice (some ⟨b', 0, none⟩) n k) ∧
      Own 2 w' b' (.slice (some ⟨b', 0, none⟩) n k) (crossL xs ys p) ∧ w.heap.size ≤ b' ∧ Below w.heap.size w w' := by
  refine (Turn.concat2 (n1 := p) (n2 := n - p) (xs := xs.take p) (ys := ys.drop p) (by rw [List.length_take]; omega) (by simp; omega) (by omega) k0 k1 q1 q2 ?_ ?_).mono ?_
  · intro i hi
    have e1 : (xs.take p).getD i 0 = xs.getD i 0 := by simp [List.getD, List.getElem?_take, hi]
    rw [e1]
    exact r1 i (by omega)
  · intro i hi
    have e1 : (ys.drop p).getD i 0 = ys.getD (p + i) 0 := by simp [List.getD]
    rw [e1]
    rcases ho with ho | ho
    · subst ho
      rw [Nat.add_assoc]
      exact r2 (p + i) (by omega)
    · omega
  · rintro e w' ⟨v', b', rfl, own, lo, bel⟩
    have hl : (crossL xs ys p).length = n := cross_len hx hy hp
    rcases own.form with ⟨_, he⟩ | ⟨k, rfl, _, _, _⟩
    · have : (crossL xs ys p).length = 0 := by unfold crossL; rw [he]; rfl
      omega
    · rw [show (xs.take p ++ ys.drop p).length = n from hl] at own ⊢
      exact ⟨b', k, rfl, own, lo, bel⟩

set_option maxHeartbeats 8000000 in
theorem crossed {w : World} {s r s2 r2 : Int} {n p b1 b2 : Nat} {v1 v2 : Value} {xs ys : List Int} (h1 : Rd w b1 v1 xs) (h2 : Rd w b2 v2 ys) (hx : xs.length = n) (hy : ys.length = n) (hn : 1 ≤ n ∧ n ≤ 1000) (hpn : p ≤ n) :
    Calls Try.prog 68 #[ruleV s r v1, ruleV s2 r2 v2, .int .i64 p] w fun e w' => ∃ b' k, e = .returned (ruleV s r (.slice (some ⟨b', 0, none⟩) n k)) ∧ Own 2 w' b' (.slice (some ⟨b', 0, none⟩) n k) (crossL xs ys p) ∧ w.heap.size ≤ b' ∧ Below w.heap.size w w' := by
  obtain ⟨ao1, c1, rfl, hc1, hm1, h41⟩ := h1
  obtain ⟨ao2, c2, rfl, hc2, hm2, h42⟩ := h2
  obtain ⟨o1, rfl, hb1, hcell1⟩ := h41 (by omega)
  obtain ⟨o2, rfl, hb2, hcell2⟩ := h42 (by omega)
  rw [hx] at hc1 hcell1 ⊢
  rw [hy] at hc2 hcell2 ⊢
  have HC1 := hid hcell1
  have HC2 := hid hcell2
  have HL1 := hid hb1
  have HL2 := hid hb2
  have HX := hid hx
  have HY := hid hy
  have HN := hid hn
  have hm1' : c1 ≤ 9223372036854775807 := by unfold maxLen at hm1; omega
  have hm2' : c2 ≤ 9223372036854775807 := by unfold maxLen at hm2; omega
  have hp1 : p ≤ c1 := by omega
  have hp2 : p ≤ c2 := by omega
  have hpi : (p : Int) ≤ (n : Int) := by omega
  clear hcell1 hcell2 hb1 hb2 hx hy hn h41 h42 hm1 hm2
  go_enter Try.func68, Try.ntmps68
  go_wp2_with fail
  obtain ⟨w1, hW⟩ : ∃ w1, w1 = ((w.alloc (Obj.cells #[.int .i64 s, .int .i64 r, .slice (some ⟨b1, o1, none⟩) n c1] 44)).alloc (Obj.cells #[.int .i64 s2, .int .i64 r2, .slice (some ⟨b2, o2, none⟩) n c2] 44)).alloc (Obj.cells #[.int .i64 0, .int .i64 0, .slice none 0 0] 44) := ⟨_, rfl⟩
  obtain ⟨NA, hA⟩ : ∃ NA, NA = w.heap.size := ⟨_, rfl⟩
  obtain ⟨NB, hB⟩ : ∃ NB, NB = NA + 1 := ⟨_, rfl⟩
  obtain ⟨NT, hT⟩ : ∃ NT, NT = NB + 1 := ⟨_, rfl⟩
  have st : Below w.heap.size w w1 ∧ w1.cell? ⟨NA, 0, none⟩ = some (.int .i64 s) ∧ w1.cell? ⟨NA, 1, none⟩ = some (.int .i64 r) ∧ w1.cell? ⟨NA, 2, none⟩ = some (.slice (some ⟨b1, o1, none⟩) n c1) ∧ w1.cell? ⟨NB, 0, none⟩ = some (.int .i64 s2) ∧ w1.cell? ⟨NB, 1, none⟩ = some (.int .i64 r2) ∧ w1.cell? ⟨NB, 2, none⟩ = some (.slice (some ⟨b2, o2, none⟩) n c2) ∧ w.heap.size ≤ w1.heap.size := by
    rw [hW, hB, hA]
    exact ⟨Go.Joins.below_alloc3 _ _ _ _, cell_keep (Go.Joins.below_alloc2 _ _ _) (by simp), cell_keep (Go.Joins.below_alloc2 _ _ _) (by simp), cell_keep (Go.Joins.below_alloc2 _ _ _) (by simp), cell_keep (below1 _ _) (by simp), cell_keep (below1 _ _) (by simp), cell_keep (below1 _ _) (by simp), by simp <;> omega⟩
  have kT : w1.heap[NT]? = some (Obj.cells #[.int .i64 0, .int .i64 0, .slice none 0 0] 44) := by rw [hW]; exact FNew.heap_top (by rw [hT, hB, hA]; simp)
  have HNT : Hid (w.heap.size ≤ NT) := by simp only [Hid]; omega
  have HNE : Hid (NA ≠ NT ∧ NB ≠ NT) := ⟨by omega, by omega⟩
  simp only [← hW, ← hA, ← hB, ← hT]
  clear hW hA hB hT
  by_cases hcp : c2 = p
  · have hpn2 : p = n := by omega
    have HPN := hid hpn2
    clear hpn2
    refine wp_region_held_drew (S := (fun ww => Below w.heap.size w ww ∧ ww.cell? ⟨NA, 0, none⟩ = some (.int .i64 s) ∧ ww.cell? ⟨NA, 1, none⟩ = some (.int .i64 r) ∧ ww.cell? ⟨NA, 2, none⟩ = some (.slice (some ⟨b1, o1, none⟩) n c1) ∧ ww.cell? ⟨NB, 0, none⟩ = some (.int .i64 s2) ∧ ww.cell? ⟨NB, 1, none⟩ = some (.int .i64 r2) ∧ ww.cell? ⟨NB, 2, none⟩ = some (.slice (some ⟨b2, o2, none⟩) n c2) ∧ w.heap.size ≤ ww.heap.size)) (by kernel_rfl) ?_ (fun hHeld => ?_)
    · ((try dsimp only); exact drew6_0 st)
    generalize hD : w1.drew = wD at hHeld ⊢
    have HKT : Hid (wD.heap[NT]? = some (Obj.cells #[.int .i64 0, .int .i64 0, .slice none 0 0] 44)) := by simp only [Hid]; rw [← hD]; exact kT
    have HD0 := hid hHeld
    have belD : Below wD.heap.size wD wD := Below.refl _ _
    clear hD st kT
    (refine wpAnyH_take (i := 0) (v := ?_) rfl ?_ ?_ ?_ (fun _ _ _ h => h) (Or.inl ⟨?_, ?_⟩) ?_ ?_; rotate_left 1; (focus decide +kernel); (focus decide +kernel); (focus decide +kernel); (focus rfl); (focus (intro w hSw; (try dsimp only at hSw); go_simp; (try (with_reducible rfl)); done)); (focus assumption); (try simp only [Act.put, List.setIfInBounds_toArray, List.set_cons_zero, List.set_cons_succ, List.getElem_toArray, List.getElem_cons_succ, List.getElem_cons_zero]))
    (refine wpAnyH_take (i := 1) (v := ?_) rfl ?_ ?_ ?_ (fun _ _ _ h => h) (Or.inl ⟨?_, ?_⟩) ?_ ?_; rotate_left 1; (focus decide +kernel); (focus decide +kernel); (focus decide +kernel); (focus rfl); (focus (intro w hSw; (try dsimp only at hSw); go_simp; (try (with_reducible rfl)); done)); (focus assumption); (try simp only [Act.put, List.setIfInBounds_toArray, List.set_cons_zero, List.set_cons_succ, List.getElem_toArray, List.getElem_cons_succ, List.getElem_cons_zero]))
    (refine wpAnyH_take (i := 2) (v := ?_) rfl ?_ ?_ ?_ (fun _ _ _ h => h) (Or.inl ⟨?_, ?_⟩) ?_ ?_; rotate_left 1; (focus decide +kernel); (focus decide +kernel); (focus decide +kernel); (focus rfl); (focus (intro w hSw; (try dsimp only at hSw); go_simp; (try (with_reducible rfl)); done)); (focus assumption); (try simp only [Act.put, List.setIfInBounds_toArray, List.set_cons_zero, List.set_cons_succ, List.getElem_toArray, List.getElem_cons_succ, List.getElem_cons_zero]))
    (refine wpAnyH_take (i := 3) (v := ?_) rfl ?_ ?_ ?_ (fun _ _ _ h => h) (Or.inl ⟨?_, ?_⟩) ?_ ?_; rotate_left 1; (focus decide +kernel); (focus decide +kernel); (focus decide +kernel); (focus rfl); (focus (intro w hSw; (try dsimp only at hSw); go_simp; (try (with_reducible rfl)); done)); (focus assumption); (try simp only [Act.put, List.setIfInBounds_toArray, List.set_cons_zero, List.set_cons_succ, List.getElem_toArray, List.getElem_cons_succ, List.getElem_cons_zero]))
    (refine wpAnyH_take (i := 4) (v := ?_) rfl ?_ ?_ ?_ (fun _ _ _ h => h) (Or.inl ⟨?_, ?_⟩) ?_ ?_; rotate_left 1; (focus decide +kernel); (focus decide +kernel); (focus decide +kernel); (focus rfl); (focus (intro w hSw; (try dsimp only at hSw); go_simp; (try (with_reducible rfl)); done)); (focus assumption); (try simp only [Act.put, List.setIfInBounds_toArray, List.set_cons_zero, List.set_cons_succ, List.getElem_toArray, List.getElem_cons_succ, List.getElem_cons_zero]))
    (refine wpAnyH_take (i := 5) (v := ?_) rfl ?_ ?_ ?_ (fun _ _ _ h => h) (Or.inl ⟨?_, ?_⟩) ?_ ?_; rotate_left 1; (focus decide +kernel); (focus decide +kernel); (focus decide +kernel); (focus rfl); (focus (intro w hSw; (try dsimp only at hSw); go_simp; (try (with_reducible rfl)); done)); (focus assumption); (try simp only [Act.put, List.setIfInBounds_toArray, List.set_cons_zero, List.set_cons_succ, List.getElem_toArray, List.getElem_cons_succ, List.getElem_cons_zero]))
    (refine wpAnyH_take (i := 6) (v := ?_) rfl ?_ ?_ ?_ (fun _ _ _ h => h) (Or.inl ⟨?_, ?_⟩) ?_ ?_; rotate_left 1; (focus decide +kernel); (focus decide +kernel); (focus decide +kernel); (focus rfl); (focus (intro w hSw; (try dsimp only at hSw); go_simp; (try (with_reducible rfl)); done)); (focus assumption); (try simp only [Act.put, List.setIfInBounds_toArray, List.set_cons_zero, List.set_cons_succ, List.getElem_toArray, List.getElem_cons_succ, List.getElem_cons_zero]))
    (refine wpAnyH_take (i := 7) (v := ?_) rfl ?_ ?_ ?_ (fun _ _ _ h => h) (Or.inl ⟨?_, ?_⟩) ?_ ?_; rotate_left 1; (focus decide +kernel); (focus decide +kernel); (focus decide +kernel); (focus rfl); (focus (intro w hSw; (try dsimp only at hSw); go_simp; (try (with_reducible rfl)); done)); (focus assumption); (try simp only [Act.put, List.setIfInBounds_toArray, List.set_cons_zero, List.set_cons_succ, List.getElem_toArray, List.getElem_cons_succ, List.getElem_cons_zero]))
    (refine wpAnyH_take (i := 8) (v := ?_) rfl ?_ ?_ ?_ (fun _ _ _ h => h) (Or.inl ⟨?_, ?_⟩) ?_ ?_; rotate_left 1; (focus decide +kernel); (focus decide +kernel); (focus decide +kernel); (focus rfl); (focus (intro w hSw; (try dsimp only at hSw); go_simp; (try (with_reducible rfl)); done)); (focus assumption); (try simp only [Act.put, List.setIfInBounds_toArray, List.set_cons_zero, List.set_cons_succ, List.getElem_toArray, List.getElem_cons_succ, List.getElem_cons_zero]))
    (refine wpAnyH_take (i := 9) (v := ?_) rfl ?_ ?_ ?_ (fun _ _ _ h => h) (Or.inl ⟨?_, ?_⟩) ?_ ?_; rotate_left 1; (focus decide +kernel); (focus decide +kernel); (focus decide +kernel); (focus rfl); (focus (intro w hSw; (try dsimp only at hSw); go_simp; (try (with_reducible rfl)); done)); (focus assumption); (try simp only [Act.put, List.setIfInBounds_toArray, List.set_cons_zero, List.set_cons_succ, List.getElem_toArray, List.getElem_cons_succ, List.getElem_cons_zero]))
    (refine wpAnyH_take (i := 10) (v := ?_) rfl ?_ ?_ ?_ (fun _ _ _ h => h) (Or.inl ⟨?_, ?_⟩) ?_ ?_; rotate_left 1; (focus decide +kernel); (focus decide +kernel); (focus decide +kernel); (focus rfl); (focus (intro w hSw; (try dsimp only at hSw); go_simp; (try (with_reducible rfl)); done)); (focus assumption); (try simp only [Act.put, List.setIfInBounds_toArray, List.set_cons_zero, List.set_cons_succ, List.getElem_toArray, List.getElem_cons_succ, List.getElem_cons_zero]))
    (refine wpAnyH_take (i := 11) (v := ?_) rfl ?_ ?_ ?_ (fun _ _ _ h => h) (Or.inl ⟨?_, ?_⟩) ?_ ?_; rotate_left 1; (focus decide +kernel); (focus decide +kernel); (focus decide +kernel); (focus rfl); (focus (intro w hSw; (try dsimp only at hSw); go_simp; (try (with_reducible rfl)); done)); (focus assumption); (try simp only [Act.put, List.setIfInBounds_toArray, List.set_cons_zero, List.set_cons_succ, List.getElem_toArray, List.getElem_cons_succ, List.getElem_cons_zero]))
    refine wpAnyH_ready (rs := [12]) ?_ (by simp) ?_
    · decide +kernel
    refine AllReadyH.cons rfl (fun K hK => ?_) AllReadyH.nil
    go_simp
    have bel := below1 wD (Obj.cells #[.slice (some ⟨b1, o1, none⟩) p c1, .slice (some ⟨b2, o2, none⟩) (n - p) (0)] 22)
    have lmS := belD.size
    replace belD := belD.trans (bel.mono belD.size)
    refine hK.out _ _ ?_ (fun hHeld2 => ?_)
    · (try dsimp only); exact next6_0 belD HD0.out
    clear hK K hHeld bel
    obtain ⟨vc, hWa⟩ : ∃ vc, vc = wD.alloc (Obj.cells #[.slice (some ⟨b1, o1, none⟩) p c1, .slice (some ⟨b2, o2, none⟩) (n - p) (0)] 22) := ⟨_, rfl⟩
    obtain ⟨NC, hNa⟩ : ∃ NC, NC = wD.heap.size := ⟨_, rfl⟩
    have kC : vc.heap[NC]? = some (Obj.cells #[.slice (some ⟨b1, o1, none⟩) p c1, .slice (some ⟨b2, o2, none⟩) (n - p) (0)] 22) := by rw [hWa]; exact FNew.heap_top hNa
    have lmC : wD.heap.size ≤ NC := by rw [hNa]; exact lmS
    clear lmS
    rw [← hWa] at belD
    (try dsimp only at hHeld2)
    simp only [← hWa, ← hNa] at hHeld2 ⊢
    clear hWa hNa
    have hHeld := hHeld2
    clear hHeld2
    (try simp only [Act.put, List.setIfInBounds_toArray, List.set_cons_zero, List.set_cons_succ, List.getElem_toArray, List.getElem_cons_succ, List.getElem_cons_zero])
    refine wpAnyH_ready (rs := [13]) ?_ (by simp) ?_
    · decide +kernel
    refine AllReadyH.cons rfl (fun K hK => ?_) AllReadyH.nil
    go_simp
    go_at_call 109
    refine (concatCut (xs := xs) (ys := ys) (o2 := o2) HX.out HY.out HN.out hpn (Go.Joins.cell_of_block kC 0) (show _ = some (Value.slice (some ⟨b2, o2, none⟩) (n - p) (0)) from by rw [Go.Joins.cell_of_block kC 1]; rfl) (.inr HPN.out) (Nat.lt_of_lt_of_le HL1.out (HD0.out.1.trans (belD.mono HD0.out.1.size)).size) (Nat.lt_of_lt_of_le HL2.out (HD0.out.1.trans (belD.mono HD0.out.1.size)).size) (fun i hi => ((HD0.out.1.trans (belD.mono HD0.out.1.size)).cell (p := ⟨b1, o1 + i, none⟩) HL1.out).trans (HC1.out i hi)) (fun i hi => ((HD0.out.1.trans (belD.mono HD0.out.1.size)).cell (p := ⟨b2, o2 + i, none⟩) HL2.out).trans (HC2.out i hi))).mono ?_
    rintro e wc ⟨b', k, rfl, oO, loO, bel⟩
    have lmO : wD.heap.size ≤ b' := Nat.le_trans belD.size loO
    have nC_O : NC ≠ b' := Nat.ne_of_lt (Nat.lt_of_lt_of_le (heap_lt kC) loO)
    clear loO
    replace belD := belD.trans (bel.mono belD.size)
    replace kC := heap_keep bel kC
    refine hK.out _ _ ?_ (fun hHeld2 => ?_)
    · (try dsimp only); exact next6_0 belD HD0.out
    clear hK K hHeld bel
    have hHeld := hHeld2
    clear hHeld2
    (try simp only [Act.put, List.setIfInBounds_toArray, List.set_cons_zero, List.set_cons_succ, List.getElem_toArray, List.getElem_cons_succ, List.getElem_cons_zero])
    (refine wpAnyH_take (i := 14) (v := ?_) rfl ?_ ?_ ?_ (fun _ _ _ h => h) (Or.inl ⟨?_, ?_⟩) ?_ ?_; rotate_left 1; (focus decide +kernel); (focus decide +kernel); (focus decide +kernel); (focus rfl); (focus (intro w hSw; (try dsimp only at hSw); go_simp; (try (with_reducible rfl)); done)); (focus assumption); (try simp only [Act.put, List.setIfInBounds_toArray, List.set_cons_zero, List.set_cons_succ, List.getElem_toArray, List.getElem_cons_succ, List.getElem_cons_zero]))
    refine wpAnyH_ready (rs := [15]) ?_ (by simp) ?_
    · decide +kernel
    refine AllReadyH.cons rfl (fun K hK => ?_) AllReadyH.nil
    have kT := heap_keep belD HKT.out
    have HNB : Hid (NT ≠ b') := Nat.ne_of_lt (Nat.lt_of_lt_of_le (heap_lt HKT.out) lmO)
    have y0 : wc.cell? ⟨NT, 0, none⟩ = some (.int .i64 0) := Go.Joins.cell_of_block kT 0
    have y1 : wc.cell? ⟨NT, 1, none⟩ = some (.int .i64 0) := Go.Joins.cell_of_block kT 1
    have y2 : wc.cell? ⟨NT, 2, none⟩ = some (.slice none 0 0) := Go.Joins.cell_of_block kT 2
    have g0 : wc.frozen? ⟨NT, 0, none⟩ = false := Go.Joins.unfrozen_of_block kT 0
    have g1 : wc.frozen? ⟨NT, 1, none⟩ = false := Go.Joins.unfrozen_of_block kT 1
    have g2 : wc.frozen? ⟨NT, 2, none⟩ = false := Go.Joins.unfrozen_of_block kT 2
    have HKT2 := hid kT
    have HH2 := hid hHeld
    clear kT
    go_simp
    clear y0 y1 y2 g0 g1 g2
    have q0 := (Go.Joins.block_setCell (i := 2) (Go.Joins.block_setCell (i := 1) (Go.Joins.block_setCell (i := 0) HKT2.out (.int .i64 s)) (.int .i64 r)) (.slice (some ⟨b', 0, none⟩) n k))
    have oz := (own_set (own_set (own_set oO ⟨NT, 0, none⟩ (.int .i64 s) HNB.out) ⟨NT, 1, none⟩ (.int .i64 r) HNB.out) ⟨NT, 2, none⟩ (.slice (some ⟨b', 0, none⟩) n k) HNB.out)
    have bz := (((HH2.out.1.setCell (p := ⟨NT, 0, none⟩) HNT.out (.int .i64 s)).setCell (p := ⟨NT, 1, none⟩) HNT.out (.int .i64 r)).setCell (p := ⟨NT, 2, none⟩) HNT.out (.slice (some ⟨b', 0, none⟩) n k))
    have cz : (((wc.setCell ⟨NT, 0, none⟩ (.int .i64 s)).setCell ⟨NT, 1, none⟩ (.int .i64 r)).setCell ⟨NT, 2, none⟩ (.slice (some ⟨b', 0, none⟩) n k)).cell? ⟨NA, 0, none⟩ = some (.int .i64 s) ∧ (((wc.setCell ⟨NT, 0, none⟩ (.int .i64 s)).setCell ⟨NT, 1, none⟩ (.int .i64 r)).setCell ⟨NT, 2, none⟩ (.slice (some ⟨b', 0, none⟩) n k)).cell? ⟨NA, 1, none⟩ = some (.int .i64 r) ∧ (((wc.setCell ⟨NT, 0, none⟩ (.int .i64 s)).setCell ⟨NT, 1, none⟩ (.int .i64 r)).setCell ⟨NT, 2, none⟩ (.slice (some ⟨b', 0, none⟩) n k)).cell? ⟨NA, 2, none⟩ = some (.slice (some ⟨b1, o1, none⟩) n c1) ∧ (((wc.setCell ⟨NT, 0, none⟩ (.int .i64 s)).setCell ⟨NT, 1, none⟩ (.int .i64 r)).setCell ⟨NT, 2, none⟩ (.slice (some ⟨b', 0, none⟩) n k)).cell? ⟨NB, 0, none⟩ = some (.int .i64 s2) ∧ (((wc.setCell ⟨NT, 0, none⟩ (.int .i64 s)).setCell ⟨NT, 1, none⟩ (.int .i64 r)).setCell ⟨NT, 2, none⟩ (.slice (some ⟨b', 0, none⟩) n k)).cell? ⟨NB, 1, none⟩ = some (.int .i64 r2) ∧ (((wc.setCell ⟨NT, 0, none⟩ (.int .i64 s)).setCell ⟨NT, 1, none⟩ (.int .i64 r)).setCell ⟨NT, 2, none⟩ (.slice (some ⟨b', 0, none⟩) n k)).cell? ⟨NB, 2, none⟩ = some (.slice (some ⟨b2, o2, none⟩) n c2) := ⟨(set_cellN (set_cellN (set_cellN HH2.out.2.1 HNE.out.1) HNE.out.1) HNE.out.1), (set_cellN (set_cellN (set_cellN HH2.out.2.2.1 HNE.out.1) HNE.out.1) HNE.out.1), (set_cellN (set_cellN (set_cellN HH2.out.2.2.2.1 HNE.out.1) HNE.out.1) HNE.out.1), (set_cellN (set_cellN (set_cellN HH2.out.2.2.2.2.1 HNE.out.2) HNE.out.2) HNE.out.2), (set_cellN (set_cellN (set_cellN HH2.out.2.2.2.2.2.1 HNE.out.2) HNE.out.2) HNE.out.2), (set_cellN (set_cellN (set_cellN HH2.out.2.2.2.2.2.2.1 HNE.out.2) HNE.out.2) HNE.out.2)⟩
    obtain ⟨W5, hW5⟩ : ∃ W5, W5 = (((wc.setCell ⟨NT, 0, none⟩ (.int .i64 s)).setCell ⟨NT, 1, none⟩ (.int .i64 r)).setCell ⟨NT, 2, none⟩ (.slice (some ⟨b', 0, none⟩) n k)) := ⟨_, rfl⟩
    rw [← hW5] at q0 oz bz cz
    refine hK.out _ _ ?_ (fun hHeld2 => ?_)
    · (try dsimp only); rw [← hW5]; exact ⟨bz, cz.1, cz.2.1, cz.2.2.1, cz.2.2.2.1, cz.2.2.2.2.1, cz.2.2.2.2.2, bz.size⟩
    clear hK K hHeld cz
    (try dsimp only at hHeld2)
    simp only [← hW5] at hHeld2 ⊢
    clear hW5
    have hHeld := hHeld2
    clear hHeld2
    (try simp only [Act.put, List.setIfInBounds_toArray, List.set_cons_zero, List.set_cons_succ, List.getElem_toArray, List.getElem_cons_succ, List.getElem_cons_zero])
    refine wpAnyH_done (by kernel_rfl) ?_ _
    have HLo : Hid (w.heap.size ≤ b') := Nat.le_trans HD0.out.1.size lmO
    have z0 : W5.cell? ⟨NT, 0, none⟩ = some (.int .i64 s) := Go.Joins.cell_of_block q0 0
    have z1 : W5.cell? ⟨NT, 1, none⟩ = some (.int .i64 r) := Go.Joins.cell_of_block q0 1
    have z2 : W5.cell? ⟨NT, 2, none⟩ = some (.slice (some ⟨b', 0, none⟩) n k) := Go.Joins.cell_of_block q0 2
    have HOZ := hid oz
    have HBZ := hid bz
    clear q0 oz bz hHeld belD lmC kC oO lmO nC_O
    go_wp2
    simp [bodyPost, results, Try.results68, go_sem, z0, z1, z2]
    exact ⟨b', k, ⟨rfl, rfl⟩, HOZ.out, HLo.out, HBZ.out⟩
  · have hcp2 : ¬ c2 = p := hcp
    clear hcp
    refine wp_region_held_drew (S := (fun ww => Below w.heap.size w ww ∧ ww.cell? ⟨NA, 0, none⟩ = some (.int .i64 s) ∧ ww.cell? ⟨NA, 1, none⟩ = some (.int .i64 r) ∧ ww.cell? ⟨NA, 2, none⟩ = some (.slice (some ⟨b1, o1, none⟩) n c1) ∧ ww.cell? ⟨NB, 0, none⟩ = some (.int .i64 s2) ∧ ww.cell? ⟨NB, 1, none⟩ = some (.int .i64 r2) ∧ ww.cell? ⟨NB, 2, none⟩ = some (.slice (some ⟨b2, o2, none⟩) n c2) ∧ w.heap.size ≤ ww.heap.size)) (by kernel_rfl) ?_ (fun hHeld => ?_)
    · ((try dsimp only); exact drew6_0 st)
    generalize hD : w1.drew = wD at hHeld ⊢
    have HKT : Hid (wD.heap[NT]? = some (Obj.cells #[.int .i64 0, .int .i64 0, .slice none 0 0] 44)) := by simp only [Hid]; rw [← hD]; exact kT
    have HD0 := hid hHeld
    have belD : Below wD.heap.size wD wD := Below.refl _ _
    clear hD st kT
    (refine wpAnyH_take (i := 0) (v := ?_) rfl ?_ ?_ ?_ (fun _ _ _ h => h) (Or.inl ⟨?_, ?_⟩) ?_ ?_; rotate_left 1; (focus decide +kernel); (focus decide +kernel); (focus decide +kernel); (focus rfl); (focus (intro w hSw; (try dsimp only at hSw); go_simp; (try (with_reducible rfl)); done)); (focus assumption); (try simp only [Act.put, List.setIfInBounds_toArray, List.set_cons_zero, List.set_cons_succ, List.getElem_toArray, List.getElem_cons_succ, List.getElem_cons_zero]))
    (refine wpAnyH_take (i := 1) (v := ?_) rfl ?_ ?_ ?_ (fun _ _ _ h => h) (Or.inl ⟨?_, ?_⟩) ?_ ?_; rotate_left 1; (focus decide +kernel); (focus decide +kernel); (focus decide +kernel); (focus rfl); (focus (intro w hSw; (try dsimp only at hSw); go_simp; (try (with_reducible rfl)); done)); (focus assumption); (try simp only [Act.put, List.setIfInBounds_toArray, List.set_cons_zero, List.set_cons_succ, List.getElem_toArray, List.getElem_cons_succ, List.getElem_cons_zero]))
    (refine wpAnyH_take (i := 2) (v := ?_) rfl ?_ ?_ ?_ (fun _ _ _ h => h) (Or.inl ⟨?_, ?_⟩) ?_ ?_; rotate_left 1; (focus decide +kernel); (focus decide +kernel); (focus decide +kernel); (focus rfl); (focus (intro w hSw; (try dsimp only at hSw); go_simp; (try (with_reducible rfl)); done)); (focus assumption); (try simp only [Act.put, List.setIfInBounds_toArray, List.set_cons_zero, List.set_cons_succ, List.getElem_toArray, List.getElem_cons_succ, List.getElem_cons_zero]))
    (refine wpAnyH_take (i := 3) (v := ?_) rfl ?_ ?_ ?_ (fun _ _ _ h => h) (Or.inl ⟨?_, ?_⟩) ?_ ?_; rotate_left 1; (focus decide +kernel); (focus decide +kernel); (focus decide +kernel); (focus rfl); (focus (intro w hSw; (try dsimp only at hSw); go_simp; (try (with_reducible rfl)); done)); (focus assumption); (try simp only [Act.put, List.setIfInBounds_toArray, List.set_cons_zero, List.set_cons_succ, List.getElem_toArray, List.getElem_cons_succ, List.getElem_cons_zero]))
    (refine wpAnyH_take (i := 4) (v := ?_) rfl ?_ ?_ ?_ (fun _ _ _ h => h) (Or.inl ⟨?_, ?_⟩) ?_ ?_; rotate_left 1; (focus decide +kernel); (focus decide +kernel); (focus decide +kernel); (focus rfl); (focus (intro w hSw; (try dsimp only at hSw); go_simp; (try (with_reducible rfl)); done)); (focus assumption); (try simp only [Act.put, List.setIfInBounds_toArray, List.set_cons_zero, List.set_cons_succ, List.getElem_toArray, List.getElem_cons_succ, List.getElem_cons_zero]))
    (refine wpAnyH_take (i := 5) (v := ?_) rfl ?_ ?_ ?_ (fun _ _ _ h => h) (Or.inl ⟨?_, ?_⟩) ?_ ?_; rotate_left 1; (focus decide +kernel); (focus decide +kernel); (focus decide +kernel); (focus rfl); (focus (intro w hSw; (try dsimp only at hSw); go_simp; (try (with_reducible rfl)); done)); (focus assumption); (try simp only [Act.put, List.setIfInBounds_toArray, List.set_cons_zero, List.set_cons_succ, List.getElem_toArray, List.getElem_cons_succ, List.getElem_cons_zero]))
    (refine wpAnyH_take (i := 6) (v := ?_) rfl ?_ ?_ ?_ (fun _ _ _ h => h) (Or.inl ⟨?_, ?_⟩) ?_ ?_; rotate_left 1; (focus decide +kernel); (focus decide +kernel); (focus decide +kernel); (focus rfl); (focus (intro w hSw; (try dsimp only at hSw); go_simp; (try (with_reducible rfl)); done)); (focus assumption); (try simp only [Act.put, List.setIfInBounds_toArray, List.set_cons_zero, List.set_cons_succ, List.getElem_toArray, List.getElem_cons_succ, List.getElem_cons_zero]))
    (refine wpAnyH_take (i := 7) (v := ?_) rfl ?_ ?_ ?_ (fun _ _ _ h => h) (Or.inl ⟨?_, ?_⟩) ?_ ?_; rotate_left 1; (focus decide +kernel); (focus decide +kernel); (focus decide +kernel); (focus rfl); (focus (intro w hSw; (try dsimp only at hSw); go_simp; (try (with_reducible rfl)); done)); (focus assumption); (try simp only [Act.put, List.setIfInBounds_toArray, List.set_cons_zero, List.set_cons_succ, List.getElem_toArray, List.getElem_cons_succ, List.getElem_cons_zero]))
    (refine wpAnyH_take (i := 8) (v := ?_) rfl ?_ ?_ ?_ (fun _ _ _ h => h) (Or.inl ⟨?_, ?_⟩) ?_ ?_; rotate_left 1; (focus decide +kernel); (focus decide +kernel); (focus decide +kernel); (focus rfl); (focus (intro w hSw; (try dsimp only at hSw); go_simp; (try (with_reducible rfl)); done)); (focus assumption); (try simp only [Act.put, List.setIfInBounds_toArray, List.set_cons_zero, List.set_cons_succ, List.getElem_toArray, List.getElem_cons_succ, List.getElem_cons_zero]))
    (refine wpAnyH_take (i := 9) (v := ?_) rfl ?_ ?_ ?_ (fun _ _ _ h => h) (Or.inl ⟨?_, ?_⟩) ?_ ?_; rotate_left 1; (focus decide +kernel); (focus decide +kernel); (focus decide +kernel); (focus rfl); (focus (intro w hSw; (try dsimp only at hSw); go_simp; (try (with_reducible rfl)); done)); (focus assumption); (try simp only [Act.put, List.setIfInBounds_toArray, List.set_cons_zero, List.set_cons_succ, List.getElem_toArray, List.getElem_cons_succ, List.getElem_cons_zero]))
    (refine wpAnyH_take (i := 10) (v := ?_) rfl ?_ ?_ ?_ (fun _ _ _ h => h) (Or.inl ⟨?_, ?_⟩) ?_ ?_; rotate_left 1; (focus decide +kernel); (focus decide +kernel); (focus decide +kernel); (focus rfl); (focus (intro w hSw; (try dsimp only at hSw); go_simp; (try (with_reducible rfl)); done)); (focus assumption); (try simp only [Act.put, List.setIfInBounds_toArray, List.set_cons_zero, List.set_cons_succ, List.getElem_toArray, List.getElem_cons_succ, List.getElem_cons_zero]))
    (refine wpAnyH_take (i := 11) (v := ?_) rfl ?_ ?_ ?_ (fun _ _ _ h => h) (Or.inl ⟨?_, ?_⟩) ?_ ?_; rotate_left 1; (focus decide +kernel); (focus decide +kernel); (focus decide +kernel); (focus rfl); (focus (intro w hSw; (try dsimp only at hSw); go_simp; (try (with_reducible rfl)); done)); (focus assumption); (try simp only [Act.put, List.setIfInBounds_toArray, List.set_cons_zero, List.set_cons_succ, List.getElem_toArray, List.getElem_cons_succ, List.getElem_cons_zero]))
    refine wpAnyH_ready (rs := [12]) ?_ (by simp) ?_
    · decide +kernel
    refine AllReadyH.cons rfl (fun K hK => ?_) AllReadyH.nil
    go_simp
    have bel := below1 wD (Obj.cells #[.slice (some ⟨b1, o1, none⟩) p c1, .slice (some ⟨b2, o2 + p, none⟩) (n - p) (c2 - p)] 22)
    have lmS := belD.size
    replace belD := belD.trans (bel.mono belD.size)
    refine hK.out _ _ ?_ (fun hHeld2 => ?_)
    · (try dsimp only); exact next6_0 belD HD0.out
    clear hK K hHeld bel
    obtain ⟨vc, hWa⟩ : ∃ vc, vc = wD.alloc (Obj.cells #[.slice (some ⟨b1, o1, none⟩) p c1, .slice (some ⟨b2, o2 + p, none⟩) (n - p) (c2 - p)] 22) := ⟨_, rfl⟩
    obtain ⟨NC, hNa⟩ : ∃ NC, NC = wD.heap.size := ⟨_, rfl⟩
    have kC : vc.heap[NC]? = some (Obj.cells #[.slice (some ⟨b1, o1, none⟩) p c1, .slice (some ⟨b2, o2 + p, none⟩) (n - p) (c2 - p)] 22) := by rw [hWa]; exact FNew.heap_top hNa
    have lmC : wD.heap.size ≤ NC := by rw [hNa]; exact lmS
    clear lmS
    rw [← hWa] at belD
    (try dsimp only at hHeld2)
    simp only [← hWa, ← hNa] at hHeld2 ⊢
    clear hWa hNa
    have hHeld := hHeld2
    clear hHeld2
    (try simp only [Act.put, List.setIfInBounds_toArray, List.set_cons_zero, List.set_cons_succ, List.getElem_toArray, List.getElem_cons_succ, List.getElem_cons_zero])
    refine wpAnyH_ready (rs := [13]) ?_ (by simp) ?_
    · decide +kernel
    refine AllReadyH.cons rfl (fun K hK => ?_) AllReadyH.nil
    go_simp
    go_at_call 109
    refine (concatCut (xs := xs) (ys := ys) (o2 := o2) HX.out HY.out HN.out hpn (Go.Joins.cell_of_block kC 0) (show _ = some (Value.slice (some ⟨b2, o2 + p, none⟩) (n - p) (c2 - p)) from by rw [Go.Joins.cell_of_block kC 1]; rfl) (.inl rfl) (Nat.lt_of_lt_of_le HL1.out (HD0.out.1.trans (belD.mono HD0.out.1.size)).size) (Nat.lt_of_lt_of_le HL2.out (HD0.out.1.trans (belD.mono HD0.out.1.size)).size) (fun i hi => ((HD0.out.1.trans (belD.mono HD0.out.1.size)).cell (p := ⟨b1, o1 + i, none⟩) HL1.out).trans (HC1.out i hi)) (fun i hi => ((HD0.out.1.trans (belD.mono HD0.out.1.size)).cell (p := ⟨b2, o2 + i, none⟩) HL2.out).trans (HC2.out i hi))).mono ?_
    rintro e wc ⟨b', k, rfl, oO, loO, bel⟩
    have lmO : wD.heap.size ≤ b' := Nat.le_trans belD.size loO
    have nC_O : NC ≠ b' := Nat.ne_of_lt (Nat.lt_of_lt_of_le (heap_lt kC) loO)
    clear loO
    replace belD := belD.trans (bel.mono belD.size)
    replace kC := heap_keep bel kC
    refine hK.out _ _ ?_ (fun hHeld2 => ?_)
    · (try dsimp only); exact next6_0 belD HD0.out
    clear hK K hHeld bel
    have hHeld := hHeld2
    clear hHeld2
    (try simp only [Act.put, List.setIfInBounds_toArray, List.set_cons_zero, List.set_cons_succ, List.getElem_toArray, List.getElem_cons_succ, List.getElem_cons_zero])
    (refine wpAnyH_take (i := 14) (v := ?_) rfl ?_ ?_ ?_ (fun _ _ _ h => h) (Or.inl ⟨?_, ?_⟩) ?_ ?_; rotate_left 1; (focus decide +kernel); (focus decide +kernel); (focus decide +kernel); (focus rfl); (focus (intro w hSw; (try dsimp only at hSw); go_simp; (try (with_reducible rfl)); done)); (focus assumption); (try simp only [Act.put, List.setIfInBounds_toArray, List.set_cons_zero, List.set_cons_succ, List.getElem_toArray, List.getElem_cons_succ, List.getElem_cons_zero]))
    refine wpAnyH_ready (rs := [15]) ?_ (by simp) ?_
    · decide +kernel
    refine AllReadyH.cons rfl (fun K hK => ?_) AllReadyH.nil
    have kT := heap_keep belD HKT.out
    have HNB : Hid (NT ≠ b') := Nat.ne_of_lt (Nat.lt_of_lt_of_le (heap_lt HKT.out) lmO)
    have y0 : wc.cell? ⟨NT, 0, none⟩ = some (.int .i64 0) := Go.Joins.cell_of_block kT 0
    have y1 : wc.cell? ⟨NT, 1, none⟩ = some (.int .i64 0) := Go.Joins.cell_of_block kT 1
    have y2 : wc.cell? ⟨NT, 2, none⟩ = some (.slice none 0 0) := Go.Joins.cell_of_block kT 2
    have g0 : wc.frozen? ⟨NT, 0, none⟩ = false := Go.Joins.unfrozen_of_block kT 0
    have g1 : wc.frozen? ⟨NT, 1, none⟩ = false := Go.Joins.unfrozen_of_block kT 1
    have g2 : wc.frozen? ⟨NT, 2, none⟩ = false := Go.Joins.unfrozen_of_block kT 2
    have HKT2 := hid kT
    have HH2 := hid hHeld
    clear kT
    go_simp
    clear y0 y1 y2 g0 g1 g2
    have q0 := (Go.Joins.block_setCell (i := 2) (Go.Joins.block_setCell (i := 1) (Go.Joins.block_setCell (i := 0) HKT2.out (.int .i64 s)) (.int .i64 r)) (.slice (some ⟨b', 0, none⟩) n k))
    have oz := (own_set (own_set (own_set oO ⟨NT, 0, none⟩ (.int .i64 s) HNB.out) ⟨NT, 1, none⟩ (.int .i64 r) HNB.out) ⟨NT, 2, none⟩ (.slice (some ⟨b', 0, none⟩) n k) HNB.out)
    have bz := (((HH2.out.1.setCell (p := ⟨NT, 0, none⟩) HNT.out (.int .i64 s)).setCell (p := ⟨NT, 1, none⟩) HNT.out (.int .i64 r)).setCell (p := ⟨NT, 2, none⟩) HNT.out (.slice (some ⟨b', 0, none⟩) n k))
    have cz : (((wc.setCell ⟨NT, 0, none⟩ (.int .i64 s)).setCell ⟨NT, 1, none⟩ (.int .i64 r)).setCell ⟨NT, 2, none⟩ (.slice (some ⟨b', 0, none⟩) n k)).cell? ⟨NA, 0, none⟩ = some (.int .i64 s) ∧ (((wc.setCell ⟨NT, 0, none⟩ (.int .i64 s)).setCell ⟨NT, 1, none⟩ (.int .i64 r)).setCell ⟨NT, 2, none⟩ (.slice (some ⟨b', 0, none⟩) n k)).cell? ⟨NA, 1, none⟩ = some (.int .i64 r) ∧ (((wc.setCell ⟨NT, 0, none⟩ (.int .i64 s)).setCell ⟨NT, 1, none⟩ (.int .i64 r)).setCell ⟨NT, 2, none⟩ (.slice (some ⟨b', 0, none⟩) n k)).cell? ⟨NA, 2, none⟩ = some (.slice (some ⟨b1, o1, none⟩) n c1) ∧ (((wc.setCell ⟨NT, 0, none⟩ (.int .i64 s)).setCell ⟨NT, 1, none⟩ (.int .i64 r)).setCell ⟨NT, 2, none⟩ (.slice (some ⟨b', 0, none⟩) n k)).cell? ⟨NB, 0, none⟩ = some (.int .i64 s2) ∧ (((wc.setCell ⟨NT, 0, none⟩ (.int .i64 s)).setCell ⟨NT, 1, none⟩ (.int .i64 r)).setCell ⟨NT, 2, none⟩ (.slice (some ⟨b', 0, none⟩) n k)).cell? ⟨NB, 1, none⟩ = some (.int .i64 r2) ∧ (((wc.setCell ⟨NT, 0, none⟩ (.int .i64 s)).setCell ⟨NT, 1, none⟩ (.int .i64 r)).setCell ⟨NT, 2, none⟩ (.slice (some ⟨b', 0, none⟩) n k)).cell? ⟨NB, 2, none⟩ = some (.slice (some ⟨b2, o2, none⟩) n c2) := ⟨(set_cellN (set_cellN (set_cellN HH2.out.2.1 HNE.out.1) HNE.out.1) HNE.out.1), (set_cellN (set_cellN (set_cellN HH2.out.2.2.1 HNE.out.1) HNE.out.1) HNE.out.1), (set_cellN (set_cellN (set_cellN HH2.out.2.2.2.1 HNE.out.1) HNE.out.1) HNE.out.1), (set_cellN (set_cellN (set_cellN HH2.out.2.2.2.2.1 HNE.out.2) HNE.out.2) HNE.out.2), (set_cellN (set_cellN (set_cellN HH2.out.2.2.2.2.2.1 HNE.out.2) HNE.out.2) HNE.out.2), (set_cellN (set_cellN (set_cellN HH2.out.2.2.2.2.2.2.1 HNE.out.2) HNE.out.2) HNE.out.2)⟩
    obtain ⟨W5, hW5⟩ : ∃ W5, W5 = (((wc.setCell ⟨NT, 0, none⟩ (.int .i64 s)).setCell ⟨NT, 1, none⟩ (.int .i64 r)).setCell ⟨NT, 2, none⟩ (.slice (some ⟨b', 0, none⟩) n k)) := ⟨_, rfl⟩
    rw [← hW5] at q0 oz bz cz
    refine hK.out _ _ ?_ (fun hHeld2 => ?_)
    · (try dsimp only); rw [← hW5]; exact ⟨bz, cz.1, cz.2.1, cz.2.2.1, cz.2.2.2.1, cz.2.2.2.2.1, cz.2.2.2.2.2, bz.size⟩
    clear hK K hHeld cz
    (try dsimp only at hHeld2)
    simp only [← hW5] at hHeld2 ⊢
    clear hW5
    have hHeld := hHeld2
    clear hHeld2
    (try simp only [Act.put, List.setIfInBounds_toArray, List.set_cons_zero, List.set_cons_succ, List.getElem_toArray, List.getElem_cons_succ, List.getElem_cons_zero])
    refine wpAnyH_done (by kernel_rfl) ?_ _
    have HLo : Hid (w.heap.size ≤ b') := Nat.le_trans HD0.out.1.size lmO
    have z0 : W5.cell? ⟨NT, 0, none⟩ = some (.int .i64 s) := Go.Joins.cell_of_block q0 0
    have z1 : W5.cell? ⟨NT, 1, none⟩ = some (.int .i64 r) := Go.Joins.cell_of_block q0 1
    have z2 : W5.cell? ⟨NT, 2, none⟩ = some (.slice (some ⟨b', 0, none⟩) n k) := Go.Joins.cell_of_block q0 2
    have HOZ := hid oz
    have HBZ := hid bz
    clear q0 oz bz hHeld belD lmC kC oO lmO nC_O
    go_wp2
    simp [bodyPost, results, Try.results68, go_sem, z0, z1, z2]
    exact ⟨b', k, ⟨rfl, rfl⟩, HOZ.out, HLo.out, HBZ.out⟩

set_option maxHeartbeats 4000000 in
set_option maxRecDepth 8000 in
theorem l07Cross {w : World} {s2 r2 : Int} {NA NB n p b1 b2 : Nat} {v1 v2 : Value} {xs ys : List Int} (a2 : w.cell? ⟨NA, 2, none⟩ = some v1) (d0 : w.cell? ⟨NB, 0, none⟩ = some (.int .i64 s2)) (d1 : w.cell? ⟨NB, 1, none⟩ = some (.int .i64 r2)) (d2 : w.cell? ⟨NB, 2, none⟩ = some v2) (h1 : Rd w b1 v1 xs) (h2 : Rd w b2 v2 ys) (hx : xs.length = n) (hy : ys.length = n) (hn : 1 ≤ n ∧ n ≤ 1000) (hpn : p ≤ n) :
    Calls Try.prog 66 #[.pointer (some ⟨NA, 0, none⟩), .pointer (some ⟨NB, 0, none⟩), .int .i64 p] w fun e w' => ∃ b' k, e = .returned (ruleV s2 r2 (.slice (some ⟨b', 0, none⟩) n k)) ∧ Own 2 w' b' (.slice (some ⟨b', 0, none⟩) n k) (crossL xs ys p) ∧ w.heap.size ≤ b' ∧ Below w.heap.size w w' := by
  have H2 := hid h2
  obtain ⟨ao1, c1, rfl, hc1, hm1, h41⟩ := h1
  obtain ⟨o1, rfl, hb1, hcell1⟩ := h41 (by omega)
  rw [hx] at hc1 hcell1 a2
  have HC1 := hid hcell1
  have HL1 := hid hb1
  have HX := hid hx
  have HY := hid hy
  have HN := hid hn
  have HZ : Hid (1 ≤ ys.length ∧ ys.length ≤ 1048576) := by simp only [Hid]; omega
  have hm1' : c1 ≤ 9223372036854775807 := by unfold maxLen at hm1; omega
  have HK := hid (And.intro a2 (And.intro d0 (And.intro d1 d2)))
  clear hcell1 hb1 hx hy h41 hm1 a2 d0 d1 d2 h2
  go_enter Try.func66, Try.ntmps66
  go_wp2_with fail
  obtain ⟨w1, hW⟩ : ∃ w1, w1 = w.alloc (Obj.cells #[.int .i64 0, .int .i64 0, .slice none 0 0] 44) := ⟨_, rfl⟩
  obtain ⟨NT, hT⟩ : ∃ NT, NT = w.heap.size := ⟨_, rfl⟩
  have bw : Below w.heap.size w w1 := by rw [hW]; exact below1 _ _
  have kT : w1.heap[NT]? = some (Obj.cells #[.int .i64 0, .int .i64 0, .slice none 0 0] 44) := by rw [hW]; exact FNew.heap_top hT
  have HNT : Hid (w.heap.size ≤ NT) := by simp only [Hid]; omega
  simp only [← hW, ← hT]
  clear hW hT
  go_at_call 108
  refine (ROwn.l02Own (cell_keep bw HK.out.2.1) (cell_keep bw HK.out.2.2.1) (cell_keep bw HK.out.2.2.2) (H2.out.keep bw (Nat.le_refl _)) HZ.out).mono ?_
  rw [HY.out]
  rintro e w2 ⟨b0, k, rfl, ow, lo, hk1, hk2, bel⟩
  have HNTb : Hid (NT ≠ b0) := Nat.ne_of_lt (Nat.lt_of_lt_of_le (heap_lt kT) lo)
  have HLO : Hid (w.heap.size ≤ b0) := Nat.le_trans bw.size lo
  have HkN : Hid (n ≤ k ∧ k ≤ 9223372036854775807) := by simp only [Hid]; have := HY.out; unfold maxLen at hk2; omega
  replace kT := heap_keep bel kT
  have HB2 := hid (bw.trans (bel.mono bw.size))
  have HOW := hid ow
  have HKT := hid kT
  clear bel bw lo ow kT hk1 hk2
  go_wp2_with fail
  obtain ⟨w4, hW⟩ : ∃ w4, w4 = w2.alloc (Obj.cells #[.int .i64 s2, .int .i64 r2, .slice (some ⟨b0, 0, none⟩) n k] 44) := ⟨_, rfl⟩
  obtain ⟨NO, hN⟩ : ∃ NO, NO = w2.heap.size := ⟨_, rfl⟩
  have bel : Below w2.heap.size w2 w4 := by rw [hW]; exact below1 _ _
  have HKO : Hid (w4.heap[NO]? = some (Obj.cells #[.int .i64 s2, .int .i64 r2, .slice (some ⟨b0, 0, none⟩) n k] 44)) := by simp only [Hid]; rw [hW]; exact FNew.heap_top hN
  have HOb : Hid (NO ≠ b0) := by simp only [Hid]; rw [hN]; exact Nat.ne_of_gt HOW.out.lt
  have HKT4 := hid (heap_keep bel HKT.out)
  have HOW4 := hid (HOW.out.keep bel)
  have HB4 := hid (HB2.out.trans (bel.mono HB2.out.size))
  have HNAb : Hid (NA ≠ b0) := Nat.ne_of_lt (Nat.lt_of_lt_of_le (World.block_lt_of_cell? _ _ HK.out.1) HLO.out)
  have HB1b : Hid (b1 ≠ b0) := Nat.ne_of_lt (Nat.lt_of_lt_of_le HL1.out HLO.out)
  have HA4 : Hid (w4.cell? ⟨NA, 2, none⟩ = some (.slice (some ⟨b1, o1, none⟩) n c1)) := cell_keep HB4.out HK.out.1
  have HX4 : Hid (∀ i, i < n → w4.cell? ⟨b1, o1 + i, none⟩ = some (.int .i64 (xs.getD i 0))) := fun i hi => (HB4.out.cell (p := ⟨b1, o1 + i, none⟩) HL1.out).trans (HC1.out i hi)
  simp only [← hW, ← hN]
  clear hW hN bel HKT HOW HB2
  have hkk : n ≤ k ∧ k ≤ 9223372036854775807 := HkN.out
  go_loopw [8] (fun t wr => ∃ j : Nat, j ≤ p ∧ t = .int .i64 (j : Int) ∧ Own 2 wr b0 (.slice (some ⟨b0, 0, none⟩) n k) (crossL xs ys j) ∧ w4.grownBy wr (some b0)) (fun t _ => p - (intOf t).toNat)
  case atStart => exact ⟨0, Nat.zero_le _, rfl, by rw [cross_zero]; exact HOW4.out, g_refl _ _⟩
  case round =>
    clear HOW4
    obtain ⟨j, hj, rfl, hown, hg⟩ := hrel
    have c0 := g_cell hg (Go.Joins.cell_of_block HKO.out 0) HOb.out
    have c1' := g_cell hg (Go.Joins.cell_of_block HKO.out 1) HOb.out
    have c2 := g_cell hg (Go.Joins.cell_of_block HKO.out 2) HOb.out
    have e2 := g_cell hg HA4.out HNAb.out
    by_cases hlt : j < p
    · have hcx := g_cell hg (HX4.out j (by omega)) HB1b.out
      have hlen : (crossL xs ys j).length = n := cross_len HX.out HY.out (by omega)
      have hox := hown.cell (i := j) (by rw [hlen]; omega)
      have hof := hown.free j
      have HO2 := hid hown
      have HG2 := hid hg
      have hji : (j : Int) < (n : Int) := by omega
      have hjp : (j : Int) < (p : Int) := by omega
      obtain ⟨X, hX⟩ : ∃ X, X = xs.getD j 0 := ⟨_, rfl⟩
      have HX0 := hid hX
      rw [← hX] at hcx
      clear hown hg hX hlen
      go_wp2_with fail
      go_still_tail 11, (by kernel_rfl)
      change wpList _ _ _ _ _ wr.drew
      have hoxd : wr.drew.cell? ⟨b0, j, none⟩ = some (.int .i64 ((crossL xs ys j).getD j 0)) := hox
      have hofd : wr.drew.frozen? ⟨b0, j, none⟩ = false := hof
      obtain ⟨wd, hwd⟩ : ∃ wd, wd = wr.drew := ⟨_, rfl⟩
      have HG3 : Hid (w4.grownBy wd (some b0)) := by rw [hwd]; exact g_drew HG2.out
      have HO3 : Hid (Own 2 wd b0 (.slice (some ⟨b0, 0, none⟩) n k) (crossL xs ys j)) := by rw [hwd]; exact HO2.out
      rw [← hwd] at hoxd hofd ⊢
      clear hwd hox hof hcx c0 c1' c2 e2
      go_wp2
      go_roundw
      case rel =>
        refine ⟨j + 1, by omega, by go_num, ?_, g_set HG3.out j _⟩
        rw [← cross_set HX.out HY.out (by omega), ← HX0.out]
        exact HO3.out.set j X
      case measure => simp [intOf]; omega
    · have hj2 : j = p := by omega
      subst hj2
      have kTr := g_heap hg HKT4.out HNTb.out
      have HB := hid (g_below HB4.out hg HLO.out)
      have HLo := HLO
      have HNB := HNTb
      have HO := hid hown
      have c1 := c1'
      clear hown hg hlt e2 c1'
      have y0 : wr.cell? ⟨NT, 0, none⟩ = some (.int .i64 0) := Go.Joins.cell_of_block kTr 0
      have y1 : wr.cell? ⟨NT, 1, none⟩ = some (.int .i64 0) := Go.Joins.cell_of_block kTr 1
      have y2 : wr.cell? ⟨NT, 2, none⟩ = some (.slice none 0 0) := Go.Joins.cell_of_block kTr 2
      have g0 : wr.frozen? ⟨NT, 0, none⟩ = false := Go.Joins.unfrozen_of_block kTr 0
      have g1 : wr.frozen? ⟨NT, 1, none⟩ = false := Go.Joins.unfrozen_of_block kTr 1
      have g2 : wr.frozen? ⟨NT, 2, none⟩ = false := Go.Joins.unfrozen_of_block kTr 2
      have HKx := hid kTr
      clear kTr
      go_wp2
      obtain ⟨W5, hW⟩ : ∃ W5, W5 = (((wr.setCell ⟨NT, 0, none⟩ (.int .i64 s2)).setCell ⟨NT, 1, none⟩ (.int .i64 r2)).setCell ⟨NT, 2, none⟩ (.slice (some ⟨b0, 0, none⟩) n k)) := ⟨_, rfl⟩
      have q0 := (Go.Joins.block_setCell (i := 2) (Go.Joins.block_setCell (i := 1) (Go.Joins.block_setCell (i := 0) HKx.out (.int .i64 s2)) (.int .i64 r2)) (.slice (some ⟨b0, 0, none⟩) n k))
      rw [← hW] at q0
      have z0 : W5.cell? ⟨NT, 0, none⟩ = some (.int .i64 s2) := Go.Joins.cell_of_block q0 0
      have z1 : W5.cell? ⟨NT, 1, none⟩ = some (.int .i64 r2) := Go.Joins.cell_of_block q0 1
      have z2 : W5.cell? ⟨NT, 2, none⟩ = some (.slice (some ⟨b0, 0, none⟩) n k) := Go.Joins.cell_of_block q0 2
      have O5 := (own_set (own_set (own_set HO.out ⟨NT, 0, none⟩ (.int .i64 s2) HNB.out) ⟨NT, 1, none⟩ (.int .i64 r2) HNB.out) ⟨NT, 2, none⟩ (.slice (some ⟨b0, 0, none⟩) n k) HNB.out)
      rw [← hW] at O5
      have B5 : Below w.heap.size w W5 := by
        have h1 := HNT.out
        rw [hW]
        exact ((HB.out.setCell (by simp; omega) _).setCell (by simp; omega) _).setCell (by simp; omega) _
      simp only [← hW]
      clear hW q0
      simp [bodyPost, results, Try.results66, go_sem, z0, z1, z2]
      exact ⟨b0, k, ⟨rfl, rfl⟩, O5, HLo.out, B5⟩


end Go.Proofs.Ythcbhbdgbiiagaa.Crs
