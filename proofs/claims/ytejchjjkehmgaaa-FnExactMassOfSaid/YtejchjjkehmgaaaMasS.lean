/- MassOf of the model. -/
import Derived.Test.YtejchjjkehmgaaaWVal
import Derived.Test.YtejchjjkehmgaaaFsm
namespace Go.Proofs.Ytejchjjkehmgaaa.MasS
open Go.RowKit Go.Proofs.Ytejchjjkehmgaaa.Rd Go.Proofs.Ytejchjjkehmgaaa.Rdb Go.Proofs.Ytejchjjkehmgaaa.Rdf Go.Proofs.Ytejchjjkehmgaaa.Fl Go.Proofs.Ytejchjjkehmgaaa.Help Go.Proofs.Ytejchjjkehmgaaa.Ring Go.Proofs.Ytejchjjkehmgaaa.Small Go.Proofs.Ytejchjjkehmgaaa.Keep Go.Proofs.Ytejchjjkehmgaaa.Rule Go.Proofs.Ytejchjjkehmgaaa.WVal
open Go.Proofs.Ytejchjjkehmgaaa.Fsm (accF sumG is_word is_zero)
set_option linter.unusedVariables false
set_option linter.unusedSimpArgs false

theorem fi3 {a : Int} (h : -1 ≤ a ∧ a ≤ 1) : Is .f32 (floatOfInt .f32 a) (some (floatOfInt .f32 a)) := by
  rcases (show a = -1 ∨ a = 0 ∨ a = 1 by omega) with rfl | rfl | rfl <;> exact Is_some (by decide +kernel) (by decide +kernel)
theorem part_w32 {zs : List Nat} (h : W32 zs) (i k : Nat) : W32 ((zs.drop i).take k) := by
  intro j
  by_cases hj : j < k
  · have := h (i + j)
    simpa [List.getD, hj] using this
  · have e : (List.take k (List.drop i zs))[j]? = none := by rw [List.getElem?_take, if_neg hj]
    simp [List.getD, e]
theorem rdF_part {w : World} {b o n cap : Nat} {zs : List Nat} (h : RdF w b (.slice (some ⟨b, o, none⟩) n cap) zs) (i k : Nat) (hik : i + k ≤ zs.length) : RdF w b (.slice (some ⟨b, o + i, none⟩) k (cap - i)) ((zs.drop i).take k) := by
  obtain ⟨ao, c, h1, h2, h3, h4⟩ := h
  simp only [Value.slice.injEq] at h1
  obtain ⟨h1a, h1b, h1c⟩ := h1
  have hk : ((zs.drop i).take k).length = k := by simp; omega
  refine ⟨some ⟨b, o + i, none⟩, cap - i, by rw [hk], by rw [hk]; omega, ⟨by have := h3.1; omega, part_w32 h3.2 i k⟩, fun h0 => ⟨o + i, rfl, ?_, fun j hj => ?_⟩⟩
  · rw [hk] at h0
    obtain ⟨_, _, hb, _⟩ := h4 (by omega)
    exact hb
  · rw [hk] at hj
    obtain ⟨off, h5, hb, hc⟩ := h4 (by omega)
    rw [← h1a] at h5
    simp only [Option.some.injEq, Addr.mk.injEq, true_and, and_true] at h5
    subst h5
    rw [Nat.add_assoc, hc (i + j) (by omega)]
    simp [List.getD, hj]

theorem heap_keep {w w' : World} {n : Nat} {o : Obj} (bel : Below w.heap.size w w') (h : w.heap[n]? = some o) : w'.heap[n]? = some o :=
  (bel.block n (Array.getElem?_eq_some_iff.1 h).1).trans h
theorem heap_lt {w : World} {n : Nat} {o : Obj} (h : w.heap[n]? = some o) : n < w.heap.size := (Array.getElem?_eq_some_iff.1 h).1
theorem nxS {N : Nat} {w0 w w' : World} (bel : Below w.heap.size w w') (h : Below N w0 w ∧ N ≤ w.heap.size) : Below N w0 w' ∧ N ≤ w'.heap.size := ⟨h.1.trans (bel.mono h.2), Nat.le_trans h.2 bel.size⟩
theorem at9a {q : Nat} (hq : q < 9) : ∃ x : Int, (#[.int .i64 0, .int .i64 0, .int .i64 1, .int .i64 0, .int .i64 (-1), .int .i64 1, .int .i64 1, .int .i64 (-1), .int .i64 (-1)] : Array Value)[q]? = some (.int .i64 x) ∧ (-1 ≤ x ∧ x ≤ 1) := by
  rcases (show q = 0 ∨ q = 1 ∨ q = 2 ∨ q = 3 ∨ q = 4 ∨ q = 5 ∨ q = 6 ∨ q = 7 ∨ q = 8 by omega) with rfl | rfl | rfl | rfl | rfl | rfl | rfl | rfl | rfl <;> exact ⟨_, rfl, by decide⟩
theorem at9b {q : Nat} (hq : q < 9) : ∃ x : Int, (#[.int .i64 0, .int .i64 1, .int .i64 0, .int .i64 (-1), .int .i64 0, .int .i64 1, .int .i64 (-1), .int .i64 (-1), .int .i64 1] : Array Value)[q]? = some (.int .i64 x) ∧ (-1 ≤ x ∧ x ≤ 1) := by
  rcases (show q = 0 ∨ q = 1 ∨ q = 2 ∨ q = 3 ∨ q = 4 ∨ q = 5 ∨ q = 6 ∨ q = 7 ∨ q = 8 by omega) with rfl | rfl | rfl | rfl | rfl | rfl | rfl | rfl | rfl <;> exact ⟨_, rfl, by decide⟩
set_option maxHeartbeats 4000000 in
set_option maxRecDepth 100000 in
theorem l06Part {w : World} {q : Nat} (hq : q < 9) :
    Calls Try.prog 161 #[.int .i64 q] w fun e w' => ∃ a b : Int, e = .returned (.tuple #[.int .i64 a, .int .i64 b]) ∧ (-1 ≤ a ∧ a ≤ 1) ∧ (-1 ≤ b ∧ b ≤ 1) ∧ Below w.heap.size w w' := by
  obtain ⟨xa, ha⟩ := at9a hq
  obtain ⟨xb, hb⟩ := at9b hq
  have Hxa := hid ha
  have Hxb := hid hb
  have hqi : (q : Int) < 9 := by omega
  clear ha hb
  go_enter Try.func161, Try.ntmps161
  go_wp2_with fail
  refine wp_region_held_drew (S := (fun ww => Below w.heap.size w ww ∧ w.heap.size ≤ ww.heap.size)) (by kernel_rfl) ?_ (fun hHeld => ?_)
  · ((try dsimp only); exact ⟨(Below.refl _ _).drew, Nat.le_refl _⟩)
  generalize hD : w.drew = wD at hHeld ⊢
  have HD0 := hid hHeld
  have belD : Below wD.heap.size wD wD := Below.refl _ _
  clear hD
  (refine wpAnyH_take (i := 1) (v := ?_) rfl ?_ ?_ ?_ (fun _ _ _ h => h) (Or.inl ⟨?_, ?_⟩) ?_ ?_; rotate_left 1; (focus decide +kernel); (focus decide +kernel); (focus decide +kernel); (focus rfl); (focus (intro w hSw; (try dsimp only at hSw); go_simp; (try (with_reducible rfl)); done)); (focus assumption); (try simp only [Act.put, List.setIfInBounds_toArray, List.set_cons_zero, List.set_cons_succ, List.getElem_toArray, List.getElem_cons_succ, List.getElem_cons_zero]))
  (refine wpAnyH_take (i := 5) (v := ?_) rfl ?_ ?_ ?_ (fun _ _ _ h => h) (Or.inl ⟨?_, ?_⟩) ?_ ?_; rotate_left 1; (focus decide +kernel); (focus decide +kernel); (focus decide +kernel); (focus rfl); (focus (intro w hSw; (try dsimp only at hSw); go_simp; (try (with_reducible rfl)); done)); (focus assumption); (try simp only [Act.put, List.setIfInBounds_toArray, List.set_cons_zero, List.set_cons_succ, List.getElem_toArray, List.getElem_cons_succ, List.getElem_cons_zero]))
  refine wpAnyH_ready (rs := [0, 4]) ?_ (by simp) ?_
  · decide +kernel
  refine AllReadyH.cons rfl (fun K hK => ?_) (AllReadyH.cons rfl (fun K hK => ?_) AllReadyH.nil)
  · go_simp
    have bel := below1 wD (Obj.cells #[.int .i64 0, .int .i64 0, .int .i64 1, .int .i64 0, .int .i64 (-1), .int .i64 1, .int .i64 1, .int .i64 (-1), .int .i64 (-1)] 2)
    have lmS := belD.size
    replace belD := belD.trans (bel.mono belD.size)
    refine hK.out _ _ ?_ (fun hHeld2 => ?_)
    · (try dsimp only); exact nxS belD HD0.out
    clear hK K hHeld bel
    obtain ⟨v1, hWa⟩ : ∃ v1, v1 = wD.alloc (Obj.cells #[.int .i64 0, .int .i64 0, .int .i64 1, .int .i64 0, .int .i64 (-1), .int .i64 1, .int .i64 1, .int .i64 (-1), .int .i64 (-1)] 2) := ⟨_, rfl⟩
    obtain ⟨N1, hNa⟩ : ∃ N1, N1 = wD.heap.size := ⟨_, rfl⟩
    have kA : v1.heap[N1]? = some (Obj.cells #[.int .i64 0, .int .i64 0, .int .i64 1, .int .i64 0, .int .i64 (-1), .int .i64 1, .int .i64 1, .int .i64 (-1), .int .i64 (-1)] 2) := by rw [hWa]; exact FNew.heap_top hNa
    have lmA : wD.heap.size ≤ N1 := by rw [hNa]; exact lmS
    clear lmS
    rw [← hWa] at belD
    (try dsimp only at hHeld2)
    simp only [← hWa, ← hNa] at hHeld2 ⊢
    clear hWa hNa
    have hHeld := hHeld2
    clear hHeld2
    (try simp only [Act.put, List.setIfInBounds_toArray, List.set_cons_zero, List.set_cons_succ, List.getElem_toArray, List.getElem_cons_succ, List.getElem_cons_zero])
    (refine wpAnyH_take (i := 2) (v := ?_) rfl ?_ ?_ ?_ (fun _ _ _ h => h) (Or.inl ⟨?_, ?_⟩) ?_ ?_; rotate_left 1; (focus decide +kernel); (focus decide +kernel); (focus decide +kernel); (focus rfl); (focus (intro w hSw; (try dsimp only at hSw); go_simp; (try (with_reducible rfl)); done)); (focus assumption); (try simp only [Act.put, List.setIfInBounds_toArray, List.set_cons_zero, List.set_cons_succ, List.getElem_toArray, List.getElem_cons_succ, List.getElem_cons_zero]))
    refine wpAnyH_ready (rs := [3, 4]) ?_ (by simp) ?_
    · decide +kernel
    refine AllReadyH.cons rfl (fun K hK => ?_) (AllReadyH.cons rfl (fun K hK => ?_) AllReadyH.nil)
    · have cxa : v1.cell? ⟨N1, q, none⟩ = some (.int .i64 xa) := (Go.Joins.cell_of_block kA q).trans Hxa.out.1
      have hq9 : q < 9 := hq
      go_simp
      refine hK.out _ _ ?_ (fun hHeld2 => ?_)
      · (try dsimp only); exact hHeld
      clear hK K hHeld cxa hq9
      have hHeld := hHeld2
      clear hHeld2
      (try simp only [Act.put, List.setIfInBounds_toArray, List.set_cons_zero, List.set_cons_succ, List.getElem_toArray, List.getElem_cons_succ, List.getElem_cons_zero])
      (refine wpAnyH_take (i := 8) (v := ?_) rfl ?_ ?_ ?_ (fun _ _ _ h => h) (Or.inl ⟨?_, ?_⟩) ?_ ?_; rotate_left 1; (focus decide +kernel); (focus decide +kernel); (focus decide +kernel); (focus rfl); (focus (intro w hSw; (try dsimp only at hSw); go_simp; (try (with_reducible rfl)); done)); (focus assumption); (try simp only [Act.put, List.setIfInBounds_toArray, List.set_cons_zero, List.set_cons_succ, List.getElem_toArray, List.getElem_cons_succ, List.getElem_cons_zero]))
      refine wpAnyH_ready (rs := [4]) ?_ (by simp) ?_
      · decide +kernel
      refine AllReadyH.cons rfl (fun K hK => ?_) AllReadyH.nil
      go_simp
      have bel := below1 v1 (Obj.cells #[.int .i64 0, .int .i64 1, .int .i64 0, .int .i64 (-1), .int .i64 0, .int .i64 1, .int .i64 (-1), .int .i64 (-1), .int .i64 1] 2)
      have lmS := belD.size
      have ltA := (heap_lt kA)
      replace belD := belD.trans (bel.mono belD.size)
      replace kA := heap_keep bel kA
      refine hK.out _ _ ?_ (fun hHeld2 => ?_)
      · (try dsimp only); exact nxS belD HD0.out
      clear hK K hHeld bel
      obtain ⟨v2, hWa⟩ : ∃ v2, v2 = v1.alloc (Obj.cells #[.int .i64 0, .int .i64 1, .int .i64 0, .int .i64 (-1), .int .i64 0, .int .i64 1, .int .i64 (-1), .int .i64 (-1), .int .i64 1] 2) := ⟨_, rfl⟩
      obtain ⟨N2, hNa⟩ : ∃ N2, N2 = v1.heap.size := ⟨_, rfl⟩
      have kB : v2.heap[N2]? = some (Obj.cells #[.int .i64 0, .int .i64 1, .int .i64 0, .int .i64 (-1), .int .i64 0, .int .i64 1, .int .i64 (-1), .int .i64 (-1), .int .i64 1] 2) := by rw [hWa]; exact FNew.heap_top hNa
      have lmB : wD.heap.size ≤ N2 := by rw [hNa]; exact lmS
      clear lmS
      have nA_B : N1 ≠ N2 := by rw [hNa]; exact Nat.ne_of_lt ltA
      clear ltA
      rw [← hWa] at belD kA
      (try dsimp only at hHeld2)
      simp only [← hWa, ← hNa] at hHeld2 ⊢
      clear hWa hNa
      have hHeld := hHeld2
      clear hHeld2
      (try simp only [Act.put, List.setIfInBounds_toArray, List.set_cons_zero, List.set_cons_succ, List.getElem_toArray, List.getElem_cons_succ, List.getElem_cons_zero])
      (refine wpAnyH_take (i := 6) (v := ?_) rfl ?_ ?_ ?_ (fun _ _ _ h => h) (Or.inl ⟨?_, ?_⟩) ?_ ?_; rotate_left 1; (focus decide +kernel); (focus decide +kernel); (focus decide +kernel); (focus rfl); (focus (intro w hSw; (try dsimp only at hSw); go_simp; (try (with_reducible rfl)); done)); (focus assumption); (try simp only [Act.put, List.setIfInBounds_toArray, List.set_cons_zero, List.set_cons_succ, List.getElem_toArray, List.getElem_cons_succ, List.getElem_cons_zero]))
      refine wpAnyH_ready (rs := [7]) ?_ (by simp) ?_
      · decide +kernel
      refine AllReadyH.cons rfl (fun K hK => ?_) AllReadyH.nil
      have cxb : v2.cell? ⟨N2, q, none⟩ = some (.int .i64 xb) := (Go.Joins.cell_of_block kB q).trans Hxb.out.1
      have hq9 : q < 9 := hq
      go_simp
      refine hK.out _ _ ?_ (fun hHeld2 => ?_)
      · (try dsimp only); exact hHeld
      clear hK K hHeld cxb hq9
      have hHeld := hHeld2
      clear hHeld2
      (try simp only [Act.put, List.setIfInBounds_toArray, List.set_cons_zero, List.set_cons_succ, List.getElem_toArray, List.getElem_cons_succ, List.getElem_cons_zero])
      (refine wpAnyH_take (i := 9) (v := ?_) rfl ?_ ?_ ?_ (fun _ _ _ h => h) (Or.inl ⟨?_, ?_⟩) ?_ ?_; rotate_left 1; (focus decide +kernel); (focus decide +kernel); (focus decide +kernel); (focus rfl); (focus (intro w hSw; (try dsimp only at hSw); go_simp; (try (with_reducible rfl)); done)); (focus assumption); (try simp only [Act.put, List.setIfInBounds_toArray, List.set_cons_zero, List.set_cons_succ, List.getElem_toArray, List.getElem_cons_succ, List.getElem_cons_zero]))
      refine wpAnyH_done (by kernel_rfl) ?_ _
      have HB := hid hHeld.1
      clear hHeld
      go_wp2
      go_ret2
      exact ⟨_, _, rfl, Hxa.out.2, Hxb.out.2, HB.out⟩
    · go_simp
      have bel := below1 v1 (Obj.cells #[.int .i64 0, .int .i64 1, .int .i64 0, .int .i64 (-1), .int .i64 0, .int .i64 1, .int .i64 (-1), .int .i64 (-1), .int .i64 1] 2)
      have lmS := belD.size
      have ltA := (heap_lt kA)
      replace belD := belD.trans (bel.mono belD.size)
      replace kA := heap_keep bel kA
      refine hK.out _ _ ?_ (fun hHeld2 => ?_)
      · (try dsimp only); exact nxS belD HD0.out
      clear hK K hHeld bel
      obtain ⟨v3, hWa⟩ : ∃ v3, v3 = v1.alloc (Obj.cells #[.int .i64 0, .int .i64 1, .int .i64 0, .int .i64 (-1), .int .i64 0, .int .i64 1, .int .i64 (-1), .int .i64 (-1), .int .i64 1] 2) := ⟨_, rfl⟩
      obtain ⟨N2, hNa⟩ : ∃ N2, N2 = v1.heap.size := ⟨_, rfl⟩
      have kB : v3.heap[N2]? = some (Obj.cells #[.int .i64 0, .int .i64 1, .int .i64 0, .int .i64 (-1), .int .i64 0, .int .i64 1, .int .i64 (-1), .int .i64 (-1), .int .i64 1] 2) := by rw [hWa]; exact FNew.heap_top hNa
      have lmB : wD.heap.size ≤ N2 := by rw [hNa]; exact lmS
      clear lmS
      have nA_B : N1 ≠ N2 := by rw [hNa]; exact Nat.ne_of_lt ltA
      clear ltA
      rw [← hWa] at belD kA
      (try dsimp only at hHeld2)
      simp only [← hWa, ← hNa] at hHeld2 ⊢
      clear hWa hNa
      have hHeld := hHeld2
      clear hHeld2
      (try simp only [Act.put, List.setIfInBounds_toArray, List.set_cons_zero, List.set_cons_succ, List.getElem_toArray, List.getElem_cons_succ, List.getElem_cons_zero])
      (refine wpAnyH_take (i := 6) (v := ?_) rfl ?_ ?_ ?_ (fun _ _ _ h => h) (Or.inl ⟨?_, ?_⟩) ?_ ?_; rotate_left 1; (focus decide +kernel); (focus decide +kernel); (focus decide +kernel); (focus rfl); (focus (intro w hSw; (try dsimp only at hSw); go_simp; (try (with_reducible rfl)); done)); (focus assumption); (try simp only [Act.put, List.setIfInBounds_toArray, List.set_cons_zero, List.set_cons_succ, List.getElem_toArray, List.getElem_cons_succ, List.getElem_cons_zero]))
      refine wpAnyH_ready (rs := [3, 7]) ?_ (by simp) ?_
      · decide +kernel
      refine AllReadyH.cons rfl (fun K hK => ?_) (AllReadyH.cons rfl (fun K hK => ?_) AllReadyH.nil)
      · have cxa : v3.cell? ⟨N1, q, none⟩ = some (.int .i64 xa) := (Go.Joins.cell_of_block kA q).trans Hxa.out.1
        have hq9 : q < 9 := hq
        go_simp
        refine hK.out _ _ ?_ (fun hHeld2 => ?_)
        · (try dsimp only); exact hHeld
        clear hK K hHeld cxa hq9
        have hHeld := hHeld2
        clear hHeld2
        (try simp only [Act.put, List.setIfInBounds_toArray, List.set_cons_zero, List.set_cons_succ, List.getElem_toArray, List.getElem_cons_succ, List.getElem_cons_zero])
        (refine wpAnyH_take (i := 8) (v := ?_) rfl ?_ ?_ ?_ (fun _ _ _ h => h) (Or.inl ⟨?_, ?_⟩) ?_ ?_; rotate_left 1; (focus decide +kernel); (focus decide +kernel); (focus decide +kernel); (focus rfl); (focus (intro w hSw; (try dsimp only at hSw); go_simp; (try (with_reducible rfl)); done)); (focus assumption); (try simp only [Act.put, List.setIfInBounds_toArray, List.set_cons_zero, List.set_cons_succ, List.getElem_toArray, List.getElem_cons_succ, List.getElem_cons_zero]))
        refine wpAnyH_ready (rs := [7]) ?_ (by simp) ?_
        · decide +kernel
        refine AllReadyH.cons rfl (fun K hK => ?_) AllReadyH.nil
        have cxb : v3.cell? ⟨N2, q, none⟩ = some (.int .i64 xb) := (Go.Joins.cell_of_block kB q).trans Hxb.out.1
        have hq9 : q < 9 := hq
        go_simp
        refine hK.out _ _ ?_ (fun hHeld2 => ?_)
        · (try dsimp only); exact hHeld
        clear hK K hHeld cxb hq9
        have hHeld := hHeld2
        clear hHeld2
        (try simp only [Act.put, List.setIfInBounds_toArray, List.set_cons_zero, List.set_cons_succ, List.getElem_toArray, List.getElem_cons_succ, List.getElem_cons_zero])
        (refine wpAnyH_take (i := 9) (v := ?_) rfl ?_ ?_ ?_ (fun _ _ _ h => h) (Or.inl ⟨?_, ?_⟩) ?_ ?_; rotate_left 1; (focus decide +kernel); (focus decide +kernel); (focus decide +kernel); (focus rfl); (focus (intro w hSw; (try dsimp only at hSw); go_simp; (try (with_reducible rfl)); done)); (focus assumption); (try simp only [Act.put, List.setIfInBounds_toArray, List.set_cons_zero, List.set_cons_succ, List.getElem_toArray, List.getElem_cons_succ, List.getElem_cons_zero]))
        refine wpAnyH_done (by kernel_rfl) ?_ _
        have HB := hid hHeld.1
        clear hHeld
        go_wp2
        go_ret2
        exact ⟨_, _, rfl, Hxa.out.2, Hxb.out.2, HB.out⟩
      · have cxb : v3.cell? ⟨N2, q, none⟩ = some (.int .i64 xb) := (Go.Joins.cell_of_block kB q).trans Hxb.out.1
        have hq9 : q < 9 := hq
        go_simp
        refine hK.out _ _ ?_ (fun hHeld2 => ?_)
        · (try dsimp only); exact hHeld
        clear hK K hHeld cxb hq9
        have hHeld := hHeld2
        clear hHeld2
        (try simp only [Act.put, List.setIfInBounds_toArray, List.set_cons_zero, List.set_cons_succ, List.getElem_toArray, List.getElem_cons_succ, List.getElem_cons_zero])
        refine wpAnyH_ready (rs := [3]) ?_ (by simp) ?_
        · decide +kernel
        refine AllReadyH.cons rfl (fun K hK => ?_) AllReadyH.nil
        have cxa : v3.cell? ⟨N1, q, none⟩ = some (.int .i64 xa) := (Go.Joins.cell_of_block kA q).trans Hxa.out.1
        have hq9 : q < 9 := hq
        go_simp
        refine hK.out _ _ ?_ (fun hHeld2 => ?_)
        · (try dsimp only); exact hHeld
        clear hK K hHeld cxa hq9
        have hHeld := hHeld2
        clear hHeld2
        (try simp only [Act.put, List.setIfInBounds_toArray, List.set_cons_zero, List.set_cons_succ, List.getElem_toArray, List.getElem_cons_succ, List.getElem_cons_zero])
        (refine wpAnyH_take (i := 8) (v := ?_) rfl ?_ ?_ ?_ (fun _ _ _ h => h) (Or.inl ⟨?_, ?_⟩) ?_ ?_; rotate_left 1; (focus decide +kernel); (focus decide +kernel); (focus decide +kernel); (focus rfl); (focus (intro w hSw; (try dsimp only at hSw); go_simp; (try (with_reducible rfl)); done)); (focus assumption); (try simp only [Act.put, List.setIfInBounds_toArray, List.set_cons_zero, List.set_cons_succ, List.getElem_toArray, List.getElem_cons_succ, List.getElem_cons_zero]))
        (refine wpAnyH_take (i := 9) (v := ?_) rfl ?_ ?_ ?_ (fun _ _ _ h => h) (Or.inl ⟨?_, ?_⟩) ?_ ?_; rotate_left 1; (focus decide +kernel); (focus decide +kernel); (focus decide +kernel); (focus rfl); (focus (intro w hSw; (try dsimp only at hSw); go_simp; (try (with_reducible rfl)); done)); (focus assumption); (try simp only [Act.put, List.setIfInBounds_toArray, List.set_cons_zero, List.set_cons_succ, List.getElem_toArray, List.getElem_cons_succ, List.getElem_cons_zero]))
        refine wpAnyH_done (by kernel_rfl) ?_ _
        have HB := hid hHeld.1
        clear hHeld
        go_wp2
        go_ret2
        exact ⟨_, _, rfl, Hxa.out.2, Hxb.out.2, HB.out⟩
  · go_simp
    have bel := below1 wD (Obj.cells #[.int .i64 0, .int .i64 1, .int .i64 0, .int .i64 (-1), .int .i64 0, .int .i64 1, .int .i64 (-1), .int .i64 (-1), .int .i64 1] 2)
    have lmS := belD.size
    replace belD := belD.trans (bel.mono belD.size)
    refine hK.out _ _ ?_ (fun hHeld2 => ?_)
    · (try dsimp only); exact nxS belD HD0.out
    clear hK K hHeld bel
    obtain ⟨v4, hWa⟩ : ∃ v4, v4 = wD.alloc (Obj.cells #[.int .i64 0, .int .i64 1, .int .i64 0, .int .i64 (-1), .int .i64 0, .int .i64 1, .int .i64 (-1), .int .i64 (-1), .int .i64 1] 2) := ⟨_, rfl⟩
    obtain ⟨N2, hNa⟩ : ∃ N2, N2 = wD.heap.size := ⟨_, rfl⟩
    have kB : v4.heap[N2]? = some (Obj.cells #[.int .i64 0, .int .i64 1, .int .i64 0, .int .i64 (-1), .int .i64 0, .int .i64 1, .int .i64 (-1), .int .i64 (-1), .int .i64 1] 2) := by rw [hWa]; exact FNew.heap_top hNa
    have lmB : wD.heap.size ≤ N2 := by rw [hNa]; exact lmS
    clear lmS
    rw [← hWa] at belD
    (try dsimp only at hHeld2)
    simp only [← hWa, ← hNa] at hHeld2 ⊢
    clear hWa hNa
    have hHeld := hHeld2
    clear hHeld2
    (try simp only [Act.put, List.setIfInBounds_toArray, List.set_cons_zero, List.set_cons_succ, List.getElem_toArray, List.getElem_cons_succ, List.getElem_cons_zero])
    (refine wpAnyH_take (i := 6) (v := ?_) rfl ?_ ?_ ?_ (fun _ _ _ h => h) (Or.inl ⟨?_, ?_⟩) ?_ ?_; rotate_left 1; (focus decide +kernel); (focus decide +kernel); (focus decide +kernel); (focus rfl); (focus (intro w hSw; (try dsimp only at hSw); go_simp; (try (with_reducible rfl)); done)); (focus assumption); (try simp only [Act.put, List.setIfInBounds_toArray, List.set_cons_zero, List.set_cons_succ, List.getElem_toArray, List.getElem_cons_succ, List.getElem_cons_zero]))
    refine wpAnyH_ready (rs := [0, 7]) ?_ (by simp) ?_
    · decide +kernel
    refine AllReadyH.cons rfl (fun K hK => ?_) (AllReadyH.cons rfl (fun K hK => ?_) AllReadyH.nil)
    · go_simp
      have bel := below1 v4 (Obj.cells #[.int .i64 0, .int .i64 0, .int .i64 1, .int .i64 0, .int .i64 (-1), .int .i64 1, .int .i64 1, .int .i64 (-1), .int .i64 (-1)] 2)
      have lmS := belD.size
      have ltB := (heap_lt kB)
      replace belD := belD.trans (bel.mono belD.size)
      replace kB := heap_keep bel kB
      refine hK.out _ _ ?_ (fun hHeld2 => ?_)
      · (try dsimp only); exact nxS belD HD0.out
      clear hK K hHeld bel
      obtain ⟨v5, hWa⟩ : ∃ v5, v5 = v4.alloc (Obj.cells #[.int .i64 0, .int .i64 0, .int .i64 1, .int .i64 0, .int .i64 (-1), .int .i64 1, .int .i64 1, .int .i64 (-1), .int .i64 (-1)] 2) := ⟨_, rfl⟩
      obtain ⟨N1, hNa⟩ : ∃ N1, N1 = v4.heap.size := ⟨_, rfl⟩
      have kA : v5.heap[N1]? = some (Obj.cells #[.int .i64 0, .int .i64 0, .int .i64 1, .int .i64 0, .int .i64 (-1), .int .i64 1, .int .i64 1, .int .i64 (-1), .int .i64 (-1)] 2) := by rw [hWa]; exact FNew.heap_top hNa
      have lmA : wD.heap.size ≤ N1 := by rw [hNa]; exact lmS
      clear lmS
      have nB_A : N2 ≠ N1 := by rw [hNa]; exact Nat.ne_of_lt ltB
      clear ltB
      rw [← hWa] at belD kB
      (try dsimp only at hHeld2)
      simp only [← hWa, ← hNa] at hHeld2 ⊢
      clear hWa hNa
      have hHeld := hHeld2
      clear hHeld2
      (try simp only [Act.put, List.setIfInBounds_toArray, List.set_cons_zero, List.set_cons_succ, List.getElem_toArray, List.getElem_cons_succ, List.getElem_cons_zero])
      (refine wpAnyH_take (i := 2) (v := ?_) rfl ?_ ?_ ?_ (fun _ _ _ h => h) (Or.inl ⟨?_, ?_⟩) ?_ ?_; rotate_left 1; (focus decide +kernel); (focus decide +kernel); (focus decide +kernel); (focus rfl); (focus (intro w hSw; (try dsimp only at hSw); go_simp; (try (with_reducible rfl)); done)); (focus assumption); (try simp only [Act.put, List.setIfInBounds_toArray, List.set_cons_zero, List.set_cons_succ, List.getElem_toArray, List.getElem_cons_succ, List.getElem_cons_zero]))
      refine wpAnyH_ready (rs := [3, 7]) ?_ (by simp) ?_
      · decide +kernel
      refine AllReadyH.cons rfl (fun K hK => ?_) (AllReadyH.cons rfl (fun K hK => ?_) AllReadyH.nil)
      · have cxa : v5.cell? ⟨N1, q, none⟩ = some (.int .i64 xa) := (Go.Joins.cell_of_block kA q).trans Hxa.out.1
        have hq9 : q < 9 := hq
        go_simp
        refine hK.out _ _ ?_ (fun hHeld2 => ?_)
        · (try dsimp only); exact hHeld
        clear hK K hHeld cxa hq9
        have hHeld := hHeld2
        clear hHeld2
        (try simp only [Act.put, List.setIfInBounds_toArray, List.set_cons_zero, List.set_cons_succ, List.getElem_toArray, List.getElem_cons_succ, List.getElem_cons_zero])
        (refine wpAnyH_take (i := 8) (v := ?_) rfl ?_ ?_ ?_ (fun _ _ _ h => h) (Or.inl ⟨?_, ?_⟩) ?_ ?_; rotate_left 1; (focus decide +kernel); (focus decide +kernel); (focus decide +kernel); (focus rfl); (focus (intro w hSw; (try dsimp only at hSw); go_simp; (try (with_reducible rfl)); done)); (focus assumption); (try simp only [Act.put, List.setIfInBounds_toArray, List.set_cons_zero, List.set_cons_succ, List.getElem_toArray, List.getElem_cons_succ, List.getElem_cons_zero]))
        refine wpAnyH_ready (rs := [7]) ?_ (by simp) ?_
        · decide +kernel
        refine AllReadyH.cons rfl (fun K hK => ?_) AllReadyH.nil
        have cxb : v5.cell? ⟨N2, q, none⟩ = some (.int .i64 xb) := (Go.Joins.cell_of_block kB q).trans Hxb.out.1
        have hq9 : q < 9 := hq
        go_simp
        refine hK.out _ _ ?_ (fun hHeld2 => ?_)
        · (try dsimp only); exact hHeld
        clear hK K hHeld cxb hq9
        have hHeld := hHeld2
        clear hHeld2
        (try simp only [Act.put, List.setIfInBounds_toArray, List.set_cons_zero, List.set_cons_succ, List.getElem_toArray, List.getElem_cons_succ, List.getElem_cons_zero])
        (refine wpAnyH_take (i := 9) (v := ?_) rfl ?_ ?_ ?_ (fun _ _ _ h => h) (Or.inl ⟨?_, ?_⟩) ?_ ?_; rotate_left 1; (focus decide +kernel); (focus decide +kernel); (focus decide +kernel); (focus rfl); (focus (intro w hSw; (try dsimp only at hSw); go_simp; (try (with_reducible rfl)); done)); (focus assumption); (try simp only [Act.put, List.setIfInBounds_toArray, List.set_cons_zero, List.set_cons_succ, List.getElem_toArray, List.getElem_cons_succ, List.getElem_cons_zero]))
        refine wpAnyH_done (by kernel_rfl) ?_ _
        have HB := hid hHeld.1
        clear hHeld
        go_wp2
        go_ret2
        exact ⟨_, _, rfl, Hxa.out.2, Hxb.out.2, HB.out⟩
      · have cxb : v5.cell? ⟨N2, q, none⟩ = some (.int .i64 xb) := (Go.Joins.cell_of_block kB q).trans Hxb.out.1
        have hq9 : q < 9 := hq
        go_simp
        refine hK.out _ _ ?_ (fun hHeld2 => ?_)
        · (try dsimp only); exact hHeld
        clear hK K hHeld cxb hq9
        have hHeld := hHeld2
        clear hHeld2
        (try simp only [Act.put, List.setIfInBounds_toArray, List.set_cons_zero, List.set_cons_succ, List.getElem_toArray, List.getElem_cons_succ, List.getElem_cons_zero])
        refine wpAnyH_ready (rs := [3]) ?_ (by simp) ?_
        · decide +kernel
        refine AllReadyH.cons rfl (fun K hK => ?_) AllReadyH.nil
        have cxa : v5.cell? ⟨N1, q, none⟩ = some (.int .i64 xa) := (Go.Joins.cell_of_block kA q).trans Hxa.out.1
        have hq9 : q < 9 := hq
        go_simp
        refine hK.out _ _ ?_ (fun hHeld2 => ?_)
        · (try dsimp only); exact hHeld
        clear hK K hHeld cxa hq9
        have hHeld := hHeld2
        clear hHeld2
        (try simp only [Act.put, List.setIfInBounds_toArray, List.set_cons_zero, List.set_cons_succ, List.getElem_toArray, List.getElem_cons_succ, List.getElem_cons_zero])
        (refine wpAnyH_take (i := 8) (v := ?_) rfl ?_ ?_ ?_ (fun _ _ _ h => h) (Or.inl ⟨?_, ?_⟩) ?_ ?_; rotate_left 1; (focus decide +kernel); (focus decide +kernel); (focus decide +kernel); (focus rfl); (focus (intro w hSw; (try dsimp only at hSw); go_simp; (try (with_reducible rfl)); done)); (focus assumption); (try simp only [Act.put, List.setIfInBounds_toArray, List.set_cons_zero, List.set_cons_succ, List.getElem_toArray, List.getElem_cons_succ, List.getElem_cons_zero]))
        (refine wpAnyH_take (i := 9) (v := ?_) rfl ?_ ?_ ?_ (fun _ _ _ h => h) (Or.inl ⟨?_, ?_⟩) ?_ ?_; rotate_left 1; (focus decide +kernel); (focus decide +kernel); (focus decide +kernel); (focus rfl); (focus (intro w hSw; (try dsimp only at hSw); go_simp; (try (with_reducible rfl)); done)); (focus assumption); (try simp only [Act.put, List.setIfInBounds_toArray, List.set_cons_zero, List.set_cons_succ, List.getElem_toArray, List.getElem_cons_succ, List.getElem_cons_zero]))
        refine wpAnyH_done (by kernel_rfl) ?_ _
        have HB := hid hHeld.1
        clear hHeld
        go_wp2
        go_ret2
        exact ⟨_, _, rfl, Hxa.out.2, Hxb.out.2, HB.out⟩
    · have cxb : v4.cell? ⟨N2, q, none⟩ = some (.int .i64 xb) := (Go.Joins.cell_of_block kB q).trans Hxb.out.1
      have hq9 : q < 9 := hq
      go_simp
      refine hK.out _ _ ?_ (fun hHeld2 => ?_)
      · (try dsimp only); exact hHeld
      clear hK K hHeld cxb hq9
      have hHeld := hHeld2
      clear hHeld2
      (try simp only [Act.put, List.setIfInBounds_toArray, List.set_cons_zero, List.set_cons_succ, List.getElem_toArray, List.getElem_cons_succ, List.getElem_cons_zero])
      refine wpAnyH_ready (rs := [0]) ?_ (by simp) ?_
      · decide +kernel
      refine AllReadyH.cons rfl (fun K hK => ?_) AllReadyH.nil
      go_simp
      have bel := below1 v4 (Obj.cells #[.int .i64 0, .int .i64 0, .int .i64 1, .int .i64 0, .int .i64 (-1), .int .i64 1, .int .i64 1, .int .i64 (-1), .int .i64 (-1)] 2)
      have lmS := belD.size
      have ltB := (heap_lt kB)
      replace belD := belD.trans (bel.mono belD.size)
      replace kB := heap_keep bel kB
      refine hK.out _ _ ?_ (fun hHeld2 => ?_)
      · (try dsimp only); exact nxS belD HD0.out
      clear hK K hHeld bel
      obtain ⟨v6, hWa⟩ : ∃ v6, v6 = v4.alloc (Obj.cells #[.int .i64 0, .int .i64 0, .int .i64 1, .int .i64 0, .int .i64 (-1), .int .i64 1, .int .i64 1, .int .i64 (-1), .int .i64 (-1)] 2) := ⟨_, rfl⟩
      obtain ⟨N1, hNa⟩ : ∃ N1, N1 = v4.heap.size := ⟨_, rfl⟩
      have kA : v6.heap[N1]? = some (Obj.cells #[.int .i64 0, .int .i64 0, .int .i64 1, .int .i64 0, .int .i64 (-1), .int .i64 1, .int .i64 1, .int .i64 (-1), .int .i64 (-1)] 2) := by rw [hWa]; exact FNew.heap_top hNa
      have lmA : wD.heap.size ≤ N1 := by rw [hNa]; exact lmS
      clear lmS
      have nB_A : N2 ≠ N1 := by rw [hNa]; exact Nat.ne_of_lt ltB
      clear ltB
      rw [← hWa] at belD kB
      (try dsimp only at hHeld2)
      simp only [← hWa, ← hNa] at hHeld2 ⊢
      clear hWa hNa
      have hHeld := hHeld2
      clear hHeld2
      (try simp only [Act.put, List.setIfInBounds_toArray, List.set_cons_zero, List.set_cons_succ, List.getElem_toArray, List.getElem_cons_succ, List.getElem_cons_zero])
      (refine wpAnyH_take (i := 2) (v := ?_) rfl ?_ ?_ ?_ (fun _ _ _ h => h) (Or.inl ⟨?_, ?_⟩) ?_ ?_; rotate_left 1; (focus decide +kernel); (focus decide +kernel); (focus decide +kernel); (focus rfl); (focus (intro w hSw; (try dsimp only at hSw); go_simp; (try (with_reducible rfl)); done)); (focus assumption); (try simp only [Act.put, List.setIfInBounds_toArray, List.set_cons_zero, List.set_cons_succ, List.getElem_toArray, List.getElem_cons_succ, List.getElem_cons_zero]))
      refine wpAnyH_ready (rs := [3]) ?_ (by simp) ?_
      · decide +kernel
      refine AllReadyH.cons rfl (fun K hK => ?_) AllReadyH.nil
      have cxa : v6.cell? ⟨N1, q, none⟩ = some (.int .i64 xa) := (Go.Joins.cell_of_block kA q).trans Hxa.out.1
      have hq9 : q < 9 := hq
      go_simp
      refine hK.out _ _ ?_ (fun hHeld2 => ?_)
      · (try dsimp only); exact hHeld
      clear hK K hHeld cxa hq9
      have hHeld := hHeld2
      clear hHeld2
      (try simp only [Act.put, List.setIfInBounds_toArray, List.set_cons_zero, List.set_cons_succ, List.getElem_toArray, List.getElem_cons_succ, List.getElem_cons_zero])
      (refine wpAnyH_take (i := 8) (v := ?_) rfl ?_ ?_ ?_ (fun _ _ _ h => h) (Or.inl ⟨?_, ?_⟩) ?_ ?_; rotate_left 1; (focus decide +kernel); (focus decide +kernel); (focus decide +kernel); (focus rfl); (focus (intro w hSw; (try dsimp only at hSw); go_simp; (try (with_reducible rfl)); done)); (focus assumption); (try simp only [Act.put, List.setIfInBounds_toArray, List.set_cons_zero, List.set_cons_succ, List.getElem_toArray, List.getElem_cons_succ, List.getElem_cons_zero]))
      (refine wpAnyH_take (i := 9) (v := ?_) rfl ?_ ?_ ?_ (fun _ _ _ h => h) (Or.inl ⟨?_, ?_⟩) ?_ ?_; rotate_left 1; (focus decide +kernel); (focus decide +kernel); (focus decide +kernel); (focus rfl); (focus (intro w hSw; (try dsimp only at hSw); go_simp; (try (with_reducible rfl)); done)); (focus assumption); (try simp only [Act.put, List.setIfInBounds_toArray, List.set_cons_zero, List.set_cons_succ, List.getElem_toArray, List.getElem_cons_succ, List.getElem_cons_zero]))
      refine wpAnyH_done (by kernel_rfl) ?_ _
      have HB := hid hHeld.1
      clear hHeld
      go_wp2
      go_ret2
      exact ⟨_, _, rfl, Hxa.out.2, Hxb.out.2, HB.out⟩

set_option maxHeartbeats 2000000 in
theorem l06Mass {w : World} {b : Nat} {v : Value} {zs : List Nat} (h : RdF w b v zs) (hl : zs.length = 9) :
    Calls Try.prog 126 #[v] w fun e w' => ∃ r u y, e = .returned (.tuple #[.float .f32 r, .float .f32 u, .float .f32 y]) ∧ Is .f32 r (accF (sumG zs) 9) ∧ Below w.heap.size w w' := by
  obtain ⟨ao, cap, rfl, hc, hm, h4⟩ := h
  have HW := hid hm.2
  obtain ⟨off, rfl, hb, hcell⟩ := h4 (by omega)
  rw [hl] at hc hcell ⊢
  have HC := hid hcell
  have HB := hid hb
  clear hc hm h4 hcell hl
  go_enter Try.func126, Try.ntmps126
  go_wp2
  go_loopw [5, 6, 7, 8] (fun x y z i wr => ∃ k : Nat, k ≤ 9 ∧ i = .int .i64 k ∧ (∃ X : Nat, x = .float .f32 X ∧ Is .f32 X (accF (sumG zs) k)) ∧ (∃ (Y : Nat) (vY : Option Nat), y = .float .f32 Y ∧ Is .f32 Y vY) ∧ (∃ (Z : Nat) (vZ : Option Nat), z = .float .f32 Z ∧ Is .f32 Z vZ) ∧ Below w.heap.size w wr) (fun _ _ _ i _ => 9 - (intOf i).toNat)
  case atStart => exact ⟨0, by omega, rfl, ⟨0, rfl, is_zero⟩, ⟨0, _, rfl, is_zero⟩, ⟨0, _, rfl, is_zero⟩, Below.refl _ _⟩
  case round =>
    obtain ⟨k, hk, rfl, ⟨X, rfl, HA⟩, ⟨Y, vY, rfl, HU⟩, ⟨Z, vZ, rfl, HV⟩, bel⟩ := hrel
    by_cases hlt : k < 9
    · have hki : (k : Int) < 9 := by omega
      obtain ⟨z, hz⟩ : ∃ z, z = zs.getD k 0 := ⟨_, rfl⟩
      have HZ : Is .f32 z (sumG zs k) := by rw [hz]; exact is_word (HW.out k)
      have HBel := hid bel
      clear bel
      go_wp2_with fail
      go_at_call 161
      refine (l06Part hlt).mono ?_
      rintro e w' ⟨a, b2, rfl, ba, bb, bel⟩
      have hB2 := HBel.out.trans (bel.mono HBel.out.size)
      have hcx : w'.cell? ⟨b, off + k, none⟩ = some (.float .f32 z) := by rw [hz]; exact (hB2.cell HB.out).trans (HC.out k hlt)
      have HF := fi3 ba
      have HG := fi3 bb
      have HB2 := hid hB2
      clear hz bel hB2 ba bb
      go_wp2_with (first | (refine wpList_fop rfl .add _ _ _ _ rfl _ _ _ rfl rfl rfl HA HZ ?_; intro r1 m1 h1) | (refine wpList_fop rfl .mul _ _ _ _ rfl _ _ _ rfl rfl rfl HF HZ ?_; intro p m2 hp) | (refine wpList_fop rfl .add _ _ _ _ rfl _ _ _ rfl rfl rfl HU hp ?_; intro r2 m3 h2) | (refine wpList_fop rfl .mul _ _ _ _ rfl _ _ _ rfl rfl rfl HG HZ ?_; intro p2 m4 hp2) | (refine wpList_fop rfl .add _ _ _ _ rfl _ _ _ rfl rfl rfl HV hp2 ?_; intro r3 m5 h3))
      go_roundw
      case rel => exact ⟨k + 1, by omega, by go_num, ⟨_, rfl, h1⟩, ⟨_, _, rfl, h2⟩, ⟨_, _, rfl, h3⟩, HB2.out.trans ⟨rfl, rfl, rfl, Nat.le_refl _, fun _ _ => rfl⟩⟩
      case measure => simp [intOf]; omega
    · have hkn : k = 9 := by omega
      subst hkn
      have HBel := hid bel
      clear bel
      go_wp2_with (first | (refine wpList_fop rfl .quo _ _ _ _ rfl _ _ _ rfl rfl rfl HU HA ?_; intro r1 m1 h1) | (refine wpList_fop rfl .quo _ _ _ _ rfl _ _ _ rfl rfl rfl HV HA ?_; intro r2 m2 h2))
      go_ret3
      exact ⟨_, _, _, rfl, HA, HBel.out.trans ⟨rfl, rfl, rfl, Nat.le_refl _, fun _ _ => rfl⟩⟩

/-- The mass of a cell. -/
def massG (xs : List Nat) (k : Nat) : Option Nat := accF (sumG ((xs.drop (9 * k)).take 9)) 9
set_option maxHeartbeats 1000000 in
theorem l06Cell {w : World} {N b off n cap k : Nat} (c2 : w.cell? ⟨N, 2, none⟩ = some (.slice (some ⟨b, off, none⟩) n cap)) (hk : 9 * k + 9 ≤ n) (hn : n ≤ 10000) (hc : n ≤ cap) :
    Calls Try.prog 127 #[.pointer (some ⟨N, 0, none⟩), .int .i64 k] w fun e w' => e = .returned (.slice (some ⟨b, off + 9 * k, none⟩) 9 (cap - 9 * k)) ∧ w = w' := by
  have w1 : IntKind.i64.wrap (9 * (k : Int)) = ((9 * k : Nat) : Int) := by rw [IntKind.wrap_i64]; omega
  have e1 : max (((9 * k : Nat) : Int) + 9) 0 = ((9 * k : Nat) : Int) + 9 := by omega
  have e3 : (((9 * k : Nat) : Int) + 9).toNat - 9 * k = 9 := by omega
  have e5 : ((9 * k : Nat) : Int) + 9 ≤ (cap : Int) := by omega
  have e7 : ¬ cap = 9 * k := by omega
  have e8 : 9 * k ≤ (((9 * k : Nat) : Int) + 9).toNat := by omega
  have w2 : IntKind.i64.wrap (((9 * k : Nat) : Int) + 9) = ((9 * k : Nat) : Int) + 9 := by rw [IntKind.wrap_i64]; omega
  go_enter Try.func127, Try.ntmps127
  go_wp2
  go_ret
  exact ⟨by rw [show 9 * k + 9 - 9 * k = 9 by omega]; rfl, rfl⟩

theorem fac {w : World} {b : Nat} {v : Value} {zs : List Nat} (h : RdF w b v zs) (h0 : 0 < zs.length) : ∃ off cap, v = .slice (some ⟨b, off, none⟩) zs.length cap ∧ zs.length ≤ cap := by
  obtain ⟨ao, cap, rfl, hc, _, h4⟩ := h
  obtain ⟨off, rfl, _⟩ := h4 h0
  exact ⟨off, cap, rfl, hc⟩
set_option maxHeartbeats 2000000 in
theorem l06All {w : World} {N M b1 : Nat} {s r : Int} {v1 : Value} {xs : List Nat} (k0 : w.cell? ⟨N, 0, none⟩ = some (.int .i64 s)) (k1 : w.cell? ⟨N, 1, none⟩ = some (.int .i64 r)) (k2 : w.cell? ⟨N, 2, none⟩ = some v1) (h1 : RdF w b1 v1 xs)
    (hM : (M : Int) = s * r) (hMb : 1 ≤ M ∧ M ≤ 256) (hl : xs.length = 9 * M) :
    Calls Try.prog 69 #[.pointer (some ⟨N, 0, none⟩)] w fun e w' => ∃ q, e = .returned (.float .f32 q) ∧ Is .f32 q (accF (massG xs) M) ∧ Below w.heap.size w w' := by
  have H1 := hid h1
  obtain ⟨off, cap, rfl, hcap⟩ := fac h1 (by omega)
  have hw : IntKind.i64.wrap (s * r) = (M : Int) := by rw [hM, IntKind.wrap_i64]; omega
  have HK : Hid (w.cell? ⟨N, 0, none⟩ = some (.int .i64 s) ∧ w.cell? ⟨N, 1, none⟩ = some (.int .i64 r) ∧ w.cell? ⟨N, 2, none⟩ = some (.slice (some ⟨b1, off, none⟩) xs.length cap)) := ⟨k0, k1, k2⟩
  have hNl := World.block_lt_of_cell? _ _ k0
  have HNl := hid hNl
  have HL := hid hl
  have HCap := hid hcap
  clear h1 hM k0 k1 k2 hNl hcap
  go_enter Try.func69, Try.ntmps69
  go_wp2
  go_loopw [3, 4] (fun x i wr => ∃ k : Nat, k ≤ M ∧ i = .int .i64 k ∧ (∃ X : Nat, x = .float .f32 X ∧ Is .f32 X (accF (massG xs) k)) ∧ Below w.heap.size w wr) (fun _ i _ => M - (intOf i).toNat)
  case atStart => exact ⟨0, Nat.zero_le _, rfl, ⟨0, rfl, is_zero⟩, Below.refl _ _⟩
  case round =>
    obtain ⟨k, hk, rfl, ⟨X, rfl, HA⟩, bel⟩ := hrel
    have c0 := (bel.cell (p := ⟨N, 0, none⟩) HNl.out).trans HK.out.1
    have c1 := (bel.cell (p := ⟨N, 1, none⟩) HNl.out).trans HK.out.2.1
    have c2 := (bel.cell (p := ⟨N, 2, none⟩) HNl.out).trans HK.out.2.2
    have hki0 : (k : Int) ≤ (M : Int) := by omega
    have HB := hid bel
    have HC2 := hid c2
    by_cases hlt : k < M
    · have hki : (k : Int) < (M : Int) := by omega
      clear bel c2
      go_wp2_with fail
      go_quiet (fail)
      have HC2' : (wr.drewN nq).cell? ⟨N, 2, none⟩ = some (.slice (some ⟨b1, off, none⟩) xs.length cap) := HC2.out
      have HB' : Below w.heap.size w (wr.drewN nq) := HB.out.trans (below_n _ _ _)
      obtain ⟨w2, hw2⟩ : ∃ w2, w2 = wr.drewN nq := ⟨_, rfl⟩
      rw [← hw2] at HC2' HB' ⊢
      have HB2 := hid HB'
      have HC3 := hid HC2'
      clear hw2 c0 c1 HC2' HB'
      go_wp2_with fail
      go_at_call 127
      refine (l06Cell HC3.out (by have := HL.out; omega) (by have := HL.out; omega) HCap.out).mono ?_
      rintro e w3 ⟨rfl, hw3⟩
      subst hw3
      go_wp2_with fail
      go_at_call 126
      refine (l06Mass (rdF_part (H1.out.keep HB2.out (Nat.le_refl _)) (9 * k) 9 (by have := HL.out; omega)) (by have := HL.out; simp; omega)).mono ?_
      rintro e w4 ⟨q, u, y, rfl, hq, bel4⟩
      have HQ : Is .f32 q (massG xs k) := hq
      have HB4 := hid (HB2.out.trans (bel4.mono HB2.out.size))
      clear bel4 hq
      go_wp2_with (refine wpList_fop rfl .add _ _ _ _ rfl _ _ _ rfl rfl rfl HA HQ ?_; intro r1 m1 h1)
      go_roundw
      case rel => exact ⟨k + 1, by omega, by go_num, ⟨_, rfl, h1⟩, HB4.out.trans (below_n _ _ _)⟩
      case measure => simp [intOf]; omega
    · have hkn : k = M := by omega
      subst hkn
      clear bel c2
      go_wp2_with fail
      go_quiet (fail)
      go_wp2
      go_ret
      exact ⟨_, rfl, HA, HB.out.trans (below_n _ _ _)⟩

theorem l02Number {x : Nat} {v : Option Nat} (w : World) (hx : Is .f32 x v) :
    Calls Try.prog 68 #[.float .f32 x] w fun e w' => ∃ q, e = .returned (.tuple #[.float .f32 q, .bool (finF v)]) ∧ Is .f32 q (if finF v = true then v else some 0) ∧ ∃ n, w' = w.drewN n := by
  cases hf : finF v with
  | true =>
    go_enter Try.func68, Try.ntmps68
    go_wp2_with (go_at_call 125; refine (specFin _ hx).mono ?_; rw [hf]; rintro e w' ⟨rfl, n1, rfl⟩)
    go_ret2
    exact ⟨_, rfl, hx, _, rfl⟩
  | false =>
    go_enter Try.func68, Try.ntmps68
    go_wp2_with (go_at_call 125; refine (specFin _ hx).mono ?_; rw [hf]; rintro e w' ⟨rfl, n1, rfl⟩)
    go_ret2
    exact ⟨_, rfl, by simpa using is_zero, _, rfl⟩

def massB (s r : Int) (xs : List Nat) (ys : List Bool) : Bool := flowB s r xs ys && finF (accF (massG xs) (s * r).toNat)
def massV (s r : Int) (xs : List Nat) (ys : List Bool) : Option Nat := if massB s r xs ys = true then accF (massG xs) (s * r).toNat else some 0
theorem flow_facts {s r : Int} {xs : List Nat} {ys : List Bool} (h : flowB s r xs ys = true) : (1 ≤ s ∧ s ≤ 16) ∧ (1 ≤ r ∧ r ≤ 16) ∧ ∃ M : Nat, (M : Int) = s * r ∧ (s * r).toNat = M ∧ (1 ≤ M ∧ M ≤ 256) ∧ xs.length = 9 * M := by
  simp only [flowB, Bool.and_eq_true, decide_eq_true_eq, sd16] at h
  obtain ⟨⟨a1, a2, a3, a4⟩, h2, _⟩ := h
  have hp : 1 ≤ s * r := by have := Int.mul_le_mul a1 a3 (by omega) (by omega); simpa using this
  have hq : s * r ≤ 256 := Int.le_trans (Int.mul_le_mul a2 a4 (by omega) (by omega)) (by decide)
  obtain ⟨M, hM⟩ : ∃ M : Nat, (M : Int) = s * r := ⟨(s * r).toNat, by omega⟩
  rw [Int.mul_assoc, ← hM] at h2
  exact ⟨⟨a1, a2⟩, ⟨a3, a4⟩, M, hM, by omega, by omega, by omega⟩
set_option maxHeartbeats 2000000 in
theorem specMass {w : World} {s r : Int} {b1 b2 : Nat} {v1 v2 : Value} {xs : List Nat} {ys : List Bool} (h1 : RdF w b1 v1 xs) (h2 : RdB w b2 v2 ys) :
    Calls Try.prog 23 #[flowV s r v1 v2] w fun e w' => ∃ q, e = .returned (.tuple #[.float .f32 q, .bool (massB s r xs ys)]) ∧ Is .f32 q (massV s r xs ys) ∧ Below w.heap.size w w' := by
  have H1 := hid h1
  have H2 := hid h2
  obtain ⟨ao1, cap1, e1, _⟩ := id h1
  obtain ⟨ao2, cap2, e2, _⟩ := id h2
  subst e1; subst e2
  clear h1 h2
  cases hf : flowB s r xs ys with
  | false =>
    have hb : massB s r xs ys = false := by simp [massB, hf]
    rw [hb, show massV s r xs ys = some 0 by simp [massV, hb]]
    have HF := hid hf
    clear hb hf
    go_enter Try.func23, Try.ntmps23
    go_wp2_with fail
    go_at_call 67
    refine (WVal.l06Flow (s := s) (r := r) (by simp) (by simp) (by simp) (by simp) (H1.out.keep (below1 _ _) (Nat.le_refl _)) (H2.out.keep (below1 _ _) (Nat.le_refl _))).mono ?_
    rw [HF.out]
    rintro e w4 ⟨rfl, m, rfl⟩
    go_wp2
    go_ret2
    exact ⟨_, rfl, is_zero, (below1 _ _).trans (below_n _ _ _)⟩
  | true =>
    obtain ⟨a1, a2, M, hM, hMt, hMb, hl⟩ := flow_facts hf
    have HF := hid hf
    have HM := hid hM
    have HMb := hid hMb
    have HLn := hid hl
    obtain ⟨vv, hvv⟩ : ∃ vv, vv = accF (massG xs) M := ⟨_, rfl⟩
    have hb : massB s r xs ys = finF vv := by rw [massB, hf, hMt, hvv]; rfl
    have hv : massV s r xs ys = if finF vv = true then vv else some 0 := by rw [massV, hb, hMt, hvv]
    rw [hb, hv]
    have HVV := hid hvv
    obtain ⟨pv, hpv⟩ : ∃ x, x = if finF vv = true then vv else some 0 := ⟨_, rfl⟩
    rw [← hpv]
    obtain ⟨pb, hpb⟩ : ∃ x, x = finF vv := ⟨_, rfl⟩
    rw [← hpb]
    have HPV := hid hpv
    have HPB := hid hpb
    clear hpv hpb hf hM hMt hMb hl hb hv hvv a1 a2
    go_enter Try.func23, Try.ntmps23
    go_wp2_with fail
    obtain ⟨w1, hW⟩ : ∃ w1, w1 = w.alloc (Obj.cells #[.int .i64 s, .int .i64 r, .slice ao1 xs.length cap1, .slice ao2 ys.length cap2] 37) := ⟨_, rfl⟩
    obtain ⟨N, hN⟩ : ∃ N, N = w.heap.size := ⟨_, rfl⟩
    have k0 : w1.cell? ⟨N, 0, none⟩ = some (.int .i64 s) := by rw [hW, hN]; simp
    have k1 : w1.cell? ⟨N, 1, none⟩ = some (.int .i64 r) := by rw [hW, hN]; simp
    have k2 : w1.cell? ⟨N, 2, none⟩ = some (.slice ao1 xs.length cap1) := by rw [hW, hN]; simp
    have k3 : w1.cell? ⟨N, 3, none⟩ = some (.slice ao2 ys.length cap2) := by rw [hW, hN]; simp
    have B1 : Below w.heap.size w w1 := by rw [hW]; exact below1 _ _
    simp only [← hW, ← hN]
    clear hW hN
    go_at_call 67
    refine (WVal.l06Flow k0 k1 k2 k3 (H1.out.keep B1 (Nat.le_refl _)) (H2.out.keep B1 (Nat.le_refl _))).mono ?_
    rw [HF.out]
    rintro e w4 ⟨rfl, m, rfl⟩
    have HB1 := hid B1
    have HK : Hid (w1.cell? ⟨N, 0, none⟩ = some (.int .i64 s) ∧ w1.cell? ⟨N, 1, none⟩ = some (.int .i64 r) ∧ w1.cell? ⟨N, 2, none⟩ = some (.slice ao1 xs.length cap1)) := ⟨k0, k1, k2⟩
    clear k0 k1 k2 k3 B1
    go_wp2_with fail
    go_at_call 69
    refine (l06All (w := w1.drewN m) HK.out.1 HK.out.2.1 HK.out.2.2 (rdF_drewN (H1.out.keep HB1.out (Nat.le_refl _)) m) HM.out HMb.out HLn.out).mono ?_
    rw [← HVV.out]
    rintro e w5 ⟨q, rfl, hq, bel5⟩
    have HB5 : Hid (Below w.heap.size w w5) := (HB1.out.trans (below_n _ w1 m)).trans (bel5.mono (HB1.out.trans (below_n _ w1 m)).size)
    clear bel5
    go_wp2_with fail
    go_at_call 68
    refine (l02Number _ hq).mono ?_
    rw [← HPV.out, ← HPB.out]
    rintro e w6 ⟨q2, rfl, hq2, n6, rfl⟩
    go_wp2
    go_ret2
    exact ⟨_, rfl, hq2, HB5.out.trans (below_n _ _ _)⟩

end Go.Proofs.Ytejchjjkehmgaaa.MasS
