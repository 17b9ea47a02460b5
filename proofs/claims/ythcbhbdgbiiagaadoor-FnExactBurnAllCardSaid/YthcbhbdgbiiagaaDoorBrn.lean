/- BurnAll of both sides. -/
import Derived.Test.YthcbhbdgbiiagaaDoorFst
import Derived.Test.YthcbhbdgbiiagaaDoorLf
namespace Go.Proofs.YthcbhbdgbiiagaaDoor.Brn
open Go.RowKit Go.Proofs.YthcbhbdgbiiagaaDoor.Rd Go.Proofs.YthcbhbdgbiiagaaDoor.Help Go.Proofs.YthcbhbdgbiiagaaDoor.Ring Go.Proofs.YthcbhbdgbiiagaaDoor.Small Go.Proofs.YthcbhbdgbiiagaaDoor.FVal Go.Proofs.YthcbhbdgbiiagaaDoor.Keep Go.Proofs.YthcbhbdgbiiagaaDoor.Rule Go.Proofs.YthcbhbdgbiiagaaDoor.Grow Go.Proofs.YthcbhbdgbiiagaaDoor.Bes Go.Proofs.YthcbhbdgbiiagaaDoor.Box Go.Proofs.YthcbhbdgbiiagaaDoor.Sbe
set_option linter.unusedVariables false
set_option linter.unusedSimpArgs false

theorem index {w : World} {b : Nat} {v : Value} {zs : List Int} {x : Int} (h : Rd w b v zs) :
    Calls Tryd.prog 55 #[v, .int .i64 x] w fun e w' => ∃ r : Int, e = .returned (.int .i64 r) ∧ decide (0 ≤ r) = zs.contains x ∧ w = w' := by
  obtain ⟨ao, cap, rfl, hc, hm, h4⟩ := h
  have hsz : zs.length ≤ cap ∧ cap ≤ 9223372036854775807 := by unfold maxLen at hm; omega
  have H4 := hid h4
  obtain ⟨Q, hQ⟩ : ∃ Q, Q = zs.contains x := ⟨_, rfl⟩
  rw [← hQ]
  have HQ := hid hQ
  clear hc hm h4 hQ
  go_enter Tryd.func55, Tryd.ntmps55
  go_wp2
  go_loop [8] (fun i => ∃ p : Nat, p ≤ zs.length ∧ i = .int .i64 p ∧ (∀ j, j < p → zs.getD j 0 ≠ x)) (fun i => zs.length - (intOf i).toNat)
  case atStart => exact ⟨0, Nat.zero_le _, rfl, fun j hj => by omega⟩
  case round =>
    obtain ⟨p, hp, rfl, hall⟩ := hrel
    by_cases hlt : p < zs.length
    · obtain ⟨off, hao, hb, hcell⟩ := H4.out (by omega)
      subst hao
      obtain ⟨y, hy⟩ : ∃ y, y = zs.getD p 0 := ⟨_, rfl⟩
      have hcx : w.cell? ⟨b, off + p, none⟩ = some (.int .i64 y) := by rw [hy]; exact hcell p hlt
      have HA := hid hall
      have hpi : (p : Int) < (zs.length : Int) := by omega
      by_cases hyx : x = y
      · have hd : decide (x = y) = true := by simp [hyx]
        have HY := hid (And.intro hy hyx)
        have HC : Hid (zs.contains x = true) := by
          have hm' : zs.getD p 0 ∈ zs := by rw [List.getD_eq_getElem?_getD, List.getElem?_eq_getElem hlt]; exact List.getElem_mem hlt
          rw [← hy, ← hyx] at hm'
          show zs.contains x = true
          simpa using hm'
        clear hall hy hcell
        subst hyx
        go_wp2
        go_ret
        exact ⟨_, rfl, by rw [HQ.out, HC.out]; simp, rfl⟩
      · have hd : (x == y) = false := by simp [hyx]
        have HY := hid (And.intro hy hyx)
        clear hall hy hcell
        go_wp2
        go_round
        case rel =>
          refine ⟨p + 1, by omega, by go_num, fun j hj => ?_⟩
          by_cases hjp : j = p
          · rw [hjp, ← HY.out.1]; exact fun e => HY.out.2 e.symm
          · exact HA.out j (by omega)
        case measure => simp [intOf]; omega
    · have hpC : zs.length = p := by omega
      have HC : Hid (zs.contains x = false) := by
        simp only [Hid]
        rw [Bool.eq_false_iff]
        intro hc
        have hc2 : x ∈ zs := by simpa using hc
        obtain ⟨j, hj, hjx⟩ := List.mem_iff_getElem.1 hc2
        exact hall j (by omega) (by rw [List.getD_eq_getElem?_getD, List.getElem?_eq_getElem hj]; exact hjx)
      clear hall
      go_wp2
      go_ret
      exact ⟨_, rfl, by rw [HQ.out, HC.out]; rfl, rfl⟩
theorem contains {w : World} {b : Nat} {v : Value} {zs : List Int} {x : Int} (h : Rd w b v zs) :
    Calls Tryd.prog 39 #[v, .int .i64 x] w fun e w' => e = .returned (.bool (zs.contains x)) ∧ w = w' := by
  have HH := hid h
  obtain ⟨ao, cap, rfl, hc, hm, h4⟩ := h
  obtain ⟨Q, hQ⟩ : ∃ Q, Q = zs.contains x := ⟨_, rfl⟩
  rw [← hQ]
  have HQ := hid hQ
  clear hc hm h4 hQ
  go_enter Tryd.func39, Tryd.ntmps39
  go_wp2_with fail
  go_at_call 55
  refine (index HH.out).mono ?_
  rintro e w' ⟨r, rfl, hr, rfl⟩
  rw [← HQ.out] at hr
  have HR := hid hr
  clear hr
  go_wp2
  go_ret
  exact ⟨congrArg (fun q => Ending.returned (Value.bool q)) HR.out, rfl⟩

def itF (R C n : Nat) (z : List Int) : Nat → List Int
  | 0 => z
  | k + 1 => Sfi.fireS (itF R C n z k) R C n
theorem itF_succ (R C n : Nat) (z : List Int) : ∀ k, itF R C n (Sfi.fireS z R C n) k = itF R C n z (k + 1)
  | 0 => rfl
  | k + 1 => by show Sfi.fireS (itF R C n (Sfi.fireS z R C n) k) R C n = _; rw [itF_succ R C n z k]; rfl
def gw1 (z : Int) : Nat := if z = 1 then 2 else if z = 2 then 1 else 0
def sumN (n : Nat) (F : Nat → Nat) : Nat := ((List.range n).map F).sum
theorem sumN_succ (n : Nat) (F : Nat → Nat) : sumN (n + 1) F = sumN n F + F n := by unfold sumN; rw [List.range_succ, List.map_append, List.sum_append]; simp
theorem sumN_le {n : Nat} {F G : Nat → Nat} (h : ∀ i, i < n → F i ≤ G i) : sumN n F ≤ sumN n G := by
  induction n with
  | zero => exact Nat.le_refl _
  | succ n ih =>
    rw [sumN_succ, sumN_succ]
    have := ih (fun i hi => h i (by omega))
    have := h n (by omega)
    omega
theorem sumN_lt {n : Nat} {F G : Nat → Nat} (h : ∀ i, i < n → F i ≤ G i) {k : Nat} (hk : k < n) (hl : F k < G k) : sumN n F < sumN n G := by
  induction n with
  | zero => omega
  | succ n ih =>
    rw [sumN_succ, sumN_succ]
    have h1 := h n (by omega)
    by_cases hkn : k = n
    · have := sumN_le (n := n) (fun i hi => h i (by omega))
      rw [hkn] at hl; omega
    · have := ih (fun i hi => h i (by omega)) (by omega)
      omega
def mu (n : Nat) (z : List Int) : Nat := sumN n fun i => gw1 (z.getD i 0)
theorem mu_le (n : Nat) (z : List Int) : mu n z ≤ 2 * n := by
  unfold mu
  induction n with
  | zero => exact Nat.le_refl _
  | succ n ih =>
    rw [sumN_succ]
    have : gw1 (z.getD n 0) ≤ 2 := by unfold gw1; split <;> (try split) <;> omega
    omega
theorem fire_getD {z : List Int} {R C n i : Nat} (hi : i < n) : (Sfi.fireS z R C n).getD i 0 = Sfi.sfin z R C i := by
  unfold Sfi.fireS
  rw [List.getD_eq_getElem?_getD]
  simp [hi]
theorem sfin_cases (z : List Int) (R C i : Nat) : (z.getD i 0 = 2 ∧ Sfi.sfin z R C i = 0) ∨ (z.getD i 0 = 1 ∧ Sfi.sfin z R C i = 2) ∨ Sfi.sfin z R C i = z.getD i 0 := by
  unfold Sfi.sfin
  by_cases h : z.getD i 0 = 2
  · exact .inl ⟨h, if_pos h⟩
  · rw [if_neg h]
    by_cases h1 : z.getD i 0 = 1 ∧ Sfi.near2 z (sbL R C i) = true
    · exact .inr (.inl ⟨h1.1, if_pos h1⟩)
    · exact .inr (.inr (if_neg h1))
theorem mu_lt {z : List Int} {R C n : Nat} (hl : z.length = n) (h : z.contains 2 = true) : mu n (Sfi.fireS z R C n) < mu n z := by
  have h2 : (2 : Int) ∈ z := by simpa using h
  obtain ⟨j, hj, hj2⟩ := List.mem_iff_getElem.1 h2
  have hz : z.getD j 0 = 2 := by rw [List.getD_eq_getElem?_getD, List.getElem?_eq_getElem hj]; exact hj2
  unfold mu
  refine sumN_lt (k := j) (fun i hi => ?_) (by omega) ?_
  · show gw1 _ ≤ gw1 _
    rw [fire_getD hi]
    rcases sfin_cases z R C i with ⟨h1, h2⟩ | ⟨h1, h2⟩ | h2
    · rw [h1, h2]; decide
    · rw [h1, h2]; decide
    · rw [h2]; exact Nat.le_refl _
  · show gw1 _ < gw1 _
    rw [fire_getD (by omega), hz]
    unfold Sfi.sfin
    rw [if_pos hz]; decide
theorem fire_len (z : List Int) (R C n : Nat) : (Sfi.fireS z R C n).length = n := by simp [Sfi.fireS]
theorem itF_len {z : List Int} {R C n : Nat} (hl : z.length = n) : ∀ k, (itF R C n z k).length = n
  | 0 => hl
  | k + 1 => fire_len _ _ _ _
theorem stops (R C n : Nat) : ∀ (m : Nat) (z : List Int), z.length = n → mu n z ≤ m → ∃ N, N ≤ m ∧ (itF R C n z N).contains 2 = false ∧ ∀ j, j < N → (itF R C n z j).contains 2 = true
  | 0, z, hl, hm => by
    refine ⟨0, Nat.le_refl _, ?_, fun j hj => by omega⟩
    show z.contains 2 = false
    cases h : z.contains 2 with
    | false => rfl
    | true => have := mu_lt (R := R) (C := C) hl h; omega
  | m + 1, z, hl, hm => by
    cases h : z.contains 2 with
    | false => exact ⟨0, Nat.zero_le _, h, fun j hj => by omega⟩
    | true =>
      have h1 := mu_lt (R := R) (C := C) hl h
      obtain ⟨N, h2, h3, h4⟩ := stops R C n m (Sfi.fireS z R C n) (fire_len _ _ _ _) (by omega)
      refine ⟨N + 1, by omega, by rw [← itF_succ]; exact h3, fun j hj => ?_⟩
      cases j with
      | zero => exact h
      | succ j => rw [← itF_succ]; exact h4 j (by omega)
theorem fire_field {R C n : Nat} {z : List Int} (h : fieldB R C z = true) (hn : n = R * C) : fieldB R C (Sfi.fireS z R C n) = true := by
  have hl := (field_nat h).2.2.1
  simp only [fieldB, Bool.and_eq_true] at h ⊢
  refine ⟨h.1, by rw [fire_len, hn]; simp, ?_⟩
  have ha := h.2.2
  unfold allB at ha ⊢
  rw [List.all_eq_true] at ha ⊢
  intro x hx
  unfold Sfi.fireS at hx
  rw [List.mem_map] at hx
  obtain ⟨i, hi, rfl⟩ := hx
  have hi' : i < z.length := by rw [hl, ← hn]; simpa using hi
  rcases sfin_cases z R C i with ⟨_, h2⟩ | ⟨_, h2⟩ | h2
  · rw [h2]; decide
  · rw [h2]; decide
  · rw [h2]
    refine ha _ ?_
    rw [List.getD_eq_getElem?_getD, List.getElem?_eq_getElem hi']
    exact List.getElem_mem hi'
theorem it_field {R C n : Nat} {z : List Int} (h : fieldB R C z = true) (hn : n = R * C) : ∀ k, fieldB R C (itF R C n z k) = true
  | 0 => h
  | k + 1 => fire_field (it_field h hn k) hn

set_option maxHeartbeats 2000000 in
theorem specNo {w : World} {s r : Int} {b : Nat} {v : Value} {zs : List Int} (h : Rd w b v zs) (hq : fieldB s r zs = false) :
    Calls Tryd.prog 18 #[ruleV s r v] w fun e w' => e = .returned (.tuple #[ruleV 0 0 (.slice none 0 0), .int .i64 0, .bool false]) ∧ Below w.heap.size w w' := by
  have HH := hid h
  have HQ := hid hq
  obtain ⟨ao, cap, rfl, hc, hm, _⟩ := h
  clear hc hm hq
  go_enter Tryd.func18, Tryd.ntmps18
  go_wp2_with fail
  obtain ⟨w1, hW⟩ : ∃ w1, w1 = (w.alloc (Obj.cells #[.int .i64 s, .int .i64 r, .slice ao zs.length cap] 26)).alloc (Obj.cells #[.int .i64 0, .int .i64 0, .slice none 0 0] 26) := ⟨_, rfl⟩
  obtain ⟨N, hN⟩ : ∃ N, N = w.heap.size := ⟨_, rfl⟩
  obtain ⟨NT, hM⟩ : ∃ NT, NT = N + 1 := ⟨_, rfl⟩
  have st : Below w.heap.size w w1 ∧ w1.cell? ⟨N, 0, none⟩ = some (.int .i64 s) ∧ w1.cell? ⟨N, 1, none⟩ = some (.int .i64 r) ∧ w1.cell? ⟨N, 2, none⟩ = some (.slice ao zs.length cap) ∧ Rd w1 b (.slice ao zs.length cap) zs ∧ w.heap.size ≤ w1.heap.size := by
    rw [hW, hN]
    exact ⟨Go.Joins.below_alloc2 _ _ _, by simp, by simp, by simp, HH.out.keep (Go.Joins.below_alloc2 _ _ _) (Nat.le_refl _), by simp; omega⟩
  have kT : w1.heap[NT]? = some (Obj.cells #[.int .i64 0, .int .i64 0, .slice none 0 0] 26) := by rw [hW]; exact FNew.heap_top (by rw [hM, hN]; simp)
  have HNT : Hid (w.heap.size ≤ NT) := by simp only [Hid]; omega
  have HNN : Hid (NT = N + 1 ∧ N = w.heap.size) := ⟨hM, hN⟩
  simp only [← hW, ← hN, ← hM]
  clear hW hN hM
  go_at_call 34
  refine (FSpec.is (rd3_1_0 st) st.2.1 st.2.2.1 st.2.2.2.1).mono ?_
  rw [HQ.out]
  rintro e w2 ⟨rfl, m, hw2⟩
  have bel : Below w1.heap.size w1 w2 := by rw [hw2]; exact FSpec.below_drewN' _ _ _
  clear hw2
  replace st := next3_1 bel st
  replace kT := (bel.block NT (Array.getElem?_eq_some_iff.1 kT).1).trans kT
  clear bel

  have HB := hid st.1
  have y0 : w2.cell? ⟨NT, 0, none⟩ = some (.int .i64 0) := Go.Joins.cell_of_block kT 0
  have y1 : w2.cell? ⟨NT, 1, none⟩ = some (.int .i64 0) := Go.Joins.cell_of_block kT 1
  have y2 : w2.cell? ⟨NT, 2, none⟩ = some (.slice none 0 0) := Go.Joins.cell_of_block kT 2
  have g0 : w2.frozen? ⟨NT, 0, none⟩ = false := Go.Joins.unfrozen_of_block kT 0
  have g1 : w2.frozen? ⟨NT, 1, none⟩ = false := Go.Joins.unfrozen_of_block kT 1
  have g2 : w2.frozen? ⟨NT, 2, none⟩ = false := Go.Joins.unfrozen_of_block kT 2
  have HKx := hid kT
  clear kT
  go_wp2
  obtain ⟨W5, hW⟩ : ∃ W5, W5 = (((w2.setCell ⟨NT, 0, none⟩ (.int .i64 0)).setCell ⟨NT, 1, none⟩ (.int .i64 0)).setCell ⟨NT, 2, none⟩ (.slice none 0 0)) := ⟨_, rfl⟩
  have q0 := (Go.Joins.block_setCell (i := 2) (Go.Joins.block_setCell (i := 1) (Go.Joins.block_setCell (i := 0) HKx.out (.int .i64 0)) (.int .i64 0)) (.slice none 0 0))
  rw [← hW] at q0
  have z0 : W5.cell? ⟨NT, 0, none⟩ = some (.int .i64 0) := Go.Joins.cell_of_block q0 0
  have z1 : W5.cell? ⟨NT, 1, none⟩ = some (.int .i64 0) := Go.Joins.cell_of_block q0 1
  have z2 : W5.cell? ⟨NT, 2, none⟩ = some (.slice none 0 0) := Go.Joins.cell_of_block q0 2
  have B5 : Below w.heap.size w W5 := by
    have h1 := HNT.out
    rw [hW]
    exact ((HB.out.setCell (by simp; omega) _).setCell (by simp; omega) _).setCell (by simp; omega) _
  simp only [← hW]
  clear hW q0
  simp [bodyPost, results, Tryd.results18, go_sem, z0, z1, z2]
  exact B5

set_option maxHeartbeats 2000000 in
theorem implNo {w : World} {s r : Int} {b : Nat} {v : Value} {zs : List Int} (h : Rd w b v zs) (hq : fieldB s r zs = false) :
    Calls Tryd.prog 19 #[ruleV s r v] w fun e w' => e = .returned (.tuple #[ruleV 0 0 (.slice none 0 0), .int .i64 0, .bool false]) ∧ Below w.heap.size w w' := by
  have HH := hid h
  have HQ := hid hq
  obtain ⟨ao, cap, rfl, hc, hm, _⟩ := h
  clear hc hm hq
  go_enter Tryd.func19, Tryd.ntmps19
  go_wp2_with fail
  obtain ⟨w1, hW⟩ : ∃ w1, w1 = (w.alloc (Obj.cells #[.int .i64 s, .int .i64 r, .slice ao zs.length cap] 26)).alloc (Obj.cells #[.int .i64 0, .int .i64 0, .slice none 0 0] 26) := ⟨_, rfl⟩
  obtain ⟨N, hN⟩ : ∃ N, N = w.heap.size := ⟨_, rfl⟩
  obtain ⟨NT, hM⟩ : ∃ NT, NT = N + 1 := ⟨_, rfl⟩
  have st : Below w.heap.size w w1 ∧ w1.cell? ⟨N, 0, none⟩ = some (.int .i64 s) ∧ w1.cell? ⟨N, 1, none⟩ = some (.int .i64 r) ∧ w1.cell? ⟨N, 2, none⟩ = some (.slice ao zs.length cap) ∧ Rd w1 b (.slice ao zs.length cap) zs ∧ w.heap.size ≤ w1.heap.size := by
    rw [hW, hN]
    exact ⟨Go.Joins.below_alloc2 _ _ _, by simp, by simp, by simp, HH.out.keep (Go.Joins.below_alloc2 _ _ _) (Nat.le_refl _), by simp; omega⟩
  have kT : w1.heap[NT]? = some (Obj.cells #[.int .i64 0, .int .i64 0, .slice none 0 0] 26) := by rw [hW]; exact FNew.heap_top (by rw [hM, hN]; simp)
  have HNT : Hid (w.heap.size ≤ NT) := by simp only [Hid]; omega
  have HNN : Hid (NT = N + 1 ∧ N = w.heap.size) := ⟨hM, hN⟩
  simp only [← hW, ← hN, ← hM]
  clear hW hN hM
  go_at_call 36
  refine (implValid (rd3_1_0 st)).mono ?_
  rw [HQ.out]
  rintro e w2 ⟨rfl, bel⟩
  replace st := next3_1 bel st
  replace kT := (bel.block NT (Array.getElem?_eq_some_iff.1 kT).1).trans kT
  clear bel

  have HB := hid st.1
  have y0 : w2.cell? ⟨NT, 0, none⟩ = some (.int .i64 0) := Go.Joins.cell_of_block kT 0
  have y1 : w2.cell? ⟨NT, 1, none⟩ = some (.int .i64 0) := Go.Joins.cell_of_block kT 1
  have y2 : w2.cell? ⟨NT, 2, none⟩ = some (.slice none 0 0) := Go.Joins.cell_of_block kT 2
  have g0 : w2.frozen? ⟨NT, 0, none⟩ = false := Go.Joins.unfrozen_of_block kT 0
  have g1 : w2.frozen? ⟨NT, 1, none⟩ = false := Go.Joins.unfrozen_of_block kT 1
  have g2 : w2.frozen? ⟨NT, 2, none⟩ = false := Go.Joins.unfrozen_of_block kT 2
  have HKx := hid kT
  clear kT
  go_wp2
  obtain ⟨W5, hW⟩ : ∃ W5, W5 = (((w2.setCell ⟨NT, 0, none⟩ (.int .i64 0)).setCell ⟨NT, 1, none⟩ (.int .i64 0)).setCell ⟨NT, 2, none⟩ (.slice none 0 0)) := ⟨_, rfl⟩
  have q0 := (Go.Joins.block_setCell (i := 2) (Go.Joins.block_setCell (i := 1) (Go.Joins.block_setCell (i := 0) HKx.out (.int .i64 0)) (.int .i64 0)) (.slice none 0 0))
  rw [← hW] at q0
  have z0 : W5.cell? ⟨NT, 0, none⟩ = some (.int .i64 0) := Go.Joins.cell_of_block q0 0
  have z1 : W5.cell? ⟨NT, 1, none⟩ = some (.int .i64 0) := Go.Joins.cell_of_block q0 1
  have z2 : W5.cell? ⟨NT, 2, none⟩ = some (.slice none 0 0) := Go.Joins.cell_of_block q0 2
  have B5 : Below w.heap.size w W5 := by
    have h1 := HNT.out
    rw [hW]
    exact ((HB.out.setCell (by simp; omega) _).setCell (by simp; omega) _).setCell (by simp; omega) _
  simp only [← hW]
  clear hW q0
  simp [bodyPost, results, Tryd.results19, go_sem, z0, z1, z2]
  exact B5

set_option maxHeartbeats 8000000 in
theorem specOk {w : World} {R C n MM : Nat} {b : Nat} {v : Value} {zs : List Int} (h : Rd w b v zs) (hq : fieldB R C zs = true) (hn : n = R * C) (hMM : MM ≤ 2000) (h2 : (itF R C n zs MM).contains 2 = false) (h3 : ∀ j, j < MM → (itF R C n zs j).contains 2 = true) :
    Calls Tryd.prog 18 #[ruleV R C v] w fun e w' => ∃ b' k, e = .returned (.tuple #[ruleV R C (.slice (some ⟨b', 0, none⟩) n k), .int .i64 (MM : Int), .bool true]) ∧ Rd.Own 2 w' b' (.slice (some ⟨b', 0, none⟩) n k) (itF R C n zs MM) ∧ w.heap.size ≤ b' ∧ Below w.heap.size w w' := by
  have HC1 : Hid (1 ≤ C) := (field_nat hq).2.1.1
  have HZ : Hid (1 ≤ zs.length ∧ zs.length ≤ 1048576) := by
    obtain ⟨hR, hC, hl, hle⟩ := field_nat hq
    simp only [Hid]; rw [hl]; exact ⟨Nat.mul_pos hR.1 hC.1, by omega⟩
  have HL : Hid (zs.length = n) := by simp only [Hid]; rw [hn]; exact (field_nat hq).2.2.1
  have HH := hid h
  have HQ := hid hq
  have HN := hid hn
  have H2 := hid h2
  have H3 := hid h3
  skip
  obtain ⟨ao, cap, rfl, hc, hm, _⟩ := h
  clear hc hm hq hn h2 h3
  go_enter Tryd.func18, Tryd.ntmps18
  go_wp2_with fail
  obtain ⟨w1, hW⟩ : ∃ w1, w1 = (w.alloc (Obj.cells #[.int .i64 R, .int .i64 C, .slice ao zs.length cap] 26)).alloc (Obj.cells #[.int .i64 0, .int .i64 0, .slice none 0 0] 26) := ⟨_, rfl⟩
  obtain ⟨N, hN⟩ : ∃ N, N = w.heap.size := ⟨_, rfl⟩
  obtain ⟨NT, hM⟩ : ∃ NT, NT = N + 1 := ⟨_, rfl⟩
  have st : Below w.heap.size w w1 ∧ w1.cell? ⟨N, 0, none⟩ = some (.int .i64 R) ∧ w1.cell? ⟨N, 1, none⟩ = some (.int .i64 C) ∧ w1.cell? ⟨N, 2, none⟩ = some (.slice ao zs.length cap) ∧ Rd w1 b (.slice ao zs.length cap) zs ∧ w.heap.size ≤ w1.heap.size := by
    rw [hW, hN]
    exact ⟨Go.Joins.below_alloc2 _ _ _, by simp, by simp, by simp, HH.out.keep (Go.Joins.below_alloc2 _ _ _) (Nat.le_refl _), by simp; omega⟩
  have kT : w1.heap[NT]? = some (Obj.cells #[.int .i64 0, .int .i64 0, .slice none 0 0] 26) := by rw [hW]; exact FNew.heap_top (by rw [hM, hN]; simp)
  have HNT : Hid (w.heap.size ≤ NT) := by simp only [Hid]; omega
  have HNN : Hid (NT = N + 1 ∧ N = w.heap.size) := ⟨hM, hN⟩
  simp only [← hW, ← hN, ← hM]
  clear hW hN hM
  go_at_call 34
  refine (FSpec.is (rd3_1_0 st) st.2.1 st.2.2.1 st.2.2.2.1).mono ?_
  rw [HQ.out]
  rintro e w2 ⟨rfl, m, hw2⟩
  have bel : Below w1.heap.size w1 w2 := by rw [hw2]; exact FSpec.below_drewN' _ _ _
  clear hw2
  replace st := next3_1 bel st
  replace kT := (bel.block NT (Array.getElem?_eq_some_iff.1 kT).1).trans kT
  clear bel

  go_wp2_with fail
  go_at_call 28
  refine (SOwn.l04Own st.2.1 st.2.2.1 st.2.2.2.1 (rd3_1_0 st) HZ.out).mono ?_
  rw [HL.out]
  rintro e w3 ⟨b0, k0, rfl, ow, lo, _, _, bel⟩
  have HLO : Hid (w.heap.size ≤ b0) := Nat.le_trans st.1.size lo
  have HTb : Hid (NT ≠ b0) := Nat.ne_of_lt (Nat.lt_of_lt_of_le (Array.getElem?_eq_some_iff.1 kT).1 lo)
  replace kT := heap_keep bel kT
  replace st := next3_1 bel st
  have HB3 := hid st.1
  have HO3 := hid ow
  have HT3 := hid kT
  clear bel ow lo st kT
  go_wp2_with fail
  obtain ⟨w4, hW⟩ : ∃ w4, w4 = w3.alloc (Obj.cells #[.int .i64 R, .int .i64 C, .slice (some ⟨b0, 0, none⟩) n k0] 26) := ⟨_, rfl⟩
  obtain ⟨NX, hN⟩ : ∃ NX, NX = w3.heap.size := ⟨_, rfl⟩
  have bel : Below w3.heap.size w3 w4 := by rw [hW]; exact below1 _ _
  have HNX : Hid (w.heap.size ≤ NX ∧ NT ≠ NX) := ⟨by rw [hN]; exact HB3.out.size, by rw [hN]; exact Nat.ne_of_lt (heap_lt HT3.out)⟩
  have HST : Hid (Rd.Own 2 w4 b0 (.slice (some ⟨b0, 0, none⟩) n k0) (itF R C n zs 0) ∧ w4.heap[NX]? = some (Obj.cells #[.int .i64 R, .int .i64 C, .slice (some ⟨b0, 0, none⟩) n k0] 26) ∧ w4.heap[NT]? = some (Obj.cells #[.int .i64 0, .int .i64 0, .slice none 0 0] 26) ∧ w.heap.size ≤ b0 ∧ NX ≠ b0 ∧ NT ≠ b0 ∧ Below w.heap.size w w4) := ⟨HO3.out.keep bel, by rw [hW]; exact FNew.heap_top hN, heap_keep bel HT3.out, HLO.out, by rw [hN]; exact Nat.ne_of_gt HO3.out.lt, HTb.out, HB3.out.trans (bel.mono HB3.out.size)⟩
  simp only [← hW, ← hN]
  clear hW hN bel
  go_wp2
  go_loopw [6] (fun t wr => ∃ j : Nat, j ≤ MM ∧ t = .int .i64 (j : Int) ∧ ∃ bc kc : Nat, Rd.Own 2 wr bc (.slice (some ⟨bc, 0, none⟩) n kc) (itF R C n zs j) ∧ wr.heap[NX]? = some (Obj.cells #[.int .i64 R, .int .i64 C, .slice (some ⟨bc, 0, none⟩) n kc] 26) ∧ wr.heap[NT]? = some (Obj.cells #[.int .i64 0, .int .i64 0, .slice none 0 0] 26) ∧ w.heap.size ≤ bc ∧ NX ≠ bc ∧ NT ≠ bc ∧ Below w.heap.size w wr) (fun t _ => MM - (intOf t).toNat)
  case atStart => exact ⟨0, Nat.zero_le _, rfl, b0, k0, HST.out⟩
  case round =>
    clear HST HLO HTb HB3 HO3 HT3
    obtain ⟨j, hj, rfl, bc, kc, ow, kX, kT, hlo, hXb, hTb, hbel⟩ := hrel
    have HOW := hid ow
    have c0 : wr.cell? ⟨NX, 0, none⟩ = some (.int .i64 R) := Go.Joins.cell_of_block kX 0
    have c1 : wr.cell? ⟨NX, 1, none⟩ = some (.int .i64 C) := Go.Joins.cell_of_block kX 1
    have c2 : wr.cell? ⟨NX, 2, none⟩ = some (.slice (some ⟨bc, 0, none⟩) n kc) := Go.Joins.cell_of_block kX 2
    have HKX0 := hid kX
    have HKT0 := hid kT
    have HB := hid hbel
    have HNE := hid (And.intro hlo (And.intro hXb hTb))
    clear ow kX kT hlo hXb hTb hbel
    by_cases hlt : j < MM
    · have HJ := hid (H3.out j hlt)
      go_wp2_with fail
      go_at_call 38
      refine (Lf.l04Has HOW.out.rd).mono ?_
      rw [HJ.out]
      rintro e wh ⟨rfl, m, hwm⟩
      have bel : Below wr.heap.size wr wh := by rw [hwm]; exact FSpec.below_drewN' _ _ _
      clear hwm
      have HOh := hid (HOW.out.keep bel)
      have HKXh := hid (heap_keep bel HKX0.out)
      have HKTh := hid (heap_keep bel HKT0.out)
      have HBh := hid (HB.out.trans (bel.mono HB.out.size))
      clear bel c0 c1 c2
      have c0 : wh.cell? ⟨NX, 0, none⟩ = some (.int .i64 R) := Go.Joins.cell_of_block HKXh.out 0
      have c1 : wh.cell? ⟨NX, 1, none⟩ = some (.int .i64 C) := Go.Joins.cell_of_block HKXh.out 1
      have c2 : wh.cell? ⟨NX, 2, none⟩ = some (.slice (some ⟨bc, 0, none⟩) n kc) := Go.Joins.cell_of_block HKXh.out 2
      have HC2 := hid (And.intro c0 (And.intro c1 c2))
      go_wp2_with fail
      go_at_call 35
      refine (Sfi.l04Fire HC2.out.1 HC2.out.2.1 HC2.out.2.2 HOh.out.rd (it_field HQ.out HN.out j) HN.out).mono ?_
      rintro e w5 ⟨b2, k2, rfl, ow2, lo2, bel⟩
      have HWB : Hid (NX ≠ b2) := Nat.ne_of_lt (Nat.lt_of_lt_of_le (heap_lt HKXh.out) lo2)
      have HTB : Hid (NT ≠ b2) := Nat.ne_of_lt (Nat.lt_of_lt_of_le (heap_lt HKTh.out) lo2)
      have HLO2 : Hid (w.heap.size ≤ b2) := Nat.le_trans HBh.out.size lo2
      have HKX := hid (heap_keep bel HKXh.out)
      have HKT := hid (heap_keep bel HKTh.out)
      have HB5 := hid (HBh.out.trans (bel.mono HBh.out.size))
      have HO2 := hid ow2
      have y0 : w5.cell? ⟨NX, 0, none⟩ = some (.int .i64 R) := Go.Joins.cell_of_block HKX.out 0
      have y1 : w5.cell? ⟨NX, 1, none⟩ = some (.int .i64 C) := Go.Joins.cell_of_block HKX.out 1
      have y2 : w5.cell? ⟨NX, 2, none⟩ = some (.slice (some ⟨bc, 0, none⟩) n kc) := Go.Joins.cell_of_block HKX.out 2
      have g0 : w5.frozen? ⟨NX, 0, none⟩ = false := Go.Joins.unfrozen_of_block HKX.out 0
      have g1 : w5.frozen? ⟨NX, 1, none⟩ = false := Go.Joins.unfrozen_of_block HKX.out 1
      have g2 : w5.frozen? ⟨NX, 2, none⟩ = false := Go.Joins.unfrozen_of_block HKX.out 2
      clear bel ow2 lo2 c0 c1 c2
      go_wp2
      have hWb := HWB.out
      have qk := (Go.Joins.block_setCell (i := 2) (Go.Joins.block_setCell (i := 1) (Go.Joins.block_setCell (i := 0) HKX.out (.int .i64 R)) (.int .i64 C)) (.slice (some ⟨b2, 0, none⟩) n k2))
      have qo := (own_set (own_set (own_set HO2.out ⟨NX, 0, none⟩ (.int .i64 R) hWb) ⟨NX, 1, none⟩ (.int .i64 C) hWb) ⟨NX, 2, none⟩ (.slice (some ⟨b2, 0, none⟩) n k2) hWb)
      have qb := (((HB5.out.setCell (p := ⟨NX, 0, none⟩) HNX.out.1 (.int .i64 R)).setCell (p := ⟨NX, 1, none⟩) HNX.out.1 (.int .i64 C)).setCell (p := ⟨NX, 2, none⟩) HNX.out.1 (.slice (some ⟨b2, 0, none⟩) n k2))
      have qt := ((Below.heap_setCell _ ⟨NX, 2, none⟩ (.slice (some ⟨b2, 0, none⟩) n k2) _ HNX.out.2).trans ((Below.heap_setCell _ ⟨NX, 1, none⟩ (.int .i64 C) _ HNX.out.2).trans ((Below.heap_setCell _ ⟨NX, 0, none⟩ (.int .i64 R) _ HNX.out.2).trans HKT.out)))
      obtain ⟨w6, hW6⟩ : ∃ w6, w6 = (((w5.setCell ⟨NX, 0, none⟩ (.int .i64 R)).setCell ⟨NX, 1, none⟩ (.int .i64 C)).setCell ⟨NX, 2, none⟩ (.slice (some ⟨b2, 0, none⟩) n k2)) := ⟨_, rfl⟩
      rw [← hW6] at qk qo qb qt
      simp only [← hW6]
      have HF6 := hid (And.intro qo (And.intro qk (And.intro qt qb)))
      clear hW6 qk qo qb qt y0 y1 y2 g0 g1 g2 hWb
      go_roundw
      case rel => exact ⟨j + 1, by omega, by go_num, b2, k2, HF6.out.1, HF6.out.2.1, HF6.out.2.2.1, HLO2.out, HWB.out, HTB.out, HF6.out.2.2.2⟩
      case measure => simp [intOf]; omega
    · have hjN : j = MM := by omega
      subst hjN
      go_wp2_with fail
      go_at_call 38
      refine (Lf.l04Has HOW.out.rd).mono ?_
      rw [H2.out]
      rintro e wh ⟨rfl, m, hwm⟩
      have bel : Below wr.heap.size wr wh := by rw [hwm]; exact FSpec.below_drewN' _ _ _
      clear hwm
      have HO := hid (HOW.out.keep bel)
      have kX := heap_keep bel HKX0.out
      have kT := heap_keep bel HKT0.out
      have HNB : Hid (NT ≠ bc) := HNE.out.2.2
      have HLo : Hid (w.heap.size ≤ bc) := HNE.out.1
      have HB9 := HB.out.trans (bel.mono HB.out.size)
      clear HB c0 c1 c2 bel
      have HB := hid HB9
      clear HB9
      have x0 : wh.cell? ⟨NX, 0, none⟩ = some (.int .i64 R) := Go.Joins.cell_of_block kX 0
      have x1 : wh.cell? ⟨NX, 1, none⟩ = some (.int .i64 C) := Go.Joins.cell_of_block kX 1
      have x2 : wh.cell? ⟨NX, 2, none⟩ = some (.slice (some ⟨bc, 0, none⟩) n kc) := Go.Joins.cell_of_block kX 2
      clear kX
      have y0 : wh.cell? ⟨NT, 0, none⟩ = some (.int .i64 0) := Go.Joins.cell_of_block kT 0
      have y1 : wh.cell? ⟨NT, 1, none⟩ = some (.int .i64 0) := Go.Joins.cell_of_block kT 1
      have y2 : wh.cell? ⟨NT, 2, none⟩ = some (.slice none 0 0) := Go.Joins.cell_of_block kT 2
      have g0 : wh.frozen? ⟨NT, 0, none⟩ = false := Go.Joins.unfrozen_of_block kT 0
      have g1 : wh.frozen? ⟨NT, 1, none⟩ = false := Go.Joins.unfrozen_of_block kT 1
      have g2 : wh.frozen? ⟨NT, 2, none⟩ = false := Go.Joins.unfrozen_of_block kT 2
      have HKx := hid kT
      clear kT
      go_wp2
      obtain ⟨W5, hW⟩ : ∃ W5, W5 = (((wh.setCell ⟨NT, 0, none⟩ (.int .i64 R)).setCell ⟨NT, 1, none⟩ (.int .i64 C)).setCell ⟨NT, 2, none⟩ (.slice (some ⟨bc, 0, none⟩) n kc)) := ⟨_, rfl⟩
      have q0 := (Go.Joins.block_setCell (i := 2) (Go.Joins.block_setCell (i := 1) (Go.Joins.block_setCell (i := 0) HKx.out (.int .i64 R)) (.int .i64 C)) (.slice (some ⟨bc, 0, none⟩) n kc))
      rw [← hW] at q0
      have z0 : W5.cell? ⟨NT, 0, none⟩ = some (.int .i64 R) := Go.Joins.cell_of_block q0 0
      have z1 : W5.cell? ⟨NT, 1, none⟩ = some (.int .i64 C) := Go.Joins.cell_of_block q0 1
      have z2 : W5.cell? ⟨NT, 2, none⟩ = some (.slice (some ⟨bc, 0, none⟩) n kc) := Go.Joins.cell_of_block q0 2
      have O5 := (own_set (own_set (own_set HO.out ⟨NT, 0, none⟩ (.int .i64 R) HNB.out) ⟨NT, 1, none⟩ (.int .i64 C) HNB.out) ⟨NT, 2, none⟩ (.slice (some ⟨bc, 0, none⟩) n kc) HNB.out)
      rw [← hW] at O5
      have B5 : Below w.heap.size w W5 := by
        have h1 := HNT.out
        rw [hW]
        exact ((HB.out.setCell (by simp; omega) _).setCell (by simp; omega) _).setCell (by simp; omega) _
      simp only [← hW]
      clear hW q0
      simp [bodyPost, results, Tryd.results18, go_sem, z0, z1, z2]
      exact ⟨bc, kc, ⟨rfl, rfl⟩, O5, HLo.out, B5⟩

set_option maxHeartbeats 8000000 in
theorem implOk {w : World} {R C n MM : Nat} {b : Nat} {v : Value} {zs : List Int} (h : Rd w b v zs) (hq : fieldB R C zs = true) (hn : n = R * C) (hMM : MM ≤ 2000) (h2 : (itF R C n zs MM).contains 2 = false) (h3 : ∀ j, j < MM → (itF R C n zs j).contains 2 = true) (hg : GW w) :
    Calls Tryd.prog 19 #[ruleV R C v] w fun e w' => ∃ b' k, e = .returned (.tuple #[ruleV R C (.slice (some ⟨b', 0, none⟩) n k), .int .i64 (MM : Int), .bool true]) ∧ Rd.Own 2 w' b' (.slice (some ⟨b', 0, none⟩) n k) (itF R C n zs MM) ∧ w.heap.size ≤ b' ∧ Below w.heap.size w w' := by
  have HC1 : Hid (1 ≤ C) := (field_nat hq).2.1.1
  have HZ : Hid (1 ≤ zs.length ∧ zs.length ≤ 1048576) := by
    obtain ⟨hR, hC, hl, hle⟩ := field_nat hq
    simp only [Hid]; rw [hl]; exact ⟨Nat.mul_pos hR.1 hC.1, by omega⟩
  have HL : Hid (zs.length = n) := by simp only [Hid]; rw [hn]; exact (field_nat hq).2.2.1
  have HH := hid h
  have HQ := hid hq
  have HN := hid hn
  have H2 := hid h2
  have H3 := hid h3
  have HG := hid hg
  obtain ⟨ao, cap, rfl, hc, hm, _⟩ := h
  clear hc hm hq hn h2 h3 hg
  go_enter Tryd.func19, Tryd.ntmps19
  go_wp2_with fail
  obtain ⟨w1, hW⟩ : ∃ w1, w1 = (w.alloc (Obj.cells #[.int .i64 R, .int .i64 C, .slice ao zs.length cap] 26)).alloc (Obj.cells #[.int .i64 0, .int .i64 0, .slice none 0 0] 26) := ⟨_, rfl⟩
  obtain ⟨N, hN⟩ : ∃ N, N = w.heap.size := ⟨_, rfl⟩
  obtain ⟨NT, hM⟩ : ∃ NT, NT = N + 1 := ⟨_, rfl⟩
  have st : Below w.heap.size w w1 ∧ w1.cell? ⟨N, 0, none⟩ = some (.int .i64 R) ∧ w1.cell? ⟨N, 1, none⟩ = some (.int .i64 C) ∧ w1.cell? ⟨N, 2, none⟩ = some (.slice ao zs.length cap) ∧ Rd w1 b (.slice ao zs.length cap) zs ∧ w.heap.size ≤ w1.heap.size := by
    rw [hW, hN]
    exact ⟨Go.Joins.below_alloc2 _ _ _, by simp, by simp, by simp, HH.out.keep (Go.Joins.below_alloc2 _ _ _) (Nat.le_refl _), by simp; omega⟩
  have kT : w1.heap[NT]? = some (Obj.cells #[.int .i64 0, .int .i64 0, .slice none 0 0] 26) := by rw [hW]; exact FNew.heap_top (by rw [hM, hN]; simp)
  have HNT : Hid (w.heap.size ≤ NT) := by simp only [Hid]; omega
  have HNN : Hid (NT = N + 1 ∧ N = w.heap.size) := ⟨hM, hN⟩
  simp only [← hW, ← hN, ← hM]
  clear hW hN hM
  go_at_call 36
  refine (implValid (rd3_1_0 st)).mono ?_
  rw [HQ.out]
  rintro e w2 ⟨rfl, bel⟩
  replace st := next3_1 bel st
  replace kT := (bel.block NT (Array.getElem?_eq_some_iff.1 kT).1).trans kT
  clear bel

  go_wp2_with fail
  go_at_call 32
  refine (copyOfN (rd3_1_0 st) HZ.out HL.out).mono ?_
  rintro e w3 ⟨b0, k0, rfl, ow, lo, bel⟩
  have HLO : Hid (w.heap.size ≤ b0) := Nat.le_trans st.1.size lo
  have HTb : Hid (NT ≠ b0) := Nat.ne_of_lt (Nat.lt_of_lt_of_le (Array.getElem?_eq_some_iff.1 kT).1 lo)
  replace kT := heap_keep bel kT
  replace st := next3_1 bel st
  have HB3 := hid st.1
  have HO3 := hid ow
  have HT3 := hid kT
  clear bel ow lo st kT
  go_wp2_with fail
  obtain ⟨w4, hW⟩ : ∃ w4, w4 = w3.alloc (Obj.cells #[.int .i64 R, .int .i64 C, .slice (some ⟨b0, 0, none⟩) n k0] 26) := ⟨_, rfl⟩
  obtain ⟨NX, hN⟩ : ∃ NX, NX = w3.heap.size := ⟨_, rfl⟩
  have bel : Below w3.heap.size w3 w4 := by rw [hW]; exact below1 _ _
  have HNX : Hid (w.heap.size ≤ NX ∧ NT ≠ NX) := ⟨by rw [hN]; exact HB3.out.size, by rw [hN]; exact Nat.ne_of_lt (heap_lt HT3.out)⟩
  have HST : Hid (Rd.Own 2 w4 b0 (.slice (some ⟨b0, 0, none⟩) n k0) (itF R C n zs 0) ∧ w4.heap[NX]? = some (Obj.cells #[.int .i64 R, .int .i64 C, .slice (some ⟨b0, 0, none⟩) n k0] 26) ∧ w4.heap[NT]? = some (Obj.cells #[.int .i64 0, .int .i64 0, .slice none 0 0] 26) ∧ w.heap.size ≤ b0 ∧ NX ≠ b0 ∧ NT ≠ b0 ∧ Below w.heap.size w w4) := ⟨HO3.out.keep bel, by rw [hW]; exact FNew.heap_top hN, heap_keep bel HT3.out, HLO.out, by rw [hN]; exact Nat.ne_of_gt HO3.out.lt, HTb.out, HB3.out.trans (bel.mono HB3.out.size)⟩
  simp only [← hW, ← hN]
  clear hW hN bel
  go_wp2
  go_loopw [6] (fun t wr => ∃ j : Nat, j ≤ MM ∧ t = .int .i64 (j : Int) ∧ ∃ bc kc : Nat, Rd.Own 2 wr bc (.slice (some ⟨bc, 0, none⟩) n kc) (itF R C n zs j) ∧ wr.heap[NX]? = some (Obj.cells #[.int .i64 R, .int .i64 C, .slice (some ⟨bc, 0, none⟩) n kc] 26) ∧ wr.heap[NT]? = some (Obj.cells #[.int .i64 0, .int .i64 0, .slice none 0 0] 26) ∧ w.heap.size ≤ bc ∧ NX ≠ bc ∧ NT ≠ bc ∧ Below w.heap.size w wr) (fun t _ => MM - (intOf t).toNat)
  case atStart => exact ⟨0, Nat.zero_le _, rfl, b0, k0, HST.out⟩
  case round =>
    clear HST HLO HTb HB3 HO3 HT3
    obtain ⟨j, hj, rfl, bc, kc, ow, kX, kT, hlo, hXb, hTb, hbel⟩ := hrel
    have HOW := hid ow
    have c0 : wr.cell? ⟨NX, 0, none⟩ = some (.int .i64 R) := Go.Joins.cell_of_block kX 0
    have c1 : wr.cell? ⟨NX, 1, none⟩ = some (.int .i64 C) := Go.Joins.cell_of_block kX 1
    have c2 : wr.cell? ⟨NX, 2, none⟩ = some (.slice (some ⟨bc, 0, none⟩) n kc) := Go.Joins.cell_of_block kX 2
    have HKX0 := hid kX
    have HKT0 := hid kT
    have HB := hid hbel
    have HNE := hid (And.intro hlo (And.intro hXb hTb))
    clear ow kX kT hlo hXb hTb hbel
    by_cases hlt : j < MM
    · have HJ := hid (H3.out j hlt)
      go_wp2_with fail
      go_at_call 39
      refine (contains HOW.out.rd).mono ?_
      rw [HJ.out]
      rintro e wh ⟨rfl, rfl⟩
      have bel : Below wr.heap.size wr wr := Below.refl _ _
      have HOh := hid (HOW.out.keep bel)
      have HKXh := hid (heap_keep bel HKX0.out)
      have HKTh := hid (heap_keep bel HKT0.out)
      have HBh := hid (HB.out.trans (bel.mono HB.out.size))
      clear bel c0 c1 c2
      have c0 : wr.cell? ⟨NX, 0, none⟩ = some (.int .i64 R) := Go.Joins.cell_of_block HKXh.out 0
      have c1 : wr.cell? ⟨NX, 1, none⟩ = some (.int .i64 C) := Go.Joins.cell_of_block HKXh.out 1
      have c2 : wr.cell? ⟨NX, 2, none⟩ = some (.slice (some ⟨bc, 0, none⟩) n kc) := Go.Joins.cell_of_block HKXh.out 2
      have HC2 := hid (And.intro c0 (And.intro c1 c2))
      go_wp2_with fail
      go_at_call 37
      refine (Fir.fireAfter HOh.out.rd (it_field HQ.out HN.out j) HN.out (gw_bel HG.out HBh.out)).mono ?_
      rw [Adj.fire_eq HC1.out HN.out]
      rintro e w5 ⟨b2, k2, rfl, ow2, lo2, bel⟩
      have HWB : Hid (NX ≠ b2) := Nat.ne_of_lt (Nat.lt_of_lt_of_le (heap_lt HKXh.out) lo2)
      have HTB : Hid (NT ≠ b2) := Nat.ne_of_lt (Nat.lt_of_lt_of_le (heap_lt HKTh.out) lo2)
      have HLO2 : Hid (w.heap.size ≤ b2) := Nat.le_trans HBh.out.size lo2
      have HKX := hid (heap_keep bel HKXh.out)
      have HKT := hid (heap_keep bel HKTh.out)
      have HB5 := hid (HBh.out.trans (bel.mono HBh.out.size))
      have HO2 := hid ow2
      have y0 : w5.cell? ⟨NX, 0, none⟩ = some (.int .i64 R) := Go.Joins.cell_of_block HKX.out 0
      have y1 : w5.cell? ⟨NX, 1, none⟩ = some (.int .i64 C) := Go.Joins.cell_of_block HKX.out 1
      have y2 : w5.cell? ⟨NX, 2, none⟩ = some (.slice (some ⟨bc, 0, none⟩) n kc) := Go.Joins.cell_of_block HKX.out 2
      have g0 : w5.frozen? ⟨NX, 0, none⟩ = false := Go.Joins.unfrozen_of_block HKX.out 0
      have g1 : w5.frozen? ⟨NX, 1, none⟩ = false := Go.Joins.unfrozen_of_block HKX.out 1
      have g2 : w5.frozen? ⟨NX, 2, none⟩ = false := Go.Joins.unfrozen_of_block HKX.out 2
      clear bel ow2 lo2 c0 c1 c2
      go_wp2
      have hWb := HWB.out
      have qk := (Go.Joins.block_setCell (i := 2) (Go.Joins.block_setCell (i := 1) (Go.Joins.block_setCell (i := 0) HKX.out (.int .i64 R)) (.int .i64 C)) (.slice (some ⟨b2, 0, none⟩) n k2))
      have qo := (own_set (own_set (own_set HO2.out ⟨NX, 0, none⟩ (.int .i64 R) hWb) ⟨NX, 1, none⟩ (.int .i64 C) hWb) ⟨NX, 2, none⟩ (.slice (some ⟨b2, 0, none⟩) n k2) hWb)
      have qb := (((HB5.out.setCell (p := ⟨NX, 0, none⟩) HNX.out.1 (.int .i64 R)).setCell (p := ⟨NX, 1, none⟩) HNX.out.1 (.int .i64 C)).setCell (p := ⟨NX, 2, none⟩) HNX.out.1 (.slice (some ⟨b2, 0, none⟩) n k2))
      have qt := ((Below.heap_setCell _ ⟨NX, 2, none⟩ (.slice (some ⟨b2, 0, none⟩) n k2) _ HNX.out.2).trans ((Below.heap_setCell _ ⟨NX, 1, none⟩ (.int .i64 C) _ HNX.out.2).trans ((Below.heap_setCell _ ⟨NX, 0, none⟩ (.int .i64 R) _ HNX.out.2).trans HKT.out)))
      obtain ⟨w6, hW6⟩ : ∃ w6, w6 = (((w5.setCell ⟨NX, 0, none⟩ (.int .i64 R)).setCell ⟨NX, 1, none⟩ (.int .i64 C)).setCell ⟨NX, 2, none⟩ (.slice (some ⟨b2, 0, none⟩) n k2)) := ⟨_, rfl⟩
      rw [← hW6] at qk qo qb qt
      simp only [← hW6]
      have HF6 := hid (And.intro qo (And.intro qk (And.intro qt qb)))
      clear hW6 qk qo qb qt y0 y1 y2 g0 g1 g2 hWb
      go_roundw
      case rel => exact ⟨j + 1, by omega, by go_num, b2, k2, HF6.out.1, HF6.out.2.1, HF6.out.2.2.1, HLO2.out, HWB.out, HTB.out, HF6.out.2.2.2⟩
      case measure => simp [intOf]; omega
    · have hjN : j = MM := by omega
      subst hjN
      go_wp2_with fail
      go_at_call 39
      refine (contains HOW.out.rd).mono ?_
      rw [H2.out]
      rintro e wh ⟨rfl, rfl⟩
      have bel : Below wr.heap.size wr wr := Below.refl _ _
      have HO := hid (HOW.out.keep bel)
      have kX := heap_keep bel HKX0.out
      have kT := heap_keep bel HKT0.out
      have HNB : Hid (NT ≠ bc) := HNE.out.2.2
      have HLo : Hid (w.heap.size ≤ bc) := HNE.out.1
      have HB9 := HB.out.trans (bel.mono HB.out.size)
      clear HB c0 c1 c2 bel
      have HB := hid HB9
      clear HB9
      have x0 : wr.cell? ⟨NX, 0, none⟩ = some (.int .i64 R) := Go.Joins.cell_of_block kX 0
      have x1 : wr.cell? ⟨NX, 1, none⟩ = some (.int .i64 C) := Go.Joins.cell_of_block kX 1
      have x2 : wr.cell? ⟨NX, 2, none⟩ = some (.slice (some ⟨bc, 0, none⟩) n kc) := Go.Joins.cell_of_block kX 2
      clear kX
      have y0 : wr.cell? ⟨NT, 0, none⟩ = some (.int .i64 0) := Go.Joins.cell_of_block kT 0
      have y1 : wr.cell? ⟨NT, 1, none⟩ = some (.int .i64 0) := Go.Joins.cell_of_block kT 1
      have y2 : wr.cell? ⟨NT, 2, none⟩ = some (.slice none 0 0) := Go.Joins.cell_of_block kT 2
      have g0 : wr.frozen? ⟨NT, 0, none⟩ = false := Go.Joins.unfrozen_of_block kT 0
      have g1 : wr.frozen? ⟨NT, 1, none⟩ = false := Go.Joins.unfrozen_of_block kT 1
      have g2 : wr.frozen? ⟨NT, 2, none⟩ = false := Go.Joins.unfrozen_of_block kT 2
      have HKx := hid kT
      clear kT
      go_wp2
      obtain ⟨W5, hW⟩ : ∃ W5, W5 = (((wr.setCell ⟨NT, 0, none⟩ (.int .i64 R)).setCell ⟨NT, 1, none⟩ (.int .i64 C)).setCell ⟨NT, 2, none⟩ (.slice (some ⟨bc, 0, none⟩) n kc)) := ⟨_, rfl⟩
      have q0 := (Go.Joins.block_setCell (i := 2) (Go.Joins.block_setCell (i := 1) (Go.Joins.block_setCell (i := 0) HKx.out (.int .i64 R)) (.int .i64 C)) (.slice (some ⟨bc, 0, none⟩) n kc))
      rw [← hW] at q0
      have z0 : W5.cell? ⟨NT, 0, none⟩ = some (.int .i64 R) := Go.Joins.cell_of_block q0 0
      have z1 : W5.cell? ⟨NT, 1, none⟩ = some (.int .i64 C) := Go.Joins.cell_of_block q0 1
      have z2 : W5.cell? ⟨NT, 2, none⟩ = some (.slice (some ⟨bc, 0, none⟩) n kc) := Go.Joins.cell_of_block q0 2
      have O5 := (own_set (own_set (own_set HO.out ⟨NT, 0, none⟩ (.int .i64 R) HNB.out) ⟨NT, 1, none⟩ (.int .i64 C) HNB.out) ⟨NT, 2, none⟩ (.slice (some ⟨bc, 0, none⟩) n kc) HNB.out)
      rw [← hW] at O5
      have B5 : Below w.heap.size w W5 := by
        have h1 := HNT.out
        rw [hW]
        exact ((HB.out.setCell (by simp; omega) _).setCell (by simp; omega) _).setCell (by simp; omega) _
      simp only [← hW]
      clear hW q0
      simp [bodyPost, results, Tryd.results19, go_sem, z0, z1, z2]
      exact ⟨bc, kc, ⟨rfl, rfl⟩, O5, HLo.out, B5⟩

theorem agree (s r : Int) (zs : List Int) : ∃ (qs qr : Int) (rs : List Int) (q1 : Int) (ok : Bool), rs.length ≤ 1000000 ∧
    (∀ (w : World) (b : Nat) (v : Value), Rd w b v zs → Calls Tryd.prog 18 #[ruleV s r v] w fun e w' => ∃ ao c b', e = .returned (.tuple #[ruleV qs qr (.slice ao rs.length c), .int .i64 q1, .bool ok]) ∧ Rd.Own 2 w' b' (.slice ao rs.length c) rs ∧ w.heap.size ≤ b' ∧ Below w.heap.size w w') ∧
    (∀ (w : World) (b : Nat) (v : Value), GW w → Rd w b v zs → Calls Tryd.prog 19 #[ruleV s r v] w fun e w' => ∃ ao c b', e = .returned (.tuple #[ruleV qs qr (.slice ao rs.length c), .int .i64 q1, .bool ok]) ∧ Rd.Own 2 w' b' (.slice ao rs.length c) rs ∧ w.heap.size ≤ b' ∧ Below w.heap.size w w') := by
  cases hq : fieldB s r zs with
  | false =>
    refine ⟨0, 0, [], 0, false, by simp, fun w b v k => (specNo k hq).mono ?_, fun w b v _ k => (implNo k hq).mono ?_⟩
    · rintro e w' ⟨rfl, bel⟩
      exact ⟨none, 0, w.heap.size, rfl, Own.nil _ _ _, Nat.le_refl _, bel⟩
    · rintro e w' ⟨rfl, bel⟩
      exact ⟨none, 0, w.heap.size, rfl, Own.nil _ _ _, Nat.le_refl _, bel⟩
  | true =>
    have hb : (1 ≤ s ∧ s ≤ 24) ∧ 1 ≤ r ∧ r ≤ 24 := by
      have h1 := hq
      simp only [fieldB, Bool.and_eq_true] at h1
      have := h1.1
      simp [sidesB] at this; omega
    obtain ⟨R, rfl⟩ := Int.eq_ofNat_of_zero_le (show 0 ≤ s by omega)
    obtain ⟨C, rfl⟩ := Int.eq_ofNat_of_zero_le (show 0 ≤ r by omega)
    have hle : R * C ≤ 24 * 24 := Nat.mul_le_mul (by omega) (by omega)
    have hl := (field_nat hq).2.2.1
    obtain ⟨N, h1, h2, h3⟩ := stops R C (R * C) (mu (R * C) zs) zs hl (Nat.le_refl _)
    have hN : N ≤ 2000 := by have := mu_le (R * C) zs; omega
    have hlen : (itF R C (R * C) zs N).length = R * C := itF_len hl N
    refine ⟨R, C, itF R C (R * C) zs N, N, true, by omega, fun w b v k => (specOk k hq rfl hN h2 h3).mono ?_, fun w b v g k => (implOk k hq rfl hN h2 h3 g).mono ?_⟩
    · rintro e w' ⟨b', c, rfl, ow, lo, bel⟩
      exact ⟨some ⟨b', 0, none⟩, c, b', by rw [hlen], by rw [hlen]; exact ow, lo, bel⟩
    · rintro e w' ⟨b', c, rfl, ow, lo, bel⟩
      exact ⟨some ⟨b', 0, none⟩, c, b', by rw [hlen], by rw [hlen]; exact ow, lo, bel⟩


end Go.Proofs.YthcbhbdgbiiagaaDoor.Brn
