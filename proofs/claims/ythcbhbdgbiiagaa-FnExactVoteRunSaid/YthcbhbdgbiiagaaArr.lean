/- Arrays of numbers in a block of their own; the table of a life. -/
import Derived.Test.YthcbhbdgbiiagaaGrow
import Derived.Test.YthcbhbdgbiiagaaLVal
import Derived.Deep.Cut
namespace Go.Proofs.Ythcbhbdgbiiagaa.Arr
open Go.RowKit Go.Proofs.Ythcbhbdgbiiagaa.Rd Go.Proofs.Ythcbhbdgbiiagaa.Help Go.Proofs.Ythcbhbdgbiiagaa.Ring Go.Proofs.Ythcbhbdgbiiagaa.Small Go.Proofs.Ythcbhbdgbiiagaa.FVal Go.Proofs.Ythcbhbdgbiiagaa.Keep Go.Proofs.Ythcbhbdgbiiagaa.Rule Go.Proofs.Ythcbhbdgbiiagaa.Grow Go.Proofs.Ythcbhbdgbiiagaa.LVal
set_option linter.unusedVariables false
set_option linter.unusedSimpArgs false

/-- The cells of a list of numbers. -/
def cellsA (zs : List Int) : Array Value := (zs.map (Value.int .i64)).toArray
theorem cellsA_size (zs : List Int) : (cellsA zs).size = zs.length := by simp [cellsA]
theorem cellsA_one (zs : List Int) : (cellsA zs).all (·.oneCell') = true := by
  rw [Array.all_eq_true_iff_forall_mem]
  intro v hv
  simp [cellsA] at hv
  obtain ⟨x, _, rfl⟩ := hv
  rfl
/-- A block of cells that holds an array of numbers. -/
def AB (T : TypeId) (w : World) (g : Nat) (zs : List Int) : Prop := w.heap[g]? = some (Obj.cells (cellsA zs) T)
theorem AB.cell {T : TypeId} {w : World} {g : Nat} {zs : List Int} (h : AB T w g zs) {i : Nat} (hi : i < zs.length) : w.cell? ⟨g, i, none⟩ = some (.int .i64 (zs.getD i 0)) := by
  rw [Go.Joins.cell_of_block h i]
  simp [cellsA, List.getD_eq_getElem?_getD, List.getElem?_eq_getElem hi]
theorem AB.free {T : TypeId} {w : World} {g : Nat} {zs : List Int} (h : AB T w g zs) (i : Nat) : w.frozen? ⟨g, i, none⟩ = false := Go.Joins.unfrozen_of_block h i
theorem AB.set {T : TypeId} {w : World} {g : Nat} {zs : List Int} (h : AB T w g zs) (i : Nat) (x : Int) : AB T (w.setCell ⟨g, i, none⟩ (.int .i64 x)) g (zs.set i x) := by
  have := Go.Joins.block_setCell (i := i) h (.int .i64 x)
  unfold AB
  rw [this]
  simp [cellsA, List.map_set]
theorem AB.keep {T : TypeId} {w w' : World} {g : Nat} {zs : List Int} (h : AB T w g zs) (bel : Below w.heap.size w w') : AB T w' g zs :=
  (bel.block g (Array.getElem?_eq_some_iff.1 h).1).trans h
theorem AB.lt {T : TypeId} {w : World} {g : Nat} {zs : List Int} (h : AB T w g zs) : g < w.heap.size := (Array.getElem?_eq_some_iff.1 h).1
theorem AB.grown {T : TypeId} {w w' : World} {g b : Nat} {zs : List Int} (h : AB T w g zs) (gr : w.grownBy w' (some b)) (hne : g ≠ b) : AB T w' g zs := g_heap gr h hne
theorem AB.setOther {T : TypeId} {w : World} {g : Nat} {zs : List Int} (h : AB T w g zs) (a : Addr) (v : Value) (hne : g ≠ a.block) : AB T (w.setCell a v) g zs :=
  (Below.heap_setCell w a v g hne).trans h
theorem below_setRow {n : Nat} {w0 w : World} {g : Nat} {cs : Array Value} (h : Below n w0 w) (hg : n ≤ g) : Below n w0 (w.setRow g cs) := by
  refine ⟨h.os, h.tape, h.output, by rw [setRow_size]; exact h.size, fun k hk => ?_⟩
  rw [setRow_other _ _ _ _ (by omega)]
  exact h.block k hk

/-- The table of a life, as far as p of the one list and q of the other one have been told. -/
def tabA (xs ys : List Int) (p q i : Nat) : Int := if i < 9 then (if (xs.take p).contains (i : Int) = true then 1 else 0) else (if (ys.take q).contains ((i - 9 : Nat) : Int) = true then 1 else 0)
def tabL (xs ys : List Int) (p q : Nat) : List Int := (List.range 18).map (tabA xs ys p q)
theorem tabL_len (xs ys : List Int) (p q : Nat) : (tabL xs ys p q).length = 18 := by simp [tabL]
theorem tabL_zero (xs ys : List Int) : tabL xs ys 0 0 = List.replicate 18 0 := by
  refine List.ext_getElem (by simp [tabL]) fun i h1 h2 => ?_
  simp only [tabL, List.getElem_map, List.getElem_range, tabA, List.take_zero, List.getElem_replicate]
  simp
theorem take_has {xs : List Int} {p : Nat} (hp : p < xs.length) (x : Int) : (xs.take (p + 1)).contains x = ((xs.take p).contains x || x == xs.getD p 0) := by
  rw [List.take_succ_eq_append_getElem hp, List.getD_eq_getElem?_getD, List.getElem?_eq_getElem hp]
  rw [Bool.eq_iff_iff]
  simp only [List.contains_eq_mem, decide_eq_true_eq, List.mem_append, List.mem_singleton, Bool.or_eq_true, beq_iff_eq, Option.getD_some]
theorem tabL_set1 {xs ys : List Int} {p X : Nat} (hp : p < xs.length) (hx : xs.getD p 0 = (X : Int)) (hX : X ≤ 8) : (tabL xs ys p 0).set X 1 = tabL xs ys (p + 1) 0 := by
  refine List.ext_getElem (by simp [tabL]) fun i h1 h2 => ?_
  simp only [tabL, List.length_set, List.length_map, List.length_range] at h1
  rw [List.getElem_set]
  simp only [tabL, List.getElem_map, List.getElem_range, tabA]
  by_cases hi : i < 9
  · rw [if_pos hi, if_pos hi, take_has hp, hx]
    by_cases hxi : X = i
    · subst hxi; simp
    · rw [if_neg hxi]
      have : ((i : Int) == (X : Int)) = false := by simp; omega
      rw [this, Bool.or_false]
  · rw [if_neg hi, if_neg hi, if_neg (by omega)]
theorem tabL_set2 {xs ys : List Int} {P p X : Nat} (hp : p < ys.length) (hx : ys.getD p 0 = (X : Int)) (hX : X ≤ 8) : (tabL xs ys P p).set (9 + X) 1 = tabL xs ys P (p + 1) := by
  refine List.ext_getElem (by simp [tabL]) fun i h1 h2 => ?_
  simp only [tabL, List.length_set, List.length_map, List.length_range] at h1
  rw [List.getElem_set]
  simp only [tabL, List.getElem_map, List.getElem_range, tabA]
  by_cases hi : i < 9
  · rw [if_pos hi, if_pos hi, if_neg (by omega)]
  · rw [if_neg hi, if_neg hi, take_has hp, hx]
    by_cases hxi : 9 + X = i
    · subst hxi; simp
    · rw [if_neg hxi]
      have : (((i - 9 : Nat) : Int) == (X : Int)) = false := by simp; omega
      rw [this, Bool.or_false]
theorem tabL_at {xs ys : List Int} {z : Int} {n : Nat} (hz : z = 0 ∨ z = 1) (hn : n ≤ 8) : (tabL xs ys xs.length ys.length).getD (z.toNat * 9 + n) 0 = if (z = 0 ∧ xs.contains (n : Int) = true) ∨ (z = 1 ∧ ys.contains (n : Int) = true) then 1 else 0 := by
  have e : ∀ i, i < 18 → (tabL xs ys xs.length ys.length).getD i 0 = tabA xs ys xs.length ys.length i := by
    intro i hi
    rw [List.getD_eq_getElem?_getD, List.getElem?_eq_getElem (by simp [tabL]; exact hi)]
    simp [tabL]
  rcases hz with rfl | rfl
  · rw [e _ (by simp; omega)]
    simp only [tabA]
    rw [if_pos (by simp; omega)]
    simp
  · rw [e _ (by simp; omega)]
    simp only [tabA]
    rw [if_neg (by simp)]
    simp
theorem neigh_bd {zs : List Int} (h : neighB zs = true) {p : Nat} (hp : p < zs.length) : ∃ X : Nat, zs.getD p 0 = (X : Int) ∧ X ≤ 8 := by
  have := List.all_eq_true.1 h p (by simp; exact hp)
  simp [okN] at this
  refine ⟨(zs.getD p 0).toNat, ?_, ?_⟩ <;> simp <;> omega

set_option maxHeartbeats 8000000 in
theorem tableOfLife {w : World} {b1 b2 : Nat} {v1 v2 : Value} {xs ys : List Int} (h1 : Rd w b1 v1 xs) (h2 : Rd w b2 v2 ys) (hx : neighB xs = true) (hy : neighB ys = true) :
    Calls Try.prog 100 #[lifeV v1 v2] w fun e w' => e = .returned (.agg (cellsA (tabL xs ys xs.length ys.length))) ∧ Below w.heap.size w w' := by
  have H1 := hid h1
  have H2 := hid h2
  have HX := hid hx
  have HY := hid hy
  obtain ⟨ao1, cap1, rfl, hc1, hm1, _⟩ := h1
  obtain ⟨ao2, cap2, rfl, hc2, hm2, _⟩ := h2
  have hs1 : xs.length ≤ cap1 ∧ cap1 ≤ 9223372036854775807 := by unfold maxLen at hm1; omega
  have hs2 : ys.length ≤ cap2 ∧ cap2 ≤ 9223372036854775807 := by unfold maxLen at hm2; omega
  clear hc1 hm1 hc2 hm2 hx hy
  go_enter Try.func100, Try.ntmps100
  go_wp2_with fail
  obtain ⟨ZZ, hZ⟩ : ∃ ZZ, ZZ = cellsA (List.replicate 18 0) := ⟨_, rfl⟩
  have hZ2 : (#[.int .i64 0, .int .i64 0, .int .i64 0, .int .i64 0, .int .i64 0, .int .i64 0, .int .i64 0, .int .i64 0, .int .i64 0, .int .i64 0, .int .i64 0, .int .i64 0, .int .i64 0, .int .i64 0, .int .i64 0, .int .i64 0, .int .i64 0, .int .i64 0] : Array Value) = ZZ := by rw [hZ]; rfl
  simp only [hZ2]
  obtain ⟨w1, hW⟩ : ∃ w1, w1 = ((w.alloc (Obj.cells #[.slice ao1 xs.length cap1, .slice ao2 ys.length cap2] 126)).alloc (Obj.cells ZZ 123)).alloc (Obj.cells ZZ 123) := ⟨_, rfl⟩
  obtain ⟨N, hN⟩ : ∃ N, N = w.heap.size := ⟨_, rfl⟩
  obtain ⟨NR, hR⟩ : ∃ NR, NR = N + 1 := ⟨_, rfl⟩
  obtain ⟨NT, hT⟩ : ∃ NT, NT = NR + 1 := ⟨_, rfl⟩
  have HB1 : Hid (Below w.heap.size w w1) := by simp only [Hid]; rw [hW]; exact Go.Joins.below_alloc3 _ _ _ _
  have HM : Hid (w1.cell? ⟨N, 0, none⟩ = some (.slice ao1 xs.length cap1) ∧ w1.cell? ⟨N, 1, none⟩ = some (.slice ao2 ys.length cap2)) := by
    simp only [Hid]; rw [hW, hN]; exact ⟨cell_keep (Go.Joins.below_alloc2 _ _ _) (by simp), cell_keep (Go.Joins.below_alloc2 _ _ _) (by simp)⟩
  have HRb : Hid (AB 123 w1 NR (List.replicate 18 0)) := by
    simp only [Hid]; unfold AB; rw [hW, ← hZ]; exact FNew.heap_old (FNew.heap_top (by rw [hR, hN]; simp))
  have HTb : Hid (AB 123 w1 NT (List.replicate 18 0)) := by
    simp only [Hid]; unfold AB; rw [hW, ← hZ]; exact FNew.heap_top (by rw [hT, hR, hN]; simp)
  have HNT : Hid (N ≠ NT ∧ w.heap.size ≤ NT) := ⟨by omega, by omega⟩
  have HNR : Hid (NR ≠ NT ∧ w.heap.size ≤ NR) := ⟨by omega, by omega⟩
  simp only [← hW, ← hN, ← hR, ← hT]
  clear hW hN hR hT hZ2 hZ
  go_loopw [11] (fun i wr => ∃ p : Nat, p ≤ xs.length ∧ i = .int .i64 p ∧ AB 123 wr NT (tabL xs ys p 0) ∧ w1.grownBy wr (some NT)) (fun i _ => xs.length - (intOf i).toNat)
  case atStart => exact ⟨0, Nat.zero_le _, rfl, by rw [tabL_zero]; exact HTb.out, g_refl _ _⟩
  case round =>
    obtain ⟨p, hp, rfl, hab, hg⟩ := hrel
    have HG := hid hg
    have HAB := hid hab
    have HBW := hid (g_below HB1.out hg HNT.out.2)
    clear hg hab
    have m0 := g_cell HG.out HM.out.1 HNT.out.1
    have m1 := g_cell HG.out HM.out.2 HNT.out.1
    by_cases hlt : p < xs.length
    · obtain ⟨X, hX, hX8⟩ := neigh_bd HX.out hlt
      obtain ⟨a, c, e, _, _, h4⟩ := H1.out.keep HBW.out (Nat.le_refl _)
      obtain ⟨off, hao, hb, hcl⟩ := h4 (by omega)
      clear h4
      cases e
      subst hao
      have hcx := hcl p hlt
      rw [hX] at hcx
      have hpi : (p : Int) < (xs.length : Int) := by omega
      have hXi : (X : Int) < 9 := by omega
      have hXn : X < 9 := by omega
      have HX8 := hid (And.intro hX hX8)
      have hcs := HAB.out.cell (i := X) (by rw [tabL_len]; omega)
      have hcf := HAB.out.free X
      clear hcl hX hX8 hb
      go_wp2
      go_roundw
      case rel =>
        refine ⟨p + 1, by omega, by go_num, ?_, g_set HG.out X _⟩
        rw [← tabL_set1 hlt HX8.out.1 HX8.out.2]
        exact HAB.out.set X 1
      case measure => simp [intOf]; omega
    · have hpe : xs.length = p := by omega
      subst hpe

      go_wp2
      clear m0 m1 HBW
      go_loopw [22] (fun i wr => ∃ p : Nat, p ≤ ys.length ∧ i = .int .i64 p ∧ AB 123 wr NT (tabL xs ys xs.length p) ∧ w1.grownBy wr (some NT)) (fun i _ => ys.length - (intOf i).toNat)
      case atStart => exact ⟨0, Nat.zero_le _, rfl, HAB.out, HG.out⟩
      case round =>
        clear HAB HG
        obtain ⟨p, hp, rfl, hab, hg⟩ := hrel
        have HG := hid hg
        have HAB := hid hab
        have HBW := hid (g_below HB1.out hg HNT.out.2)
        clear hg hab
        have m0 := g_cell HG.out HM.out.1 HNT.out.1
        have m1 := g_cell HG.out HM.out.2 HNT.out.1
        by_cases hlt : p < ys.length
        · obtain ⟨X, hX, hX8⟩ := neigh_bd HY.out hlt
          obtain ⟨a, c, e, _, _, h4⟩ := H2.out.keep HBW.out (Nat.le_refl _)
          obtain ⟨off, hao, hb, hcl⟩ := h4 (by omega)
          clear h4
          cases e
          subst hao
          have hcx := hcl p hlt
          rw [hX] at hcx
          have hpi : (p : Int) < (ys.length : Int) := by omega
          have hXi : (X : Int) < 9 := by omega
          have hXn : X < 9 := by omega
          have HX8 := hid (And.intro hX hX8)
          have hcs := HAB.out.cell (i := (9 + X)) (by rw [tabL_len]; omega)
          have hcf := HAB.out.free (9 + X)
          clear hcl hX hX8 hb
          go_wp2
          go_roundw
          case rel =>
            refine ⟨p + 1, by omega, by go_num, ?_, g_set HG.out (9 + X) _⟩
            rw [← tabL_set2 hlt HX8.out.1 HX8.out.2]
            exact HAB.out.set (9 + X) 1
          case measure => simp [intOf]; omega
        · have hpe : ys.length = p := by omega
          subst hpe

          clear m0 m1
          go_upto_region 12 with fail
          have kR := HRb.out.grown HG.out HNR.out.1
          refine wp_region_lit ?_
          refine wpList_load_row rfl 123 _ rfl NT rfl 123 _ (0, 0) _ HAB.out Try.underlying123 rfl (by rw [cellsA_size, tabL_len]; kernel_rfl) ?_
          refine wpList_store_row rfl 123 _ _ rfl NR _ rfl rfl 123 _ kR (by rw [cellsA_size, tabL_len]; kernel_rfl) (by rw [cellsA_size, cellsA_size, tabL_len]; rfl) (cellsA_one _) ?_
          have kR2 := setRow_heap _ NR _ (cellsA (tabL xs ys xs.length ys.length)) 123 (0, 0) kR
          have B5 := below_setRow (cs := cellsA (tabL xs ys xs.length ys.length)) HBW.out HNR.out.2
          obtain ⟨W5, hW5⟩ : ∃ W5, W5 = wr.setRow NR (cellsA (tabL xs ys xs.length ys.length)) := ⟨_, rfl⟩
          rw [← hW5] at kR2 B5 ⊢
          clear hW5 kR
          go_wp2
          refine bodyPost_ret (results_cell_row rfl _ _ NR 123 _ (0, 0) _ rfl kR2 Try.underlying123 rfl (by rw [cellsA_size, tabL_len]; kernel_rfl)) rfl ?_
          exact ⟨rfl, B5⟩


end Go.Proofs.Ythcbhbdgbiiagaa.Arr
