/- Lives as values; the helpers of the laws over lives: szLife, toLife, eqLife. -/
import Derived.Test.YtonghkooncmjgaaKit0
import Derived.Test.YtonghkooncmjgaaFNew
namespace Go.Proofs.Ytonghkooncmjgaa.Help
open Go.RowKit Go.Proofs.Ytonghkooncmjgaa.Rd Go.Proofs.Ytonghkooncmjgaa.Keep Go.Proofs.Ytonghkooncmjgaa.Rule
set_option linter.unusedVariables false
set_option linter.unusedSimpArgs false

abbrev lifeV (v1 v2 : Value) : Value := .agg #[v1, v2]
theorem szL_ok {w : World} {ao1 ao2 : Option Addr} {n m c1 c2 : Nat} {q : Int} (hn : n ≤ 9223372036854775807) (hm : m ≤ 9223372036854775807) (h0 : 0 ≤ q) (hq : q ≤ 1048576) (h : (n : Int) + m ≤ q) :
    Calls Try.prog 32 #[lifeV (.slice ao1 n c1) (.slice ao2 m c2), .int .i64 q] w fun e w' => e = .returned (.int .i64 (q - n - m)) ∧ Below w.heap.size w w' := by
  have HE : Hid ((if (n : Int) ≤ q then q - n else -1) = q - n) := if_pos (by omega)
  have HE2 : Hid ((if (m : Int) ≤ q - n then q - n - m else -1) = q - n - m) := if_pos (by omega)
  have h1 : decide (q - (n : Int) < 0) = false := by simp; omega
  have h2 : decide (q - (n : Int) - (m : Int) < 0) = false := by simp; omega
  go_enter Try.func32, Try.ntmps32
  go_wp2_with fail
  go_at_call 71
  refine (szS hn h0 hq).mono ?_
  rw [HE.out]
  rintro e w' ⟨rfl, rfl⟩
  go_wp2_with fail
  go_at_call 71
  refine (szS hm (by omega) (by omega)).mono ?_
  rw [HE2.out]
  rintro e w' ⟨rfl, rfl⟩
  go_wp2
  go_ret
  exact ⟨rfl, below1 _ _⟩

theorem szL_no {w : World} {ao1 ao2 : Option Addr} {n m c1 c2 : Nat} {q : Int} (hn : n ≤ 9223372036854775807) (hm : m ≤ 9223372036854775807) (h0 : 0 ≤ q) (hq : q ≤ 1048576) (h : q < (n : Int) + m) :
    Calls Try.prog 32 #[lifeV (.slice ao1 n c1) (.slice ao2 m c2), .int .i64 q] w fun e w' => e = .returned (.int .i64 (-1)) ∧ Below w.heap.size w w' := by
  by_cases hx : (n : Int) ≤ q
  · have HE : Hid ((if (n : Int) ≤ q then q - n else -1) = q - n) := if_pos (by omega)
    have HE2 : Hid ((if (m : Int) ≤ q - n then q - n - m else -1) = -1) := if_neg (by omega)
    have h1 : decide (q - (n : Int) < 0) = false := by simp; omega
    go_enter Try.func32, Try.ntmps32
    go_wp2_with fail
    go_at_call 71
    refine (szS hn h0 hq).mono ?_
    rw [HE.out]
    rintro e w' ⟨rfl, rfl⟩
    go_wp2_with fail
    go_at_call 71
    refine (szS hm (by omega) (by omega)).mono ?_
    rw [HE2.out]
    rintro e w' ⟨rfl, rfl⟩
    go_wp2
    go_ret
    exact ⟨rfl, below1 _ _⟩
  · have HE : Hid ((if (n : Int) ≤ q then q - n else -1) = -1) := if_neg (by omega)
    go_enter Try.func32, Try.ntmps32
    go_wp2_with fail
    go_at_call 71
    refine (szS hn h0 hq).mono ?_
    rw [HE.out]
    rintro e w' ⟨rfl, rfl⟩
    go_wp2
    go_ret
    exact ⟨rfl, below1 _ _⟩

set_option maxHeartbeats 2000000 in
theorem toL {w : World} {b1 b2 : Nat} {v1 v2 : Value} {xs ys : List Int} (h1 : Rd w b1 v1 xs) (h2 : Rd w b2 v2 ys) (hx : xs.length ≤ 1048576) (hy : ys.length ≤ 1048576) :
    Calls Try.prog 34 #[lifeV v1 v2] w fun e w' => ∃ p q, e = .returned (lifeV (.slice (some ⟨p, 0, none⟩) xs.length xs.length) (.slice (some ⟨q, 0, none⟩) ys.length ys.length)) ∧
      Own 2 w' p (.slice (some ⟨p, 0, none⟩) xs.length xs.length) xs ∧ Own 2 w' q (.slice (some ⟨q, 0, none⟩) ys.length ys.length) ys ∧ w.heap.size ≤ p ∧ p < q ∧ Below w.heap.size w w' := by
  have H1 := hid h1
  have H2 := hid h2
  have HX := hid hx
  have HY := hid hy
  obtain ⟨ao1, c1, rfl, _, _, _⟩ := h1
  obtain ⟨ao2, c2, rfl, _, _, _⟩ := h2
  clear hx hy
  go_enter Try.func34, Try.ntmps34
  go_wp2_with fail
  obtain ⟨w1, hW⟩ : ∃ w1, w1 = ((w.alloc (Obj.cells #[.slice ao1 xs.length c1, .slice ao2 ys.length c2] 28)).alloc (Obj.cells #[.slice none 0 0, .slice none 0 0] 35)).alloc (Obj.cells #[.slice none 0 0, .slice none 0 0] 35) := ⟨_, rfl⟩
  obtain ⟨NA, hA⟩ : ∃ NA, NA = w.heap.size := ⟨_, rfl⟩
  obtain ⟨NT, hT⟩ : ∃ NT, NT = NA + 1 := ⟨_, rfl⟩
  obtain ⟨NO, hO⟩ : ∃ NO, NO = NT + 1 := ⟨_, rfl⟩
  have b3 : Below w.heap.size w w1 := by rw [hW]; exact Go.Joins.below_alloc3 _ _ _ _
  have kA : w1.heap[NA]? = some (Obj.cells #[.slice ao1 xs.length c1, .slice ao2 ys.length c2] 28) := by rw [hW]; exact FNew.heap_old (FNew.heap_old (FNew.heap_top hA))
  have kT : w1.heap[NT]? = some (Obj.cells #[.slice none 0 0, .slice none 0 0] 35) := by rw [hW]; exact FNew.heap_old (FNew.heap_top (by rw [hT, hA]; simp))
  have kO : w1.heap[NO]? = some (Obj.cells #[.slice none 0 0, .slice none 0 0] 35) := by rw [hW]; exact FNew.heap_top (by rw [hO, hT, hA]; simp)
  have HNs : Hid (w.heap.size ≤ NA ∧ NA < NT ∧ NT < NO) := ⟨by omega, by omega, by omega⟩
  simp only [← hW, ← hA, ← hT, ← hO]
  clear hW hA hT hO
  go_at_call 29
  refine (toSE (H1.out.keep b3 (Nat.le_refl _)) HX.out).mono ?_
  rintro e w2 ⟨p, rfl, o1, lo1, bel⟩
  have hAp : NO < p := Nat.lt_of_lt_of_le (Array.getElem?_eq_some_iff.1 kO).1 lo1
  replace kA := (bel.block NA (Array.getElem?_eq_some_iff.1 kA).1).trans kA
  replace kT := (bel.block NT (Array.getElem?_eq_some_iff.1 kT).1).trans kT
  replace kO := (bel.block NO (Array.getElem?_eq_some_iff.1 kO).1).trans kO
  have B2 := b3.trans (bel.mono b3.size)
  have x0 : w2.cell? ⟨NO, 0, none⟩ = some (.slice none 0 0) := Go.Joins.cell_of_block kO 0
  have f0 : w2.frozen? ⟨NO, 0, none⟩ = false := Go.Joins.unfrozen_of_block kO 0
  obtain ⟨w3, hW3⟩ : ∃ w3, w3 = w2.setCell ⟨NO, 0, none⟩ (.slice (some ⟨p, 0, none⟩) xs.length xs.length) := ⟨_, rfl⟩
  have kA3 : w3.heap[NA]? = some (Obj.cells #[.slice ao1 xs.length c1, .slice ao2 ys.length c2] 28) := by rw [hW3]; exact (Below.heap_setCell _ _ _ _ (by have := HNs.out; simp; omega)).trans kA
  have kT3 : w3.heap[NT]? = some (Obj.cells #[.slice none 0 0, .slice none 0 0] 35) := by rw [hW3]; exact (Below.heap_setCell _ _ _ _ (by have := HNs.out; simp; omega)).trans kT
  have kO3 : w3.heap[NO]? = some (Obj.cells #[.slice (some ⟨p, 0, none⟩) xs.length xs.length, .slice none 0 0] 35) := by
    have := Go.Joins.block_setCell (i := 0) kO (.slice (some ⟨p, 0, none⟩) xs.length xs.length)
    rw [← hW3] at this
    exact this
  have o13 : Own 2 w3 p (.slice (some ⟨p, 0, none⟩) xs.length xs.length) xs := by rw [hW3]; exact own_set o1 ⟨NO, 0, none⟩ _ (Nat.ne_of_lt hAp)
  have B3 : Below w.heap.size w w3 := by rw [hW3]; exact B2.setCell (by have := HNs.out; simp; omega) _
  have c1f : w3.cell? ⟨NA, 1, none⟩ = some (.slice ao2 ys.length c2) := Go.Joins.cell_of_block kA3 1
  have c1g : (w2.setCell ⟨NO, 0, none⟩ (.slice (some ⟨p, 0, none⟩) xs.length xs.length)).cell? ⟨NA, 1, none⟩ = some (.slice ao2 ys.length c2) := by rw [← hW3]; exact c1f
  have c1e : w2.cell? ⟨NA, 1, none⟩ = some (.slice ao2 ys.length c2) := Go.Joins.cell_of_block kA 1
  have HK := hid (And.intro kT3 (And.intro kO3 (And.intro o13 (And.intro B3 (And.intro lo1 hAp)))))
  have hne : ¬ NO = NA := by have := HNs.out; omega
  have hB23 := hid b3.size
  clear kA kT kO o1 lo1 bel b3 B2 hAp kT3 kO3 o13 B3 kA3
  go_wp2_with fail
  simp only [← hW3]
  clear hW3 c1g c1e c1f x0 f0
  go_at_call 29
  refine (toSE (H2.out.keep HK.out.2.2.2.1 (Nat.le_refl _)) HY.out).mono ?_
  rintro e w4 ⟨q, rfl, o2, lo2, bel⟩
  have kT4 := (bel.block NT (Array.getElem?_eq_some_iff.1 HK.out.1).1).trans HK.out.1
  have kO4 := (bel.block NO (Array.getElem?_eq_some_iff.1 HK.out.2.1).1).trans HK.out.2.1
  have o14 := HK.out.2.2.1.keep bel
  have hp3 : p < w3.heap.size := HK.out.2.2.1.lt
  have hB4 := HK.out.2.2.2.1.trans (bel.mono HK.out.2.2.2.1.size)
  have HPQ : Hid (p < q ∧ NO < p ∧ w.heap.size ≤ p) := ⟨Nat.lt_of_lt_of_le hp3 lo2, HK.out.2.2.2.2.2, Nat.le_trans hB23.out HK.out.2.2.2.2.1⟩
  have x0 : w4.cell? ⟨NO, 0, none⟩ = some (.slice (some ⟨p, 0, none⟩) xs.length xs.length) := Go.Joins.cell_of_block kO4 0
  have x1 : w4.cell? ⟨NO, 1, none⟩ = some (.slice none 0 0) := Go.Joins.cell_of_block kO4 1
  have f1 : w4.frozen? ⟨NO, 1, none⟩ = false := Go.Joins.unfrozen_of_block kO4 1
  have y0 : w4.cell? ⟨NT, 0, none⟩ = some (.slice none 0 0) := Go.Joins.cell_of_block kT4 0
  have y1 : w4.cell? ⟨NT, 1, none⟩ = some (.slice none 0 0) := Go.Joins.cell_of_block kT4 1
  have g0 : w4.frozen? ⟨NT, 0, none⟩ = false := Go.Joins.unfrozen_of_block kT4 0
  have g1 : w4.frozen? ⟨NT, 1, none⟩ = false := Go.Joins.unfrozen_of_block kT4 1
  have hne2 : ¬ NO = NT := by have := HNs.out; omega
  have hne3 : ¬ NT = NO := by have := HNs.out; omega
  have HK4 := hid kT4
  have HO4 := hid (And.intro o14 o2)
  have HB4 := hid hB4
  clear kT4 kO4 o14 o2 hB4 bel lo2 hp3
  go_wp2
  obtain ⟨W5, hW⟩ : ∃ W5, W5 = (((w4.setCell ⟨NO, 1, none⟩ (.slice (some ⟨q, 0, none⟩) ys.length ys.length)).setCell ⟨NT, 0, none⟩ (.slice (some ⟨p, 0, none⟩) xs.length xs.length)).setCell ⟨NT, 1, none⟩ (.slice (some ⟨q, 0, none⟩) ys.length ys.length)) := ⟨_, rfl⟩
  have q0 := Go.Joins.block_setCell (i := 1) (Go.Joins.block_setCell (i := 0) ((Below.heap_setCell w4 ⟨NO, 1, none⟩ (.slice (some ⟨q, 0, none⟩) ys.length ys.length) NT hne3).trans HK4.out) (.slice (some ⟨p, 0, none⟩) xs.length xs.length)) (.slice (some ⟨q, 0, none⟩) ys.length ys.length)
  rw [← hW] at q0
  have z0 : W5.cell? ⟨NT, 0, none⟩ = some (.slice (some ⟨p, 0, none⟩) xs.length xs.length) := Go.Joins.cell_of_block q0 0
  have z1 : W5.cell? ⟨NT, 1, none⟩ = some (.slice (some ⟨q, 0, none⟩) ys.length ys.length) := Go.Joins.cell_of_block q0 1
  have O1 : Own 2 W5 p (.slice (some ⟨p, 0, none⟩) xs.length xs.length) xs := by
    have h1 := HPQ.out; have h2 := HNs.out
    rw [hW]; exact own_set (own_set (own_set HO4.out.1 _ _ (by simp; omega)) _ _ (by simp; omega)) _ _ (by simp; omega)
  have O2 : Own 2 W5 q (.slice (some ⟨q, 0, none⟩) ys.length ys.length) ys := by
    have h1 := HPQ.out; have h2 := HNs.out
    rw [hW]; exact own_set (own_set (own_set HO4.out.2 _ _ (by simp; omega)) _ _ (by simp; omega)) _ _ (by simp; omega)
  have B5 : Below w.heap.size w W5 := by
    have h2 := HNs.out
    rw [hW]; exact ((HB4.out.setCell (by simp; omega) _).setCell (by simp; omega) _).setCell (by simp; omega) _
  simp only [← hW]
  clear hW q0
  simp [bodyPost, results, Try.results34, go_sem, z0, z1]
  exact ⟨p, q, by simp, O1, O2, HPQ.out.2.2, HPQ.out.1, B5⟩

set_option maxHeartbeats 1000000 in
theorem eqL {w : World} {b1 b2 d1 d2 : Nat} {v1 v2 u1 u2 : Value} {xs ys : List Int} (h1 : Rd w b1 v1 xs) (h2 : Rd w b2 v2 ys) (g1 : Rd w d1 u1 xs) (g2 : Rd w d2 u2 ys) :
    Calls Try.prog 36 #[lifeV v1 v2, lifeV u1 u2] w fun e w' => e = .returned (.bool true) ∧ Below w.heap.size w w' := by
  have H1 := hid h1
  have H2 := hid h2
  have G1 := hid g1
  have G2 := hid g2
  obtain ⟨ao1, c1, rfl, _, _, _⟩ := h1
  obtain ⟨ao2, c2, rfl, _, _, _⟩ := h2
  obtain ⟨ao3, c3, rfl, _, _, _⟩ := g1
  obtain ⟨ao4, c4, rfl, _, _, _⟩ := g2
  go_enter Try.func36, Try.ntmps36
  go_wp2_with fail
  obtain ⟨w1, hW⟩ : ∃ w1, w1 = (w.alloc (Obj.cells #[.slice ao1 xs.length c1, .slice ao2 ys.length c2] 35)).alloc (Obj.cells #[.slice ao3 xs.length c3, .slice ao4 ys.length c4] 35) := ⟨_, rfl⟩
  obtain ⟨N, hN⟩ : ∃ N, N = w.heap.size := ⟨_, rfl⟩
  obtain ⟨M, hM⟩ : ∃ M, M = N + 1 := ⟨_, rfl⟩
  have B2 : Below w.heap.size w w1 := by rw [hW]; exact Go.Joins.below_alloc2 _ _ _
  have a1 : w1.cell? ⟨N, 1, none⟩ = some (.slice ao2 ys.length c2) := by rw [hW, hN]; simp
  have a2 : w1.cell? ⟨M, 1, none⟩ = some (.slice ao4 ys.length c4) := by rw [hW, hM, hN]; simp
  simp only [← hW, ← hN, ← hM]
  clear hW hN hM
  go_at_call 31
  refine (eqB (H1.out.keep B2 (Nat.le_refl _)) (G1.out.keep B2 (Nat.le_refl _))).mono ?_
  rintro e w4 ⟨rfl, bel⟩
  have a1' := cell_keep bel a1
  have a2' := cell_keep bel a2
  have B4 := B2.trans (bel.mono B2.size)
  clear a1 a2 bel
  go_wp2_with fail
  go_at_call 31
  refine (eqB (H2.out.keep B4 (Nat.le_refl _)) (G2.out.keep B4 (Nat.le_refl _))).mono ?_
  rintro e w5 ⟨rfl, bel⟩
  go_wp2
  go_ret
  exact ⟨rfl, B4.trans (bel.mono B4.size)⟩

end Go.Proofs.Ytonghkooncmjgaa.Help
