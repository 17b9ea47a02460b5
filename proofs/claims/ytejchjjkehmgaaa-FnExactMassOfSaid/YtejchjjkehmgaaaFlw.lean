/- The helpers of the laws over flows: szFlow, toFlow, eqFlow. -/
import Derived.Test.YtejchjjkehmgaaaFldKit
import Derived.Test.YtejchjjkehmgaaaFNew
import Derived.Test.YtejchjjkehmgaaaHelpB
import Derived.Test.YtejchjjkehmgaaaHelpF
namespace Go.Proofs.Ytejchjjkehmgaaa.Help
open Go.RowKit Go.Proofs.Ytejchjjkehmgaaa.Rd Go.Proofs.Ytejchjjkehmgaaa.Rdb Go.Proofs.Ytejchjjkehmgaaa.Rdf Go.Proofs.Ytejchjjkehmgaaa.Keep Go.Proofs.Ytejchjjkehmgaaa.Rule
set_option linter.unusedVariables false
set_option linter.unusedSimpArgs false

/-- A flow as a value. -/
abbrev flowV (gr gc : Int) (v1 v2 : Value) : Value := .agg #[.int .i64 gr, .int .i64 gc, v1, v2]
theorem ownF_set {E : TypeId} {w : World} {b : Nat} {v : Value} {zs : List Nat} (h : OwnF E w b v zs) (a : Addr) (u : Value) (hne : a.block ≠ b) : OwnF E (w.setCell a u) b v zs :=
  h.grown (setCell_grown w a u) (by simp; exact hne)
theorem ownB_set {E : TypeId} {w : World} {b : Nat} {v : Value} {zs : List Bool} (h : OwnB E w b v zs) (a : Addr) (u : Value) (hne : a.block ≠ b) : OwnB E (w.setCell a u) b v zs :=
  h.grown (setCell_grown w a u) (by simp; exact hne)
theorem toSEB {w : World} {b : Nat} {v : Value} {zs : List Bool} (h : RdB w b v zs) (hl : zs.length ≤ 1048576) :
    Calls Try.prog 70 #[v] w fun e w' => ∃ b', e = .returned (.slice (some ⟨b', 0, none⟩) zs.length zs.length) ∧ OwnB 4 w' b' (.slice (some ⟨b', 0, none⟩) zs.length zs.length) zs ∧ w.heap.size ≤ b' ∧ Below w.heap.size w w' := by
  refine (toSB h hl).mono ?_
  rintro e w' ⟨rfl, o, bel⟩
  exact ⟨_, rfl, o, Nat.le_refl _, bel⟩

theorem szFl_ok {w : World} {gr gc : Int} {ao1 ao2 : Option Addr} {n m c1 c2 : Nat} {q : Int} (hn : n ≤ 9223372036854775807) (hm : m ≤ 9223372036854775807) (h0 : 0 ≤ q) (hq : q ≤ 1048576) (h : (n : Int) + m ≤ q) :
    Calls Try.prog 22 #[flowV gr gc (.slice ao1 n c1) (.slice ao2 m c2), .int .i64 q] w fun e w' => e = .returned (.int .i64 (q - n - m)) ∧ Below w.heap.size w w' := by
  have HE : Hid ((if (n : Int) ≤ q then q - n else -1) = q - n) := if_pos (by omega)
  have HE2 : Hid ((if (m : Int) ≤ q - n then q - n - m else -1) = q - n - m) := if_pos (by omega)
  have h1 : decide (q - (n : Int) < 0) = false := by simp; omega
  have h2 : decide (q - (n : Int) - (m : Int) < 0) = false := by simp; omega
  have h3 : 0 ≤ q - (n : Int) := by omega
  have h4 : q - (n : Int) ≤ 1048576 := by omega
  go_enter Try.func22, Try.ntmps22
  go_wp2_with fail
  obtain ⟨w1, hW⟩ : ∃ w1, w1 = w.alloc (Obj.cells #[.int .i64 gr, .int .i64 gc, .slice ao1 n c1, .slice ao2 m c2] 34) := ⟨_, rfl⟩
  obtain ⟨N, hN⟩ : ∃ N, N = w.heap.size := ⟨_, rfl⟩
  have B1 : Below w.heap.size w w1 := by rw [hW]; exact below1 _ _
  have a4 : w1.cell? ⟨N, 3, none⟩ = some (.slice ao2 m c2) := by rw [hW, hN]; simp
  simp only [← hW, ← hN]
  clear hW hN
  go_at_call 65
  refine (szSF hn h0 hq).mono ?_
  rw [HE.out]
  rintro e w' ⟨rfl, rfl⟩
  go_wp2_with fail
  go_at_call 66
  refine (szSB hm h3 h4).mono ?_
  rw [HE2.out]
  rintro e w' ⟨rfl, rfl⟩
  go_wp2
  go_ret
  exact ⟨rfl, B1⟩
theorem szFl_no {w : World} {gr gc : Int} {ao1 ao2 : Option Addr} {n m c1 c2 : Nat} {q : Int} (hn : n ≤ 9223372036854775807) (hm : m ≤ 9223372036854775807) (h0 : 0 ≤ q) (hq : q ≤ 1048576) (h : q < (n : Int) + m) :
    Calls Try.prog 22 #[flowV gr gc (.slice ao1 n c1) (.slice ao2 m c2), .int .i64 q] w fun e w' => e = .returned (.int .i64 (-1)) ∧ Below w.heap.size w w' := by
  go_enter Try.func22, Try.ntmps22
  go_wp2_with fail
  obtain ⟨w1, hW⟩ : ∃ w1, w1 = w.alloc (Obj.cells #[.int .i64 gr, .int .i64 gc, .slice ao1 n c1, .slice ao2 m c2] 34) := ⟨_, rfl⟩
  obtain ⟨N, hN⟩ : ∃ N, N = w.heap.size := ⟨_, rfl⟩
  have B1 : Below w.heap.size w w1 := by rw [hW]; exact below1 _ _
  have a4 : w1.cell? ⟨N, 3, none⟩ = some (.slice ao2 m c2) := by rw [hW, hN]; simp
  simp only [← hW, ← hN]
  clear hW hN
  by_cases hc : (n : Int) ≤ q
  · have HE : Hid ((if (n : Int) ≤ q then q - n else -1) = q - n) := if_pos hc
    have HE2 : Hid ((if (m : Int) ≤ q - n then q - n - m else -1) = -1) := if_neg (by omega)
    have h1 : decide (q - (n : Int) < 0) = false := by simp; omega
    have h3 : 0 ≤ q - (n : Int) := by omega
    have h4 : q - (n : Int) ≤ 1048576 := by omega
    go_at_call 65
    refine (szSF hn h0 hq).mono ?_
    rw [HE.out]
    rintro e w' ⟨rfl, rfl⟩
    clear hc h
    go_wp2_with fail
    go_at_call 66
    refine (szSB hm h3 h4).mono ?_
    rw [HE2.out]
    rintro e w' ⟨rfl, rfl⟩
    go_wp2
    go_ret
    exact ⟨rfl, B1⟩
  · have HE : Hid ((if (n : Int) ≤ q then q - n else -1) = -1) := if_neg hc
    clear hc h
    go_at_call 65
    refine (szSF hn h0 hq).mono ?_
    rw [HE.out]
    rintro e w' ⟨rfl, rfl⟩
    go_wp2
    go_ret
    exact ⟨rfl, B1⟩

set_option maxHeartbeats 4000000 in
theorem toFl {w : World} {gr gc : Int} {b1 b2 : Nat} {v1 v2 : Value} {xs : List Nat} {ys : List Bool} (h1 : RdF w b1 v1 xs) (h2 : RdB w b2 v2 ys) (hx : xs.length ≤ 1048576) (hy : ys.length ≤ 1048576) :
    Calls Try.prog 24 #[flowV gr gc v1 v2] w fun e w' => ∃ p q, e = .returned (flowV gr gc (.slice (some ⟨p, 0, none⟩) xs.length xs.length) (.slice (some ⟨q, 0, none⟩) ys.length ys.length)) ∧
      OwnF 23 w' p (.slice (some ⟨p, 0, none⟩) xs.length xs.length) xs ∧ OwnB 4 w' q (.slice (some ⟨q, 0, none⟩) ys.length ys.length) ys ∧ w.heap.size ≤ p ∧ p < q ∧ Below w.heap.size w w' := by
  have H1 := hid h1
  have H2 := hid h2
  have HX := hid hx
  have HY := hid hy
  obtain ⟨ao1, c1, rfl, _, _, _⟩ := h1
  obtain ⟨ao2, c2, rfl, _, _, _⟩ := h2
  clear hx hy
  go_enter Try.func24, Try.ntmps24
  go_wp2_with fail
  obtain ⟨w1, hW⟩ : ∃ w1, w1 = ((w.alloc (Obj.cells #[.int .i64 gr, .int .i64 gc, .slice ao1 xs.length c1, .slice ao2 ys.length c2] 34)).alloc (Obj.cells #[.int .i64 0, .int .i64 0, .slice none 0 0, .slice none 0 0] 37)).alloc (Obj.cells #[.int .i64 gr, .int .i64 gc, .slice none 0 0, .slice none 0 0] 37) := ⟨_, rfl⟩
  obtain ⟨NA, hA⟩ : ∃ NA, NA = w.heap.size := ⟨_, rfl⟩
  obtain ⟨NT, hT⟩ : ∃ NT, NT = NA + 1 := ⟨_, rfl⟩
  obtain ⟨NO, hO⟩ : ∃ NO, NO = NT + 1 := ⟨_, rfl⟩
  have b3 : Below w.heap.size w w1 := by rw [hW]; exact Go.Joins.below_alloc3 _ _ _ _
  have kA : w1.heap[NA]? = some (Obj.cells #[.int .i64 gr, .int .i64 gc, .slice ao1 xs.length c1, .slice ao2 ys.length c2] 34) := by rw [hW]; exact FNew.heap_old (FNew.heap_old (FNew.heap_top hA))
  have kT : w1.heap[NT]? = some (Obj.cells #[.int .i64 0, .int .i64 0, .slice none 0 0, .slice none 0 0] 37) := by rw [hW]; exact FNew.heap_old (FNew.heap_top (by rw [hT, hA]; simp))
  have kO : w1.heap[NO]? = some (Obj.cells #[.int .i64 gr, .int .i64 gc, .slice none 0 0, .slice none 0 0] 37) := by rw [hW]; exact FNew.heap_top (by rw [hO, hT, hA]; simp)
  have HNs : Hid (w.heap.size ≤ NA ∧ NA < NT ∧ NT < NO) := ⟨by omega, by omega, by omega⟩
  simp only [← hW, ← hA, ← hT, ← hO]
  clear hW hA hT hO
  go_at_call 16
  refine (toSEF (H1.out.keep b3 (Nat.le_refl _)) HX.out).mono ?_
  rintro e w2 ⟨p, rfl, o1, lo1, bel⟩
  have hAp : NO < p := Nat.lt_of_lt_of_le (Array.getElem?_eq_some_iff.1 kO).1 lo1
  replace kA := (bel.block NA (Array.getElem?_eq_some_iff.1 kA).1).trans kA
  replace kT := (bel.block NT (Array.getElem?_eq_some_iff.1 kT).1).trans kT
  replace kO := (bel.block NO (Array.getElem?_eq_some_iff.1 kO).1).trans kO
  have B2 := b3.trans (bel.mono b3.size)
  have x3 : w2.cell? ⟨NO, 2, none⟩ = some (.slice none 0 0) := Go.Joins.cell_of_block kO 2
  have f3 : w2.frozen? ⟨NO, 2, none⟩ = false := Go.Joins.unfrozen_of_block kO 2
  obtain ⟨w3, hW3⟩ : ∃ w3, w3 = w2.setCell ⟨NO, 2, none⟩ (.slice (some ⟨p, 0, none⟩) xs.length xs.length) := ⟨_, rfl⟩
  have kA3 : w3.heap[NA]? = some (Obj.cells #[.int .i64 gr, .int .i64 gc, .slice ao1 xs.length c1, .slice ao2 ys.length c2] 34) := by rw [hW3]; exact (Below.heap_setCell _ _ _ _ (by have := HNs.out; simp; omega)).trans kA
  have kT3 : w3.heap[NT]? = some (Obj.cells #[.int .i64 0, .int .i64 0, .slice none 0 0, .slice none 0 0] 37) := by rw [hW3]; exact (Below.heap_setCell _ _ _ _ (by have := HNs.out; simp; omega)).trans kT
  have kO3 : w3.heap[NO]? = some (Obj.cells #[.int .i64 gr, .int .i64 gc, .slice (some ⟨p, 0, none⟩) xs.length xs.length, .slice none 0 0] 37) := by
    have := Go.Joins.block_setCell (i := 2) kO (.slice (some ⟨p, 0, none⟩) xs.length xs.length)
    rw [← hW3] at this
    exact this
  have o13 : OwnF 23 w3 p (.slice (some ⟨p, 0, none⟩) xs.length xs.length) xs := by rw [hW3]; exact ownF_set o1 ⟨NO, 2, none⟩ _ (Nat.ne_of_lt hAp)
  have B3 : Below w.heap.size w w3 := by rw [hW3]; exact B2.setCell (by have := HNs.out; simp; omega) _
  have c4f : w3.cell? ⟨NA, 3, none⟩ = some (.slice ao2 ys.length c2) := Go.Joins.cell_of_block kA3 3
  have c4g : (w2.setCell ⟨NO, 2, none⟩ (.slice (some ⟨p, 0, none⟩) xs.length xs.length)).cell? ⟨NA, 3, none⟩ = some (.slice ao2 ys.length c2) := by rw [← hW3]; exact c4f
  have c4e : w2.cell? ⟨NA, 3, none⟩ = some (.slice ao2 ys.length c2) := Go.Joins.cell_of_block kA 3
  have HK := hid (And.intro kT3 (And.intro kO3 (And.intro o13 (And.intro B3 (And.intro lo1 hAp)))))
  have hne : ¬ NO = NA := by have := HNs.out; omega
  have hB23 := hid b3.size
  clear kA kT kO o1 lo1 bel b3 B2 hAp kT3 kO3 o13 B3 kA3
  go_wp2_with fail
  simp only [← hW3]
  clear hW3 c4g c4e c4f x3 f3
  go_at_call 70
  refine (toSEB (H2.out.keep HK.out.2.2.2.1 (Nat.le_refl _)) HY.out).mono ?_
  rintro e w4 ⟨q, rfl, o2, lo2, bel⟩
  have kT4 := (bel.block NT (Array.getElem?_eq_some_iff.1 HK.out.1).1).trans HK.out.1
  have kO4 := (bel.block NO (Array.getElem?_eq_some_iff.1 HK.out.2.1).1).trans HK.out.2.1
  have o14 := HK.out.2.2.1.keep bel
  have hp3 : p < w3.heap.size := HK.out.2.2.1.lt
  have hB4 := HK.out.2.2.2.1.trans (bel.mono HK.out.2.2.2.1.size)
  have HPQ : Hid (p < q ∧ NO < p ∧ w.heap.size ≤ p) := ⟨Nat.lt_of_lt_of_le hp3 lo2, HK.out.2.2.2.2.2, Nat.le_trans hB23.out HK.out.2.2.2.2.1⟩
  have x0 : w4.cell? ⟨NO, 0, none⟩ = some (.int .i64 gr) := Go.Joins.cell_of_block kO4 0
  have x1 : w4.cell? ⟨NO, 1, none⟩ = some (.int .i64 gc) := Go.Joins.cell_of_block kO4 1
  have x2 : w4.cell? ⟨NO, 2, none⟩ = some (.slice (some ⟨p, 0, none⟩) xs.length xs.length) := Go.Joins.cell_of_block kO4 2
  have x3 : w4.cell? ⟨NO, 3, none⟩ = some (.slice none 0 0) := Go.Joins.cell_of_block kO4 3
  have f4 : w4.frozen? ⟨NO, 3, none⟩ = false := Go.Joins.unfrozen_of_block kO4 3
  have y0 : w4.cell? ⟨NT, 0, none⟩ = some (.int .i64 0) := Go.Joins.cell_of_block kT4 0
  have y1 : w4.cell? ⟨NT, 1, none⟩ = some (.int .i64 0) := Go.Joins.cell_of_block kT4 1
  have y2 : w4.cell? ⟨NT, 2, none⟩ = some (.slice none 0 0) := Go.Joins.cell_of_block kT4 2
  have y3 : w4.cell? ⟨NT, 3, none⟩ = some (.slice none 0 0) := Go.Joins.cell_of_block kT4 3
  have g0 : w4.frozen? ⟨NT, 0, none⟩ = false := Go.Joins.unfrozen_of_block kT4 0
  have g1 : w4.frozen? ⟨NT, 1, none⟩ = false := Go.Joins.unfrozen_of_block kT4 1
  have g2 : w4.frozen? ⟨NT, 2, none⟩ = false := Go.Joins.unfrozen_of_block kT4 2
  have g3 : w4.frozen? ⟨NT, 3, none⟩ = false := Go.Joins.unfrozen_of_block kT4 3
  have hne2 : ¬ NO = NT := by have := HNs.out; omega
  have hne3 : ¬ NT = NO := by have := HNs.out; omega
  have HK4 := hid kT4
  have HO4 := hid (And.intro o14 o2)
  have HB4 := hid hB4
  clear kT4 kO4 o14 o2 hB4 bel lo2 hp3
  go_wp2
  obtain ⟨W5, hW⟩ : ∃ W5, W5 = (((((w4.setCell ⟨NO, 3, none⟩ (.slice (some ⟨q, 0, none⟩) ys.length ys.length)).setCell ⟨NT, 0, none⟩ (.int .i64 gr)).setCell ⟨NT, 1, none⟩ (.int .i64 gc)).setCell ⟨NT, 2, none⟩ (.slice (some ⟨p, 0, none⟩) xs.length xs.length)).setCell ⟨NT, 3, none⟩ (.slice (some ⟨q, 0, none⟩) ys.length ys.length)) := ⟨_, rfl⟩
  have q0 := (Go.Joins.block_setCell (i := 3) (Go.Joins.block_setCell (i := 2) (Go.Joins.block_setCell (i := 1) (Go.Joins.block_setCell (i := 0) ((Below.heap_setCell w4 ⟨NO, 3, none⟩ (.slice (some ⟨q, 0, none⟩) ys.length ys.length) NT hne3).trans HK4.out) (.int .i64 gr)) (.int .i64 gc)) (.slice (some ⟨p, 0, none⟩) xs.length xs.length)) (.slice (some ⟨q, 0, none⟩) ys.length ys.length))
  rw [← hW] at q0
  have z0 : W5.cell? ⟨NT, 0, none⟩ = some (.int .i64 gr) := Go.Joins.cell_of_block q0 0
  have z1 : W5.cell? ⟨NT, 1, none⟩ = some (.int .i64 gc) := Go.Joins.cell_of_block q0 1
  have z2 : W5.cell? ⟨NT, 2, none⟩ = some (.slice (some ⟨p, 0, none⟩) xs.length xs.length) := Go.Joins.cell_of_block q0 2
  have z3 : W5.cell? ⟨NT, 3, none⟩ = some (.slice (some ⟨q, 0, none⟩) ys.length ys.length) := Go.Joins.cell_of_block q0 3
  have O1 : OwnF 23 W5 p (.slice (some ⟨p, 0, none⟩) xs.length xs.length) xs := by
    have h1 := HPQ.out; have h2 := HNs.out
    rw [hW]; exact ownF_set (ownF_set (ownF_set (ownF_set (ownF_set (HO4.out.1) _ _ (by simp; omega)) _ _ (by simp; omega)) _ _ (by simp; omega)) _ _ (by simp; omega)) _ _ (by simp; omega)
  have O2 : OwnB 4 W5 q (.slice (some ⟨q, 0, none⟩) ys.length ys.length) ys := by
    have h1 := HPQ.out; have h2 := HNs.out
    rw [hW]; exact ownB_set (ownB_set (ownB_set (ownB_set (ownB_set (HO4.out.2) _ _ (by simp; omega)) _ _ (by simp; omega)) _ _ (by simp; omega)) _ _ (by simp; omega)) _ _ (by simp; omega)
  have B5 : Below w.heap.size w W5 := by
    have h2 := HNs.out
    rw [hW]; exact (((((HB4.out.setCell (by simp; omega) _).setCell (by simp; omega) _).setCell (by simp; omega) _).setCell (by simp; omega) _).setCell (by simp; omega) _)
  simp only [← hW]
  clear hW q0
  simp [bodyPost, results, Try.results24, go_sem, z0, z1, z2, z3]
  exact ⟨p, q, by simp, O1, O2, HPQ.out.2.2, HPQ.out.1, B5⟩

set_option maxHeartbeats 2000000 in
theorem eqFl {w : World} {gr gc : Int} {b1 b2 d1 d2 : Nat} {v1 v2 u1 u2 : Value} {xs : List Nat} {ys : List Bool} (h1 : RdF w b1 v1 xs) (h2 : RdB w b2 v2 ys) (g1 : RdF w d1 u1 xs) (g2 : RdB w d2 u2 ys) :
    Calls Try.prog 26 #[flowV gr gc v1 v2, flowV gr gc u1 u2] w fun e w' => e = .returned (.bool true) ∧ Below w.heap.size w w' := by
  have H1 := hid h1
  have H2 := hid h2
  have G1 := hid g1
  have G2 := hid g2
  obtain ⟨ao1, c1, rfl, _, _, _⟩ := h1
  obtain ⟨ao2, c2, rfl, _, _, _⟩ := h2
  obtain ⟨ao3, c3, rfl, _, _, _⟩ := g1
  obtain ⟨ao4, c4, rfl, _, _, _⟩ := g2
  go_enter Try.func26, Try.ntmps26
  go_wp2_with fail
  obtain ⟨w1, hW⟩ : ∃ w1, w1 = (w.alloc (Obj.cells #[.int .i64 gr, .int .i64 gc, .slice ao1 xs.length c1, .slice ao2 ys.length c2] 37)).alloc (Obj.cells #[.int .i64 gr, .int .i64 gc, .slice ao3 xs.length c3, .slice ao4 ys.length c4] 37) := ⟨_, rfl⟩
  obtain ⟨N, hN⟩ : ∃ N, N = w.heap.size := ⟨_, rfl⟩
  obtain ⟨M, hM⟩ : ∃ M, M = N + 1 := ⟨_, rfl⟩
  have B2 : Below w.heap.size w w1 := by rw [hW]; exact Go.Joins.below_alloc2 _ _ _
  have a1 : w1.cell? ⟨N, 3, none⟩ = some (.slice ao2 ys.length c2) := by rw [hW, hN]; simp
  have a2 : w1.cell? ⟨M, 3, none⟩ = some (.slice ao4 ys.length c4) := by rw [hW, hM, hN]; simp
  simp only [← hW, ← hN, ← hM]
  clear hW hN hM
  go_at_call 19
  refine (eqFF (H1.out.keep B2 (Nat.le_refl _)) (G1.out.keep B2 (Nat.le_refl _))).mono ?_
  rintro e w4 ⟨rfl, bel⟩
  have a1' := cell_keep bel a1
  have a2' := cell_keep bel a2
  have B4 := B2.trans (bel.mono B2.size)
  clear a1 a2 bel
  go_wp2_with fail
  go_at_call 74
  refine (eqBB (H2.out.keep B4 (Nat.le_refl _)) (G2.out.keep B4 (Nat.le_refl _))).mono ?_
  rintro e w5 ⟨rfl, bel⟩
  go_wp2
  go_ret
  exact ⟨rfl, B4.trans (bel.mono B4.size)⟩

end Go.Proofs.Ytejchjjkehmgaaa.Help
