/- TaskCount of both sides. -/
import Derived.Test.YthcbhbdgbiiagaaMaj
import Derived.Test.YthcbhbdgbiiagaaRun
import Derived.Test.YthcbhbdgbiiagaaCon
import Derived.Test.YthcbhbdgbiiagaaChg
import Derived.Test.YthcbhbdgbiiagaaFVal
import Derived.Deep.Cut
namespace Go.Proofs.Ythcbhbdgbiiagaa.Tsk
open Go.RowKit Go.Proofs.Ythcbhbdgbiiagaa.Rd Go.Proofs.Ythcbhbdgbiiagaa.Help Go.Proofs.Ythcbhbdgbiiagaa.Ring Go.Proofs.Ythcbhbdgbiiagaa.Small Go.Proofs.Ythcbhbdgbiiagaa.Keep Go.Proofs.Ythcbhbdgbiiagaa.Rule Go.Proofs.Ythcbhbdgbiiagaa.Two Go.Proofs.Ythcbhbdgbiiagaa.Draw Go.Proofs.Ythcbhbdgbiiagaa.Maj Go.Proofs.Ythcbhbdgbiiagaa.Step Go.Proofs.Ythcbhbdgbiiagaa.Run
set_option linter.unusedVariables false
set_option linter.unusedSimpArgs false

/-- The seed before a ring. -/
def sdT (s0 : Int) (n : Nat) : Nat → Int
  | 0 => s0
  | t + 1 => seedAt (sdT s0 n t) n
theorem sd_bd {s0 : Int} (h : 0 ≤ s0 ∧ s0 ≤ 4294967295) (n t : Nat) : 0 ≤ sdT s0 n t ∧ sdT s0 n t ≤ 4294967295 := by
  induction t with
  | zero => exact h
  | succ t ih => exact seedAt_bd _ ih n
/-- The ring, and whether the rule finds its majority. -/
def rg (s0 : Int) (n t : Nat) : List Int := cells 2 (sdT s0 n t) n
def winB (tbl : List Int) (r : Int) (S : Nat) (zs : List Int) : Bool := (runL tbl zs 2 r S).all fun x => x == majL zs
def cntL (tbl : List Int) (r s0 : Int) (n S : Nat) : Nat → Nat
  | 0 => 0
  | t + 1 => cntL tbl r s0 n S t + (if winB tbl r S (rg s0 n t) = true then 1 else 0)
theorem cnt_le (tbl : List Int) (r s0 : Int) (n S t : Nat) : cntL tbl r s0 n S t ≤ t := by
  induction t with
  | zero => exact Nat.le_refl _
  | succ t ih => simp only [cntL]; split <;> omega
theorem rg_len (s0 : Int) (n t : Nat) : (rg s0 n t).length = n := cells_length _ _ _
theorem cell_bd {s : Int} (h : 0 ≤ s ∧ s ≤ 4294967295) (k : Nat) : 0 ≤ cellAt 2 s k ∧ cellAt 2 s k ≤ 1 := by
  have hb := seedAt_bd s h (k + 1)
  unfold cellAt
  omega
theorem rg_all {s0 : Int} (h : 0 ≤ s0 ∧ s0 ≤ 4294967295) (n t : Nat) : allB (rg s0 n t) 2 = true := by
  unfold allB rg cells
  rw [List.all_map, List.all_eq_true]
  intro k _
  have hb := cell_bd (sd_bd h n t) k
  show Ring.okB 2 (cellAt 2 (sdT s0 n t) k) = true
  simp only [Ring.okB, decide_eq_true_eq]
  omega
theorem cell_half {s : Int} (h : 0 ≤ s ∧ s ≤ 4294967295) (k : Nat) : (seedAt s (k + 1)).tdiv 2147483648 = cellAt 2 s k := by
  have hb := seedAt_bd s h (k + 1)
  rw [Int.tdiv_eq_ediv_of_nonneg hb.1]
  unfold cellAt
  omega
theorem maj_01 (zs : List Int) : majL zs = 0 ∨ majL zs = 1 := by unfold majL; split <;> simp
theorem fit_rg {r s0 : Int} {tbl : List Int} (ht : twoB 2 r tbl = true) (h : 0 ≤ s0 ∧ s0 ≤ 4294967295) {n : Nat} (hn : 1 ≤ n ∧ n ≤ 64) (t : Nat) : Fit 2 r tbl (rg s0 n t) := by
  simp only [twoB, validB, shapeB, Bool.and_eq_true, decide_eq_true_eq] at ht
  obtain ⟨⟨hs, hl, ha⟩, _⟩ := ht
  exact ⟨by omega, by omega, hl, ha, rg_all h n t, by rw [rg_len]; exact hn⟩
theorem not_has {zs : List Int} (h : allB zs 2 = true) {m : Int} (hm : m = 0 ∨ m = 1) : (!zs.contains (1 - m)) = zs.all fun x => x == m := by
  rw [Bool.eq_iff_iff]
  simp only [Bool.not_eq_true', List.all_eq_true, beq_iff_eq]
  unfold allB at h
  rw [List.all_eq_true] at h
  constructor
  · intro hc x hx
    have h1 := h x hx
    simp only [Ring.okB, decide_eq_true_eq] at h1
    have h2 : x ≠ 1 - m := fun e => by
      rw [e] at hx
      have : zs.contains (1 - m) = true := by simpa using hx
      rw [hc] at this; cases this
    omega
  · intro ha
    rw [Bool.eq_false_iff]
    intro hc
    have hc2 : (1 - m) ∈ zs := by simpa using hc
    have := ha _ hc2
    omega
theorem all_succ {zs : List Int} {p : Int → Bool} {j : Nat} (h : j < zs.length) : (zs.take (j + 1)).all p = ((zs.take j).all p && p (zs.getD j 0)) := by
  rw [List.take_add_one, List.getElem?_eq_getElem h, List.all_append, List.getD_eq_getElem?_getD, List.getElem?_eq_getElem h]
  simp
def taskB (s r : Int) (tbl : List Int) (n tr st s0 : Int) : Bool :=
  twoB s r tbl && (decide (2 * r + 1 ≤ n ∧ n ≤ 64) && (decide (n % 2 = 1) && (decide (1 ≤ tr ∧ tr ≤ 32) && (decide (0 ≤ st ∧ st ≤ 64) && decide (0 ≤ s0 ∧ s0 ≤ 4294967295)))))

set_option maxHeartbeats 4000000 in
set_option maxRecDepth 8000 in
theorem task0 {w : World} {N b : Nat} {s r n tr st s0 : Int} {v : Value} {tbl : List Int} (d0 : w.cell? ⟨N, 0, none⟩ = some (.int .i64 s)) (d1 : w.cell? ⟨N, 1, none⟩ = some (.int .i64 r)) (d2 : w.cell? ⟨N, 2, none⟩ = some v) (h : Rd w b v tbl) (g0 : twoB s r tbl = false) :
    Calls Try.prog 77 #[.pointer (some ⟨N, 0, none⟩), .int .i64 n, .int .i64 tr, .int .i64 st, .int .i64 s0] w fun e w' => e = .returned (.bool false) ∧ Below w.heap.size w w' := by
  have G0 := hid g0
  have HK := hid (And.intro d0 (And.intro d1 d2))
  have HH := hid h
  clear g0 d0 d1 d2 h
  go_enter Try.func77, Try.ntmps77
  go_wp2_with fail
  go_at_call 65
  refine (Two.spec HH.out HK.out.1 HK.out.2.1 HK.out.2.2).mono ?_
  rw [G0.out]
  rintro e w2 ⟨rfl, hm2⟩
  have bel := Two.below_m hm2
  clear hm2
  have HB := hid bel
  clear bel
  go_wp2
  go_ret
  exact ⟨rfl, HB.out⟩

set_option maxHeartbeats 4000000 in
set_option maxRecDepth 8000 in
theorem task1 {w : World} {N b : Nat} {s r n tr st s0 : Int} {v : Value} {tbl : List Int} (d0 : w.cell? ⟨N, 0, none⟩ = some (.int .i64 s)) (d1 : w.cell? ⟨N, 1, none⟩ = some (.int .i64 r)) (d2 : w.cell? ⟨N, 2, none⟩ = some v) (h : Rd w b v tbl) (g0 : twoB s r tbl = true) (g1 : ¬ (2 * r + 1 ≤ n ∧ n ≤ 64)) :
    Calls Try.prog 77 #[.pointer (some ⟨N, 0, none⟩), .int .i64 n, .int .i64 tr, .int .i64 st, .int .i64 s0] w fun e w' => e = .returned (.bool false) ∧ Below w.heap.size w w' := by
  have G0 := hid g0
  have hr2 : 0 ≤ r ∧ r ≤ 2 := (two_parts g0).2.1
  have G1 : Hid (decide (2 * r + 1 ≤ n ∧ n ≤ 64) = false) := decide_eq_false g1
  have hw1 : wrap64 (2 * r) = 2 * r := wrap_id (by omega) (by omega)
  have hw2 : wrap64 (2 * r + 1) = 2 * r + 1 := wrap_id (by omega) (by omega)
  have HR2 := hid hr2
  have HK := hid (And.intro d0 (And.intro d1 d2))
  have HH := hid h
  clear g0 g1 d0 d1 d2 h
  go_enter Try.func77, Try.ntmps77
  go_wp2_with fail
  go_at_call 65
  refine (Two.spec HH.out HK.out.1 HK.out.2.1 HK.out.2.2).mono ?_
  rw [G0.out]
  rintro e w2 ⟨rfl, hm2⟩
  have bel := Two.below_m hm2
  clear hm2
  have HB := hid bel
  have d1 : w2.cell? ⟨N, 1, none⟩ = some (.int .i64 r) := cell_keep bel HK.out.2.1
  clear bel
  go_wp2_with fail
  go_at_call 55
  refine (inB (lo := 2 * r + 1) (hi := 64)).mono ?_
  rw [G1.out]
  rintro e w3 ⟨rfl, rfl⟩

  go_wp2
  go_ret
  exact ⟨rfl, HB.out⟩

set_option maxHeartbeats 4000000 in
set_option maxRecDepth 8000 in
theorem task2 {w : World} {N b : Nat} {s r n tr st s0 : Int} {v : Value} {tbl : List Int} (d0 : w.cell? ⟨N, 0, none⟩ = some (.int .i64 s)) (d1 : w.cell? ⟨N, 1, none⟩ = some (.int .i64 r)) (d2 : w.cell? ⟨N, 2, none⟩ = some v) (h : Rd w b v tbl) (g0 : twoB s r tbl = true) (g1 : 2 * r + 1 ≤ n ∧ n ≤ 64) (g2 : ¬ (n % 2 = 1)) :
    Calls Try.prog 77 #[.pointer (some ⟨N, 0, none⟩), .int .i64 n, .int .i64 tr, .int .i64 st, .int .i64 s0] w fun e w' => e = .returned (.bool false) ∧ Below w.heap.size w w' := by
  have G0 := hid g0
  have hr2 : 0 ≤ r ∧ r ≤ 2 := (two_parts g0).2.1
  have G1 : Hid (decide (2 * r + 1 ≤ n ∧ n ≤ 64) = true) := decide_eq_true g1
  have hw1 : wrap64 (2 * r) = 2 * r := wrap_id (by omega) (by omega)
  have hw2 : wrap64 (2 * r + 1) = 2 * r + 1 := wrap_id (by omega) (by omega)
  have HR2 := hid hr2
  have hmd : n.tmod 2 = 0 := by rw [Int.tmod_eq_emod_of_nonneg (by omega)]; omega
  have HK := hid (And.intro d0 (And.intro d1 d2))
  have HH := hid h
  clear g0 g1 g2 d0 d1 d2 h
  go_enter Try.func77, Try.ntmps77
  go_wp2_with fail
  go_at_call 65
  refine (Two.spec HH.out HK.out.1 HK.out.2.1 HK.out.2.2).mono ?_
  rw [G0.out]
  rintro e w2 ⟨rfl, hm2⟩
  have bel := Two.below_m hm2
  clear hm2
  have HB := hid bel
  have d1 : w2.cell? ⟨N, 1, none⟩ = some (.int .i64 r) := cell_keep bel HK.out.2.1
  clear bel
  go_wp2_with fail
  go_at_call 55
  refine (inB (lo := 2 * r + 1) (hi := 64)).mono ?_
  rw [G1.out]
  rintro e w3 ⟨rfl, rfl⟩

  go_wp2
  go_ret
  exact ⟨rfl, HB.out⟩

set_option maxHeartbeats 4000000 in
set_option maxRecDepth 8000 in
theorem task3 {w : World} {N b : Nat} {s r n tr st s0 : Int} {v : Value} {tbl : List Int} (d0 : w.cell? ⟨N, 0, none⟩ = some (.int .i64 s)) (d1 : w.cell? ⟨N, 1, none⟩ = some (.int .i64 r)) (d2 : w.cell? ⟨N, 2, none⟩ = some v) (h : Rd w b v tbl) (g0 : twoB s r tbl = true) (g1 : 2 * r + 1 ≤ n ∧ n ≤ 64) (g2 : n % 2 = 1) (g3 : ¬ (1 ≤ tr ∧ tr ≤ 32)) :
    Calls Try.prog 77 #[.pointer (some ⟨N, 0, none⟩), .int .i64 n, .int .i64 tr, .int .i64 st, .int .i64 s0] w fun e w' => e = .returned (.bool false) ∧ Below w.heap.size w w' := by
  have G0 := hid g0
  have hr2 : 0 ≤ r ∧ r ≤ 2 := (two_parts g0).2.1
  have G1 : Hid (decide (2 * r + 1 ≤ n ∧ n ≤ 64) = true) := decide_eq_true g1
  have hw1 : wrap64 (2 * r) = 2 * r := wrap_id (by omega) (by omega)
  have hw2 : wrap64 (2 * r + 1) = 2 * r + 1 := wrap_id (by omega) (by omega)
  have HR2 := hid hr2
  have hmd : n.tmod 2 = 1 := by rw [Int.tmod_eq_emod_of_nonneg (by omega)]; omega
  have G3 : Hid (decide (1 ≤ tr ∧ tr ≤ 32) = false) := decide_eq_false g3
  have HK := hid (And.intro d0 (And.intro d1 d2))
  have HH := hid h
  clear g0 g1 g2 g3 d0 d1 d2 h
  go_enter Try.func77, Try.ntmps77
  go_wp2_with fail
  go_at_call 65
  refine (Two.spec HH.out HK.out.1 HK.out.2.1 HK.out.2.2).mono ?_
  rw [G0.out]
  rintro e w2 ⟨rfl, hm2⟩
  have bel := Two.below_m hm2
  clear hm2
  have HB := hid bel
  have d1 : w2.cell? ⟨N, 1, none⟩ = some (.int .i64 r) := cell_keep bel HK.out.2.1
  clear bel
  go_wp2_with fail
  go_at_call 55
  refine (inB (lo := 2 * r + 1) (hi := 64)).mono ?_
  rw [G1.out]
  rintro e w3 ⟨rfl, rfl⟩

  go_wp2_with fail
  go_at_call 55
  refine (inB (lo := 1) (hi := 32)).mono ?_
  rw [G3.out]
  rintro e w3 ⟨rfl, rfl⟩

  go_wp2
  go_ret
  exact ⟨rfl, HB.out⟩

set_option maxHeartbeats 4000000 in
set_option maxRecDepth 8000 in
theorem task4 {w : World} {N b : Nat} {s r n tr st s0 : Int} {v : Value} {tbl : List Int} (d0 : w.cell? ⟨N, 0, none⟩ = some (.int .i64 s)) (d1 : w.cell? ⟨N, 1, none⟩ = some (.int .i64 r)) (d2 : w.cell? ⟨N, 2, none⟩ = some v) (h : Rd w b v tbl) (g0 : twoB s r tbl = true) (g1 : 2 * r + 1 ≤ n ∧ n ≤ 64) (g2 : n % 2 = 1) (g3 : 1 ≤ tr ∧ tr ≤ 32) (g4 : ¬ (0 ≤ st ∧ st ≤ 64)) :
    Calls Try.prog 77 #[.pointer (some ⟨N, 0, none⟩), .int .i64 n, .int .i64 tr, .int .i64 st, .int .i64 s0] w fun e w' => e = .returned (.bool false) ∧ Below w.heap.size w w' := by
  have G0 := hid g0
  have hr2 : 0 ≤ r ∧ r ≤ 2 := (two_parts g0).2.1
  have G1 : Hid (decide (2 * r + 1 ≤ n ∧ n ≤ 64) = true) := decide_eq_true g1
  have hw1 : wrap64 (2 * r) = 2 * r := wrap_id (by omega) (by omega)
  have hw2 : wrap64 (2 * r + 1) = 2 * r + 1 := wrap_id (by omega) (by omega)
  have HR2 := hid hr2
  have hmd : n.tmod 2 = 1 := by rw [Int.tmod_eq_emod_of_nonneg (by omega)]; omega
  have G3 : Hid (decide (1 ≤ tr ∧ tr ≤ 32) = true) := decide_eq_true g3
  have G4 : Hid (decide (0 ≤ st ∧ st ≤ 64) = false) := decide_eq_false g4
  have HK := hid (And.intro d0 (And.intro d1 d2))
  have HH := hid h
  clear g0 g1 g2 g3 g4 d0 d1 d2 h
  go_enter Try.func77, Try.ntmps77
  go_wp2_with fail
  go_at_call 65
  refine (Two.spec HH.out HK.out.1 HK.out.2.1 HK.out.2.2).mono ?_
  rw [G0.out]
  rintro e w2 ⟨rfl, hm2⟩
  have bel := Two.below_m hm2
  clear hm2
  have HB := hid bel
  have d1 : w2.cell? ⟨N, 1, none⟩ = some (.int .i64 r) := cell_keep bel HK.out.2.1
  clear bel
  go_wp2_with fail
  go_at_call 55
  refine (inB (lo := 2 * r + 1) (hi := 64)).mono ?_
  rw [G1.out]
  rintro e w3 ⟨rfl, rfl⟩

  go_wp2_with fail
  go_at_call 55
  refine (inB (lo := 1) (hi := 32)).mono ?_
  rw [G3.out]
  rintro e w3 ⟨rfl, rfl⟩

  go_wp2_with fail
  go_at_call 55
  refine (inB (lo := 0) (hi := 64)).mono ?_
  rw [G4.out]
  rintro e w3 ⟨rfl, rfl⟩

  go_wp2
  go_ret
  exact ⟨rfl, HB.out⟩

set_option maxHeartbeats 4000000 in
set_option maxRecDepth 8000 in
theorem task5 {w : World} {N b : Nat} {s r n tr st s0 : Int} {v : Value} {tbl : List Int} (d0 : w.cell? ⟨N, 0, none⟩ = some (.int .i64 s)) (d1 : w.cell? ⟨N, 1, none⟩ = some (.int .i64 r)) (d2 : w.cell? ⟨N, 2, none⟩ = some v) (h : Rd w b v tbl) (g0 : twoB s r tbl = true) (g1 : 2 * r + 1 ≤ n ∧ n ≤ 64) (g2 : n % 2 = 1) (g3 : 1 ≤ tr ∧ tr ≤ 32) (g4 : 0 ≤ st ∧ st ≤ 64) (g5 : ¬ (0 ≤ s0 ∧ s0 ≤ 4294967295)) :
    Calls Try.prog 77 #[.pointer (some ⟨N, 0, none⟩), .int .i64 n, .int .i64 tr, .int .i64 st, .int .i64 s0] w fun e w' => e = .returned (.bool false) ∧ Below w.heap.size w w' := by
  have G0 := hid g0
  have hr2 : 0 ≤ r ∧ r ≤ 2 := (two_parts g0).2.1
  have G1 : Hid (decide (2 * r + 1 ≤ n ∧ n ≤ 64) = true) := decide_eq_true g1
  have hw1 : wrap64 (2 * r) = 2 * r := wrap_id (by omega) (by omega)
  have hw2 : wrap64 (2 * r + 1) = 2 * r + 1 := wrap_id (by omega) (by omega)
  have HR2 := hid hr2
  have hmd : n.tmod 2 = 1 := by rw [Int.tmod_eq_emod_of_nonneg (by omega)]; omega
  have G3 : Hid (decide (1 ≤ tr ∧ tr ≤ 32) = true) := decide_eq_true g3
  have G4 : Hid (decide (0 ≤ st ∧ st ≤ 64) = true) := decide_eq_true g4
  have G5 : Hid (decide (0 ≤ s0 ∧ s0 ≤ 4294967295) = false) := decide_eq_false g5
  have HK := hid (And.intro d0 (And.intro d1 d2))
  have HH := hid h
  clear g0 g1 g2 g3 g4 g5 d0 d1 d2 h
  go_enter Try.func77, Try.ntmps77
  go_wp2_with fail
  go_at_call 65
  refine (Two.spec HH.out HK.out.1 HK.out.2.1 HK.out.2.2).mono ?_
  rw [G0.out]
  rintro e w2 ⟨rfl, hm2⟩
  have bel := Two.below_m hm2
  clear hm2
  have HB := hid bel
  have d1 : w2.cell? ⟨N, 1, none⟩ = some (.int .i64 r) := cell_keep bel HK.out.2.1
  clear bel
  go_wp2_with fail
  go_at_call 55
  refine (inB (lo := 2 * r + 1) (hi := 64)).mono ?_
  rw [G1.out]
  rintro e w3 ⟨rfl, rfl⟩

  go_wp2_with fail
  go_at_call 55
  refine (inB (lo := 1) (hi := 32)).mono ?_
  rw [G3.out]
  rintro e w3 ⟨rfl, rfl⟩

  go_wp2_with fail
  go_at_call 55
  refine (inB (lo := 0) (hi := 64)).mono ?_
  rw [G4.out]
  rintro e w3 ⟨rfl, rfl⟩

  go_wp2_with fail
  go_at_call 73
  refine (Chg.specSeed G5.out).mono ?_
  rintro e w3 ⟨rfl, rfl⟩

  go_wp2
  go_ret
  exact ⟨rfl, HB.out⟩

set_option maxHeartbeats 4000000 in
set_option maxRecDepth 8000 in
theorem task6 {w : World} {N b : Nat} {s r n tr st s0 : Int} {v : Value} {tbl : List Int} (d0 : w.cell? ⟨N, 0, none⟩ = some (.int .i64 s)) (d1 : w.cell? ⟨N, 1, none⟩ = some (.int .i64 r)) (d2 : w.cell? ⟨N, 2, none⟩ = some v) (h : Rd w b v tbl) (g0 : twoB s r tbl = true) (g1 : 2 * r + 1 ≤ n ∧ n ≤ 64) (g2 : n % 2 = 1) (g3 : 1 ≤ tr ∧ tr ≤ 32) (g4 : 0 ≤ st ∧ st ≤ 64) (g5 : 0 ≤ s0 ∧ s0 ≤ 4294967295) :
    Calls Try.prog 77 #[.pointer (some ⟨N, 0, none⟩), .int .i64 n, .int .i64 tr, .int .i64 st, .int .i64 s0] w fun e w' => e = .returned (.bool true) ∧ Below w.heap.size w w' := by
  have G0 := hid g0
  have hr2 : 0 ≤ r ∧ r ≤ 2 := (two_parts g0).2.1
  have G1 : Hid (decide (2 * r + 1 ≤ n ∧ n ≤ 64) = true) := decide_eq_true g1
  have hw1 : wrap64 (2 * r) = 2 * r := wrap_id (by omega) (by omega)
  have hw2 : wrap64 (2 * r + 1) = 2 * r + 1 := wrap_id (by omega) (by omega)
  have HR2 := hid hr2
  have hmd : n.tmod 2 = 1 := by rw [Int.tmod_eq_emod_of_nonneg (by omega)]; omega
  have G3 : Hid (decide (1 ≤ tr ∧ tr ≤ 32) = true) := decide_eq_true g3
  have G4 : Hid (decide (0 ≤ st ∧ st ≤ 64) = true) := decide_eq_true g4
  have G5 : Hid (decide (0 ≤ s0 ∧ s0 ≤ 4294967295) = true) := decide_eq_true g5
  have HK := hid (And.intro d0 (And.intro d1 d2))
  have HH := hid h
  clear g0 g1 g2 g3 g4 g5 d0 d1 d2 h
  go_enter Try.func77, Try.ntmps77
  go_wp2_with fail
  go_at_call 65
  refine (Two.spec HH.out HK.out.1 HK.out.2.1 HK.out.2.2).mono ?_
  rw [G0.out]
  rintro e w2 ⟨rfl, hm2⟩
  have bel := Two.below_m hm2
  clear hm2
  have HB := hid bel
  have d1 : w2.cell? ⟨N, 1, none⟩ = some (.int .i64 r) := cell_keep bel HK.out.2.1
  clear bel
  go_wp2_with fail
  go_at_call 55
  refine (inB (lo := 2 * r + 1) (hi := 64)).mono ?_
  rw [G1.out]
  rintro e w3 ⟨rfl, rfl⟩

  go_wp2_with fail
  go_at_call 55
  refine (inB (lo := 1) (hi := 32)).mono ?_
  rw [G3.out]
  rintro e w3 ⟨rfl, rfl⟩

  go_wp2_with fail
  go_at_call 55
  refine (inB (lo := 0) (hi := 64)).mono ?_
  rw [G4.out]
  rintro e w3 ⟨rfl, rfl⟩

  go_wp2_with fail
  go_at_call 73
  refine (Chg.specSeed G5.out).mono ?_
  rintro e w3 ⟨rfl, rfl⟩

  go_wp2
  go_ret
  exact ⟨rfl, HB.out⟩

set_option maxHeartbeats 4000000 in
theorem specNo0 {w : World} {s r n tr st s0 : Int} {b : Nat} {v : Value} {tbl : List Int} (h : Rd w b v tbl) (g0 : twoB s r tbl = false) :
    Calls Try.prog 38 #[ruleV s r v, .int .i64 n, .int .i64 tr, .int .i64 st, .int .i64 s0] w fun e w' => e = .returned (.tuple #[.int .i64 0, .int .i64 0, .bool false]) ∧ Below w.heap.size w w' := by
  have G0 := hid g0
  clear g0
  have HH := hid h
  obtain ⟨ao, cap, rfl, hc, hm, _⟩ := h
  clear hc hm
  go_enter Try.func38, Try.ntmps38
  go_wp2_with fail
  obtain ⟨w1, hW⟩ : ∃ w1, w1 = w.alloc (Obj.cells #[.int .i64 s, .int .i64 r, .slice ao tbl.length cap] 44) := ⟨_, rfl⟩
  obtain ⟨N, hN⟩ : ∃ N, N = w.heap.size := ⟨_, rfl⟩
  have st1 : Below w.heap.size w w1 ∧ w1.cell? ⟨N, 0, none⟩ = some (.int .i64 s) ∧ w1.cell? ⟨N, 1, none⟩ = some (.int .i64 r) ∧ w1.cell? ⟨N, 2, none⟩ = some (.slice ao tbl.length cap) ∧ w.heap.size ≤ w1.heap.size := by
    rw [hW, hN]
    exact ⟨below1 _ _, by simp, by simp, by simp, (below1 _ _).size⟩
  simp only [← hW, ← hN]
  clear hW hN
  go_at_call 77
  refine (task0 st1.2.1 st1.2.2.1 st1.2.2.2.1 (HH.out.keep st1.1 (Nat.le_refl _)) G0.out).mono ?_
  rintro e w2 ⟨rfl, bel⟩
  have HB := hid (st1.1.trans (bel.mono st1.1.size))
  clear st1 bel
  go_wp2
  go_ret3
  exact ⟨rfl, HB.out⟩

set_option maxHeartbeats 4000000 in
theorem specNo1 {w : World} {s r n tr st s0 : Int} {b : Nat} {v : Value} {tbl : List Int} (h : Rd w b v tbl) (g0 : twoB s r tbl = true) (g1 : ¬ (2 * r + 1 ≤ n ∧ n ≤ 64)) :
    Calls Try.prog 38 #[ruleV s r v, .int .i64 n, .int .i64 tr, .int .i64 st, .int .i64 s0] w fun e w' => e = .returned (.tuple #[.int .i64 0, .int .i64 0, .bool false]) ∧ Below w.heap.size w w' := by
  have G0 := hid g0
  have G1 := hid g1
  clear g0 g1
  have HH := hid h
  obtain ⟨ao, cap, rfl, hc, hm, _⟩ := h
  clear hc hm
  go_enter Try.func38, Try.ntmps38
  go_wp2_with fail
  obtain ⟨w1, hW⟩ : ∃ w1, w1 = w.alloc (Obj.cells #[.int .i64 s, .int .i64 r, .slice ao tbl.length cap] 44) := ⟨_, rfl⟩
  obtain ⟨N, hN⟩ : ∃ N, N = w.heap.size := ⟨_, rfl⟩
  have st1 : Below w.heap.size w w1 ∧ w1.cell? ⟨N, 0, none⟩ = some (.int .i64 s) ∧ w1.cell? ⟨N, 1, none⟩ = some (.int .i64 r) ∧ w1.cell? ⟨N, 2, none⟩ = some (.slice ao tbl.length cap) ∧ w.heap.size ≤ w1.heap.size := by
    rw [hW, hN]
    exact ⟨below1 _ _, by simp, by simp, by simp, (below1 _ _).size⟩
  simp only [← hW, ← hN]
  clear hW hN
  go_at_call 77
  refine (task1 st1.2.1 st1.2.2.1 st1.2.2.2.1 (HH.out.keep st1.1 (Nat.le_refl _)) G0.out G1.out).mono ?_
  rintro e w2 ⟨rfl, bel⟩
  have HB := hid (st1.1.trans (bel.mono st1.1.size))
  clear st1 bel
  go_wp2
  go_ret3
  exact ⟨rfl, HB.out⟩

set_option maxHeartbeats 4000000 in
theorem specNo2 {w : World} {s r n tr st s0 : Int} {b : Nat} {v : Value} {tbl : List Int} (h : Rd w b v tbl) (g0 : twoB s r tbl = true) (g1 : 2 * r + 1 ≤ n ∧ n ≤ 64) (g2 : ¬ (n % 2 = 1)) :
    Calls Try.prog 38 #[ruleV s r v, .int .i64 n, .int .i64 tr, .int .i64 st, .int .i64 s0] w fun e w' => e = .returned (.tuple #[.int .i64 0, .int .i64 0, .bool false]) ∧ Below w.heap.size w w' := by
  have G0 := hid g0
  have G1 := hid g1
  have G2 := hid g2
  clear g0 g1 g2
  have HH := hid h
  obtain ⟨ao, cap, rfl, hc, hm, _⟩ := h
  clear hc hm
  go_enter Try.func38, Try.ntmps38
  go_wp2_with fail
  obtain ⟨w1, hW⟩ : ∃ w1, w1 = w.alloc (Obj.cells #[.int .i64 s, .int .i64 r, .slice ao tbl.length cap] 44) := ⟨_, rfl⟩
  obtain ⟨N, hN⟩ : ∃ N, N = w.heap.size := ⟨_, rfl⟩
  have st1 : Below w.heap.size w w1 ∧ w1.cell? ⟨N, 0, none⟩ = some (.int .i64 s) ∧ w1.cell? ⟨N, 1, none⟩ = some (.int .i64 r) ∧ w1.cell? ⟨N, 2, none⟩ = some (.slice ao tbl.length cap) ∧ w.heap.size ≤ w1.heap.size := by
    rw [hW, hN]
    exact ⟨below1 _ _, by simp, by simp, by simp, (below1 _ _).size⟩
  simp only [← hW, ← hN]
  clear hW hN
  go_at_call 77
  refine (task2 st1.2.1 st1.2.2.1 st1.2.2.2.1 (HH.out.keep st1.1 (Nat.le_refl _)) G0.out G1.out G2.out).mono ?_
  rintro e w2 ⟨rfl, bel⟩
  have HB := hid (st1.1.trans (bel.mono st1.1.size))
  clear st1 bel
  go_wp2
  go_ret3
  exact ⟨rfl, HB.out⟩

set_option maxHeartbeats 4000000 in
theorem specNo3 {w : World} {s r n tr st s0 : Int} {b : Nat} {v : Value} {tbl : List Int} (h : Rd w b v tbl) (g0 : twoB s r tbl = true) (g1 : 2 * r + 1 ≤ n ∧ n ≤ 64) (g2 : n % 2 = 1) (g3 : ¬ (1 ≤ tr ∧ tr ≤ 32)) :
    Calls Try.prog 38 #[ruleV s r v, .int .i64 n, .int .i64 tr, .int .i64 st, .int .i64 s0] w fun e w' => e = .returned (.tuple #[.int .i64 0, .int .i64 0, .bool false]) ∧ Below w.heap.size w w' := by
  have G0 := hid g0
  have G1 := hid g1
  have G2 := hid g2
  have G3 := hid g3
  clear g0 g1 g2 g3
  have HH := hid h
  obtain ⟨ao, cap, rfl, hc, hm, _⟩ := h
  clear hc hm
  go_enter Try.func38, Try.ntmps38
  go_wp2_with fail
  obtain ⟨w1, hW⟩ : ∃ w1, w1 = w.alloc (Obj.cells #[.int .i64 s, .int .i64 r, .slice ao tbl.length cap] 44) := ⟨_, rfl⟩
  obtain ⟨N, hN⟩ : ∃ N, N = w.heap.size := ⟨_, rfl⟩
  have st1 : Below w.heap.size w w1 ∧ w1.cell? ⟨N, 0, none⟩ = some (.int .i64 s) ∧ w1.cell? ⟨N, 1, none⟩ = some (.int .i64 r) ∧ w1.cell? ⟨N, 2, none⟩ = some (.slice ao tbl.length cap) ∧ w.heap.size ≤ w1.heap.size := by
    rw [hW, hN]
    exact ⟨below1 _ _, by simp, by simp, by simp, (below1 _ _).size⟩
  simp only [← hW, ← hN]
  clear hW hN
  go_at_call 77
  refine (task3 st1.2.1 st1.2.2.1 st1.2.2.2.1 (HH.out.keep st1.1 (Nat.le_refl _)) G0.out G1.out G2.out G3.out).mono ?_
  rintro e w2 ⟨rfl, bel⟩
  have HB := hid (st1.1.trans (bel.mono st1.1.size))
  clear st1 bel
  go_wp2
  go_ret3
  exact ⟨rfl, HB.out⟩

set_option maxHeartbeats 4000000 in
theorem specNo4 {w : World} {s r n tr st s0 : Int} {b : Nat} {v : Value} {tbl : List Int} (h : Rd w b v tbl) (g0 : twoB s r tbl = true) (g1 : 2 * r + 1 ≤ n ∧ n ≤ 64) (g2 : n % 2 = 1) (g3 : 1 ≤ tr ∧ tr ≤ 32) (g4 : ¬ (0 ≤ st ∧ st ≤ 64)) :
    Calls Try.prog 38 #[ruleV s r v, .int .i64 n, .int .i64 tr, .int .i64 st, .int .i64 s0] w fun e w' => e = .returned (.tuple #[.int .i64 0, .int .i64 0, .bool false]) ∧ Below w.heap.size w w' := by
  have G0 := hid g0
  have G1 := hid g1
  have G2 := hid g2
  have G3 := hid g3
  have G4 := hid g4
  clear g0 g1 g2 g3 g4
  have HH := hid h
  obtain ⟨ao, cap, rfl, hc, hm, _⟩ := h
  clear hc hm
  go_enter Try.func38, Try.ntmps38
  go_wp2_with fail
  obtain ⟨w1, hW⟩ : ∃ w1, w1 = w.alloc (Obj.cells #[.int .i64 s, .int .i64 r, .slice ao tbl.length cap] 44) := ⟨_, rfl⟩
  obtain ⟨N, hN⟩ : ∃ N, N = w.heap.size := ⟨_, rfl⟩
  have st1 : Below w.heap.size w w1 ∧ w1.cell? ⟨N, 0, none⟩ = some (.int .i64 s) ∧ w1.cell? ⟨N, 1, none⟩ = some (.int .i64 r) ∧ w1.cell? ⟨N, 2, none⟩ = some (.slice ao tbl.length cap) ∧ w.heap.size ≤ w1.heap.size := by
    rw [hW, hN]
    exact ⟨below1 _ _, by simp, by simp, by simp, (below1 _ _).size⟩
  simp only [← hW, ← hN]
  clear hW hN
  go_at_call 77
  refine (task4 st1.2.1 st1.2.2.1 st1.2.2.2.1 (HH.out.keep st1.1 (Nat.le_refl _)) G0.out G1.out G2.out G3.out G4.out).mono ?_
  rintro e w2 ⟨rfl, bel⟩
  have HB := hid (st1.1.trans (bel.mono st1.1.size))
  clear st1 bel
  go_wp2
  go_ret3
  exact ⟨rfl, HB.out⟩

set_option maxHeartbeats 4000000 in
theorem specNo5 {w : World} {s r n tr st s0 : Int} {b : Nat} {v : Value} {tbl : List Int} (h : Rd w b v tbl) (g0 : twoB s r tbl = true) (g1 : 2 * r + 1 ≤ n ∧ n ≤ 64) (g2 : n % 2 = 1) (g3 : 1 ≤ tr ∧ tr ≤ 32) (g4 : 0 ≤ st ∧ st ≤ 64) (g5 : ¬ (0 ≤ s0 ∧ s0 ≤ 4294967295)) :
    Calls Try.prog 38 #[ruleV s r v, .int .i64 n, .int .i64 tr, .int .i64 st, .int .i64 s0] w fun e w' => e = .returned (.tuple #[.int .i64 0, .int .i64 0, .bool false]) ∧ Below w.heap.size w w' := by
  have G0 := hid g0
  have G1 := hid g1
  have G2 := hid g2
  have G3 := hid g3
  have G4 := hid g4
  have G5 := hid g5
  clear g0 g1 g2 g3 g4 g5
  have HH := hid h
  obtain ⟨ao, cap, rfl, hc, hm, _⟩ := h
  clear hc hm
  go_enter Try.func38, Try.ntmps38
  go_wp2_with fail
  obtain ⟨w1, hW⟩ : ∃ w1, w1 = w.alloc (Obj.cells #[.int .i64 s, .int .i64 r, .slice ao tbl.length cap] 44) := ⟨_, rfl⟩
  obtain ⟨N, hN⟩ : ∃ N, N = w.heap.size := ⟨_, rfl⟩
  have st1 : Below w.heap.size w w1 ∧ w1.cell? ⟨N, 0, none⟩ = some (.int .i64 s) ∧ w1.cell? ⟨N, 1, none⟩ = some (.int .i64 r) ∧ w1.cell? ⟨N, 2, none⟩ = some (.slice ao tbl.length cap) ∧ w.heap.size ≤ w1.heap.size := by
    rw [hW, hN]
    exact ⟨below1 _ _, by simp, by simp, by simp, (below1 _ _).size⟩
  simp only [← hW, ← hN]
  clear hW hN
  go_at_call 77
  refine (task5 st1.2.1 st1.2.2.1 st1.2.2.2.1 (HH.out.keep st1.1 (Nat.le_refl _)) G0.out G1.out G2.out G3.out G4.out G5.out).mono ?_
  rintro e w2 ⟨rfl, bel⟩
  have HB := hid (st1.1.trans (bel.mono st1.1.size))
  clear st1 bel
  go_wp2
  go_ret3
  exact ⟨rfl, HB.out⟩

set_option maxHeartbeats 4000000 in
set_option maxRecDepth 8000 in
theorem implNo0 {w : World} {s r n tr st s0 : Int} {b : Nat} {v : Value} {tbl : List Int} (h : Rd w b v tbl) (g0 : twoB s r tbl = false) :
    Calls Try.prog 39 #[ruleV s r v, .int .i64 n, .int .i64 tr, .int .i64 st, .int .i64 s0] w fun e w' => e = .returned (.tuple #[.int .i64 0, .int .i64 0, .bool false]) ∧ Below w.heap.size w w' := by
  have G0 := hid g0
  clear g0
  have HH := hid h
  obtain ⟨ao, cap, rfl, hc, hm, _⟩ := h
  clear hc hm
  go_enter Try.func39, Try.ntmps39
  go_wp2_with fail
  obtain ⟨w1, hW⟩ : ∃ w1, w1 = w.alloc (Obj.cells #[.int .i64 s, .int .i64 r, .slice ao tbl.length cap] 44) := ⟨_, rfl⟩
  obtain ⟨N, hN⟩ : ∃ N, N = w.heap.size := ⟨_, rfl⟩
  have st1 : Below w.heap.size w w1 ∧ w1.cell? ⟨N, 0, none⟩ = some (.int .i64 s) ∧ w1.cell? ⟨N, 1, none⟩ = some (.int .i64 r) ∧ w1.cell? ⟨N, 2, none⟩ = some (.slice ao tbl.length cap) ∧ w.heap.size ≤ w1.heap.size := by
    rw [hW, hN]
    exact ⟨below1 _ _, by simp, by simp, by simp, (below1 _ _).size⟩
  simp only [← hW, ← hN]
  clear hW hN
  go_at_call 67
  refine (Two.impl (HH.out.keep st1.1 (Nat.le_refl _))).mono ?_
  rw [G0.out]
  rintro e w2 ⟨rfl, bel⟩
  replace st1 := next3_0 bel st1
  clear bel
  have HB := hid st1.1
  clear st1
  go_wp2
  go_ret3
  exact ⟨rfl, HB.out⟩

set_option maxHeartbeats 4000000 in
set_option maxRecDepth 8000 in
theorem implNo1 {w : World} {s r n tr st s0 : Int} {b : Nat} {v : Value} {tbl : List Int} (h : Rd w b v tbl) (g0 : twoB s r tbl = true) (g1 : ¬ (2 * r + 1 ≤ n ∧ n ≤ 64)) :
    Calls Try.prog 39 #[ruleV s r v, .int .i64 n, .int .i64 tr, .int .i64 st, .int .i64 s0] w fun e w' => e = .returned (.tuple #[.int .i64 0, .int .i64 0, .bool false]) ∧ Below w.heap.size w w' := by
  have G0 := hid g0
  have hr2 : 0 ≤ r ∧ r ≤ 2 := (two_parts g0).2.1
  have G1 : Hid (decide (2 * r + 1 ≤ n ∧ n ≤ 64) = false) := decide_eq_false g1
  have hw1 : wrap64 (2 * r) = 2 * r := wrap_id (by omega) (by omega)
  have hw2 : wrap64 (2 * r + 1) = 2 * r + 1 := wrap_id (by omega) (by omega)
  have HR2 := hid hr2
  clear g0 g1
  have HH := hid h
  obtain ⟨ao, cap, rfl, hc, hm, _⟩ := h
  clear hc hm
  go_enter Try.func39, Try.ntmps39
  go_wp2_with fail
  obtain ⟨w1, hW⟩ : ∃ w1, w1 = w.alloc (Obj.cells #[.int .i64 s, .int .i64 r, .slice ao tbl.length cap] 44) := ⟨_, rfl⟩
  obtain ⟨N, hN⟩ : ∃ N, N = w.heap.size := ⟨_, rfl⟩
  have st1 : Below w.heap.size w w1 ∧ w1.cell? ⟨N, 0, none⟩ = some (.int .i64 s) ∧ w1.cell? ⟨N, 1, none⟩ = some (.int .i64 r) ∧ w1.cell? ⟨N, 2, none⟩ = some (.slice ao tbl.length cap) ∧ w.heap.size ≤ w1.heap.size := by
    rw [hW, hN]
    exact ⟨below1 _ _, by simp, by simp, by simp, (below1 _ _).size⟩
  simp only [← hW, ← hN]
  clear hW hN
  go_at_call 67
  refine (Two.impl (HH.out.keep st1.1 (Nat.le_refl _))).mono ?_
  rw [G0.out]
  rintro e w2 ⟨rfl, bel⟩
  replace st1 := next3_0 bel st1
  clear bel
  have d0 := st1.2.1
  have d1 := st1.2.2.1
  have d2 := st1.2.2.2.1
  go_wp2_with fail
  go_at_call 80
  refine Rule.shapeOf.mono ?_
  rintro e w3 ⟨rfl, bel⟩
  replace st1 := next3_0 bel st1
  clear bel
  go_wp2_with fail
  go_at_call 81
  refine (Rule.wide HR2.out).mono ?_
  rintro e w4 ⟨rfl, bel⟩
  replace st1 := next3_0 bel st1
  clear bel d0 d1 d2
  go_wp2_with fail
  go_at_call 79
  refine (FVal.isFromB (lo := 2 * r + 1) (hi := 64)).mono ?_
  rw [G1.out]
  rintro e w5 ⟨rfl, rfl⟩

  have HB := hid st1.1
  clear st1
  go_wp2
  go_ret3
  exact ⟨rfl, HB.out⟩

set_option maxHeartbeats 4000000 in
set_option maxRecDepth 8000 in
theorem implNo2 {w : World} {s r n tr st s0 : Int} {b : Nat} {v : Value} {tbl : List Int} (h : Rd w b v tbl) (g0 : twoB s r tbl = true) (g1 : 2 * r + 1 ≤ n ∧ n ≤ 64) (g2 : ¬ (n % 2 = 1)) :
    Calls Try.prog 39 #[ruleV s r v, .int .i64 n, .int .i64 tr, .int .i64 st, .int .i64 s0] w fun e w' => e = .returned (.tuple #[.int .i64 0, .int .i64 0, .bool false]) ∧ Below w.heap.size w w' := by
  have G0 := hid g0
  have hr2 : 0 ≤ r ∧ r ≤ 2 := (two_parts g0).2.1
  have G1 : Hid (decide (2 * r + 1 ≤ n ∧ n ≤ 64) = true) := decide_eq_true g1
  have hw1 : wrap64 (2 * r) = 2 * r := wrap_id (by omega) (by omega)
  have hw2 : wrap64 (2 * r + 1) = 2 * r + 1 := wrap_id (by omega) (by omega)
  have HR2 := hid hr2
  have hmd : n.tmod 2 = 0 := by rw [Int.tmod_eq_emod_of_nonneg (by omega)]; omega
  clear g0 g1 g2
  have HH := hid h
  obtain ⟨ao, cap, rfl, hc, hm, _⟩ := h
  clear hc hm
  go_enter Try.func39, Try.ntmps39
  go_wp2_with fail
  obtain ⟨w1, hW⟩ : ∃ w1, w1 = w.alloc (Obj.cells #[.int .i64 s, .int .i64 r, .slice ao tbl.length cap] 44) := ⟨_, rfl⟩
  obtain ⟨N, hN⟩ : ∃ N, N = w.heap.size := ⟨_, rfl⟩
  have st1 : Below w.heap.size w w1 ∧ w1.cell? ⟨N, 0, none⟩ = some (.int .i64 s) ∧ w1.cell? ⟨N, 1, none⟩ = some (.int .i64 r) ∧ w1.cell? ⟨N, 2, none⟩ = some (.slice ao tbl.length cap) ∧ w.heap.size ≤ w1.heap.size := by
    rw [hW, hN]
    exact ⟨below1 _ _, by simp, by simp, by simp, (below1 _ _).size⟩
  simp only [← hW, ← hN]
  clear hW hN
  go_at_call 67
  refine (Two.impl (HH.out.keep st1.1 (Nat.le_refl _))).mono ?_
  rw [G0.out]
  rintro e w2 ⟨rfl, bel⟩
  replace st1 := next3_0 bel st1
  clear bel
  have d0 := st1.2.1
  have d1 := st1.2.2.1
  have d2 := st1.2.2.2.1
  go_wp2_with fail
  go_at_call 80
  refine Rule.shapeOf.mono ?_
  rintro e w3 ⟨rfl, bel⟩
  replace st1 := next3_0 bel st1
  clear bel
  go_wp2_with fail
  go_at_call 81
  refine (Rule.wide HR2.out).mono ?_
  rintro e w4 ⟨rfl, bel⟩
  replace st1 := next3_0 bel st1
  clear bel d0 d1 d2
  go_wp2_with fail
  go_at_call 79
  refine (FVal.isFromB (lo := 2 * r + 1) (hi := 64)).mono ?_
  rw [G1.out]
  rintro e w5 ⟨rfl, rfl⟩

  have HB := hid st1.1
  clear st1
  go_wp2
  go_ret3
  exact ⟨rfl, HB.out⟩

set_option maxHeartbeats 4000000 in
set_option maxRecDepth 8000 in
theorem implNo3 {w : World} {s r n tr st s0 : Int} {b : Nat} {v : Value} {tbl : List Int} (h : Rd w b v tbl) (g0 : twoB s r tbl = true) (g1 : 2 * r + 1 ≤ n ∧ n ≤ 64) (g2 : n % 2 = 1) (g3 : ¬ (1 ≤ tr ∧ tr ≤ 32)) :
    Calls Try.prog 39 #[ruleV s r v, .int .i64 n, .int .i64 tr, .int .i64 st, .int .i64 s0] w fun e w' => e = .returned (.tuple #[.int .i64 0, .int .i64 0, .bool false]) ∧ Below w.heap.size w w' := by
  have G0 := hid g0
  have hr2 : 0 ≤ r ∧ r ≤ 2 := (two_parts g0).2.1
  have G1 : Hid (decide (2 * r + 1 ≤ n ∧ n ≤ 64) = true) := decide_eq_true g1
  have hw1 : wrap64 (2 * r) = 2 * r := wrap_id (by omega) (by omega)
  have hw2 : wrap64 (2 * r + 1) = 2 * r + 1 := wrap_id (by omega) (by omega)
  have HR2 := hid hr2
  have hmd : n.tmod 2 = 1 := by rw [Int.tmod_eq_emod_of_nonneg (by omega)]; omega
  have G3 : Hid (decide (1 ≤ tr ∧ tr ≤ 32) = false) := decide_eq_false g3
  clear g0 g1 g2 g3
  have HH := hid h
  obtain ⟨ao, cap, rfl, hc, hm, _⟩ := h
  clear hc hm
  go_enter Try.func39, Try.ntmps39
  go_wp2_with fail
  obtain ⟨w1, hW⟩ : ∃ w1, w1 = w.alloc (Obj.cells #[.int .i64 s, .int .i64 r, .slice ao tbl.length cap] 44) := ⟨_, rfl⟩
  obtain ⟨N, hN⟩ : ∃ N, N = w.heap.size := ⟨_, rfl⟩
  have st1 : Below w.heap.size w w1 ∧ w1.cell? ⟨N, 0, none⟩ = some (.int .i64 s) ∧ w1.cell? ⟨N, 1, none⟩ = some (.int .i64 r) ∧ w1.cell? ⟨N, 2, none⟩ = some (.slice ao tbl.length cap) ∧ w.heap.size ≤ w1.heap.size := by
    rw [hW, hN]
    exact ⟨below1 _ _, by simp, by simp, by simp, (below1 _ _).size⟩
  simp only [← hW, ← hN]
  clear hW hN
  go_at_call 67
  refine (Two.impl (HH.out.keep st1.1 (Nat.le_refl _))).mono ?_
  rw [G0.out]
  rintro e w2 ⟨rfl, bel⟩
  replace st1 := next3_0 bel st1
  clear bel
  have d0 := st1.2.1
  have d1 := st1.2.2.1
  have d2 := st1.2.2.2.1
  go_wp2_with fail
  go_at_call 80
  refine Rule.shapeOf.mono ?_
  rintro e w3 ⟨rfl, bel⟩
  replace st1 := next3_0 bel st1
  clear bel
  go_wp2_with fail
  go_at_call 81
  refine (Rule.wide HR2.out).mono ?_
  rintro e w4 ⟨rfl, bel⟩
  replace st1 := next3_0 bel st1
  clear bel d0 d1 d2
  go_wp2_with fail
  go_at_call 79
  refine (FVal.isFromB (lo := 2 * r + 1) (hi := 64)).mono ?_
  rw [G1.out]
  rintro e w5 ⟨rfl, rfl⟩

  go_wp2_with fail
  go_at_call 79
  refine (FVal.isFromB (lo := 1) (hi := 32)).mono ?_
  rw [G3.out]
  rintro e w5 ⟨rfl, rfl⟩

  have HB := hid st1.1
  clear st1
  go_wp2
  go_ret3
  exact ⟨rfl, HB.out⟩

set_option maxHeartbeats 4000000 in
set_option maxRecDepth 8000 in
theorem implNo4 {w : World} {s r n tr st s0 : Int} {b : Nat} {v : Value} {tbl : List Int} (h : Rd w b v tbl) (g0 : twoB s r tbl = true) (g1 : 2 * r + 1 ≤ n ∧ n ≤ 64) (g2 : n % 2 = 1) (g3 : 1 ≤ tr ∧ tr ≤ 32) (g4 : ¬ (0 ≤ st ∧ st ≤ 64)) :
    Calls Try.prog 39 #[ruleV s r v, .int .i64 n, .int .i64 tr, .int .i64 st, .int .i64 s0] w fun e w' => e = .returned (.tuple #[.int .i64 0, .int .i64 0, .bool false]) ∧ Below w.heap.size w w' := by
  have G0 := hid g0
  have hr2 : 0 ≤ r ∧ r ≤ 2 := (two_parts g0).2.1
  have G1 : Hid (decide (2 * r + 1 ≤ n ∧ n ≤ 64) = true) := decide_eq_true g1
  have hw1 : wrap64 (2 * r) = 2 * r := wrap_id (by omega) (by omega)
  have hw2 : wrap64 (2 * r + 1) = 2 * r + 1 := wrap_id (by omega) (by omega)
  have HR2 := hid hr2
  have hmd : n.tmod 2 = 1 := by rw [Int.tmod_eq_emod_of_nonneg (by omega)]; omega
  have G3 : Hid (decide (1 ≤ tr ∧ tr ≤ 32) = true) := decide_eq_true g3
  have G4 : Hid (decide (0 ≤ st ∧ st ≤ 64) = false) := decide_eq_false g4
  clear g0 g1 g2 g3 g4
  have HH := hid h
  obtain ⟨ao, cap, rfl, hc, hm, _⟩ := h
  clear hc hm
  go_enter Try.func39, Try.ntmps39
  go_wp2_with fail
  obtain ⟨w1, hW⟩ : ∃ w1, w1 = w.alloc (Obj.cells #[.int .i64 s, .int .i64 r, .slice ao tbl.length cap] 44) := ⟨_, rfl⟩
  obtain ⟨N, hN⟩ : ∃ N, N = w.heap.size := ⟨_, rfl⟩
  have st1 : Below w.heap.size w w1 ∧ w1.cell? ⟨N, 0, none⟩ = some (.int .i64 s) ∧ w1.cell? ⟨N, 1, none⟩ = some (.int .i64 r) ∧ w1.cell? ⟨N, 2, none⟩ = some (.slice ao tbl.length cap) ∧ w.heap.size ≤ w1.heap.size := by
    rw [hW, hN]
    exact ⟨below1 _ _, by simp, by simp, by simp, (below1 _ _).size⟩
  simp only [← hW, ← hN]
  clear hW hN
  go_at_call 67
  refine (Two.impl (HH.out.keep st1.1 (Nat.le_refl _))).mono ?_
  rw [G0.out]
  rintro e w2 ⟨rfl, bel⟩
  replace st1 := next3_0 bel st1
  clear bel
  have d0 := st1.2.1
  have d1 := st1.2.2.1
  have d2 := st1.2.2.2.1
  go_wp2_with fail
  go_at_call 80
  refine Rule.shapeOf.mono ?_
  rintro e w3 ⟨rfl, bel⟩
  replace st1 := next3_0 bel st1
  clear bel
  go_wp2_with fail
  go_at_call 81
  refine (Rule.wide HR2.out).mono ?_
  rintro e w4 ⟨rfl, bel⟩
  replace st1 := next3_0 bel st1
  clear bel d0 d1 d2
  go_wp2_with fail
  go_at_call 79
  refine (FVal.isFromB (lo := 2 * r + 1) (hi := 64)).mono ?_
  rw [G1.out]
  rintro e w5 ⟨rfl, rfl⟩

  go_wp2_with fail
  go_at_call 79
  refine (FVal.isFromB (lo := 1) (hi := 32)).mono ?_
  rw [G3.out]
  rintro e w5 ⟨rfl, rfl⟩

  go_wp2_with fail
  go_at_call 58
  refine (isCountB (hi := 64)).mono ?_
  rw [G4.out]
  rintro e w5 ⟨rfl, rfl⟩

  have HB := hid st1.1
  clear st1
  go_wp2
  go_ret3
  exact ⟨rfl, HB.out⟩

set_option maxHeartbeats 4000000 in
set_option maxRecDepth 8000 in
theorem implNo5 {w : World} {s r n tr st s0 : Int} {b : Nat} {v : Value} {tbl : List Int} (h : Rd w b v tbl) (g0 : twoB s r tbl = true) (g1 : 2 * r + 1 ≤ n ∧ n ≤ 64) (g2 : n % 2 = 1) (g3 : 1 ≤ tr ∧ tr ≤ 32) (g4 : 0 ≤ st ∧ st ≤ 64) (g5 : ¬ (0 ≤ s0 ∧ s0 ≤ 4294967295)) :
    Calls Try.prog 39 #[ruleV s r v, .int .i64 n, .int .i64 tr, .int .i64 st, .int .i64 s0] w fun e w' => e = .returned (.tuple #[.int .i64 0, .int .i64 0, .bool false]) ∧ Below w.heap.size w w' := by
  have G0 := hid g0
  have hr2 : 0 ≤ r ∧ r ≤ 2 := (two_parts g0).2.1
  have G1 : Hid (decide (2 * r + 1 ≤ n ∧ n ≤ 64) = true) := decide_eq_true g1
  have hw1 : wrap64 (2 * r) = 2 * r := wrap_id (by omega) (by omega)
  have hw2 : wrap64 (2 * r + 1) = 2 * r + 1 := wrap_id (by omega) (by omega)
  have HR2 := hid hr2
  have hmd : n.tmod 2 = 1 := by rw [Int.tmod_eq_emod_of_nonneg (by omega)]; omega
  have G3 : Hid (decide (1 ≤ tr ∧ tr ≤ 32) = true) := decide_eq_true g3
  have G4 : Hid (decide (0 ≤ st ∧ st ≤ 64) = true) := decide_eq_true g4
  have G5 : Hid (decide (0 ≤ s0 ∧ s0 ≤ 4294967295) = false) := decide_eq_false g5
  clear g0 g1 g2 g3 g4 g5
  have HH := hid h
  obtain ⟨ao, cap, rfl, hc, hm, _⟩ := h
  clear hc hm
  go_enter Try.func39, Try.ntmps39
  go_wp2_with fail
  obtain ⟨w1, hW⟩ : ∃ w1, w1 = w.alloc (Obj.cells #[.int .i64 s, .int .i64 r, .slice ao tbl.length cap] 44) := ⟨_, rfl⟩
  obtain ⟨N, hN⟩ : ∃ N, N = w.heap.size := ⟨_, rfl⟩
  have st1 : Below w.heap.size w w1 ∧ w1.cell? ⟨N, 0, none⟩ = some (.int .i64 s) ∧ w1.cell? ⟨N, 1, none⟩ = some (.int .i64 r) ∧ w1.cell? ⟨N, 2, none⟩ = some (.slice ao tbl.length cap) ∧ w.heap.size ≤ w1.heap.size := by
    rw [hW, hN]
    exact ⟨below1 _ _, by simp, by simp, by simp, (below1 _ _).size⟩
  simp only [← hW, ← hN]
  clear hW hN
  go_at_call 67
  refine (Two.impl (HH.out.keep st1.1 (Nat.le_refl _))).mono ?_
  rw [G0.out]
  rintro e w2 ⟨rfl, bel⟩
  replace st1 := next3_0 bel st1
  clear bel
  have d0 := st1.2.1
  have d1 := st1.2.2.1
  have d2 := st1.2.2.2.1
  go_wp2_with fail
  go_at_call 80
  refine Rule.shapeOf.mono ?_
  rintro e w3 ⟨rfl, bel⟩
  replace st1 := next3_0 bel st1
  clear bel
  go_wp2_with fail
  go_at_call 81
  refine (Rule.wide HR2.out).mono ?_
  rintro e w4 ⟨rfl, bel⟩
  replace st1 := next3_0 bel st1
  clear bel d0 d1 d2
  go_wp2_with fail
  go_at_call 79
  refine (FVal.isFromB (lo := 2 * r + 1) (hi := 64)).mono ?_
  rw [G1.out]
  rintro e w5 ⟨rfl, rfl⟩

  go_wp2_with fail
  go_at_call 79
  refine (FVal.isFromB (lo := 1) (hi := 32)).mono ?_
  rw [G3.out]
  rintro e w5 ⟨rfl, rfl⟩

  go_wp2_with fail
  go_at_call 58
  refine (isCountB (hi := 64)).mono ?_
  rw [G4.out]
  rintro e w5 ⟨rfl, rfl⟩

  go_wp2_with fail
  go_at_call 75
  refine (Chg.implSeed G5.out).mono ?_
  rintro e w5 ⟨rfl, rfl⟩

  have HB := hid st1.1
  clear st1
  go_wp2
  go_ret3
  exact ⟨rfl, HB.out⟩

set_option maxHeartbeats 4000000 in
theorem finds {w : World} {r s0 : Int} {n t S b c : Nat} {v vr : Value} {tbl : List Int} (h : Rd w b v tbl) (hr : Rd w c vr (rg s0 n t)) (g0 : twoB 2 r tbl = true) (hn : 1 ≤ n ∧ n ≤ 64) (hodd : n % 2 = 1) (hS : S ≤ 64) (hs0 : 0 ≤ s0 ∧ s0 ≤ 4294967295) :
    Calls Try.prog 83 #[ruleV 2 r v, vr, .int .i64 S] w fun e w' => e = .returned (.bool (winB tbl r S (rg s0 n t))) ∧ Below w.heap.size w w' := by
  have hfit := fit_rg (t := t) g0 hs0 hn
  have hal := rg_all hs0 n t
  have hrb : isRingB (rg s0 n t) 2 = true := by simp [isRingB, ringB, hal, rg_len, hn]
  have hmb : majB (rg s0 n t) = true := by simp [majB, hrb, rg_len, hodd]
  have hvb : validB 2 r tbl = true := by simp only [twoB, Bool.and_eq_true] at g0; exact g0.1
  have hok : Run.okB 2 r tbl (rg s0 n t) S = true := by
    simp only [Run.okB, fitB, hvb, hrb, Bool.and_self, Bool.true_and, decide_eq_true_eq]; omega
  have HMB := hid hmb
  have HOK := hid hok
  have HAL : Hid (allB (runL tbl (rg s0 n t) 2 r S) 2 = true) := (run_fit hfit S).ri
  obtain ⟨Q, hQ⟩ : ∃ Q, Q = winB tbl r S (rg s0 n t) := ⟨_, rfl⟩
  have HQ : Hid (Q = (!(runL tbl (rg s0 n t) 2 r S).contains (1 - majL (rg s0 n t)))) := by
    show Q = _
    rw [hQ, not_has (run_fit hfit S).ri (maj_01 _)]; rfl
  rw [← hQ]
  have HM01 := hid (maj_01 (rg s0 n t))
  have HH := hid h
  have HRg := hid hr
  obtain ⟨ao, cap, rfl, hc, hm, _⟩ := h
  clear hfit hal hrb hmb hvb hok hQ hc hm g0 hn hodd hs0 hr
  go_enter Try.func83, Try.ntmps83
  go_wp2_with fail
  obtain ⟨w1, hW⟩ : ∃ w1, w1 = w.alloc (Obj.cells #[.int .i64 2, .int .i64 r, .slice ao tbl.length cap] 44) := ⟨_, rfl⟩
  obtain ⟨N, hN⟩ : ∃ N, N = w.heap.size := ⟨_, rfl⟩
  have st1 : Below w.heap.size w w1 ∧ w1.cell? ⟨N, 0, none⟩ = some (.int .i64 2) ∧ w1.cell? ⟨N, 1, none⟩ = some (.int .i64 r) ∧ w1.cell? ⟨N, 2, none⟩ = some (.slice ao tbl.length cap) ∧ w.heap.size ≤ w1.heap.size := by
    rw [hW, hN]
    exact ⟨below1 _ _, by simp, by simp, by simp, (below1 _ _).size⟩
  simp only [← hW, ← hN]
  clear hW hN
  go_at_call 24
  refine (Maj.implOk (HRg.out.keep st1.1 (Nat.le_refl _))).mono ?_
  rw [HMB.out, if_pos rfl]
  rintro e w2 ⟨rfl, bel⟩
  replace st1 := next3_0 bel st1
  clear bel
  have d0 := st1.2.1
  have d1 := st1.2.2.1
  have d2 := st1.2.2.2.1
  go_wp2_with fail
  go_at_call 115
  refine (Run.implRunRing (HH.out.keep st1.1 (Nat.le_refl _)) (HRg.out.keep st1.1 (Nat.le_refl _))).mono ?_
  rw [HOK.out, if_pos rfl]
  rintro e w3 ⟨v', b', rfl, ow, lo, bel⟩
  rw [Int.toNat_natCast] at ow
  replace st1 := next3_0 bel st1
  have HO := hid ow
  obtain ⟨M, hM⟩ : ∃ M, M = majL (rg s0 n t) := ⟨_, rfl⟩
  have HMq := hid hM
  have hm2 : M = 0 ∨ M = 1 := by rw [hM]; exact HM01.out
  have hw3 : wrap64 (1 - M) = 1 - M := wrap_id (by omega) (by omega)
  rw [← hM]
  clear bel lo ow d0 d1 d2 hM hm2
  go_wp2_with fail
  go_at_call 116
  refine (Con.contains HO.out.rd).mono ?_
  rw [show (runL tbl (rg s0 n t) 2 r S).contains (1 - M) = !Q by rw [HQ.out, HMq.out, Bool.not_not]]
  rintro e w4 ⟨rfl, rfl⟩
  have HB := hid st1.1
  clear st1
  cases Q with
  | false =>
    go_wp2
    go_ret
    exact ⟨rfl, HB.out⟩
  | true =>
    go_wp2
    go_ret
    exact ⟨rfl, HB.out⟩

set_option maxHeartbeats 8000000 in
set_option maxRecDepth 8000 in
theorem implOk {w : World} {r s0 : Int} {n T S b : Nat} {v : Value} {tbl : List Int} (h : Rd w b v tbl) (g0 : twoB 2 r tbl = true) (hn : 2 * r + 1 ≤ (n : Int) ∧ (n : Int) ≤ 64) (hodd : n % 2 = 1) (hT : 1 ≤ T ∧ T ≤ 32) (hS : S ≤ 64) (hs0 : 0 ≤ s0 ∧ s0 ≤ 4294967295) :
    Calls Try.prog 39 #[ruleV 2 r v, .int .i64 n, .int .i64 T, .int .i64 S, .int .i64 s0] w fun e w' => e = .returned (.tuple #[.int .i64 (cntL tbl r s0 n S T), .int .i64 (sdT s0 n T), .bool true]) ∧ Below w.heap.size w w' := by
  have G0 := hid g0
  have hr2 : 0 ≤ r ∧ r ≤ 2 := (two_parts g0).2.1
  have HR2 := hid hr2
  have HN1 : Hid (1 ≤ n ∧ n ≤ 64) := ⟨by omega, by omega⟩
  have HOdd := hid hodd
  have HSS := hid hS
  have HSd := hid hs0
  have G1 : Hid (decide (2 * r + 1 ≤ (n : Int) ∧ (n : Int) ≤ 64) = true) := decide_eq_true hn
  have hmd : (n : Int).tmod 2 = 1 := by rw [Int.tmod_eq_emod_of_nonneg (by omega)]; omega
  have G3 : Hid (decide (1 ≤ (T : Int) ∧ (T : Int) ≤ 32) = true) := decide_eq_true (by omega)
  have G4 : Hid (decide (0 ≤ (S : Int) ∧ (S : Int) ≤ 64) = true) := decide_eq_true (by omega)
  have G5 : Hid (decide (0 ≤ s0 ∧ s0 ≤ 4294967295) = true) := decide_eq_true hs0
  have HGd : Hid (∀ t, Draw.Good 2 n (sdT s0 n t)) := fun t => ⟨by omega, by omega, sd_bd hs0 n t⟩
  clear g0 hn hodd hs0
  have HH := hid h
  obtain ⟨ao, cap, rfl, hc, hm, _⟩ := h
  clear hc hm
  go_enter Try.func39, Try.ntmps39
  go_wp2_with fail
  obtain ⟨w1, hW⟩ : ∃ w1, w1 = w.alloc (Obj.cells #[.int .i64 2, .int .i64 r, .slice ao tbl.length cap] 44) := ⟨_, rfl⟩
  obtain ⟨N, hN⟩ : ∃ N, N = w.heap.size := ⟨_, rfl⟩
  have st1 : Below w.heap.size w w1 ∧ w1.cell? ⟨N, 0, none⟩ = some (.int .i64 2) ∧ w1.cell? ⟨N, 1, none⟩ = some (.int .i64 r) ∧ w1.cell? ⟨N, 2, none⟩ = some (.slice ao tbl.length cap) ∧ w.heap.size ≤ w1.heap.size := by
    rw [hW, hN]
    exact ⟨below1 _ _, by simp, by simp, by simp, (below1 _ _).size⟩
  simp only [← hW, ← hN]
  clear hW hN
  go_at_call 67
  refine (Two.impl (HH.out.keep st1.1 (Nat.le_refl _))).mono ?_
  rw [G0.out]
  rintro e w2 ⟨rfl, bel⟩
  replace st1 := next3_0 bel st1
  clear bel
  have d0 := st1.2.1
  have d1 := st1.2.2.1
  have d2 := st1.2.2.2.1
  go_wp2_with fail
  go_at_call 80
  refine Rule.shapeOf.mono ?_
  rintro e w3 ⟨rfl, bel⟩
  replace st1 := next3_0 bel st1
  clear bel
  go_wp2_with fail
  go_at_call 81
  refine (Rule.wide HR2.out).mono ?_
  rintro e w4 ⟨rfl, bel⟩
  replace st1 := next3_0 bel st1
  clear bel d0 d1 d2
  go_wp2_with fail
  go_at_call 79
  refine (FVal.isFromB (lo := 2 * r + 1) (hi := 64)).mono ?_
  rw [G1.out]
  rintro e w5 ⟨rfl, rfl⟩

  go_wp2_with fail
  go_at_call 79
  refine (FVal.isFromB (lo := 1) (hi := 32)).mono ?_
  rw [G3.out]
  rintro e w5 ⟨rfl, rfl⟩

  go_wp2_with fail
  go_at_call 58
  refine (isCountB (hi := 64)).mono ?_
  rw [G4.out]
  rintro e w5 ⟨rfl, rfl⟩

  go_wp2_with fail
  go_at_call 75
  refine (Chg.implSeed G5.out).mono ?_
  rintro e w5 ⟨rfl, rfl⟩

  have HST := hid st1
  clear st1
  go_wp2_with fail
  go_loopw [4, 13, 47] (fun q c t wr => ∃ j : Nat, j ≤ T ∧ t = .int .i64 (j : Int) ∧ q = .int .i64 (sdT s0 n j) ∧ c = .int .i64 (cntL tbl r s0 n S j) ∧ (Below w.heap.size w wr ∧ wr.cell? ⟨N, 0, none⟩ = some (.int .i64 2) ∧ wr.cell? ⟨N, 1, none⟩ = some (.int .i64 r) ∧ wr.cell? ⟨N, 2, none⟩ = some (.slice ao tbl.length cap) ∧ w.heap.size ≤ wr.heap.size)) (fun _ _ t _ => T - (intOf t).toNat)
  case atStart => exact ⟨0, Nat.zero_le _, rfl, rfl, rfl, HST.out⟩
  case round =>
    clear HST
    obtain ⟨j, hj, rfl, rfl, rfl, st1⟩ := hrel
    by_cases hlt : j < T
    · have hji : (j : Int) < (T : Int) := by omega
      have hcl := cnt_le tbl r s0 n S j
      obtain ⟨SD, hSD⟩ : ∃ SD, SD = sdT s0 n j := ⟨_, rfl⟩
      have HSDq := hid hSD
      rw [← hSD]
      obtain ⟨CN, hCN⟩ : ∃ CN, CN = cntL tbl r s0 n S j := ⟨_, rfl⟩
      have HCN := hid hCN
      rw [← hCN] at hcl ⊢
      clear hSD hCN
      go_wp2_with fail
      go_at_call 82
      refine (Draw.implOk (show Draw.Good 2 n SD by rw [HSDq.out]; exact HGd.out j)).mono ?_
      rintro e w6 ⟨vr, br, rfl, ow, lo, bel⟩
      replace st1 := next3_0 bel st1
      have HO : Hid (Own 2 w6 br vr (rg s0 n j)) := by simp only [Hid, rg]; rw [← HSDq.out]; exact ow
      have d0 := st1.2.1
      have d1 := st1.2.2.1
      have d2 := st1.2.2.2.1
      clear bel lo ow
      go_wp2_with fail
      go_at_call 83
      refine (finds (HH.out.keep st1.1 (Nat.le_refl _)) HO.out.rd G0.out HN1.out HOdd.out HSS.out HSd.out).mono ?_
      rintro e w7 ⟨rfl, bel⟩
      replace st1 := next3_0 bel st1
      have HST := hid st1
      clear bel d0 d1 d2 st1
      cases hwin : winB tbl r S (rg s0 n j) with
      | false =>
        have HW := hid hwin
        clear hwin
        go_wp2
        go_roundw
        case rel => exact ⟨j + 1, by omega, by go_num, by rw [HSDq.out]; rfl, by simp only [cntL]; rw [HW.out, ← HCN.out]; rfl, HST.out⟩
        case measure => simp [intOf]; omega
      | true =>
        have HW := hid hwin
        clear hwin
        go_wp2
        go_roundw
        case rel => exact ⟨j + 1, by omega, by go_num, by rw [HSDq.out]; rfl, by simp only [cntL]; rw [HW.out, ← HCN.out, if_pos rfl]; rfl, HST.out⟩
        case measure => simp [intOf]; omega
    · have hj2 : j = T := by omega
      subst hj2
      obtain ⟨SD, hSD⟩ : ∃ SD, SD = sdT s0 n j := ⟨_, rfl⟩
      have HSDq := hid hSD
      rw [← hSD]
      obtain ⟨CN, hCN⟩ : ∃ CN, CN = cntL tbl r s0 n S j := ⟨_, rfl⟩
      have HCN := hid hCN
      rw [← hCN]
      have HB := hid st1.1
      clear hSD hCN st1 hlt
      go_wp2
      go_ret3
      exact ⟨by rw [← HSDq.out, ← HCN.out]; rfl, HB.out⟩

set_option maxHeartbeats 16000000 in
set_option maxRecDepth 8000 in
theorem l07Count {w : World} {N b : Nat} {r s0 : Int} {n T S : Nat} {v : Value} {tbl : List Int} (d0 : w.cell? ⟨N, 0, none⟩ = some (.int .i64 2)) (d1 : w.cell? ⟨N, 1, none⟩ = some (.int .i64 r)) (d2 : w.cell? ⟨N, 2, none⟩ = some v) (h : Rd w b v tbl) (g0 : twoB 2 r tbl = true) (hn : 2 * r + 1 ≤ (n : Int) ∧ (n : Int) ≤ 64) (hodd : n % 2 = 1) (hT : 1 ≤ T ∧ T ≤ 32) (hS : S ≤ 64) (hs0 : 0 ≤ s0 ∧ s0 ≤ 4294967295) :
    Calls Try.prog 78 #[.pointer (some ⟨N, 0, none⟩), .int .i64 n, .int .i64 T, .int .i64 S, .int .i64 s0] w fun e w' => e = .returned (.tuple #[.int .i64 (cntL tbl r s0 n S T), .int .i64 (sdT s0 n T)]) ∧ Below w.heap.size w w' := by
  have G0 := hid g0
  have HN1 : Hid (1 ≤ n ∧ n ≤ 64) := ⟨by have := (two_parts g0).2.1; omega, by omega⟩
  have HSd := hid hs0
  have HH := hid h
  have HK := hid (And.intro d0 (And.intro d1 d2))
  have hn64 : n ≤ 64 := by omega
  clear g0 hn hodd hs0 d0 d1 d2 h
  go_enter Try.func78, Try.ntmps78
  go_wp2
  go_loopw [2, 4, 12] (fun t q c wr => ∃ j : Nat, j ≤ T ∧ t = .int .i64 ((T - j : Nat) : Int) ∧ q = .int .i64 (sdT s0 n j) ∧ c = .int .i64 (cntL tbl r s0 n S j) ∧ Below w.heap.size w wr) (fun t _ _ _ => (intOf t).toNat)
  case atStart => exact ⟨0, Nat.zero_le _, by simp, rfl, rfl, Below.refl _ _⟩
  case round =>
    obtain ⟨j, hj, rfl, rfl, rfl, hbel⟩ := hrel
    obtain ⟨D, hD⟩ : ∃ D, D = T - j := ⟨_, rfl⟩
    have HD := hid hD
    rw [← hD]
    have hD5 : D ≤ 32 := by omega
    have hcl := cnt_le tbl r s0 n S j
    obtain ⟨SD, hSD⟩ : ∃ SD, SD = sdT s0 n j := ⟨_, rfl⟩
    have HSDq := hid hSD
    have HSb : Hid (0 ≤ SD ∧ SD ≤ 4294967295) := by simp only [Hid]; rw [hSD]; exact sd_bd HSd.out n j
    rw [← hSD]
    obtain ⟨CN, hCN⟩ : ∃ CN, CN = cntL tbl r s0 n S j := ⟨_, rfl⟩
    have HCN := hid hCN
    rw [← hCN] at hcl ⊢
    have HB := hid hbel
    by_cases hlt : 0 < D
    · have hjT : j < T := by omega
      clear hSD hCN hD hbel
      go_wp2
      go_loopw [4, 13, 14] (fun q o t wx => ∃ k : Nat, k ≤ n ∧ t = .int .i64 (k : Int) ∧ q = .int .i64 (seedAt SD k) ∧ wx.ownsRow w.heap.size 2 1 o (cells 2 SD k).length ((cells 2 SD k).map (Value.int .i64)) ∧ Below w.heap.size w wx) (fun _ _ t _ => n - (intOf t).toNat)
      case atStart => exact ⟨0, Nat.zero_le _, rfl, rfl, by simpa [cells] using World.ownsRow_lit (base := w.heap.size) (e := 2) (size := 1) wr #[] 0 HB.out.size (by simp) (by simp), HB.out.alloc HB.out.size _⟩
      case round =>
        clear HB
        obtain ⟨k, hk, rfl, rfl, hown, hbel⟩ := hrel
        have hb := seedAt_bd SD HSb.out k
        have hb2 := seedAt_bd SD HSb.out (k + 1)
        have hcb := cell_bd HSb.out k
        have hch := cell_half HSb.out k
        have hnx : nxt (seedAt SD k) = seedAt SD (k + 1) := rfl
        have hlen : (cells 2 SD k).length = k := cells_length 2 SD k
        obtain ⟨A1, hA1⟩ : ∃ A1, A1 = seedAt SD k := ⟨_, rfl⟩
        obtain ⟨A2, hA2⟩ : ∃ A2, A2 = seedAt SD (k + 1) := ⟨_, rfl⟩
        obtain ⟨Y, hY⟩ : ∃ Y, Y = cellAt 2 SD k := ⟨_, rfl⟩
        rw [← hA1] at hb hnx ⊢
        rw [← hA2] at hch hnx
        rw [← hY] at hch hcb
        have hw5 : wrap64 Y = Y := wrap_id (by omega) (by omega)
        have E1 : wrap64 (A2.tdiv 2147483648) = Y := by rw [hch]; exact hw5
        have HBd := hid hb
        have HNX := hid hnx
        have HAq := hid (And.intro hA1 (And.intro hA2 hY))
        have HO := hid hown
        have HB := hid hbel
        have HLn := hid hlen
        obtain ⟨ts, hts⟩ : ∃ ts, ts = cells 2 SD k := ⟨_, rfl⟩
        have HTS := hid hts
        have HO2 : Hid (wr.ownsRow w.heap.size 2 1 u13 ts.length (ts.map (Value.int .i64))) := by simp only [Hid]; rw [hts]; exact hown
        by_cases hlt2 : k < n
        · have hki : (k : Int) < (n : Int) := by omega
          clear hb hb2 hcb hch hnx hA1 hA2 hY hown hbel hw5 hlen hts HO
          go_wp2_with fail
          go_at_call 113
          refine (Chg.specNext HBd.out).mono ?_
          rw [HNX.out]
          rintro e wx ⟨rfl, rfl⟩
          go_wp2_with (first | (at_builtin; refine App.append1 rfl _ _ rfl w.heap.size _ _ rfl HO2.out Y rfl ?c1 ?c2 ?_) | go_in)
          case c1 => rw [HTS.out, HLn.out]; omega
          case c2 => exact HB.out.size
          intro v' w5 hown5 hbel5
          rw [show ts.length + 1 = (ts ++ [Y]).length by simp, show (List.map (Value.int IntKind.i64) ts ++ [Value.int IntKind.i64 Y]) = (ts ++ [Y]).map (Value.int IntKind.i64) by simp, HTS.out, HAq.out.2.2, ← cells_succ] at hown5
          have HF := hid (And.intro hown5 (HB.out.trans hbel5))
          clear hown5 hbel5
          go_wp2
          go_roundw
          case rel => exact ⟨k + 1, by omega, by go_num, by rw [HAq.out.2.1], HF.out.1, HF.out.2⟩
          case measure => simp [intOf]; omega
        · have hkn : k = n := by omega
          subst hkn
          obtain ⟨bR, hbR, hOR⟩ := Own.of hown
          have hrge : cells 2 SD k = rg s0 k j := by unfold rg; rw [← HSDq.out]
          rw [hrge] at hOR
          have HOR := hid hOR
          have HLoR := hid hbR
          have HAL := hid (rg_all HSd.out k j)
          have HM01 := hid (maj_01 (rg s0 k j))
          have HFit := hid (fit_rg (t := j) G0.out HSd.out HN1.out)
          clear hb hb2 hcb hch hnx hA2 hY hown hbel hw5 hlen hts HO E1 HO2 HTS HBd HNX hlt2 hbR hOR hrge
          go_wp2_with fail
          go_at_call 62
          refine (Maj.specMost HOR.out.rd (by rw [rg_len]; omega) HAL.out).mono ?_
          rintro e wx ⟨rfl, rfl⟩
          obtain ⟨M, hM⟩ : ∃ M, M = majL (rg s0 k j) := ⟨_, rfl⟩
          have HMq := hid hM
          rw [← hM]
          clear hM hA1
          go_wp2
          go_loopw [13, 16] (fun o t wx => ∃ i : Nat, i ≤ S ∧ t = .int .i64 (i : Int) ∧ ∃ bo, Own 2 wx bo o (runL tbl (rg s0 k j) 2 r i) ∧ Below w.heap.size w wx) (fun _ t _ => S - (intOf t).toNat)
          case atStart => exact ⟨0, Nat.zero_le _, rfl, bR, HOR.out, HB.out⟩
          case round =>
            clear HOR HB
            obtain ⟨i, hi, rfl, bo, hown, hbel⟩ := hrel
            have HB := hid hbel
            have HO := hid hown
            by_cases hlt3 : i < S
            · have hii : (i : Int) < (S : Int) := by omega
              clear hown hbel
              go_wp2_with fail
              go_at_call 114
              refine (Step.specStep (cell_keep HB.out HK.out.1) (cell_keep HB.out HK.out.2.1) (cell_keep HB.out HK.out.2.2) (HH.out.keep HB.out (Nat.le_refl _)) HO.out.rd (run_fit HFit.out i)).mono ?_
              rw [runL_length]
              rintro e w5 ⟨v5, b5, rfl, ow, lo, bel⟩
              have HF := hid (And.intro ow (HB.out.trans (bel.mono HB.out.size)))
              clear ow lo bel
              go_wp2
              go_roundw
              case rel => exact ⟨i + 1, by omega, by go_num, b5, HF.out.1, HF.out.2⟩
              case measure => simp [intOf]; omega
            · have hiS : i = S := by omega
              subst hiS
              have hrl : (runL tbl (rg s0 k j) 2 r i).length = k := by rw [runL_length, rg_len]
              obtain ⟨zs, hzs⟩ : ∃ zs, zs = runL tbl (rg s0 k j) 2 r i := ⟨_, rfl⟩
              have HZS := hid hzs
              rw [← hzs] at hrl hown
              rcases hown.form with ⟨_, he⟩ | ⟨kc, rfl, hkc1, hkc2, _⟩
              · exact absurd he (by intro e; rw [e] at hrl; have := HN1.out; simp at hrl; omega)
              rw [hrl] at hown hkc1
              have hkc : k ≤ kc ∧ kc ≤ 9223372036854775807 := by unfold maxLen at hkc2; omega
              have HO2 := hid hown
              have HRL := hid hrl
              rw [hrl]
              clear hown hbel hzs hrl hlt3 hkc1 hkc2 HO
              go_wp2
              go_loopw [17, 48] (fun a t wx => ∃ p : Nat, p ≤ k ∧ t = .int .i64 (p : Int) ∧ a = .bool ((zs.take p).all fun x => x == M) ∧ wx = wr) (fun _ t _ => k - (intOf t).toNat)
              case atStart => exact ⟨0, Nat.zero_le _, rfl, by simp, rfl⟩
              case round =>
                obtain ⟨p, hp, rfl, rfl, hwr⟩ := hrel
                subst hwr
                obtain ⟨a, ha⟩ : ∃ a, a = (zs.take p).all fun x => x == M := ⟨_, rfl⟩
                have HA := hid ha
                rw [← ha]
                by_cases hlt4 : p < k
                · have hpi : (p : Int) < (k : Int) := by omega
                  have hpz : p < zs.length := by rw [HRL.out]; exact hlt4
                  have hox := HO2.out.cell (i := p) hpz
                  have hsc := all_succ (p := fun x => x == M) hpz
                  obtain ⟨x, hx⟩ : ∃ x, x = zs.getD p 0 := ⟨_, rfl⟩
                  rw [← hx] at hox hsc
                  rw [← ha] at hsc
                  have HSC := hid hsc
                  clear ha hx hsc
                  cases a with
                  | false =>
                    go_wp2
                    go_roundw
                    case rel => exact ⟨p + 1, by omega, by go_num, by rw [HSC.out]; rfl, trivial⟩
                    case measure => simp [intOf]; omega
                  | true =>
                    cases hq : x == M with
                    | false =>
                      go_wp2
                      go_roundw
                      case rel => exact ⟨p + 1, by omega, by go_num, by rw [HSC.out]; simp [hq], trivial⟩
                      case measure => simp [intOf]; omega
                    | true =>
                      go_wp2
                      go_roundw
                      case rel => exact ⟨p + 1, by omega, by go_num, by rw [HSC.out]; simp [hq], trivial⟩
                      case measure => simp [intOf]; omega
                · have hpk : p = k := by omega
                  subst hpk
                  have HWin : Hid (winB tbl r i (rg s0 p j) = a) := by
                    simp only [Hid, winB]; rw [HA.out, ← HMq.out, ← HZS.out, ← HRL.out, List.take_length]
                  clear ha hlt4
                  cases a with
                  | false =>
                    go_wp2
                    go_roundw
                    case rel => exact ⟨j + 1, by omega, by rw [show ((T - (j + 1) : Nat) : Int) = (D : Int) - 1 by have := HD.out; omega], by rw [HAq.out.1, HSDq.out]; rfl, by simp only [cntL]; rw [HWin.out, ← HCN.out]; rfl, HB.out⟩
                    case measure => simp [intOf]; omega
                  | true =>
                    go_wp2
                    go_roundw
                    case rel => exact ⟨j + 1, by omega, by rw [show ((T - (j + 1) : Nat) : Int) = (D : Int) - 1 by have := HD.out; omega], by rw [HAq.out.1, HSDq.out]; rfl, by simp only [cntL]; rw [HWin.out, ← HCN.out, if_pos rfl]; rfl, HB.out⟩
                    case measure => simp [intOf]; omega
    · have hj2 : j = T := by omega
      subst hj2
      have hD0 : D = 0 := by omega
      subst hD0
      clear hSD hCN hD hbel hlt
      go_wp2
      go_ret2
      exact ⟨by rw [← HSDq.out, ← HCN.out]; rfl, HB.out⟩

set_option maxHeartbeats 8000000 in
set_option maxRecDepth 8000 in
theorem specOk {w : World} {r s0 : Int} {n T S b : Nat} {v : Value} {tbl : List Int} (h : Rd w b v tbl) (g0 : twoB 2 r tbl = true) (hn : 2 * r + 1 ≤ (n : Int) ∧ (n : Int) ≤ 64) (hodd : n % 2 = 1) (hT : 1 ≤ T ∧ T ≤ 32) (hS : S ≤ 64) (hs0 : 0 ≤ s0 ∧ s0 ≤ 4294967295) :
    Calls Try.prog 38 #[ruleV 2 r v, .int .i64 n, .int .i64 T, .int .i64 S, .int .i64 s0] w fun e w' => e = .returned (.tuple #[.int .i64 (cntL tbl r s0 n S T), .int .i64 (sdT s0 n T), .bool true]) ∧ Below w.heap.size w w' := by
  have G0 := hid g0
  have GN := hid hn
  have GO := hid hodd
  have GT := hid hT
  have GS := hid hS
  have GD := hid hs0
  clear g0 hn hodd hT hS hs0
  have HH := hid h
  obtain ⟨ao, cap, rfl, hc, hm, _⟩ := h
  clear hc hm
  go_enter Try.func38, Try.ntmps38
  go_wp2_with fail
  obtain ⟨w1, hW⟩ : ∃ w1, w1 = w.alloc (Obj.cells #[.int .i64 2, .int .i64 r, .slice ao tbl.length cap] 44) := ⟨_, rfl⟩
  obtain ⟨N, hN⟩ : ∃ N, N = w.heap.size := ⟨_, rfl⟩
  have st1 : Below w.heap.size w w1 ∧ w1.cell? ⟨N, 0, none⟩ = some (.int .i64 2) ∧ w1.cell? ⟨N, 1, none⟩ = some (.int .i64 r) ∧ w1.cell? ⟨N, 2, none⟩ = some (.slice ao tbl.length cap) ∧ w.heap.size ≤ w1.heap.size := by
    rw [hW, hN]
    exact ⟨below1 _ _, by simp, by simp, by simp, (below1 _ _).size⟩
  simp only [← hW, ← hN]
  clear hW hN
  go_at_call 77
  refine (task6 st1.2.1 st1.2.2.1 st1.2.2.2.1 (HH.out.keep st1.1 (Nat.le_refl _)) G0.out GN.out (by have := GO.out; omega) (by have := GT.out; omega) (by have := GS.out; omega) GD.out).mono ?_
  rintro e w2 ⟨rfl, bel⟩
  replace st1 := next3_0 bel st1
  clear bel
  go_wp2_with fail
  go_at_call 78
  refine (l07Count st1.2.1 st1.2.2.1 st1.2.2.2.1 (HH.out.keep st1.1 (Nat.le_refl _)) G0.out GN.out GO.out GT.out GS.out GD.out).mono ?_
  obtain ⟨C1, hC1⟩ : ∃ C1, C1 = cntL tbl r s0 n S T := ⟨_, rfl⟩
  obtain ⟨C2, hC2⟩ : ∃ C2, C2 = sdT s0 n T := ⟨_, rfl⟩
  rw [← hC1, ← hC2]
  rintro e w3 ⟨rfl, bel⟩
  have HB := hid (st1.1.trans (bel.mono st1.1.size))
  have HC := hid (And.intro hC1 hC2)
  clear st1 bel hC1 hC2
  go_wp2
  go_ret3
  exact ⟨by rw [← HC.out.1, ← HC.out.2]; rfl, HB.out⟩

theorem agree (s r : Int) (tbl : List Int) (n tr st s0 : Int) : ∃ (q0 q1 : Int) (q2 : Bool), (∀ (w : World) (b : Nat) (v : Value), Rd w b v tbl → Calls Try.prog 38 #[ruleV s r v, .int .i64 n, .int .i64 tr, .int .i64 st, .int .i64 s0] w fun e w' => e = .returned (.tuple #[.int .i64 q0, .int .i64 q1, .bool q2]) ∧ Below w.heap.size w w') ∧
    (∀ (w : World) (b : Nat) (v : Value), Rd w b v tbl → Calls Try.prog 39 #[ruleV s r v, .int .i64 n, .int .i64 tr, .int .i64 st, .int .i64 s0] w fun e w' => e = .returned (.tuple #[.int .i64 q0, .int .i64 q1, .bool q2]) ∧ Below w.heap.size w w') := by
  cases g0 : twoB s r tbl with
  | false => exact ⟨0, 0, false, fun w b v k1 => specNo0 k1 g0, fun w b v k1 => implNo0 k1 g0⟩
  | true =>
    by_cases g1 : 2 * r + 1 ≤ n ∧ n ≤ 64
    · by_cases g2 : n % 2 = 1
      · by_cases g3 : 1 ≤ tr ∧ tr ≤ 32
        · by_cases g4 : 0 ≤ st ∧ st ≤ 64
          · by_cases g5 : 0 ≤ s0 ∧ s0 ≤ 4294967295
            · obtain ⟨n, rfl⟩ := Int.eq_ofNat_of_zero_le (show 0 ≤ n by have := (two_parts g0).2.1; omega)
              obtain ⟨T, rfl⟩ := Int.eq_ofNat_of_zero_le (show 0 ≤ tr by omega)
              obtain ⟨S, rfl⟩ := Int.eq_ofNat_of_zero_le (show 0 ≤ st by omega)
              have e2 : s = 2 := (two_parts g0).1
              subst e2
              exact ⟨_, _, _, fun w b v k1 => specOk k1 g0 g1 (by omega) (by omega) (by omega) g5, fun w b v k1 => implOk k1 g0 g1 (by omega) (by omega) (by omega) g5⟩
            · exact ⟨0, 0, false, fun w b v k1 => specNo5 k1 g0 g1 g2 g3 g4 g5, fun w b v k1 => implNo5 k1 g0 g1 g2 g3 g4 g5⟩
          · exact ⟨0, 0, false, fun w b v k1 => specNo4 k1 g0 g1 g2 g3 g4, fun w b v k1 => implNo4 k1 g0 g1 g2 g3 g4⟩
        · exact ⟨0, 0, false, fun w b v k1 => specNo3 k1 g0 g1 g2 g3, fun w b v k1 => implNo3 k1 g0 g1 g2 g3⟩
      · exact ⟨0, 0, false, fun w b v k1 => specNo2 k1 g0 g1 g2, fun w b v k1 => implNo2 k1 g0 g1 g2⟩
    · exact ⟨0, 0, false, fun w b v k1 => specNo1 k1 g0 g1, fun w b v k1 => implNo1 k1 g0 g1⟩


end Go.Proofs.Ythcbhbdgbiiagaa.Tsk
