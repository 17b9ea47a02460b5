/- FillTable of both sides. -/
import Derived.Test.YthcbhbdgbiiagaaClE
import Derived.Test.YthcbhbdgbiiagaaSpec
import Derived.Test.YthcbhbdgbiiagaaApp
import Derived.Test.YthcbhbdgbiiagaaRuleKit
import Derived.Deep.Cut
namespace Go.Proofs.Ythcbhbdgbiiagaa.Fil
open Go.RowKit Go.Proofs.Ythcbhbdgbiiagaa.Rd Go.Proofs.Ythcbhbdgbiiagaa.Help Go.Proofs.Ythcbhbdgbiiagaa.Ring Go.Proofs.Ythcbhbdgbiiagaa.Small Go.Proofs.Ythcbhbdgbiiagaa.Keep Go.Proofs.Ythcbhbdgbiiagaa.Rule Go.Proofs.Ythcbhbdgbiiagaa.Grow
set_option linter.unusedVariables false
set_option linter.unusedSimpArgs false

theorem heap_keep {w w' : World} {n : Nat} {o : Obj} (bel : Below w.heap.size w w') (h : w.heap[n]? = some o) : w'.heap[n]? = some o :=
  (bel.block n (Array.getElem?_eq_some_iff.1 h).1).trans h
theorem heap_lt {w : World} {n : Nat} {o : Obj} (h : w.heap[n]? = some o) : n < w.heap.size := (Array.getElem?_eq_some_iff.1 h).1
def fillX (st x : Int) : Int := if x = -1 then st else x
/-- The table whose gaps are filled. -/
def fillL (zs : List Int) (st : Int) : List Int := zs.map (fillX st)
/-- Filled so far. -/
def filP (zs : List Int) (st : Int) (j : Nat) : List Int := (zs.take j).map (fillX st) ++ zs.drop j
theorem fill_len (zs : List Int) (st : Int) : (fillL zs st).length = zs.length := by simp [fillL]
theorem filP_len {zs : List Int} {st : Int} {j : Nat} (h : j ≤ zs.length) : (filP zs st j).length = zs.length := by simp [filP]; omega
theorem filP_zero (zs : List Int) (st : Int) : filP zs st 0 = zs := by simp [filP]
theorem filP_all (zs : List Int) (st : Int) : filP zs st zs.length = fillL zs st := by simp [filP, fillL]
theorem filP_get {zs : List Int} {st : Int} {j : Nat} (h : j < zs.length) : (filP zs st j).getD j 0 = zs.getD j 0 := by
  have l1 : ((zs.take j).map (fillX st)).length = j := by simp; omega
  unfold filP
  rw [List.getD_eq_getElem?_getD, List.getElem?_append_right (by omega), l1, List.getElem?_drop, List.getD_eq_getElem?_getD]
  simp
theorem filP_set {zs : List Int} {st : Int} {j : Nat} (h : j < zs.length) : (filP zs st j).set j (fillX st (zs.getD j 0)) = filP zs st (j + 1) := by
  refine List.ext_getElem? fun i => ?_
  have l1 : ((zs.take j).map (fillX st)).length = j := by simp; omega
  have l2 : ((zs.take (j + 1)).map (fillX st)).length = j + 1 := by simp; omega
  have l3 := filP_len (st := st) (Nat.le_of_lt h)
  rw [List.getElem?_set, l3]
  by_cases hi : j = i
  · subst hi
    rw [if_pos rfl, if_pos h]
    unfold filP
    rw [List.getElem?_append_left (by omega), List.getElem?_map, List.getElem?_take, if_pos (by omega), List.getElem?_eq_getElem h, List.getD_eq_getElem?_getD, List.getElem?_eq_getElem h]
    rfl
  · rw [if_neg hi]
    unfold filP
    rcases Nat.lt_or_ge i j with h2 | h2
    · rw [List.getElem?_append_left (by omega), List.getElem?_append_left (by omega), List.getElem?_map, List.getElem?_map, List.getElem?_take, List.getElem?_take, if_pos h2, if_pos (by omega)]
    · rw [List.getElem?_append_right (by omega), List.getElem?_append_right (by omega), l1, l2, List.getElem?_drop, List.getElem?_drop]
      congr 1; omega
theorem filP_same {zs : List Int} {st : Int} {j : Nat} (h : j < zs.length) (hx : ¬ zs.getD j 0 = -1) : filP zs st j = filP zs st (j + 1) := by
  rw [← filP_set h, fillX, if_neg hx, ← filP_get (st := st) h]
  have l3 := filP_len (st := st) (Nat.le_of_lt h)
  refine List.ext_getElem? fun i => ?_
  rw [List.getElem?_set]
  split
  · rename_i hi
    subst hi
    rw [if_pos (by omega), List.getD_eq_getElem?_getD, List.getElem?_eq_getElem (by omega)]
    rfl
  · rfl
theorem map_take_succ {zs : List Int} {st : Int} {j : Nat} (h : j < zs.length) : (zs.take (j + 1)).map (fillX st) = (zs.take j).map (fillX st) ++ [fillX st (zs.getD j 0)] := by
  rw [List.take_add_one, List.getElem?_eq_getElem h, List.getD_eq_getElem?_getD, List.getElem?_eq_getElem h, List.map_append]
  rfl
theorem valid_nil {s r : Int} {zs : List Int} (h : zs.length = 0) : validB s r zs = false := by
  rw [Bool.eq_false_iff]
  intro hv
  simp only [validB, shapeB, Bool.and_eq_true, decide_eq_true_eq] at hv
  obtain ⟨hs, hl, _⟩ := hv
  rw [h] at hl
  rcases (show s = 2 ∨ s = 3 by omega) with rfl | rfl <;> rcases (show r = 0 ∨ r = 1 ∨ r = 2 by omega) with rfl | rfl | rfl <;> simp at hl
theorem valid_st {s r : Int} {zs : List Int} (h : validB s r zs = true) : 2 ≤ s ∧ s ≤ 3 ∧ 0 ≤ r ∧ r ≤ 2 ∧ (zs.length : Int) = s ^ (2 * r + 1).toNat := by
  simp only [validB, shapeB, Bool.and_eq_true, decide_eq_true_eq] at h
  exact ⟨h.1.1, h.1.2.1, h.1.2.2.1, h.1.2.2.2, h.2.1⟩

set_option maxHeartbeats 400000 in
theorem power3 {w : World} {st : Int} {k : Nat} (hst : 2 ≤ st ∧ st ≤ 3) (hk : k ≤ 5) :
    Calls Try.prog 69 #[.int .i64 st, .int .i64 k] w fun e w' => e = .returned (.int .i64 (st ^ k)) ∧ w = w' := by
  have HB : Hid (∀ j, j ≤ 5 → 1 ≤ st ^ j ∧ st ^ j ≤ 243) := fun j hj => Num.pow_bd hst hj
  go_enter Try.func69, Try.ntmps69
  go_wp2
  go_loop [1, 5] (fun t p => ∃ j : Nat, j ≤ k ∧ t = .int .i64 ((k : Int) - j) ∧ p = .int .i64 (st ^ j)) (fun t _ => (intOf t).toNat)
  case atStart => exact ⟨0, Nat.zero_le _, by simp, by simp⟩
  case round =>
    obtain ⟨j, hj, rfl, rfl⟩ := hrel
    by_cases hlt : j < k
    · have b2 := HB.out (j + 1) (by omega)
      obtain ⟨P, hP⟩ : ∃ P, P = st ^ j := ⟨_, rfl⟩
      obtain ⟨P2, hP2⟩ : ∃ P2, P2 = st ^ (j + 1) := ⟨_, rfl⟩
      have he : P * st = P2 := by rw [hP, hP2, Int.pow_succ]
      rw [← hP2] at b2
      obtain ⟨b3, b4⟩ := b2
      rw [← hP]
      have H2 : Hid (P2 = st ^ (j + 1)) := hP2
      have hki : (0 : Int) < (k : Int) - j := by omega
      clear hP hP2
      go_wp2
      go_round
      case rel => exact ⟨j + 1, by omega, by go_num, by rw [H2.out]⟩
      case measure => simp [intOf]; omega
    · have hkn : k = j := by omega
      subst hkn
      obtain ⟨P, hP⟩ : ∃ P, P = st ^ k := ⟨_, rfl⟩
      have HPk : Hid (P = st ^ k) := hP
      rw [← hP]
      clear hP
      go_wp2
      go_ret
      exact ⟨by rw [← HPk.out]; rfl, rfl⟩

theorem power3I {w : World} {s k : Int} (hst : 2 ≤ s ∧ s ≤ 3) (hk : 0 ≤ k ∧ k ≤ 5) :
    Calls Try.prog 69 #[.int .i64 s, .int .i64 k] w fun e w' => e = .returned (.int .i64 (s ^ k.toNat)) ∧ w = w' := by
  obtain ⟨N, rfl⟩ := Int.eq_ofNat_of_zero_le hk.1
  simpa using power3 (w := w) hst (show N ≤ 5 by omega)

theorem rows_set {w : World} {base : Nat} {v : Value} {n : Nat} {xs : List Value} (h : w.ownsRow base 2 1 v n xs) (a : Addr) (u : Value) (hlt : a.block < base) : (w.setCell a u).ownsRow base 2 1 v n xs := by
  refine h.kept (setCell_grown w a u) ?_
  cases hv : v.ownBlock with
  | none => exact .inl rfl
  | some k => right; intro e; have := (h.lt k hv).1; simp at e; omega

set_option maxHeartbeats 8000000 in
set_option maxRecDepth 8000 in
theorem implE {w : World} {s r st : Int} {b : Nat} {v : Value} {zs : List Int} (h : Rd w b v zs) (hz : zs.length ≤ 1048576) (hz0 : zs.length = 0) :
    Calls Try.prog 34 #[.int .i64 s, .int .i64 r, v, .int .i64 st] w fun e w' => e = .returned (.tuple #[ruleV 0 0 (.slice none 0 0), .bool false]) ∧ Below w.heap.size w w' := by
  have hz2 : zs = [] := List.eq_nil_of_length_eq_zero hz0
  subst hz2
  have HV : Hid (validB s r ([] : List Int) = false) := valid_nil rfl
  have HH := hid h
  obtain ⟨ao, cap, rfl, hc, hm, _⟩ := h
  clear hc hm hz hz0
  go_enter Try.func34, Try.ntmps34
  go_wp2_with fail
  obtain ⟨w1, hW⟩ : ∃ w1, w1 = w.alloc (Obj.cells #[.int .i64 0, .int .i64 0, .slice none 0 0] 44) := ⟨_, rfl⟩
  obtain ⟨NT, hT⟩ : ∃ NT, NT = w.heap.size := ⟨_, rfl⟩
  have bw : Below w.heap.size w w1 := by rw [hW]; exact below1 _ _
  have kT : w1.heap[NT]? = some (Obj.cells #[.int .i64 0, .int .i64 0, .slice none 0 0] 44) := by rw [hW]; exact FNew.heap_top hT
  have HNT : Hid (w.heap.size ≤ NT) := by simp only [Hid]; omega
  simp only [← hW, ← hT]
  clear hW hT
  go_at_call 71
  refine (ClE.copyE (HH.out.keep bw (Nat.le_refl _)) rfl).mono ?_
  rw [List.length_nil]
  rintro e w2 ⟨a5, k, rfl, hkm, bel⟩
  have HKM := hid hkm
  replace kT := heap_keep bel kT
  have HB2 := hid (bw.trans (bel.mono bw.size))
  have HKT := hid kT
  clear bel bw kT hkm
  go_wp2_with fail
  obtain ⟨w4, hW⟩ : ∃ w4, w4 = w2.alloc (Obj.cells #[.int .i64 s, .int .i64 r, .slice a5 0 k] 44) := ⟨_, rfl⟩
  obtain ⟨NO, hN⟩ : ∃ NO, NO = w2.heap.size := ⟨_, rfl⟩
  have bel : Below w2.heap.size w2 w4 := by rw [hW]; exact below1 _ _
  have HKO : Hid (w4.heap[NO]? = some (Obj.cells #[.int .i64 s, .int .i64 r, .slice a5 0 k] 44)) := by simp only [Hid]; rw [hW]; exact FNew.heap_top hN
  have HKT4 := hid (heap_keep bel HKT.out)
  have HB4 := hid (HB2.out.trans (bel.mono HB2.out.size))
  simp only [← hW, ← hN]
  clear hW hN bel HKT HB2
  go_loopw [21] (fun t wr => t = .int .i64 0 ∧ Below w.heap.size w wr ∧ wr.heap[NO]? = some (Obj.cells #[.int .i64 s, .int .i64 r, .slice a5 0 k] 44) ∧ wr.heap[NT]? = some (Obj.cells #[.int .i64 0, .int .i64 0, .slice none 0 0] 44)) (fun t _ => 0)
  case atStart => exact ⟨rfl, HB4.out, HKO.out, HKT4.out⟩
  case round =>
    obtain ⟨rfl, hb5, kO, kT⟩ := hrel
    clear HB4 HKO HKT4
    have c0 : wr.cell? ⟨NO, 0, none⟩ = some (.int .i64 s) := Go.Joins.cell_of_block kO 0
    have c1 : wr.cell? ⟨NO, 1, none⟩ = some (.int .i64 r) := Go.Joins.cell_of_block kO 1
    have c2 : wr.cell? ⟨NO, 2, none⟩ = some (.slice a5 0 k) := Go.Joins.cell_of_block kO 2
    have hR0 : Rd wr 0 (.slice a5 0 k) [] := ⟨a5, k, rfl, Nat.zero_le _, HKM.out, fun hp => absurd hp (Nat.lt_irrefl 0)⟩
    have HR0 := hid hR0
    have HB5 := hid hb5
    have HK5 := hid (And.intro kO kT)
    clear hR0 hb5 kO kT
    go_wp2_with fail
    go_at_call 72
    refine (implValid HR0.out).mono ?_
    rw [HV.out]
    rintro e w6 ⟨rfl, bel⟩
    have HB := hid (HB5.out.trans (bel.mono HB5.out.size))
    have kT := heap_keep bel HK5.out.2
    clear bel HK5 HR0 HB5 c0 c1 c2
    have y0 : w6.cell? ⟨NT, 0, none⟩ = some (.int .i64 0) := Go.Joins.cell_of_block kT 0
    have y1 : w6.cell? ⟨NT, 1, none⟩ = some (.int .i64 0) := Go.Joins.cell_of_block kT 1
    have y2 : w6.cell? ⟨NT, 2, none⟩ = some (.slice none 0 0) := Go.Joins.cell_of_block kT 2
    have g0 : w6.frozen? ⟨NT, 0, none⟩ = false := Go.Joins.unfrozen_of_block kT 0
    have g1 : w6.frozen? ⟨NT, 1, none⟩ = false := Go.Joins.unfrozen_of_block kT 1
    have g2 : w6.frozen? ⟨NT, 2, none⟩ = false := Go.Joins.unfrozen_of_block kT 2
    have HKx := hid kT
    clear kT
    go_wp2
    obtain ⟨W5, hW⟩ : ∃ W5, W5 = (((w6.setCell ⟨NT, 0, none⟩ (.int .i64 0)).setCell ⟨NT, 1, none⟩ (.int .i64 0)).setCell ⟨NT, 2, none⟩ (.slice none 0 0)) := ⟨_, rfl⟩
    have q0 := (Go.Joins.block_setCell (i := 2) (Go.Joins.block_setCell (i := 1) (Go.Joins.block_setCell (i := 0) HKx.out (.int .i64 0)) (.int .i64 0)) (.slice none 0 0))
    rw [← hW] at q0
    have z0 : W5.cell? ⟨NT, 0, none⟩ = some (.int .i64 0) := Go.Joins.cell_of_block q0 0
    have z1 : W5.cell? ⟨NT, 1, none⟩ = some (.int .i64 0) := Go.Joins.cell_of_block q0 1
    have z2 : W5.cell? ⟨NT, 2, none⟩ = some (.slice none 0 0) := Go.Joins.cell_of_block q0 2
    have B5 : Below w.heap.size w W5 := by
      have h1 := HNT.out
      rw [hW]
      exact ((HB.out.setCell (by simp; omega) _).setCell (by simp; omega) _).setCell (by simp; omega) _
    simp only [← hW]
    clear hW q0
    simp [bodyPost, results, Try.results34, go_sem, z0, z1, z2]
    exact B5

set_option maxHeartbeats 8000000 in
set_option maxRecDepth 8000 in
theorem implV {w : World} {s r st : Int} {b : Nat} {v : Value} {zs : List Int} (h : Rd w b v zs) (hz : zs.length ≤ 1048576) (hz1 : 1 ≤ zs.length) (hv : validB s r (fillL zs st) = false) :
    Calls Try.prog 34 #[.int .i64 s, .int .i64 r, v, .int .i64 st] w fun e w' => e = .returned (.tuple #[ruleV 0 0 (.slice none 0 0), .bool false]) ∧ Below w.heap.size w w' := by
  obtain ⟨n, hzn⟩ : ∃ n, n = zs.length := ⟨_, rfl⟩
  have HZn : Hid (zs.length = n) := hzn.symm
  have HV := hid hv
  have HZ : Hid (1 ≤ zs.length ∧ zs.length ≤ 1048576) := ⟨hz1, hz⟩
  have hn : 1 ≤ n ∧ n ≤ 1048576 := by have := HZn.out; omega
  have HH := hid h
  obtain ⟨ao, cap, rfl, hc, hm, _⟩ := h
  clear hc hm hz hz1 hzn hv
  go_enter Try.func34, Try.ntmps34
  go_wp2_with fail
  obtain ⟨w1, hW⟩ : ∃ w1, w1 = w.alloc (Obj.cells #[.int .i64 0, .int .i64 0, .slice none 0 0] 44) := ⟨_, rfl⟩
  obtain ⟨NT, hT⟩ : ∃ NT, NT = w.heap.size := ⟨_, rfl⟩
  have bw : Below w.heap.size w w1 := by rw [hW]; exact below1 _ _
  have kT : w1.heap[NT]? = some (Obj.cells #[.int .i64 0, .int .i64 0, .slice none 0 0] 44) := by rw [hW]; exact FNew.heap_top hT
  have HNT : Hid (w.heap.size ≤ NT) := by simp only [Hid]; omega
  simp only [← hW, ← hT]
  clear hW hT
  go_at_call 71
  refine (RCopy.copyOfRule (HH.out.keep bw (Nat.le_refl _)) HZ.out).mono ?_
  rw [HZn.out]
  rintro e w2 ⟨b0, k, rfl, ow, lo, hk1, hk2, bel⟩
  have HNTb : Hid (NT ≠ b0) := Nat.ne_of_lt (Nat.lt_of_lt_of_le (heap_lt kT) lo)
  have HLO : Hid (w.heap.size ≤ b0) := Nat.le_trans bw.size lo
  have HkN : Hid (n ≤ k ∧ k ≤ 9223372036854775807) := by simp only [Hid]; unfold maxLen at hk2; omega
  replace kT := heap_keep bel kT
  have HB2 := hid (bw.trans (bel.mono bw.size))
  have HOW := hid ow
  have HKT := hid kT
  clear bel bw lo ow kT hk1 hk2
  go_wp2_with fail
  obtain ⟨w4, hW⟩ : ∃ w4, w4 = w2.alloc (Obj.cells #[.int .i64 s, .int .i64 r, .slice (some ⟨b0, 0, none⟩) n k] 44) := ⟨_, rfl⟩
  obtain ⟨NO, hN⟩ : ∃ NO, NO = w2.heap.size := ⟨_, rfl⟩
  have bel : Below w2.heap.size w2 w4 := by rw [hW]; exact below1 _ _
  have HKO : Hid (w4.heap[NO]? = some (Obj.cells #[.int .i64 s, .int .i64 r, .slice (some ⟨b0, 0, none⟩) n k] 44)) := by simp only [Hid]; rw [hW]; exact FNew.heap_top hN
  have HOb : Hid (NO ≠ b0) := by simp only [Hid]; rw [hN]; exact Nat.ne_of_gt HOW.out.lt
  have HKT4 := hid (heap_keep bel HKT.out)
  have HOW4 := hid (HOW.out.keep bel)
  have HB4 := hid (HB2.out.trans (bel.mono HB2.out.size))
  simp only [← hW, ← hN]
  clear hW hN bel HKT HOW HB2
  have hkk : n ≤ k ∧ k ≤ 9223372036854775807 := HkN.out
  go_loopw [21] (fun t wr => ∃ j : Nat, j ≤ n ∧ t = .int .i64 (j : Int) ∧ Own 2 wr b0 (.slice (some ⟨b0, 0, none⟩) n k) (filP zs st j) ∧ w4.grownBy wr (some b0)) (fun t _ => n - (intOf t).toNat)
  case atStart => exact ⟨0, Nat.zero_le _, rfl, by rw [filP_zero]; exact HOW4.out, g_refl _ _⟩
  case round =>
    clear HOW4
    obtain ⟨j, hj, rfl, hown, hg⟩ := hrel
    have c0 := g_cell hg (Go.Joins.cell_of_block HKO.out 0) HOb.out
    have c1 := g_cell hg (Go.Joins.cell_of_block HKO.out 1) HOb.out
    have c2 := g_cell hg (Go.Joins.cell_of_block HKO.out 2) HOb.out
    by_cases hlt : j < n
    · have hjz : j < zs.length := by rw [HZn.out]; exact hlt
      have hji : (j : Int) < (n : Int) := by omega
      have hlen : (filP zs st j).length = n := by rw [filP_len (Nat.le_of_lt hjz)]; exact HZn.out
      have hox := hown.cell (i := j) (by rw [hlen]; exact hlt)
      rw [filP_get hjz] at hox
      have hof := hown.free j
      have HO := hid hown
      have HG := hid hg
      have HJZ := hid hjz
      obtain ⟨x, hx⟩ : ∃ x, x = zs.getD j 0 := ⟨_, rfl⟩
      rw [← hx] at hox
      have HX := hid hx
      clear hown hg hx hlen hjz
      by_cases hx1 : x = -1
      · have hq : (x == -1) = true := by simpa using hx1
        have HX1 := hid hx1
        clear hx1
        go_wp2
        go_roundw
        case rel =>
          refine ⟨j + 1, by omega, by go_num, ?_, g_set HG.out j _⟩
          have hs := filP_set (st := st) HJZ.out
          rw [← HX.out, HX1.out, fillX, if_pos rfl] at hs
          rw [← hs]
          exact HO.out.set j st
        case measure => simp [intOf]; omega
      · have hq : (x == -1) = false := by simpa using hx1
        have HX1 := hid hx1
        clear hx1
        go_wp2
        go_roundw
        case rel =>
          refine ⟨j + 1, by omega, by go_num, ?_, HG.out⟩
          rw [← filP_same HJZ.out (by rw [← HX.out]; exact HX1.out)]
          exact HO.out
        case measure => simp [intOf]; omega
    · have hj2 : j = n := by omega
      subst hj2
      rw [← HZn.out, filP_all, HZn.out] at hown
      have HO2 := hid hown
      have HB0 := hid (g_below HB4.out hg HLO.out)
      have HKT5 := hid (g_heap hg HKT4.out HNTb.out)
      have HKO5 := hid (g_heap hg HKO.out HOb.out)
      clear hown hg hlt
      go_wp2_with fail
      go_at_call 72
      refine (implValid HO2.out.rd).mono ?_
      rw [HV.out]
      rintro e w6 ⟨rfl, bel⟩
      have HB := hid (HB0.out.trans (bel.mono HB0.out.size))
      have HO := hid (HO2.out.keep bel)
      have kT := heap_keep bel HKT5.out
      have kO := heap_keep bel HKO5.out
      clear c0 c1 c2
      have c0 : w6.cell? ⟨NO, 0, none⟩ = some (.int .i64 s) := Go.Joins.cell_of_block kO 0
      have c1 : w6.cell? ⟨NO, 1, none⟩ = some (.int .i64 r) := Go.Joins.cell_of_block kO 1
      have c2 : w6.cell? ⟨NO, 2, none⟩ = some (.slice (some ⟨b0, 0, none⟩) j k) := Go.Joins.cell_of_block kO 2
      have HLo := HLO
      have HNB := HNTb
      clear bel kO HO2 HB0 HKT5 HKO5
      have y0 : w6.cell? ⟨NT, 0, none⟩ = some (.int .i64 0) := Go.Joins.cell_of_block kT 0
      have y1 : w6.cell? ⟨NT, 1, none⟩ = some (.int .i64 0) := Go.Joins.cell_of_block kT 1
      have y2 : w6.cell? ⟨NT, 2, none⟩ = some (.slice none 0 0) := Go.Joins.cell_of_block kT 2
      have g0 : w6.frozen? ⟨NT, 0, none⟩ = false := Go.Joins.unfrozen_of_block kT 0
      have g1 : w6.frozen? ⟨NT, 1, none⟩ = false := Go.Joins.unfrozen_of_block kT 1
      have g2 : w6.frozen? ⟨NT, 2, none⟩ = false := Go.Joins.unfrozen_of_block kT 2
      have HKx := hid kT
      clear kT
      go_wp2
      obtain ⟨W5, hW⟩ : ∃ W5, W5 = (((w6.setCell ⟨NT, 0, none⟩ (.int .i64 0)).setCell ⟨NT, 1, none⟩ (.int .i64 0)).setCell ⟨NT, 2, none⟩ (.slice none 0 0)) := ⟨_, rfl⟩
      have q0 := (Go.Joins.block_setCell (i := 2) (Go.Joins.block_setCell (i := 1) (Go.Joins.block_setCell (i := 0) HKx.out (.int .i64 0)) (.int .i64 0)) (.slice none 0 0))
      rw [← hW] at q0
      have z0 : W5.cell? ⟨NT, 0, none⟩ = some (.int .i64 0) := Go.Joins.cell_of_block q0 0
      have z1 : W5.cell? ⟨NT, 1, none⟩ = some (.int .i64 0) := Go.Joins.cell_of_block q0 1
      have z2 : W5.cell? ⟨NT, 2, none⟩ = some (.slice none 0 0) := Go.Joins.cell_of_block q0 2
      have B5 : Below w.heap.size w W5 := by
        have h1 := HNT.out
        rw [hW]
        exact ((HB.out.setCell (by simp; omega) _).setCell (by simp; omega) _).setCell (by simp; omega) _
      simp only [← hW]
      clear hW q0
      simp [bodyPost, results, Try.results34, go_sem, z0, z1, z2]
      exact B5

set_option maxHeartbeats 8000000 in
set_option maxRecDepth 8000 in
theorem implS {w : World} {s r st : Int} {b : Nat} {v : Value} {zs : List Int} (h : Rd w b v zs) (hz : zs.length ≤ 1048576) (hz1 : 1 ≤ zs.length) (hv : validB s r (fillL zs st) = true) (hs : ¬ (0 ≤ st ∧ st ≤ s - 1)) :
    Calls Try.prog 34 #[.int .i64 s, .int .i64 r, v, .int .i64 st] w fun e w' => e = .returned (.tuple #[ruleV 0 0 (.slice none 0 0), .bool false]) ∧ Below w.heap.size w w' := by
  obtain ⟨n, hzn⟩ : ∃ n, n = zs.length := ⟨_, rfl⟩
  have HZn : Hid (zs.length = n) := hzn.symm
  have hv' := valid_st hv
  have hsb : 2 ≤ s ∧ s ≤ 3 := ⟨hv'.1, hv'.2.1⟩
  have HV := hid hv
  have HZ : Hid (1 ≤ zs.length ∧ zs.length ≤ 1048576) := ⟨hz1, hz⟩
  have hn : 1 ≤ n ∧ n ≤ 1048576 := by have := HZn.out; omega
  have HS : Hid (decide (0 ≤ st ∧ st ≤ s - 1) = false) := decide_eq_false hs
  have hw1 : wrap64 (s - 1) = s - 1 := wrap_id (by omega) (by omega)
  have HH := hid h
  obtain ⟨ao, cap, rfl, hc, hm, _⟩ := h
  clear hc hm hz hz1 hzn hv hs hv'
  go_enter Try.func34, Try.ntmps34
  go_wp2_with fail
  obtain ⟨w1, hW⟩ : ∃ w1, w1 = w.alloc (Obj.cells #[.int .i64 0, .int .i64 0, .slice none 0 0] 44) := ⟨_, rfl⟩
  obtain ⟨NT, hT⟩ : ∃ NT, NT = w.heap.size := ⟨_, rfl⟩
  have bw : Below w.heap.size w w1 := by rw [hW]; exact below1 _ _
  have kT : w1.heap[NT]? = some (Obj.cells #[.int .i64 0, .int .i64 0, .slice none 0 0] 44) := by rw [hW]; exact FNew.heap_top hT
  have HNT : Hid (w.heap.size ≤ NT) := by simp only [Hid]; omega
  simp only [← hW, ← hT]
  clear hW hT
  go_at_call 71
  refine (RCopy.copyOfRule (HH.out.keep bw (Nat.le_refl _)) HZ.out).mono ?_
  rw [HZn.out]
  rintro e w2 ⟨b0, k, rfl, ow, lo, hk1, hk2, bel⟩
  have HNTb : Hid (NT ≠ b0) := Nat.ne_of_lt (Nat.lt_of_lt_of_le (heap_lt kT) lo)
  have HLO : Hid (w.heap.size ≤ b0) := Nat.le_trans bw.size lo
  have HkN : Hid (n ≤ k ∧ k ≤ 9223372036854775807) := by simp only [Hid]; unfold maxLen at hk2; omega
  replace kT := heap_keep bel kT
  have HB2 := hid (bw.trans (bel.mono bw.size))
  have HOW := hid ow
  have HKT := hid kT
  clear bel bw lo ow kT hk1 hk2
  go_wp2_with fail
  obtain ⟨w4, hW⟩ : ∃ w4, w4 = w2.alloc (Obj.cells #[.int .i64 s, .int .i64 r, .slice (some ⟨b0, 0, none⟩) n k] 44) := ⟨_, rfl⟩
  obtain ⟨NO, hN⟩ : ∃ NO, NO = w2.heap.size := ⟨_, rfl⟩
  have bel : Below w2.heap.size w2 w4 := by rw [hW]; exact below1 _ _
  have HKO : Hid (w4.heap[NO]? = some (Obj.cells #[.int .i64 s, .int .i64 r, .slice (some ⟨b0, 0, none⟩) n k] 44)) := by simp only [Hid]; rw [hW]; exact FNew.heap_top hN
  have HOb : Hid (NO ≠ b0) := by simp only [Hid]; rw [hN]; exact Nat.ne_of_gt HOW.out.lt
  have HKT4 := hid (heap_keep bel HKT.out)
  have HOW4 := hid (HOW.out.keep bel)
  have HB4 := hid (HB2.out.trans (bel.mono HB2.out.size))
  simp only [← hW, ← hN]
  clear hW hN bel HKT HOW HB2
  have hkk : n ≤ k ∧ k ≤ 9223372036854775807 := HkN.out
  go_loopw [21] (fun t wr => ∃ j : Nat, j ≤ n ∧ t = .int .i64 (j : Int) ∧ Own 2 wr b0 (.slice (some ⟨b0, 0, none⟩) n k) (filP zs st j) ∧ w4.grownBy wr (some b0)) (fun t _ => n - (intOf t).toNat)
  case atStart => exact ⟨0, Nat.zero_le _, rfl, by rw [filP_zero]; exact HOW4.out, g_refl _ _⟩
  case round =>
    clear HOW4
    obtain ⟨j, hj, rfl, hown, hg⟩ := hrel
    have c0 := g_cell hg (Go.Joins.cell_of_block HKO.out 0) HOb.out
    have c1 := g_cell hg (Go.Joins.cell_of_block HKO.out 1) HOb.out
    have c2 := g_cell hg (Go.Joins.cell_of_block HKO.out 2) HOb.out
    by_cases hlt : j < n
    · have hjz : j < zs.length := by rw [HZn.out]; exact hlt
      have hji : (j : Int) < (n : Int) := by omega
      have hlen : (filP zs st j).length = n := by rw [filP_len (Nat.le_of_lt hjz)]; exact HZn.out
      have hox := hown.cell (i := j) (by rw [hlen]; exact hlt)
      rw [filP_get hjz] at hox
      have hof := hown.free j
      have HO := hid hown
      have HG := hid hg
      have HJZ := hid hjz
      obtain ⟨x, hx⟩ : ∃ x, x = zs.getD j 0 := ⟨_, rfl⟩
      rw [← hx] at hox
      have HX := hid hx
      clear hown hg hx hlen hjz
      by_cases hx1 : x = -1
      · have hq : (x == -1) = true := by simpa using hx1
        have HX1 := hid hx1
        clear hx1
        go_wp2
        go_roundw
        case rel =>
          refine ⟨j + 1, by omega, by go_num, ?_, g_set HG.out j _⟩
          have hs := filP_set (st := st) HJZ.out
          rw [← HX.out, HX1.out, fillX, if_pos rfl] at hs
          rw [← hs]
          exact HO.out.set j st
        case measure => simp [intOf]; omega
      · have hq : (x == -1) = false := by simpa using hx1
        have HX1 := hid hx1
        clear hx1
        go_wp2
        go_roundw
        case rel =>
          refine ⟨j + 1, by omega, by go_num, ?_, HG.out⟩
          rw [← filP_same HJZ.out (by rw [← HX.out]; exact HX1.out)]
          exact HO.out
        case measure => simp [intOf]; omega
    · have hj2 : j = n := by omega
      subst hj2
      rw [← HZn.out, filP_all, HZn.out] at hown
      have HO2 := hid hown
      have HB0 := hid (g_below HB4.out hg HLO.out)
      have HKT5 := hid (g_heap hg HKT4.out HNTb.out)
      have HKO5 := hid (g_heap hg HKO.out HOb.out)
      clear hown hg hlt
      go_wp2_with fail
      go_at_call 72
      refine (implValid HO2.out.rd).mono ?_
      rw [HV.out]
      rintro e w6 ⟨rfl, bel⟩
      have HB := hid (HB0.out.trans (bel.mono HB0.out.size))
      have HO := hid (HO2.out.keep bel)
      have kT := heap_keep bel HKT5.out
      have kO := heap_keep bel HKO5.out
      clear c0 c1 c2
      have c0 : w6.cell? ⟨NO, 0, none⟩ = some (.int .i64 s) := Go.Joins.cell_of_block kO 0
      have c1 : w6.cell? ⟨NO, 1, none⟩ = some (.int .i64 r) := Go.Joins.cell_of_block kO 1
      have c2 : w6.cell? ⟨NO, 2, none⟩ = some (.slice (some ⟨b0, 0, none⟩) j k) := Go.Joins.cell_of_block kO 2
      have HLo := HLO
      have HNB := HNTb
      clear bel kO HO2 HB0 HKT5 HKO5
      go_wp2_with fail
      go_at_call 58
      refine (isCountB (hi := s - 1)).mono ?_
      rw [HS.out]
      rintro e w7 ⟨rfl, rfl⟩
      have y0 : w6.cell? ⟨NT, 0, none⟩ = some (.int .i64 0) := Go.Joins.cell_of_block kT 0
      have y1 : w6.cell? ⟨NT, 1, none⟩ = some (.int .i64 0) := Go.Joins.cell_of_block kT 1
      have y2 : w6.cell? ⟨NT, 2, none⟩ = some (.slice none 0 0) := Go.Joins.cell_of_block kT 2
      have g0 : w6.frozen? ⟨NT, 0, none⟩ = false := Go.Joins.unfrozen_of_block kT 0
      have g1 : w6.frozen? ⟨NT, 1, none⟩ = false := Go.Joins.unfrozen_of_block kT 1
      have g2 : w6.frozen? ⟨NT, 2, none⟩ = false := Go.Joins.unfrozen_of_block kT 2
      have HKx := hid kT
      clear kT
      go_wp2
      obtain ⟨W5, hW⟩ : ∃ W5, W5 = (((w6.setCell ⟨NT, 0, none⟩ (.int .i64 0)).setCell ⟨NT, 1, none⟩ (.int .i64 0)).setCell ⟨NT, 2, none⟩ (.slice none 0 0)) := ⟨_, rfl⟩
      have q0 := (Go.Joins.block_setCell (i := 2) (Go.Joins.block_setCell (i := 1) (Go.Joins.block_setCell (i := 0) HKx.out (.int .i64 0)) (.int .i64 0)) (.slice none 0 0))
      rw [← hW] at q0
      have z0 : W5.cell? ⟨NT, 0, none⟩ = some (.int .i64 0) := Go.Joins.cell_of_block q0 0
      have z1 : W5.cell? ⟨NT, 1, none⟩ = some (.int .i64 0) := Go.Joins.cell_of_block q0 1
      have z2 : W5.cell? ⟨NT, 2, none⟩ = some (.slice none 0 0) := Go.Joins.cell_of_block q0 2
      have B5 : Below w.heap.size w W5 := by
        have h1 := HNT.out
        rw [hW]
        exact ((HB.out.setCell (by simp; omega) _).setCell (by simp; omega) _).setCell (by simp; omega) _
      simp only [← hW]
      clear hW q0
      simp [bodyPost, results, Try.results34, go_sem, z0, z1, z2]
      exact B5

set_option maxHeartbeats 8000000 in
set_option maxRecDepth 8000 in
theorem implO {w : World} {s r st : Int} {n b : Nat} {v : Value} {zs : List Int} (h : Rd w b v zs) (hz : zs.length ≤ 1048576) (hzn : zs.length = n) (hv : validB s r (fillL zs st) = true) (hs : 0 ≤ st ∧ st ≤ s - 1) :
    Calls Try.prog 34 #[.int .i64 s, .int .i64 r, v, .int .i64 st] w fun e w' => ∃ b' k, e = .returned (.tuple #[ruleV s r (.slice (some ⟨b', 0, none⟩) n k), .bool true]) ∧ Own 2 w' b' (.slice (some ⟨b', 0, none⟩) n k) (fillL zs st) ∧ w.heap.size ≤ b' ∧ Below w.heap.size w w' := by
  have HZn : Hid (zs.length = n) := hzn
  have hv' := valid_st hv
  have hz1 : 1 ≤ zs.length := by
    have := valid_nil (s := s) (r := r) (zs := fillL zs st)
    rcases Nat.eq_zero_or_pos zs.length with h0 | h0
    · rw [this (by rw [fill_len]; exact h0)] at hv; cases hv
    · exact h0
  have hsb : 2 ≤ s ∧ s ≤ 3 := ⟨hv'.1, hv'.2.1⟩
  have HV := hid hv
  have HZ : Hid (1 ≤ zs.length ∧ zs.length ≤ 1048576) := ⟨hz1, hz⟩
  have hn : 1 ≤ n ∧ n ≤ 1048576 := by have := HZn.out; omega
  have HS : Hid (decide (0 ≤ st ∧ st ≤ s - 1) = true) := decide_eq_true hs
  have hw1 : wrap64 (s - 1) = s - 1 := wrap_id (by omega) (by omega)
  have HH := hid h
  obtain ⟨ao, cap, rfl, hc, hm, _⟩ := h
  clear hc hm hz hz1 hzn hv hs hv'
  go_enter Try.func34, Try.ntmps34
  go_wp2_with fail
  obtain ⟨w1, hW⟩ : ∃ w1, w1 = w.alloc (Obj.cells #[.int .i64 0, .int .i64 0, .slice none 0 0] 44) := ⟨_, rfl⟩
  obtain ⟨NT, hT⟩ : ∃ NT, NT = w.heap.size := ⟨_, rfl⟩
  have bw : Below w.heap.size w w1 := by rw [hW]; exact below1 _ _
  have kT : w1.heap[NT]? = some (Obj.cells #[.int .i64 0, .int .i64 0, .slice none 0 0] 44) := by rw [hW]; exact FNew.heap_top hT
  have HNT : Hid (w.heap.size ≤ NT) := by simp only [Hid]; omega
  simp only [← hW, ← hT]
  clear hW hT
  go_at_call 71
  refine (RCopy.copyOfRule (HH.out.keep bw (Nat.le_refl _)) HZ.out).mono ?_
  rw [HZn.out]
  rintro e w2 ⟨b0, k, rfl, ow, lo, hk1, hk2, bel⟩
  have HNTb : Hid (NT ≠ b0) := Nat.ne_of_lt (Nat.lt_of_lt_of_le (heap_lt kT) lo)
  have HLO : Hid (w.heap.size ≤ b0) := Nat.le_trans bw.size lo
  have HkN : Hid (n ≤ k ∧ k ≤ 9223372036854775807) := by simp only [Hid]; unfold maxLen at hk2; omega
  replace kT := heap_keep bel kT
  have HB2 := hid (bw.trans (bel.mono bw.size))
  have HOW := hid ow
  have HKT := hid kT
  clear bel bw lo ow kT hk1 hk2
  go_wp2_with fail
  obtain ⟨w4, hW⟩ : ∃ w4, w4 = w2.alloc (Obj.cells #[.int .i64 s, .int .i64 r, .slice (some ⟨b0, 0, none⟩) n k] 44) := ⟨_, rfl⟩
  obtain ⟨NO, hN⟩ : ∃ NO, NO = w2.heap.size := ⟨_, rfl⟩
  have bel : Below w2.heap.size w2 w4 := by rw [hW]; exact below1 _ _
  have HKO : Hid (w4.heap[NO]? = some (Obj.cells #[.int .i64 s, .int .i64 r, .slice (some ⟨b0, 0, none⟩) n k] 44)) := by simp only [Hid]; rw [hW]; exact FNew.heap_top hN
  have HOb : Hid (NO ≠ b0) := by simp only [Hid]; rw [hN]; exact Nat.ne_of_gt HOW.out.lt
  have HKT4 := hid (heap_keep bel HKT.out)
  have HOW4 := hid (HOW.out.keep bel)
  have HB4 := hid (HB2.out.trans (bel.mono HB2.out.size))
  simp only [← hW, ← hN]
  clear hW hN bel HKT HOW HB2
  have hkk : n ≤ k ∧ k ≤ 9223372036854775807 := HkN.out
  go_loopw [21] (fun t wr => ∃ j : Nat, j ≤ n ∧ t = .int .i64 (j : Int) ∧ Own 2 wr b0 (.slice (some ⟨b0, 0, none⟩) n k) (filP zs st j) ∧ w4.grownBy wr (some b0)) (fun t _ => n - (intOf t).toNat)
  case atStart => exact ⟨0, Nat.zero_le _, rfl, by rw [filP_zero]; exact HOW4.out, g_refl _ _⟩
  case round =>
    clear HOW4
    obtain ⟨j, hj, rfl, hown, hg⟩ := hrel
    have c0 := g_cell hg (Go.Joins.cell_of_block HKO.out 0) HOb.out
    have c1 := g_cell hg (Go.Joins.cell_of_block HKO.out 1) HOb.out
    have c2 := g_cell hg (Go.Joins.cell_of_block HKO.out 2) HOb.out
    by_cases hlt : j < n
    · have hjz : j < zs.length := by rw [HZn.out]; exact hlt
      have hji : (j : Int) < (n : Int) := by omega
      have hlen : (filP zs st j).length = n := by rw [filP_len (Nat.le_of_lt hjz)]; exact HZn.out
      have hox := hown.cell (i := j) (by rw [hlen]; exact hlt)
      rw [filP_get hjz] at hox
      have hof := hown.free j
      have HO := hid hown
      have HG := hid hg
      have HJZ := hid hjz
      obtain ⟨x, hx⟩ : ∃ x, x = zs.getD j 0 := ⟨_, rfl⟩
      rw [← hx] at hox
      have HX := hid hx
      clear hown hg hx hlen hjz
      by_cases hx1 : x = -1
      · have hq : (x == -1) = true := by simpa using hx1
        have HX1 := hid hx1
        clear hx1
        go_wp2
        go_roundw
        case rel =>
          refine ⟨j + 1, by omega, by go_num, ?_, g_set HG.out j _⟩
          have hs := filP_set (st := st) HJZ.out
          rw [← HX.out, HX1.out, fillX, if_pos rfl] at hs
          rw [← hs]
          exact HO.out.set j st
        case measure => simp [intOf]; omega
      · have hq : (x == -1) = false := by simpa using hx1
        have HX1 := hid hx1
        clear hx1
        go_wp2
        go_roundw
        case rel =>
          refine ⟨j + 1, by omega, by go_num, ?_, HG.out⟩
          rw [← filP_same HJZ.out (by rw [← HX.out]; exact HX1.out)]
          exact HO.out
        case measure => simp [intOf]; omega
    · have hj2 : j = n := by omega
      subst hj2
      rw [← HZn.out, filP_all, HZn.out] at hown
      have HO2 := hid hown
      have HB0 := hid (g_below HB4.out hg HLO.out)
      have HKT5 := hid (g_heap hg HKT4.out HNTb.out)
      have HKO5 := hid (g_heap hg HKO.out HOb.out)
      clear hown hg hlt
      go_wp2_with fail
      go_at_call 72
      refine (implValid HO2.out.rd).mono ?_
      rw [HV.out]
      rintro e w6 ⟨rfl, bel⟩
      have HB := hid (HB0.out.trans (bel.mono HB0.out.size))
      have HO := hid (HO2.out.keep bel)
      have kT := heap_keep bel HKT5.out
      have kO := heap_keep bel HKO5.out
      clear c0 c1 c2
      have c0 : w6.cell? ⟨NO, 0, none⟩ = some (.int .i64 s) := Go.Joins.cell_of_block kO 0
      have c1 : w6.cell? ⟨NO, 1, none⟩ = some (.int .i64 r) := Go.Joins.cell_of_block kO 1
      have c2 : w6.cell? ⟨NO, 2, none⟩ = some (.slice (some ⟨b0, 0, none⟩) j k) := Go.Joins.cell_of_block kO 2
      have HLo := HLO
      have HNB := HNTb
      clear bel kO HO2 HB0 HKT5 HKO5
      go_wp2_with fail
      go_at_call 58
      refine (isCountB (hi := s - 1)).mono ?_
      rw [HS.out]
      rintro e w7 ⟨rfl, rfl⟩
      have y0 : w6.cell? ⟨NT, 0, none⟩ = some (.int .i64 0) := Go.Joins.cell_of_block kT 0
      have y1 : w6.cell? ⟨NT, 1, none⟩ = some (.int .i64 0) := Go.Joins.cell_of_block kT 1
      have y2 : w6.cell? ⟨NT, 2, none⟩ = some (.slice none 0 0) := Go.Joins.cell_of_block kT 2
      have g0 : w6.frozen? ⟨NT, 0, none⟩ = false := Go.Joins.unfrozen_of_block kT 0
      have g1 : w6.frozen? ⟨NT, 1, none⟩ = false := Go.Joins.unfrozen_of_block kT 1
      have g2 : w6.frozen? ⟨NT, 2, none⟩ = false := Go.Joins.unfrozen_of_block kT 2
      have HKx := hid kT
      clear kT
      go_wp2
      obtain ⟨W5, hW⟩ : ∃ W5, W5 = (((w6.setCell ⟨NT, 0, none⟩ (.int .i64 s)).setCell ⟨NT, 1, none⟩ (.int .i64 r)).setCell ⟨NT, 2, none⟩ (.slice (some ⟨b0, 0, none⟩) j k)) := ⟨_, rfl⟩
      have q0 := (Go.Joins.block_setCell (i := 2) (Go.Joins.block_setCell (i := 1) (Go.Joins.block_setCell (i := 0) HKx.out (.int .i64 s)) (.int .i64 r)) (.slice (some ⟨b0, 0, none⟩) j k))
      rw [← hW] at q0
      have z0 : W5.cell? ⟨NT, 0, none⟩ = some (.int .i64 s) := Go.Joins.cell_of_block q0 0
      have z1 : W5.cell? ⟨NT, 1, none⟩ = some (.int .i64 r) := Go.Joins.cell_of_block q0 1
      have z2 : W5.cell? ⟨NT, 2, none⟩ = some (.slice (some ⟨b0, 0, none⟩) j k) := Go.Joins.cell_of_block q0 2
      have O5 := (own_set (own_set (own_set HO.out ⟨NT, 0, none⟩ (.int .i64 s) HNB.out) ⟨NT, 1, none⟩ (.int .i64 r) HNB.out) ⟨NT, 2, none⟩ (.slice (some ⟨b0, 0, none⟩) j k) HNB.out)
      rw [← hW] at O5
      have B5 : Below w.heap.size w W5 := by
        have h1 := HNT.out
        rw [hW]
        exact ((HB.out.setCell (by simp; omega) _).setCell (by simp; omega) _).setCell (by simp; omega) _
      simp only [← hW]
      clear hW q0
      simp [bodyPost, results, Try.results34, go_sem, z0, z1, z2]
      exact ⟨b0, k, ⟨rfl, rfl⟩, O5, HLo.out, B5⟩

set_option maxHeartbeats 8000000 in
set_option maxRecDepth 8000 in
theorem spec1 {w : World} {s r st : Int} {b : Nat} {v : Value} {zs : List Int} (h : Rd w b v zs) (hz : zs.length ≤ 1048576) (h1 : ¬ (2 ≤ s ∧ s ≤ 3)) :
    Calls Try.prog 33 #[.int .i64 s, .int .i64 r, v, .int .i64 st] w fun e w' => e = .returned (.tuple #[ruleV 0 0 (.slice none 0 0), .bool false]) ∧ Below w.heap.size w w' := by
  have H1 : Hid (decide (2 ≤ s ∧ s ≤ 3) = false) := decide_eq_false h1
  obtain ⟨n, hzn⟩ : ∃ n, n = zs.length := ⟨_, rfl⟩
  have HZn : Hid (zs.length = n) := hzn.symm
  have hn : n ≤ 1048576 := by have := HZn.out; omega
  have HH := hid h
  obtain ⟨ao, cap, rfl, hc, hm, h4c⟩ := h
  rw [HZn.out] at HH hc h4c ⊢
  have HC4 := hid h4c
  have hcap : cap ≤ 9223372036854775807 := by unfold maxLen at hm; omega
  clear hm hz hzn h4c h1
  go_enter Try.func33, Try.ntmps33
  go_wp2_with fail
  obtain ⟨w1, hW⟩ : ∃ w1, w1 = w.alloc (Obj.cells #[.int .i64 0, .int .i64 0, .slice none 0 0] 44) := ⟨_, rfl⟩
  obtain ⟨NT, hT⟩ : ∃ NT, NT = w.heap.size := ⟨_, rfl⟩
  have bw : Below w.heap.size w w1 := by rw [hW]; exact below1 _ _
  have kT : w1.heap[NT]? = some (Obj.cells #[.int .i64 0, .int .i64 0, .slice none 0 0] 44) := by rw [hW]; exact FNew.heap_top hT
  have HNT : Hid (w.heap.size ≤ NT) := by simp only [Hid]; omega
  simp only [← hW, ← hT]
  clear hW hT
  go_at_call 55
  refine (inB (lo := 2) (hi := 3)).mono ?_
  rw [H1.out]
  rintro e w2 ⟨rfl, rfl⟩
  have HB := hid bw
  have y0 : w1.cell? ⟨NT, 0, none⟩ = some (.int .i64 0) := Go.Joins.cell_of_block kT 0
  have y1 : w1.cell? ⟨NT, 1, none⟩ = some (.int .i64 0) := Go.Joins.cell_of_block kT 1
  have y2 : w1.cell? ⟨NT, 2, none⟩ = some (.slice none 0 0) := Go.Joins.cell_of_block kT 2
  have g0 : w1.frozen? ⟨NT, 0, none⟩ = false := Go.Joins.unfrozen_of_block kT 0
  have g1 : w1.frozen? ⟨NT, 1, none⟩ = false := Go.Joins.unfrozen_of_block kT 1
  have g2 : w1.frozen? ⟨NT, 2, none⟩ = false := Go.Joins.unfrozen_of_block kT 2
  have HKx := hid kT
  clear kT
  go_wp2
  obtain ⟨W5, hW⟩ : ∃ W5, W5 = (((w1.setCell ⟨NT, 0, none⟩ (.int .i64 0)).setCell ⟨NT, 1, none⟩ (.int .i64 0)).setCell ⟨NT, 2, none⟩ (.slice none 0 0)) := ⟨_, rfl⟩
  have q0 := (Go.Joins.block_setCell (i := 2) (Go.Joins.block_setCell (i := 1) (Go.Joins.block_setCell (i := 0) HKx.out (.int .i64 0)) (.int .i64 0)) (.slice none 0 0))
  rw [← hW] at q0
  have z0 : W5.cell? ⟨NT, 0, none⟩ = some (.int .i64 0) := Go.Joins.cell_of_block q0 0
  have z1 : W5.cell? ⟨NT, 1, none⟩ = some (.int .i64 0) := Go.Joins.cell_of_block q0 1
  have z2 : W5.cell? ⟨NT, 2, none⟩ = some (.slice none 0 0) := Go.Joins.cell_of_block q0 2
  have B5 : Below w.heap.size w W5 := by
    have h1 := HNT.out
    rw [hW]
    exact ((HB.out.setCell (by simp; omega) _).setCell (by simp; omega) _).setCell (by simp; omega) _
  simp only [← hW]
  clear hW q0
  simp [bodyPost, results, Try.results33, go_sem, z0, z1, z2]
  exact B5

set_option maxHeartbeats 8000000 in
set_option maxRecDepth 8000 in
theorem spec2 {w : World} {s r st : Int} {b : Nat} {v : Value} {zs : List Int} (h : Rd w b v zs) (hz : zs.length ≤ 1048576) (h1 : 2 ≤ s ∧ s ≤ 3) (h2 : ¬ (0 ≤ r ∧ r ≤ 2)) :
    Calls Try.prog 33 #[.int .i64 s, .int .i64 r, v, .int .i64 st] w fun e w' => e = .returned (.tuple #[ruleV 0 0 (.slice none 0 0), .bool false]) ∧ Below w.heap.size w w' := by
  have H1 : Hid (decide (2 ≤ s ∧ s ≤ 3) = true) := decide_eq_true h1
  have H2 : Hid (decide (0 ≤ r ∧ r ≤ 2) = false) := decide_eq_false h2
  obtain ⟨n, hzn⟩ : ∃ n, n = zs.length := ⟨_, rfl⟩
  have HZn : Hid (zs.length = n) := hzn.symm
  have hn : n ≤ 1048576 := by have := HZn.out; omega
  have HH := hid h
  obtain ⟨ao, cap, rfl, hc, hm, h4c⟩ := h
  rw [HZn.out] at HH hc h4c ⊢
  have HC4 := hid h4c
  have hcap : cap ≤ 9223372036854775807 := by unfold maxLen at hm; omega
  clear hm hz hzn h4c h1 h2
  go_enter Try.func33, Try.ntmps33
  go_wp2_with fail
  obtain ⟨w1, hW⟩ : ∃ w1, w1 = w.alloc (Obj.cells #[.int .i64 0, .int .i64 0, .slice none 0 0] 44) := ⟨_, rfl⟩
  obtain ⟨NT, hT⟩ : ∃ NT, NT = w.heap.size := ⟨_, rfl⟩
  have bw : Below w.heap.size w w1 := by rw [hW]; exact below1 _ _
  have kT : w1.heap[NT]? = some (Obj.cells #[.int .i64 0, .int .i64 0, .slice none 0 0] 44) := by rw [hW]; exact FNew.heap_top hT
  have HNT : Hid (w.heap.size ≤ NT) := by simp only [Hid]; omega
  simp only [← hW, ← hT]
  clear hW hT
  go_at_call 55
  refine (inB (lo := 2) (hi := 3)).mono ?_
  rw [H1.out]
  rintro e w2 ⟨rfl, rfl⟩
  go_wp2_with fail
  go_at_call 55
  refine (inB (lo := 0) (hi := 2)).mono ?_
  rw [H2.out]
  rintro e w2 ⟨rfl, rfl⟩
  have HB := hid bw
  have y0 : w1.cell? ⟨NT, 0, none⟩ = some (.int .i64 0) := Go.Joins.cell_of_block kT 0
  have y1 : w1.cell? ⟨NT, 1, none⟩ = some (.int .i64 0) := Go.Joins.cell_of_block kT 1
  have y2 : w1.cell? ⟨NT, 2, none⟩ = some (.slice none 0 0) := Go.Joins.cell_of_block kT 2
  have g0 : w1.frozen? ⟨NT, 0, none⟩ = false := Go.Joins.unfrozen_of_block kT 0
  have g1 : w1.frozen? ⟨NT, 1, none⟩ = false := Go.Joins.unfrozen_of_block kT 1
  have g2 : w1.frozen? ⟨NT, 2, none⟩ = false := Go.Joins.unfrozen_of_block kT 2
  have HKx := hid kT
  clear kT
  go_wp2
  obtain ⟨W5, hW⟩ : ∃ W5, W5 = (((w1.setCell ⟨NT, 0, none⟩ (.int .i64 0)).setCell ⟨NT, 1, none⟩ (.int .i64 0)).setCell ⟨NT, 2, none⟩ (.slice none 0 0)) := ⟨_, rfl⟩
  have q0 := (Go.Joins.block_setCell (i := 2) (Go.Joins.block_setCell (i := 1) (Go.Joins.block_setCell (i := 0) HKx.out (.int .i64 0)) (.int .i64 0)) (.slice none 0 0))
  rw [← hW] at q0
  have z0 : W5.cell? ⟨NT, 0, none⟩ = some (.int .i64 0) := Go.Joins.cell_of_block q0 0
  have z1 : W5.cell? ⟨NT, 1, none⟩ = some (.int .i64 0) := Go.Joins.cell_of_block q0 1
  have z2 : W5.cell? ⟨NT, 2, none⟩ = some (.slice none 0 0) := Go.Joins.cell_of_block q0 2
  have B5 : Below w.heap.size w W5 := by
    have h1 := HNT.out
    rw [hW]
    exact ((HB.out.setCell (by simp; omega) _).setCell (by simp; omega) _).setCell (by simp; omega) _
  simp only [← hW]
  clear hW q0
  simp [bodyPost, results, Try.results33, go_sem, z0, z1, z2]
  exact B5

set_option maxHeartbeats 8000000 in
set_option maxRecDepth 8000 in
theorem spec3 {w : World} {s r st : Int} {b : Nat} {v : Value} {zs : List Int} (h : Rd w b v zs) (hz : zs.length ≤ 1048576) (h1 : 2 ≤ s ∧ s ≤ 3) (h2 : 0 ≤ r ∧ r ≤ 2) (h3 : ¬ (zs.length : Int) = s ^ (2 * r + 1).toNat) :
    Calls Try.prog 33 #[.int .i64 s, .int .i64 r, v, .int .i64 st] w fun e w' => e = .returned (.tuple #[ruleV 0 0 (.slice none 0 0), .bool false]) ∧ Below w.heap.size w w' := by
  have H1 : Hid (decide (2 ≤ s ∧ s ≤ 3) = true) := decide_eq_true h1
  have H2 : Hid (decide (0 ≤ r ∧ r ≤ 2) = true) := decide_eq_true h2
  obtain ⟨n, hzn⟩ : ∃ n, n = zs.length := ⟨_, rfl⟩
  have HZn : Hid (zs.length = n) := hzn.symm
  have hn : n ≤ 1048576 := by have := HZn.out; omega
  have HPw := hid (fun (ww : World) => power3I (w := ww) (k := 2 * r + 1) h1 ⟨by omega, by omega⟩)
  have hw1 : wrap64 (2 * r) = 2 * r := wrap_id (by omega) (by omega)
  have hw2 : wrap64 (2 * r + 1) = 2 * r + 1 := wrap_id (by omega) (by omega)
  rw [← hzn] at h3
  obtain ⟨P, hP⟩ : ∃ P, P = s ^ (2 * r + 1).toNat := ⟨_, rfl⟩
  have HPq := hid hP
  rw [← hP] at h3
  have hne : ((n : Int) != P) = true := by simpa using h3
  have HH := hid h
  obtain ⟨ao, cap, rfl, hc, hm, h4c⟩ := h
  rw [HZn.out] at HH hc h4c ⊢
  have HC4 := hid h4c
  have hcap : cap ≤ 9223372036854775807 := by unfold maxLen at hm; omega
  clear hm hz hzn h4c h1 h2 h3 hP
  go_enter Try.func33, Try.ntmps33
  go_wp2_with fail
  obtain ⟨w1, hW⟩ : ∃ w1, w1 = w.alloc (Obj.cells #[.int .i64 0, .int .i64 0, .slice none 0 0] 44) := ⟨_, rfl⟩
  obtain ⟨NT, hT⟩ : ∃ NT, NT = w.heap.size := ⟨_, rfl⟩
  have bw : Below w.heap.size w w1 := by rw [hW]; exact below1 _ _
  have kT : w1.heap[NT]? = some (Obj.cells #[.int .i64 0, .int .i64 0, .slice none 0 0] 44) := by rw [hW]; exact FNew.heap_top hT
  have HNT : Hid (w.heap.size ≤ NT) := by simp only [Hid]; omega
  simp only [← hW, ← hT]
  clear hW hT
  go_at_call 55
  refine (inB (lo := 2) (hi := 3)).mono ?_
  rw [H1.out]
  rintro e w2 ⟨rfl, rfl⟩
  go_wp2_with fail
  go_at_call 55
  refine (inB (lo := 0) (hi := 2)).mono ?_
  rw [H2.out]
  rintro e w2 ⟨rfl, rfl⟩
  go_wp2_with fail
  go_at_call 69
  refine (HPw.out _).mono ?_
  rw [← HPq.out]
  rintro e w2 ⟨rfl, rfl⟩
  have HB := hid bw
  have y0 : w1.cell? ⟨NT, 0, none⟩ = some (.int .i64 0) := Go.Joins.cell_of_block kT 0
  have y1 : w1.cell? ⟨NT, 1, none⟩ = some (.int .i64 0) := Go.Joins.cell_of_block kT 1
  have y2 : w1.cell? ⟨NT, 2, none⟩ = some (.slice none 0 0) := Go.Joins.cell_of_block kT 2
  have g0 : w1.frozen? ⟨NT, 0, none⟩ = false := Go.Joins.unfrozen_of_block kT 0
  have g1 : w1.frozen? ⟨NT, 1, none⟩ = false := Go.Joins.unfrozen_of_block kT 1
  have g2 : w1.frozen? ⟨NT, 2, none⟩ = false := Go.Joins.unfrozen_of_block kT 2
  have HKx := hid kT
  clear kT
  go_wp2
  obtain ⟨W5, hW⟩ : ∃ W5, W5 = (((w1.setCell ⟨NT, 0, none⟩ (.int .i64 0)).setCell ⟨NT, 1, none⟩ (.int .i64 0)).setCell ⟨NT, 2, none⟩ (.slice none 0 0)) := ⟨_, rfl⟩
  have q0 := (Go.Joins.block_setCell (i := 2) (Go.Joins.block_setCell (i := 1) (Go.Joins.block_setCell (i := 0) HKx.out (.int .i64 0)) (.int .i64 0)) (.slice none 0 0))
  rw [← hW] at q0
  have z0 : W5.cell? ⟨NT, 0, none⟩ = some (.int .i64 0) := Go.Joins.cell_of_block q0 0
  have z1 : W5.cell? ⟨NT, 1, none⟩ = some (.int .i64 0) := Go.Joins.cell_of_block q0 1
  have z2 : W5.cell? ⟨NT, 2, none⟩ = some (.slice none 0 0) := Go.Joins.cell_of_block q0 2
  have B5 : Below w.heap.size w W5 := by
    have h1 := HNT.out
    rw [hW]
    exact ((HB.out.setCell (by simp; omega) _).setCell (by simp; omega) _).setCell (by simp; omega) _
  simp only [← hW]
  clear hW q0
  simp [bodyPost, results, Try.results33, go_sem, z0, z1, z2]
  exact B5

set_option maxHeartbeats 8000000 in
set_option maxRecDepth 8000 in
theorem spec4 {w : World} {s r st : Int} {b : Nat} {v : Value} {zs : List Int} (h : Rd w b v zs) (hz : zs.length ≤ 1048576) (h1 : 2 ≤ s ∧ s ≤ 3) (h2 : 0 ≤ r ∧ r ≤ 2) (h3 : (zs.length : Int) = s ^ (2 * r + 1).toNat) (h4 : ¬ (0 ≤ st ∧ st ≤ s - 1)) :
    Calls Try.prog 33 #[.int .i64 s, .int .i64 r, v, .int .i64 st] w fun e w' => e = .returned (.tuple #[ruleV 0 0 (.slice none 0 0), .bool false]) ∧ Below w.heap.size w w' := by
  have H1 : Hid (decide (2 ≤ s ∧ s ≤ 3) = true) := decide_eq_true h1
  have H2 : Hid (decide (0 ≤ r ∧ r ≤ 2) = true) := decide_eq_true h2
  obtain ⟨n, hzn⟩ : ∃ n, n = zs.length := ⟨_, rfl⟩
  have HZn : Hid (zs.length = n) := hzn.symm
  have hn : n ≤ 1048576 := by have := HZn.out; omega
  have HPw := hid (fun (ww : World) => power3I (w := ww) (k := 2 * r + 1) h1 ⟨by omega, by omega⟩)
  have hw1 : wrap64 (2 * r) = 2 * r := wrap_id (by omega) (by omega)
  have hw2 : wrap64 (2 * r + 1) = 2 * r + 1 := wrap_id (by omega) (by omega)
  rw [← hzn] at h3
  obtain ⟨P, hP⟩ : ∃ P, P = s ^ (2 * r + 1).toNat := ⟨_, rfl⟩
  have HPq := hid hP
  rw [← hP] at h3
  have hne : ((n : Int) != P) = false := by simpa using h3
  have hw3 : wrap64 (s - 1) = s - 1 := wrap_id (by omega) (by omega)
  have H4 : Hid (decide (0 ≤ st ∧ st ≤ s - 1) = false) := decide_eq_false h4
  have HH := hid h
  obtain ⟨ao, cap, rfl, hc, hm, h4c⟩ := h
  rw [HZn.out] at HH hc h4c ⊢
  have HC4 := hid h4c
  have hcap : cap ≤ 9223372036854775807 := by unfold maxLen at hm; omega
  clear hm hz hzn h4c h1 h2 h3 hP h4
  go_enter Try.func33, Try.ntmps33
  go_wp2_with fail
  obtain ⟨w1, hW⟩ : ∃ w1, w1 = w.alloc (Obj.cells #[.int .i64 0, .int .i64 0, .slice none 0 0] 44) := ⟨_, rfl⟩
  obtain ⟨NT, hT⟩ : ∃ NT, NT = w.heap.size := ⟨_, rfl⟩
  have bw : Below w.heap.size w w1 := by rw [hW]; exact below1 _ _
  have kT : w1.heap[NT]? = some (Obj.cells #[.int .i64 0, .int .i64 0, .slice none 0 0] 44) := by rw [hW]; exact FNew.heap_top hT
  have HNT : Hid (w.heap.size ≤ NT) := by simp only [Hid]; omega
  simp only [← hW, ← hT]
  clear hW hT
  go_at_call 55
  refine (inB (lo := 2) (hi := 3)).mono ?_
  rw [H1.out]
  rintro e w2 ⟨rfl, rfl⟩
  go_wp2_with fail
  go_at_call 55
  refine (inB (lo := 0) (hi := 2)).mono ?_
  rw [H2.out]
  rintro e w2 ⟨rfl, rfl⟩
  go_wp2_with fail
  go_at_call 69
  refine (HPw.out _).mono ?_
  rw [← HPq.out]
  rintro e w2 ⟨rfl, rfl⟩
  go_wp2_with fail
  go_at_call 55
  refine (inB (lo := 0) (hi := s - 1)).mono ?_
  rw [H4.out]
  rintro e w2 ⟨rfl, rfl⟩
  have HB := hid bw
  have y0 : w1.cell? ⟨NT, 0, none⟩ = some (.int .i64 0) := Go.Joins.cell_of_block kT 0
  have y1 : w1.cell? ⟨NT, 1, none⟩ = some (.int .i64 0) := Go.Joins.cell_of_block kT 1
  have y2 : w1.cell? ⟨NT, 2, none⟩ = some (.slice none 0 0) := Go.Joins.cell_of_block kT 2
  have g0 : w1.frozen? ⟨NT, 0, none⟩ = false := Go.Joins.unfrozen_of_block kT 0
  have g1 : w1.frozen? ⟨NT, 1, none⟩ = false := Go.Joins.unfrozen_of_block kT 1
  have g2 : w1.frozen? ⟨NT, 2, none⟩ = false := Go.Joins.unfrozen_of_block kT 2
  have HKx := hid kT
  clear kT
  go_wp2
  obtain ⟨W5, hW⟩ : ∃ W5, W5 = (((w1.setCell ⟨NT, 0, none⟩ (.int .i64 0)).setCell ⟨NT, 1, none⟩ (.int .i64 0)).setCell ⟨NT, 2, none⟩ (.slice none 0 0)) := ⟨_, rfl⟩
  have q0 := (Go.Joins.block_setCell (i := 2) (Go.Joins.block_setCell (i := 1) (Go.Joins.block_setCell (i := 0) HKx.out (.int .i64 0)) (.int .i64 0)) (.slice none 0 0))
  rw [← hW] at q0
  have z0 : W5.cell? ⟨NT, 0, none⟩ = some (.int .i64 0) := Go.Joins.cell_of_block q0 0
  have z1 : W5.cell? ⟨NT, 1, none⟩ = some (.int .i64 0) := Go.Joins.cell_of_block q0 1
  have z2 : W5.cell? ⟨NT, 2, none⟩ = some (.slice none 0 0) := Go.Joins.cell_of_block q0 2
  have B5 : Below w.heap.size w W5 := by
    have h1 := HNT.out
    rw [hW]
    exact ((HB.out.setCell (by simp; omega) _).setCell (by simp; omega) _).setCell (by simp; omega) _
  simp only [← hW]
  clear hW q0
  simp [bodyPost, results, Try.results33, go_sem, z0, z1, z2]
  exact B5

set_option maxHeartbeats 8000000 in
set_option maxRecDepth 8000 in
theorem specV {w : World} {s r st : Int} {b : Nat} {v : Value} {zs : List Int} (h : Rd w b v zs) (hz : zs.length ≤ 1048576) (h1 : 2 ≤ s ∧ s ≤ 3) (h2 : 0 ≤ r ∧ r ≤ 2) (h3 : (zs.length : Int) = s ^ (2 * r + 1).toNat) (h4 : 0 ≤ st ∧ st ≤ s - 1) (hv : validB s r (fillL zs st) = false) :
    Calls Try.prog 33 #[.int .i64 s, .int .i64 r, v, .int .i64 st] w fun e w' => e = .returned (.tuple #[ruleV 0 0 (.slice none 0 0), .bool false]) ∧ Below w.heap.size w w' := by
  have H1 : Hid (decide (2 ≤ s ∧ s ≤ 3) = true) := decide_eq_true h1
  have H2 : Hid (decide (0 ≤ r ∧ r ≤ 2) = true) := decide_eq_true h2
  obtain ⟨n, hzn⟩ : ∃ n, n = zs.length := ⟨_, rfl⟩
  have HZn : Hid (zs.length = n) := hzn.symm
  have hn : n ≤ 1048576 := by have := HZn.out; omega
  have HPw := hid (fun (ww : World) => power3I (w := ww) (k := 2 * r + 1) h1 ⟨by omega, by omega⟩)
  have hw1 : wrap64 (2 * r) = 2 * r := wrap_id (by omega) (by omega)
  have hw2 : wrap64 (2 * r + 1) = 2 * r + 1 := wrap_id (by omega) (by omega)
  rw [← hzn] at h3
  obtain ⟨P, hP⟩ : ∃ P, P = s ^ (2 * r + 1).toNat := ⟨_, rfl⟩
  have HPq := hid hP
  rw [← hP] at h3
  have hne : ((n : Int) != P) = false := by simpa using h3
  have hw3 : wrap64 (s - 1) = s - 1 := wrap_id (by omega) (by omega)
  have H4 : Hid (decide (0 ≤ st ∧ st ≤ s - 1) = true) := decide_eq_true h4
  have HV := hid hv
  have HH := hid h
  obtain ⟨ao, cap, rfl, hc, hm, h4c⟩ := h
  rw [HZn.out] at HH hc h4c ⊢
  have HC4 := hid h4c
  have hcap : cap ≤ 9223372036854775807 := by unfold maxLen at hm; omega
  clear hm hz hzn h4c h1 h2 h3 hP h4 hv
  go_enter Try.func33, Try.ntmps33
  go_wp2_with fail
  obtain ⟨w1, hW⟩ : ∃ w1, w1 = w.alloc (Obj.cells #[.int .i64 0, .int .i64 0, .slice none 0 0] 44) := ⟨_, rfl⟩
  obtain ⟨NT, hT⟩ : ∃ NT, NT = w.heap.size := ⟨_, rfl⟩
  have bw : Below w.heap.size w w1 := by rw [hW]; exact below1 _ _
  have kT : w1.heap[NT]? = some (Obj.cells #[.int .i64 0, .int .i64 0, .slice none 0 0] 44) := by rw [hW]; exact FNew.heap_top hT
  have HNT : Hid (w.heap.size ≤ NT) := by simp only [Hid]; omega
  simp only [← hW, ← hT]
  clear hW hT
  go_at_call 55
  refine (inB (lo := 2) (hi := 3)).mono ?_
  rw [H1.out]
  rintro e w2 ⟨rfl, rfl⟩
  go_wp2_with fail
  go_at_call 55
  refine (inB (lo := 0) (hi := 2)).mono ?_
  rw [H2.out]
  rintro e w2 ⟨rfl, rfl⟩
  go_wp2_with fail
  go_at_call 69
  refine (HPw.out _).mono ?_
  rw [← HPq.out]
  rintro e w2 ⟨rfl, rfl⟩
  go_wp2_with fail
  go_at_call 55
  refine (inB (lo := 0) (hi := s - 1)).mono ?_
  rw [H4.out]
  rintro e w2 ⟨rfl, rfl⟩
  go_wp2_with fail
  obtain ⟨w4, hW⟩ : ∃ w4, w4 = w1.alloc (Obj.cells #[.int .i64 s, .int .i64 r, .slice none 0 0] 44) := ⟨_, rfl⟩
  obtain ⟨NO, hN⟩ : ∃ NO, NO = w1.heap.size := ⟨_, rfl⟩
  have bel : Below w1.heap.size w1 w4 := by rw [hW]; exact below1 _ _
  have HKO : Hid (w4.heap[NO]? = some (Obj.cells #[.int .i64 s, .int .i64 r, .slice none 0 0] 44)) := by simp only [Hid]; rw [hW]; exact FNew.heap_top hN
  have HTO : Hid (NT < NO) := by simp only [Hid]; rw [hN]; exact heap_lt kT
  have HNO : Hid (w.heap.size ≤ NO) := by simp only [Hid]; rw [hN]; exact bw.size
  have HKT4 := hid (heap_keep bel kT)
  have HB4 := hid (bw.trans (bel.mono bw.size))
  simp only [← hW, ← hN]
  clear hW hN bel kT bw
  go_loopw [44] (fun t wr => ∃ j : Nat, j ≤ n ∧ t = .int .i64 (j : Int) ∧ ∃ ao5 c5, wr.heap[NO]? = some (Obj.cells #[.int .i64 s, .int .i64 r, .slice ao5 j c5] 44) ∧ wr.ownsRow (NO + 1) 2 1 (.slice ao5 j c5) j (((zs.take j).map (fillX st)).map (Value.int .i64)) ∧ wr.heap[NT]? = some (Obj.cells #[.int .i64 0, .int .i64 0, .slice none 0 0] 44) ∧ Below w.heap.size w wr) (fun t _ => n - (intOf t).toNat)
  case atStart => exact ⟨0, Nat.zero_le _, rfl, none, 0, HKO.out, by simpa using World.ownsRow_nil w4 (NO + 1) 2 1, HKT4.out, HB4.out⟩
  case round =>
    clear HKO HKT4 HB4
    obtain ⟨j, hj, rfl, ao5, c5, kO, hR, kT, hbel⟩ := hrel
    by_cases hlt : j < n
    · obtain ⟨off, hao, hb, hcell⟩ := HC4.out (by omega)
      have hjz : j < zs.length := by rw [HZn.out]; exact hlt
      have hji : (j : Int) < (n : Int) := by omega
      obtain ⟨x, hx⟩ : ∃ x, x = zs.getD j 0 := ⟨_, rfl⟩
      have hox : wr.cell? ⟨b, off + j, none⟩ = some (.int .i64 x) := by rw [hx]; exact (hbel.cell (p := ⟨b, off + j, none⟩) hb).trans (hcell j hlt)
      have c2 : wr.cell? ⟨NO, 2, none⟩ = some (.slice ao5 j c5) := Go.Joins.cell_of_block kO 2
      have HKO := hid kO
      have HKT := hid kT
      have HR := hid hR
      have HB := hid hbel
      have HX := hid hx
      have HJZ := hid hjz
      have HOlt := hid (heap_lt kO)
      subst hao
      clear hb hcell kO kT hR hbel hx hjz
      by_cases hx1 : x = -1
      · have hq : (x == -1) = true := by simpa using hx1
        have HY : Hid (fillX st (zs.getD j 0) = st) := by simp only [Hid]; rw [← HX.out, fillX, if_pos hx1]
        clear hx1
        obtain ⟨ts, hts⟩ : ∃ ts, ts = (zs.take j).map (fillX st) := ⟨_, rfl⟩
        have HTS := hid hts
        have hlen1 : ts.length = j := by rw [hts]; simp; have := HJZ.out; omega
        have hRl : wr.ownsRow (NO + 1) 2 1 (.slice ao5 j c5) ts.length (ts.map (Value.int .i64)) := by rw [hlen1, hts]; exact HR.out
        have HRl := hid hRl
        have HL1 := hid hlen1
        clear hRl hlen1 hts
        go_wp2_with (first | (at_builtin; refine App.append1 rfl _ _ rfl (NO + 1) _ _ rfl HRl.out st rfl ?c1 ?c2 ?_) | go_in)
        case c1 => rw [HL1.out]; omega
        case c2 => exact HOlt.out
        intro v' w5 hown5 hbel5
        rw [show ts.length + 1 = (ts ++ [st]).length by simp, show (List.map (Value.int IntKind.i64) ts ++ [Value.int IntKind.i64 st]) = (ts ++ [st]).map (Value.int IntKind.i64) by simp, HTS.out] at hown5
        rw [show (zs.take j).map (fillX st) ++ [st] = (zs.take (j + 1)).map (fillX st) by rw [map_take_succ HJZ.out, HY.out]] at hown5
        have hl2 : ((zs.take (j + 1)).map (fillX st)).length = j + 1 := by simp; have := HJZ.out; omega
        obtain ⟨b5, hb5, ho5⟩ := Own.of hown5
        rcases ho5.form with ⟨_, he⟩ | ⟨c6, rfl, _, _, _⟩
        · exact absurd he (by intro e; rw [e] at hl2; simp at hl2)
        rw [hl2] at hown5 ⊢
        have kO5 := (hbel5.block NO (Nat.lt_succ_self NO)).trans HKO.out
        have kT5 := (hbel5.block NT (Nat.lt_of_lt_of_le HTO.out (Nat.le_succ NO))).trans HKT.out
        have y2 : w5.cell? ⟨NO, 2, none⟩ = some (.slice ao5 j c5) := Go.Joins.cell_of_block kO5 2
        have g2 : w5.frozen? ⟨NO, 2, none⟩ = false := Go.Joins.unfrozen_of_block kO5 2
        have kOs := Go.Joins.block_setCell (i := 2) kO5 (.slice (some ⟨b5, 0, none⟩) (j + 1) c6)
        have hRs := rows_set hown5 ⟨NO, 2, none⟩ (.slice (some ⟨b5, 0, none⟩) (j + 1) c6) (Nat.lt_succ_self NO)
        have kTs := (Below.heap_setCell w5 ⟨NO, 2, none⟩ (.slice (some ⟨b5, 0, none⟩) (j + 1) c6) _ (Nat.ne_of_lt HTO.out)).trans kT5
        have hB5 : Below w.heap.size w (w5.setCell ⟨NO, 2, none⟩ (.slice (some ⟨b5, 0, none⟩) (j + 1) c6)) := (HB.out.trans (hbel5.mono (by have := HNO.out; omega))).setCell (by have := HNO.out; simp; omega) _
        have HF := hid (And.intro kOs (And.intro hRs (And.intro kTs hB5)))
        clear hown5 hbel5 ho5 hl2 kO5 kT5 kOs hRs kTs hB5 hb5
        go_wp2
        go_roundw
        case rel => exact ⟨j + 1, by omega, by go_num, some ⟨b5, 0, none⟩, c6, HF.out.1, HF.out.2.1, HF.out.2.2.1, HF.out.2.2.2⟩
        case measure => simp [intOf]; omega
      · have hq : (x == -1) = false := by simpa using hx1
        have HY : Hid (fillX st (zs.getD j 0) = x) := by simp only [Hid]; rw [← HX.out, fillX, if_neg hx1]
        clear hx1
        obtain ⟨ts, hts⟩ : ∃ ts, ts = (zs.take j).map (fillX st) := ⟨_, rfl⟩
        have HTS := hid hts
        have hlen1 : ts.length = j := by rw [hts]; simp; have := HJZ.out; omega
        have hRl : wr.ownsRow (NO + 1) 2 1 (.slice ao5 j c5) ts.length (ts.map (Value.int .i64)) := by rw [hlen1, hts]; exact HR.out
        have HRl := hid hRl
        have HL1 := hid hlen1
        clear hRl hlen1 hts
        go_wp2_with (first | (at_builtin; refine App.append1 rfl _ _ rfl (NO + 1) _ _ rfl HRl.out x rfl ?c1 ?c2 ?_) | go_in)
        case c1 => rw [HL1.out]; omega
        case c2 => exact HOlt.out
        intro v' w5 hown5 hbel5
        rw [show ts.length + 1 = (ts ++ [x]).length by simp, show (List.map (Value.int IntKind.i64) ts ++ [Value.int IntKind.i64 x]) = (ts ++ [x]).map (Value.int IntKind.i64) by simp, HTS.out] at hown5
        rw [show (zs.take j).map (fillX st) ++ [x] = (zs.take (j + 1)).map (fillX st) by rw [map_take_succ HJZ.out, HY.out]] at hown5
        have hl2 : ((zs.take (j + 1)).map (fillX st)).length = j + 1 := by simp; have := HJZ.out; omega
        obtain ⟨b5, hb5, ho5⟩ := Own.of hown5
        rcases ho5.form with ⟨_, he⟩ | ⟨c6, rfl, _, _, _⟩
        · exact absurd he (by intro e; rw [e] at hl2; simp at hl2)
        rw [hl2] at hown5 ⊢
        have kO5 := (hbel5.block NO (Nat.lt_succ_self NO)).trans HKO.out
        have kT5 := (hbel5.block NT (Nat.lt_of_lt_of_le HTO.out (Nat.le_succ NO))).trans HKT.out
        have y2 : w5.cell? ⟨NO, 2, none⟩ = some (.slice ao5 j c5) := Go.Joins.cell_of_block kO5 2
        have g2 : w5.frozen? ⟨NO, 2, none⟩ = false := Go.Joins.unfrozen_of_block kO5 2
        have kOs := Go.Joins.block_setCell (i := 2) kO5 (.slice (some ⟨b5, 0, none⟩) (j + 1) c6)
        have hRs := rows_set hown5 ⟨NO, 2, none⟩ (.slice (some ⟨b5, 0, none⟩) (j + 1) c6) (Nat.lt_succ_self NO)
        have kTs := (Below.heap_setCell w5 ⟨NO, 2, none⟩ (.slice (some ⟨b5, 0, none⟩) (j + 1) c6) _ (Nat.ne_of_lt HTO.out)).trans kT5
        have hB5 : Below w.heap.size w (w5.setCell ⟨NO, 2, none⟩ (.slice (some ⟨b5, 0, none⟩) (j + 1) c6)) := (HB.out.trans (hbel5.mono (by have := HNO.out; omega))).setCell (by have := HNO.out; simp; omega) _
        have HF := hid (And.intro kOs (And.intro hRs (And.intro kTs hB5)))
        clear hown5 hbel5 ho5 hl2 kO5 kT5 kOs hRs kTs hB5 hb5
        go_wp2
        go_roundw
        case rel => exact ⟨j + 1, by omega, by go_num, some ⟨b5, 0, none⟩, c6, HF.out.1, HF.out.2.1, HF.out.2.2.1, HF.out.2.2.2⟩
        case measure => simp [intOf]; omega
    · have hj2 : j = n := by omega
      subst hj2
      have e1 : (zs.take j).map (fillX st) = fillL zs st := by rw [← HZn.out, List.take_length]; rfl
      have hlen : (fillL zs st).length = j := by rw [fill_len, HZn.out]
      rw [e1] at hR
      have hRl : wr.ownsRow (NO + 1) 2 1 (.slice ao5 j c5) (fillL zs st).length ((fillL zs st).map (Value.int .i64)) := by rw [hlen]; exact hR
      obtain ⟨b0, hb0, hown⟩ := Own.of hRl
      have c0 : wr.cell? ⟨NO, 0, none⟩ = some (.int .i64 s) := Go.Joins.cell_of_block kO 0
      have c1 : wr.cell? ⟨NO, 1, none⟩ = some (.int .i64 r) := Go.Joins.cell_of_block kO 1
      have c2 : wr.cell? ⟨NO, 2, none⟩ = some (.slice ao5 j c5) := Go.Joins.cell_of_block kO 2
      have HC := hid (And.intro c0 (And.intro c1 c2))
      have HO2 := hid hown
      have HB0 := hid hbel
      have HKT5 := hid kT
      have HKO5 := hid kO
      have HLN := hid hlen
      have HNOb := hid hb0
      clear hRl hown hR kT hbel hlt e1 c0 c1 c2 hlen kO hb0
      go_wp2_with fail
      go_at_call 70
      refine (Spec.is HO2.out.rd HC.out.1 HC.out.2.1 HC.out.2.2).mono ?_
      rw [HV.out]
      rintro e w6 ⟨rfl, hm2⟩
      have bel : Below wr.heap.size wr w6 := by obtain ⟨m, rfl⟩ := hm2; exact Spec.below_drewN' _ _ _
      clear hm2
      have HB := hid (HB0.out.trans (bel.mono HB0.out.size))
      have HO := hid (HO2.out.keep bel)
      have kT := heap_keep bel HKT5.out
      have kO := heap_keep bel HKO5.out
      clear bel HO2 HB0 HKT5 HKO5 kO
      have y0 : w6.cell? ⟨NT, 0, none⟩ = some (.int .i64 0) := Go.Joins.cell_of_block kT 0
      have y1 : w6.cell? ⟨NT, 1, none⟩ = some (.int .i64 0) := Go.Joins.cell_of_block kT 1
      have y2 : w6.cell? ⟨NT, 2, none⟩ = some (.slice none 0 0) := Go.Joins.cell_of_block kT 2
      have g0 : w6.frozen? ⟨NT, 0, none⟩ = false := Go.Joins.unfrozen_of_block kT 0
      have g1 : w6.frozen? ⟨NT, 1, none⟩ = false := Go.Joins.unfrozen_of_block kT 1
      have g2 : w6.frozen? ⟨NT, 2, none⟩ = false := Go.Joins.unfrozen_of_block kT 2
      have HKx := hid kT
      clear kT
      go_wp2
      obtain ⟨W5, hW⟩ : ∃ W5, W5 = (((w6.setCell ⟨NT, 0, none⟩ (.int .i64 0)).setCell ⟨NT, 1, none⟩ (.int .i64 0)).setCell ⟨NT, 2, none⟩ (.slice none 0 0)) := ⟨_, rfl⟩
      have q0 := (Go.Joins.block_setCell (i := 2) (Go.Joins.block_setCell (i := 1) (Go.Joins.block_setCell (i := 0) HKx.out (.int .i64 0)) (.int .i64 0)) (.slice none 0 0))
      rw [← hW] at q0
      have z0 : W5.cell? ⟨NT, 0, none⟩ = some (.int .i64 0) := Go.Joins.cell_of_block q0 0
      have z1 : W5.cell? ⟨NT, 1, none⟩ = some (.int .i64 0) := Go.Joins.cell_of_block q0 1
      have z2 : W5.cell? ⟨NT, 2, none⟩ = some (.slice none 0 0) := Go.Joins.cell_of_block q0 2
      have B5 : Below w.heap.size w W5 := by
        have h1 := HNT.out
        rw [hW]
        exact ((HB.out.setCell (by simp; omega) _).setCell (by simp; omega) _).setCell (by simp; omega) _
      simp only [← hW]
      clear hW q0
      simp [bodyPost, results, Try.results33, go_sem, z0, z1, z2]
      exact B5

set_option maxHeartbeats 8000000 in
set_option maxRecDepth 8000 in
theorem specO {w : World} {s r st : Int} {n b : Nat} {v : Value} {zs : List Int} (h : Rd w b v zs) (hz : zs.length ≤ 1048576) (hzn : zs.length = n) (h1 : 2 ≤ s ∧ s ≤ 3) (h2 : 0 ≤ r ∧ r ≤ 2) (h3 : (zs.length : Int) = s ^ (2 * r + 1).toNat) (h4 : 0 ≤ st ∧ st ≤ s - 1) (hv : validB s r (fillL zs st) = true) :
    Calls Try.prog 33 #[.int .i64 s, .int .i64 r, v, .int .i64 st] w fun e w' => ∃ b' k, e = .returned (.tuple #[ruleV s r (.slice (some ⟨b', 0, none⟩) n k), .bool true]) ∧ Own 2 w' b' (.slice (some ⟨b', 0, none⟩) n k) (fillL zs st) ∧ w.heap.size ≤ b' ∧ Below w.heap.size w w' := by
  have H1 : Hid (decide (2 ≤ s ∧ s ≤ 3) = true) := decide_eq_true h1
  have H2 : Hid (decide (0 ≤ r ∧ r ≤ 2) = true) := decide_eq_true h2
  have HZn : Hid (zs.length = n) := hzn
  have hn : n ≤ 1048576 := by have := HZn.out; omega
  have HPw := hid (fun (ww : World) => power3I (w := ww) (k := 2 * r + 1) h1 ⟨by omega, by omega⟩)
  have hw1 : wrap64 (2 * r) = 2 * r := wrap_id (by omega) (by omega)
  have hw2 : wrap64 (2 * r + 1) = 2 * r + 1 := wrap_id (by omega) (by omega)
  rw [hzn] at h3
  obtain ⟨P, hP⟩ : ∃ P, P = s ^ (2 * r + 1).toNat := ⟨_, rfl⟩
  have HPq := hid hP
  rw [← hP] at h3
  have hne : ((n : Int) != P) = false := by simpa using h3
  have hw3 : wrap64 (s - 1) = s - 1 := wrap_id (by omega) (by omega)
  have H4 : Hid (decide (0 ≤ st ∧ st ≤ s - 1) = true) := decide_eq_true h4
  have HV := hid hv
  have hn1 : 1 ≤ n := by
    have := valid_nil (s := s) (r := r) (zs := fillL zs st)
    rcases Nat.eq_zero_or_pos n with h0 | h0
    · rw [this (by rw [fill_len, hzn]; exact h0)] at hv; cases hv
    · exact h0
  have HH := hid h
  obtain ⟨ao, cap, rfl, hc, hm, h4c⟩ := h
  rw [HZn.out] at HH hc h4c ⊢
  have HC4 := hid h4c
  have hcap : cap ≤ 9223372036854775807 := by unfold maxLen at hm; omega
  clear hm hz hzn h4c h1 h2 h3 hP h4 hv
  go_enter Try.func33, Try.ntmps33
  go_wp2_with fail
  obtain ⟨w1, hW⟩ : ∃ w1, w1 = w.alloc (Obj.cells #[.int .i64 0, .int .i64 0, .slice none 0 0] 44) := ⟨_, rfl⟩
  obtain ⟨NT, hT⟩ : ∃ NT, NT = w.heap.size := ⟨_, rfl⟩
  have bw : Below w.heap.size w w1 := by rw [hW]; exact below1 _ _
  have kT : w1.heap[NT]? = some (Obj.cells #[.int .i64 0, .int .i64 0, .slice none 0 0] 44) := by rw [hW]; exact FNew.heap_top hT
  have HNT : Hid (w.heap.size ≤ NT) := by simp only [Hid]; omega
  simp only [← hW, ← hT]
  clear hW hT
  go_at_call 55
  refine (inB (lo := 2) (hi := 3)).mono ?_
  rw [H1.out]
  rintro e w2 ⟨rfl, rfl⟩
  go_wp2_with fail
  go_at_call 55
  refine (inB (lo := 0) (hi := 2)).mono ?_
  rw [H2.out]
  rintro e w2 ⟨rfl, rfl⟩
  go_wp2_with fail
  go_at_call 69
  refine (HPw.out _).mono ?_
  rw [← HPq.out]
  rintro e w2 ⟨rfl, rfl⟩
  go_wp2_with fail
  go_at_call 55
  refine (inB (lo := 0) (hi := s - 1)).mono ?_
  rw [H4.out]
  rintro e w2 ⟨rfl, rfl⟩
  go_wp2_with fail
  obtain ⟨w4, hW⟩ : ∃ w4, w4 = w1.alloc (Obj.cells #[.int .i64 s, .int .i64 r, .slice none 0 0] 44) := ⟨_, rfl⟩
  obtain ⟨NO, hN⟩ : ∃ NO, NO = w1.heap.size := ⟨_, rfl⟩
  have bel : Below w1.heap.size w1 w4 := by rw [hW]; exact below1 _ _
  have HKO : Hid (w4.heap[NO]? = some (Obj.cells #[.int .i64 s, .int .i64 r, .slice none 0 0] 44)) := by simp only [Hid]; rw [hW]; exact FNew.heap_top hN
  have HTO : Hid (NT < NO) := by simp only [Hid]; rw [hN]; exact heap_lt kT
  have HNO : Hid (w.heap.size ≤ NO) := by simp only [Hid]; rw [hN]; exact bw.size
  have HKT4 := hid (heap_keep bel kT)
  have HB4 := hid (bw.trans (bel.mono bw.size))
  simp only [← hW, ← hN]
  clear hW hN bel kT bw
  go_loopw [44] (fun t wr => ∃ j : Nat, j ≤ n ∧ t = .int .i64 (j : Int) ∧ ∃ ao5 c5, wr.heap[NO]? = some (Obj.cells #[.int .i64 s, .int .i64 r, .slice ao5 j c5] 44) ∧ wr.ownsRow (NO + 1) 2 1 (.slice ao5 j c5) j (((zs.take j).map (fillX st)).map (Value.int .i64)) ∧ wr.heap[NT]? = some (Obj.cells #[.int .i64 0, .int .i64 0, .slice none 0 0] 44) ∧ Below w.heap.size w wr) (fun t _ => n - (intOf t).toNat)
  case atStart => exact ⟨0, Nat.zero_le _, rfl, none, 0, HKO.out, by simpa using World.ownsRow_nil w4 (NO + 1) 2 1, HKT4.out, HB4.out⟩
  case round =>
    clear HKO HKT4 HB4
    obtain ⟨j, hj, rfl, ao5, c5, kO, hR, kT, hbel⟩ := hrel
    by_cases hlt : j < n
    · obtain ⟨off, hao, hb, hcell⟩ := HC4.out (by omega)
      have hjz : j < zs.length := by rw [HZn.out]; exact hlt
      have hji : (j : Int) < (n : Int) := by omega
      obtain ⟨x, hx⟩ : ∃ x, x = zs.getD j 0 := ⟨_, rfl⟩
      have hox : wr.cell? ⟨b, off + j, none⟩ = some (.int .i64 x) := by rw [hx]; exact (hbel.cell (p := ⟨b, off + j, none⟩) hb).trans (hcell j hlt)
      have c2 : wr.cell? ⟨NO, 2, none⟩ = some (.slice ao5 j c5) := Go.Joins.cell_of_block kO 2
      have HKO := hid kO
      have HKT := hid kT
      have HR := hid hR
      have HB := hid hbel
      have HX := hid hx
      have HJZ := hid hjz
      have HOlt := hid (heap_lt kO)
      subst hao
      clear hb hcell kO kT hR hbel hx hjz
      by_cases hx1 : x = -1
      · have hq : (x == -1) = true := by simpa using hx1
        have HY : Hid (fillX st (zs.getD j 0) = st) := by simp only [Hid]; rw [← HX.out, fillX, if_pos hx1]
        clear hx1
        obtain ⟨ts, hts⟩ : ∃ ts, ts = (zs.take j).map (fillX st) := ⟨_, rfl⟩
        have HTS := hid hts
        have hlen1 : ts.length = j := by rw [hts]; simp; have := HJZ.out; omega
        have hRl : wr.ownsRow (NO + 1) 2 1 (.slice ao5 j c5) ts.length (ts.map (Value.int .i64)) := by rw [hlen1, hts]; exact HR.out
        have HRl := hid hRl
        have HL1 := hid hlen1
        clear hRl hlen1 hts
        go_wp2_with (first | (at_builtin; refine App.append1 rfl _ _ rfl (NO + 1) _ _ rfl HRl.out st rfl ?c1 ?c2 ?_) | go_in)
        case c1 => rw [HL1.out]; omega
        case c2 => exact HOlt.out
        intro v' w5 hown5 hbel5
        rw [show ts.length + 1 = (ts ++ [st]).length by simp, show (List.map (Value.int IntKind.i64) ts ++ [Value.int IntKind.i64 st]) = (ts ++ [st]).map (Value.int IntKind.i64) by simp, HTS.out] at hown5
        rw [show (zs.take j).map (fillX st) ++ [st] = (zs.take (j + 1)).map (fillX st) by rw [map_take_succ HJZ.out, HY.out]] at hown5
        have hl2 : ((zs.take (j + 1)).map (fillX st)).length = j + 1 := by simp; have := HJZ.out; omega
        obtain ⟨b5, hb5, ho5⟩ := Own.of hown5
        rcases ho5.form with ⟨_, he⟩ | ⟨c6, rfl, _, _, _⟩
        · exact absurd he (by intro e; rw [e] at hl2; simp at hl2)
        rw [hl2] at hown5 ⊢
        have kO5 := (hbel5.block NO (Nat.lt_succ_self NO)).trans HKO.out
        have kT5 := (hbel5.block NT (Nat.lt_of_lt_of_le HTO.out (Nat.le_succ NO))).trans HKT.out
        have y2 : w5.cell? ⟨NO, 2, none⟩ = some (.slice ao5 j c5) := Go.Joins.cell_of_block kO5 2
        have g2 : w5.frozen? ⟨NO, 2, none⟩ = false := Go.Joins.unfrozen_of_block kO5 2
        have kOs := Go.Joins.block_setCell (i := 2) kO5 (.slice (some ⟨b5, 0, none⟩) (j + 1) c6)
        have hRs := rows_set hown5 ⟨NO, 2, none⟩ (.slice (some ⟨b5, 0, none⟩) (j + 1) c6) (Nat.lt_succ_self NO)
        have kTs := (Below.heap_setCell w5 ⟨NO, 2, none⟩ (.slice (some ⟨b5, 0, none⟩) (j + 1) c6) _ (Nat.ne_of_lt HTO.out)).trans kT5
        have hB5 : Below w.heap.size w (w5.setCell ⟨NO, 2, none⟩ (.slice (some ⟨b5, 0, none⟩) (j + 1) c6)) := (HB.out.trans (hbel5.mono (by have := HNO.out; omega))).setCell (by have := HNO.out; simp; omega) _
        have HF := hid (And.intro kOs (And.intro hRs (And.intro kTs hB5)))
        clear hown5 hbel5 ho5 hl2 kO5 kT5 kOs hRs kTs hB5 hb5
        go_wp2
        go_roundw
        case rel => exact ⟨j + 1, by omega, by go_num, some ⟨b5, 0, none⟩, c6, HF.out.1, HF.out.2.1, HF.out.2.2.1, HF.out.2.2.2⟩
        case measure => simp [intOf]; omega
      · have hq : (x == -1) = false := by simpa using hx1
        have HY : Hid (fillX st (zs.getD j 0) = x) := by simp only [Hid]; rw [← HX.out, fillX, if_neg hx1]
        clear hx1
        obtain ⟨ts, hts⟩ : ∃ ts, ts = (zs.take j).map (fillX st) := ⟨_, rfl⟩
        have HTS := hid hts
        have hlen1 : ts.length = j := by rw [hts]; simp; have := HJZ.out; omega
        have hRl : wr.ownsRow (NO + 1) 2 1 (.slice ao5 j c5) ts.length (ts.map (Value.int .i64)) := by rw [hlen1, hts]; exact HR.out
        have HRl := hid hRl
        have HL1 := hid hlen1
        clear hRl hlen1 hts
        go_wp2_with (first | (at_builtin; refine App.append1 rfl _ _ rfl (NO + 1) _ _ rfl HRl.out x rfl ?c1 ?c2 ?_) | go_in)
        case c1 => rw [HL1.out]; omega
        case c2 => exact HOlt.out
        intro v' w5 hown5 hbel5
        rw [show ts.length + 1 = (ts ++ [x]).length by simp, show (List.map (Value.int IntKind.i64) ts ++ [Value.int IntKind.i64 x]) = (ts ++ [x]).map (Value.int IntKind.i64) by simp, HTS.out] at hown5
        rw [show (zs.take j).map (fillX st) ++ [x] = (zs.take (j + 1)).map (fillX st) by rw [map_take_succ HJZ.out, HY.out]] at hown5
        have hl2 : ((zs.take (j + 1)).map (fillX st)).length = j + 1 := by simp; have := HJZ.out; omega
        obtain ⟨b5, hb5, ho5⟩ := Own.of hown5
        rcases ho5.form with ⟨_, he⟩ | ⟨c6, rfl, _, _, _⟩
        · exact absurd he (by intro e; rw [e] at hl2; simp at hl2)
        rw [hl2] at hown5 ⊢
        have kO5 := (hbel5.block NO (Nat.lt_succ_self NO)).trans HKO.out
        have kT5 := (hbel5.block NT (Nat.lt_of_lt_of_le HTO.out (Nat.le_succ NO))).trans HKT.out
        have y2 : w5.cell? ⟨NO, 2, none⟩ = some (.slice ao5 j c5) := Go.Joins.cell_of_block kO5 2
        have g2 : w5.frozen? ⟨NO, 2, none⟩ = false := Go.Joins.unfrozen_of_block kO5 2
        have kOs := Go.Joins.block_setCell (i := 2) kO5 (.slice (some ⟨b5, 0, none⟩) (j + 1) c6)
        have hRs := rows_set hown5 ⟨NO, 2, none⟩ (.slice (some ⟨b5, 0, none⟩) (j + 1) c6) (Nat.lt_succ_self NO)
        have kTs := (Below.heap_setCell w5 ⟨NO, 2, none⟩ (.slice (some ⟨b5, 0, none⟩) (j + 1) c6) _ (Nat.ne_of_lt HTO.out)).trans kT5
        have hB5 : Below w.heap.size w (w5.setCell ⟨NO, 2, none⟩ (.slice (some ⟨b5, 0, none⟩) (j + 1) c6)) := (HB.out.trans (hbel5.mono (by have := HNO.out; omega))).setCell (by have := HNO.out; simp; omega) _
        have HF := hid (And.intro kOs (And.intro hRs (And.intro kTs hB5)))
        clear hown5 hbel5 ho5 hl2 kO5 kT5 kOs hRs kTs hB5 hb5
        go_wp2
        go_roundw
        case rel => exact ⟨j + 1, by omega, by go_num, some ⟨b5, 0, none⟩, c6, HF.out.1, HF.out.2.1, HF.out.2.2.1, HF.out.2.2.2⟩
        case measure => simp [intOf]; omega
    · have hj2 : j = n := by omega
      subst hj2
      have e1 : (zs.take j).map (fillX st) = fillL zs st := by rw [← HZn.out, List.take_length]; rfl
      have hlen : (fillL zs st).length = j := by rw [fill_len, HZn.out]
      rw [e1] at hR
      have hRl : wr.ownsRow (NO + 1) 2 1 (.slice ao5 j c5) (fillL zs st).length ((fillL zs st).map (Value.int .i64)) := by rw [hlen]; exact hR
      obtain ⟨b0, hb0, hown⟩ := Own.of hRl
      have c0 : wr.cell? ⟨NO, 0, none⟩ = some (.int .i64 s) := Go.Joins.cell_of_block kO 0
      have c1 : wr.cell? ⟨NO, 1, none⟩ = some (.int .i64 r) := Go.Joins.cell_of_block kO 1
      have c2 : wr.cell? ⟨NO, 2, none⟩ = some (.slice ao5 j c5) := Go.Joins.cell_of_block kO 2
      have HC := hid (And.intro c0 (And.intro c1 c2))
      have HO2 := hid hown
      have HB0 := hid hbel
      have HKT5 := hid kT
      have HKO5 := hid kO
      have HLN := hid hlen
      have HNOb := hid hb0
      clear hRl hown hR kT hbel hlt e1 c0 c1 c2 hlen kO hb0
      go_wp2_with fail
      go_at_call 70
      refine (Spec.is HO2.out.rd HC.out.1 HC.out.2.1 HC.out.2.2).mono ?_
      rw [HV.out]
      rintro e w6 ⟨rfl, hm2⟩
      have bel : Below wr.heap.size wr w6 := by obtain ⟨m, rfl⟩ := hm2; exact Spec.below_drewN' _ _ _
      clear hm2
      have HB := hid (HB0.out.trans (bel.mono HB0.out.size))
      have HO := hid (HO2.out.keep bel)
      have kT := heap_keep bel HKT5.out
      have kO := heap_keep bel HKO5.out
      rcases HO.out.form with ⟨_, he⟩ | ⟨c6, hv6, _, _, _⟩
      · exact absurd he (by intro e; have := HLN.out; rw [e] at this; simp at this; omega)
      have hsl : (Value.slice ao5 j c5) = .slice (some ⟨b0, 0, none⟩) j c5 := by cases hv6; rfl
      have HO3 : Hid (Own 2 w6 b0 (.slice (some ⟨b0, 0, none⟩) j c5) (fillL zs st)) := by simp only [Hid]; rw [← hsl]; exact HO.out
      rw [hsl] at kO
      have c0 : w6.cell? ⟨NO, 0, none⟩ = some (.int .i64 s) := Go.Joins.cell_of_block kO 0
      have c1 : w6.cell? ⟨NO, 1, none⟩ = some (.int .i64 r) := Go.Joins.cell_of_block kO 1
      have c2 : w6.cell? ⟨NO, 2, none⟩ = some (.slice (some ⟨b0, 0, none⟩) j c5) := Go.Joins.cell_of_block kO 2
      have HLo : Hid (w.heap.size ≤ b0) := by simp only [Hid]; have := HNOb.out; have := HNO.out; omega
      have HNB : Hid (NT ≠ b0) := by simp only [Hid]; have := HNOb.out; have := HTO.out; omega
      clear bel HO2 HB0 HKT5 HKO5 kO HO hv6 hsl HC HLN
      have y0 : w6.cell? ⟨NT, 0, none⟩ = some (.int .i64 0) := Go.Joins.cell_of_block kT 0
      have y1 : w6.cell? ⟨NT, 1, none⟩ = some (.int .i64 0) := Go.Joins.cell_of_block kT 1
      have y2 : w6.cell? ⟨NT, 2, none⟩ = some (.slice none 0 0) := Go.Joins.cell_of_block kT 2
      have g0 : w6.frozen? ⟨NT, 0, none⟩ = false := Go.Joins.unfrozen_of_block kT 0
      have g1 : w6.frozen? ⟨NT, 1, none⟩ = false := Go.Joins.unfrozen_of_block kT 1
      have g2 : w6.frozen? ⟨NT, 2, none⟩ = false := Go.Joins.unfrozen_of_block kT 2
      have HKx := hid kT
      clear kT
      go_wp2
      obtain ⟨W5, hW⟩ : ∃ W5, W5 = (((w6.setCell ⟨NT, 0, none⟩ (.int .i64 s)).setCell ⟨NT, 1, none⟩ (.int .i64 r)).setCell ⟨NT, 2, none⟩ (.slice (some ⟨b0, 0, none⟩) j c5)) := ⟨_, rfl⟩
      have q0 := (Go.Joins.block_setCell (i := 2) (Go.Joins.block_setCell (i := 1) (Go.Joins.block_setCell (i := 0) HKx.out (.int .i64 s)) (.int .i64 r)) (.slice (some ⟨b0, 0, none⟩) j c5))
      rw [← hW] at q0
      have z0 : W5.cell? ⟨NT, 0, none⟩ = some (.int .i64 s) := Go.Joins.cell_of_block q0 0
      have z1 : W5.cell? ⟨NT, 1, none⟩ = some (.int .i64 r) := Go.Joins.cell_of_block q0 1
      have z2 : W5.cell? ⟨NT, 2, none⟩ = some (.slice (some ⟨b0, 0, none⟩) j c5) := Go.Joins.cell_of_block q0 2
      have O5 := (own_set (own_set (own_set HO3.out ⟨NT, 0, none⟩ (.int .i64 s) HNB.out) ⟨NT, 1, none⟩ (.int .i64 r) HNB.out) ⟨NT, 2, none⟩ (.slice (some ⟨b0, 0, none⟩) j c5) HNB.out)
      rw [← hW] at O5
      have B5 : Below w.heap.size w W5 := by
        have h1 := HNT.out
        rw [hW]
        exact ((HB.out.setCell (by simp; omega) _).setCell (by simp; omega) _).setCell (by simp; omega) _
      simp only [← hW]
      clear hW q0
      simp [bodyPost, results, Try.results33, go_sem, z0, z1, z2]
      exact ⟨b0, c5, ⟨rfl, rfl⟩, O5, HLo.out, B5⟩

theorem agree (s r : Int) (zs : List Int) (st : Int) (hz : zs.length ≤ 1048576) : ∃ (qs qr : Int) (rs : List Int) (ok : Bool), rs.length ≤ 1000000 ∧
    (∀ (w : World) (b : Nat) (v : Value), Rd w b v zs → Calls Try.prog 33 #[.int .i64 s, .int .i64 r, v, .int .i64 st] w fun e w' => ∃ ao c b', e = .returned (.tuple #[ruleV qs qr (.slice ao rs.length c), .bool ok]) ∧ Own 2 w' b' (.slice ao rs.length c) rs ∧ w.heap.size ≤ b' ∧ Below w.heap.size w w') ∧
    (∀ (w : World) (b : Nat) (v : Value), Rd w b v zs → Calls Try.prog 34 #[.int .i64 s, .int .i64 r, v, .int .i64 st] w fun e w' => ∃ ao c b', e = .returned (.tuple #[ruleV qs qr (.slice ao rs.length c), .bool ok]) ∧ Own 2 w' b' (.slice ao rs.length c) rs ∧ w.heap.size ≤ b' ∧ Below w.heap.size w w') := by
  have none_ : (∀ (w : World) (b : Nat) (v : Value), Rd w b v zs → Calls Try.prog 33 #[.int .i64 s, .int .i64 r, v, .int .i64 st] w fun e w' => e = .returned (.tuple #[ruleV 0 0 (.slice none 0 0), .bool false]) ∧ Below w.heap.size w w') → (∀ (w : World) (b : Nat) (v : Value), Rd w b v zs → Calls Try.prog 34 #[.int .i64 s, .int .i64 r, v, .int .i64 st] w fun e w' => e = .returned (.tuple #[ruleV 0 0 (.slice none 0 0), .bool false]) ∧ Below w.heap.size w w') → ∃ (qs qr : Int) (rs : List Int) (ok : Bool), rs.length ≤ 1000000 ∧
    (∀ (w : World) (b : Nat) (v : Value), Rd w b v zs → Calls Try.prog 33 #[.int .i64 s, .int .i64 r, v, .int .i64 st] w fun e w' => ∃ ao c b', e = .returned (.tuple #[ruleV qs qr (.slice ao rs.length c), .bool ok]) ∧ Own 2 w' b' (.slice ao rs.length c) rs ∧ w.heap.size ≤ b' ∧ Below w.heap.size w w') ∧
    (∀ (w : World) (b : Nat) (v : Value), Rd w b v zs → Calls Try.prog 34 #[.int .i64 s, .int .i64 r, v, .int .i64 st] w fun e w' => ∃ ao c b', e = .returned (.tuple #[ruleV qs qr (.slice ao rs.length c), .bool ok]) ∧ Own 2 w' b' (.slice ao rs.length c) rs ∧ w.heap.size ≤ b' ∧ Below w.heap.size w w') := by
    intro h1 h2
    refine ⟨0, 0, [], false, by simp, fun w b v k1 => (h1 w b v k1).mono ?_, fun w b v k1 => (h2 w b v k1).mono ?_⟩
    · rintro e w' ⟨rfl, bel⟩
      exact ⟨none, 0, w.heap.size, rfl, Own.nil _ _ _, Nat.le_refl _, bel⟩
    · rintro e w' ⟨rfl, bel⟩
      exact ⟨none, 0, w.heap.size, rfl, Own.nil _ _ _, Nat.le_refl _, bel⟩
  have ino : ¬ ((2 ≤ s ∧ s ≤ 3) ∧ (0 ≤ r ∧ r ≤ 2) ∧ (zs.length : Int) = s ^ (2 * r + 1).toNat ∧ (0 ≤ st ∧ st ≤ s - 1) ∧ validB s r (fillL zs st) = true) → (∀ (w : World) (b : Nat) (v : Value), Rd w b v zs → Calls Try.prog 34 #[.int .i64 s, .int .i64 r, v, .int .i64 st] w fun e w' => e = .returned (.tuple #[ruleV 0 0 (.slice none 0 0), .bool false]) ∧ Below w.heap.size w w') := by
    intro hg
    refine fun w b v k => ?_
    rcases Nat.eq_zero_or_pos zs.length with h0 | h0
    · exact implE k hz h0
    · cases hv : validB s r (fillL zs st) with
      | false => exact implV k hz h0 hv
      | true =>
        have hv' := valid_st hv
        rw [fill_len] at hv'
        exact implS k hz h0 hv (fun hs => hg ⟨⟨hv'.1, hv'.2.1⟩, ⟨hv'.2.2.1, hv'.2.2.2.1⟩, hv'.2.2.2.2, hs, hv⟩)
  by_cases h1 : 2 ≤ s ∧ s ≤ 3
  · by_cases h2 : 0 ≤ r ∧ r ≤ 2
    · by_cases h3 : (zs.length : Int) = s ^ (2 * r + 1).toNat
      · by_cases h4 : 0 ≤ st ∧ st ≤ s - 1
        · cases hv : validB s r (fillL zs st) with
          | false => exact none_ (fun w b v k1 => specV k1 hz h1 h2 h3 h4 hv) (ino (fun hg => by rw [hv] at hg; cases hg.2.2.2.2))
          | true =>
            have hlen : (fillL zs st).length = zs.length := fill_len _ _
            have h32 : zs.length ≤ 1000000 := by
              rcases (show s = 2 ∨ s = 3 by omega) with rfl | rfl <;> rcases (show r = 0 ∨ r = 1 ∨ r = 2 by omega) with rfl | rfl | rfl <;> simp at h3 <;> omega
            refine ⟨s, r, fillL zs st, true, by omega, fun w b v k1 => (specO k1 hz rfl h1 h2 h3 h4 hv).mono ?_, fun w b v k1 => (implO k1 hz rfl hv h4).mono ?_⟩
            · rintro e w' ⟨b', c, rfl, ow, lo, bel⟩
              exact ⟨some ⟨b', 0, none⟩, c, b', by rw [hlen], by rw [hlen]; exact ow, lo, bel⟩
            · rintro e w' ⟨b', c, rfl, ow, lo, bel⟩
              exact ⟨some ⟨b', 0, none⟩, c, b', by rw [hlen], by rw [hlen]; exact ow, lo, bel⟩
        · exact none_ (fun w b v k1 => spec4 k1 hz h1 h2 h3 h4) (ino (fun hg => h4 hg.2.2.2.1))
      · exact none_ (fun w b v k1 => spec3 k1 hz h1 h2 h3) (ino (fun hg => h3 hg.2.2.1))
    · exact none_ (fun w b v k1 => spec2 k1 hz h1 h2) (ino (fun hg => h2 hg.2.1))
  · exact none_ (fun w b v k1 => spec1 k1 hz h1) (ino (fun hg => h1 hg.1))


end Go.Proofs.Ythcbhbdgbiiagaa.Fil
