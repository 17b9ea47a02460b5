/- RuleOfNumber of both sides. -/
import Derived.Test.YtonghkooncmjgaaTelQ
import Derived.Test.YtonghkooncmjgaaApp
import Derived.Test.YtonghkooncmjgaaWeiQ
import Derived.BigQuiet
namespace Go.Proofs.Ytonghkooncmjgaa.Numb
open Go.RowKit Go.Proofs.Ytonghkooncmjgaa.Rd Go.Proofs.Ytonghkooncmjgaa.Help Go.Proofs.Ytonghkooncmjgaa.App Go.Proofs.Ytonghkooncmjgaa.Ring Go.Proofs.Ytonghkooncmjgaa.Small Go.Proofs.Ytonghkooncmjgaa.Num Go.Proofs.Ytonghkooncmjgaa.Keep Go.Proofs.Ytonghkooncmjgaa.Rule Go.Proofs.Ytonghkooncmjgaa.Dig Go.Proofs.Ytonghkooncmjgaa.DigP Go.Proofs.Ytonghkooncmjgaa.Tell
set_option linter.unusedVariables false
set_option linter.unusedSimpArgs false

def bitT (a : Int) (k : Nat) : Int := bits BinOp.and IntKind.i64 (a / 2 ^ k) 1

set_option maxHeartbeats 2000000 in
theorem closure {w : World} {p k : Nat} {a : Int} {b : Nat} (c0 : w.cell? ⟨p, 0, none⟩ = some (.int .i64 a)) (ha : 0 ≤ a ∧ a ≤ 255) (hk : k < 8) (h : Own 2 w b (.slice (some ⟨b, 0, none⟩) 3 3) (dig 2 k 3)) :
    Calls Try.prog 160 #[.slice (some ⟨b, 0, none⟩) 3 3, .pointer (some ⟨p, 0, none⟩)] w fun e w' => e = .returned (.int .i64 (bitT a k)) ∧ ∃ m, w' = w.drewN m := by
  have hq : ∀ m, Calls Try.prog 161 #[.slice (some ⟨b, 0, none⟩) 3 3, .int .i64 2] (w.drewN m) (fun e w' => e = .returned (.int .i64 k) ∧ w' = w.drewN m) := fun m =>
    (implNumber (s := 2) (h.keep (Go.Proofs.Ytonghkooncmjgaa.Help.below_drewN _ _ _)).rd (by omega) (by rw [dig_length]; omega) (dig_all (by omega) _ _)).mono (by rintro e w' ⟨rfl, rfl⟩; exact ⟨by rw [numL_dig_lt (by omega) (by omega) (by omega)], rfl⟩)
  obtain ⟨a1, a2⟩ := ha
  clear h
  obtain ⟨K, hK⟩ : ∃ K : Int, K = k := ⟨_, rfl⟩
  rw [← hK] at hq
  have HB : Hid (bitT a k = bitT a K.toNat) := by simp only [Hid]; rw [hK]; simp
  rcases (show K = 0 ∨ K = 1 ∨ K = 2 ∨ K = 3 ∨ K = 4 ∨ K = 5 ∨ K = 6 ∨ K = 7 by omega) with rfl | rfl | rfl | rfl | rfl | rfl | rfl | rfl
  all_goals
    clear hK hk
    go_enter Try.func160, Try.ntmps160
    go_wp2_with fail
    go_quiet (first | (go_at_call 161; refine Calls.quiet_of_same (hq _)))
    go_wp2
    go_ret
    refine ⟨?_, _, rfl⟩
    rw [HB.out]
    first | rfl | (change Ending.returned (Value.int IntKind.i64 (bits BinOp.and IntKind.i64 a 1)) = _; simp [bitT])


set_option maxHeartbeats 4000000 in
theorem implOk {w : World} {a : Int} (ha : 0 ≤ a ∧ a ≤ 255) :
    Calls Try.prog 86 #[.int .i64 a] w fun e w' => ∃ b', e = .returned (.tuple #[ruleV 2 1 (.slice (some ⟨b', 0, none⟩) 8 8), .bool true]) ∧
      Own 2 w' b' (.slice (some ⟨b', 0, none⟩) 8 8) (tab (bitT a) 8) ∧ w.heap.size ≤ b' ∧ Below w.heap.size w w' := by
  have HA := hid ha
  have HIN : Hid (decide (0 ≤ a ∧ a ≤ 255) = true) := decide_eq_true ha
  clear ha
  go_enter Try.func86, Try.ntmps86
  go_wp2_with fail
  obtain ⟨w1, hW⟩ : ∃ w1, w1 = (w.alloc (Obj.cells #[Value.int IntKind.i64 a] 2)).alloc (Obj.cells #[Value.int IntKind.i64 0, Value.int IntKind.i64 0, Value.slice none 0 0] 33) := ⟨_, rfl⟩
  obtain ⟨NP, hN⟩ : ∃ NP, NP = w.heap.size := ⟨_, rfl⟩
  obtain ⟨NT, hN1⟩ : ∃ NT, NT = NP + 1 := ⟨_, rfl⟩
  have b1 : Below w.heap.size w w1 := by rw [hW]; exact Go.Joins.below_alloc2 _ _ _
  have c0 : w1.cell? ⟨NP, 0, none⟩ = some (.int .i64 a) := by rw [hW]; exact cell_old (cell_top hN rfl)
  have kb : w1.heap[NT]? = some (Obj.cells #[.int .i64 0, .int .i64 0, .slice none 0 0] 33) := by rw [hW]; exact heap_top (by simp; omega)
  have HNT : Hid (w.heap.size ≤ NT) := by simp only [Hid]; omega
  have HB1 := hid b1
  have HKB := hid kb
  simp only [← hW, ← hN, ← hN1]
  clear hW hN hN1 b1 kb
  go_at_call 119
  refine isCountB.mono ?_
  rw [HIN.out]
  rintro e w2 ⟨rfl, rfl⟩
  have HC0 := hid c0
  go_wp2_with fail
  go_at_call 109
  refine (tellNumber (M := 8) (L := 3) (s := 2) (r := 1) (by omega) (by omega) (by decide) (by decide) (k0 := .pointer (some ⟨NP, 0, none⟩)) (bitT a) ?_).mono ?_
  · intro k hk wr b hb hbn ho
    have c0 := (hb.cell (World.block_lt_of_cell? _ _ HC0.out)).trans HC0.out
    refine (closure c0 HA.out hk ho).mono ?_
    rintro e w' ⟨rfl, m, rfl⟩
    exact ⟨rfl, Go.Proofs.Ytonghkooncmjgaa.Help.below_drewN _ _ _⟩
  rintro e w5 ⟨b', rfl, own, hbn, bel⟩
  have kb5 := (bel.block _ (Array.getElem?_eq_some_iff.1 HKB.out).1).trans HKB.out
  have HO := hid own
  have HNB : Hid (NT ≠ b') := Nat.ne_of_lt (Nat.lt_of_lt_of_le (Array.getElem?_eq_some_iff.1 HKB.out).1 hbn)
  have HLo := hid (Nat.le_trans HB1.out.size hbn)
  have HB := hid (HB1.out.trans (bel.mono HB1.out.size))
  clear own bel hbn c0
  have y0 : w5.cell? ⟨NT, 0, none⟩ = some (.int .i64 0) := Go.Joins.cell_of_block kb5 0
  have y1 : w5.cell? ⟨NT, 1, none⟩ = some (.int .i64 0) := Go.Joins.cell_of_block kb5 1
  have y2 : w5.cell? ⟨NT, 2, none⟩ = some (.slice none 0 0) := Go.Joins.cell_of_block kb5 2
  have g0 : w5.frozen? ⟨NT, 0, none⟩ = false := Go.Joins.unfrozen_of_block kb5 0
  have g1 : w5.frozen? ⟨NT, 1, none⟩ = false := Go.Joins.unfrozen_of_block kb5 1
  have g2 : w5.frozen? ⟨NT, 2, none⟩ = false := Go.Joins.unfrozen_of_block kb5 2
  have HKx := hid kb5
  clear kb5
  go_wp2
  obtain ⟨W5, hW⟩ : ∃ W5, W5 = (((w5.setCell ⟨NT, 0, none⟩ (.int .i64 2)).setCell ⟨NT, 1, none⟩ (.int .i64 1)).setCell ⟨NT, 2, none⟩ (.slice (some ⟨b', 0, none⟩) 8 8)) := ⟨_, rfl⟩
  have q0 := (Go.Joins.block_setCell (i := 2) (Go.Joins.block_setCell (i := 1) (Go.Joins.block_setCell (i := 0) HKx.out (.int .i64 2)) (.int .i64 1)) (.slice (some ⟨b', 0, none⟩) 8 8))
  rw [← hW] at q0
  have z0 : W5.cell? ⟨NT, 0, none⟩ = some (.int .i64 2) := Go.Joins.cell_of_block q0 0
  have z1 : W5.cell? ⟨NT, 1, none⟩ = some (.int .i64 1) := Go.Joins.cell_of_block q0 1
  have z2 : W5.cell? ⟨NT, 2, none⟩ = some (.slice (some ⟨b', 0, none⟩) 8 8) := Go.Joins.cell_of_block q0 2
  have O5 := (own_set (own_set (own_set HO.out ⟨NT, 0, none⟩ (.int .i64 2) HNB.out) ⟨NT, 1, none⟩ (.int .i64 1) HNB.out) ⟨NT, 2, none⟩ (.slice (some ⟨b', 0, none⟩) 8 8) HNB.out)
  rw [← hW] at O5
  have B5 : Below w.heap.size w W5 := by
    have h1 := HNT.out
    rw [hW]
    exact ((HB.out.setCell (by simp; omega) _).setCell (by simp; omega) _).setCell (by simp; omega) _
  simp only [← hW]
  clear hW q0
  simp [bodyPost, results, Try.results86, go_sem, z0, z1, z2]
  exact ⟨O5, HLo.out, B5⟩

set_option maxHeartbeats 4000000 in
theorem implNo {w : World} {a : Int} (ha : ¬ (0 ≤ a ∧ a ≤ 255)) :
    Calls Try.prog 86 #[.int .i64 a] w fun e w' => e = .returned (.tuple #[ruleV 0 0 (.slice none 0 0), .bool false]) ∧ Below w.heap.size w w' := by
  have HIN : Hid (decide (0 ≤ a ∧ a ≤ 255) = false) := decide_eq_false ha
  clear ha
  go_enter Try.func86, Try.ntmps86
  go_wp2_with fail
  obtain ⟨w1, hW⟩ : ∃ w1, w1 = (w.alloc (Obj.cells #[Value.int IntKind.i64 a] 2)).alloc (Obj.cells #[Value.int IntKind.i64 0, Value.int IntKind.i64 0, Value.slice none 0 0] 33) := ⟨_, rfl⟩
  obtain ⟨NP, hN⟩ : ∃ NP, NP = w.heap.size := ⟨_, rfl⟩
  obtain ⟨NT, hN1⟩ : ∃ NT, NT = NP + 1 := ⟨_, rfl⟩
  have b1 : Below w.heap.size w w1 := by rw [hW]; exact Go.Joins.below_alloc2 _ _ _
  have c0 : w1.cell? ⟨NP, 0, none⟩ = some (.int .i64 a) := by rw [hW]; exact cell_old (cell_top hN rfl)
  have kb : w1.heap[NT]? = some (Obj.cells #[.int .i64 0, .int .i64 0, .slice none 0 0] 33) := by rw [hW]; exact heap_top (by simp; omega)
  have HNT : Hid (w.heap.size ≤ NT) := by simp only [Hid]; omega
  have HB := hid b1
  simp only [← hW, ← hN, ← hN1]
  clear hW hN hN1 b1
  go_at_call 119
  refine isCountB.mono ?_
  rw [HIN.out]
  rintro e w2 ⟨rfl, rfl⟩
  have y0 : w1.cell? ⟨NT, 0, none⟩ = some (.int .i64 0) := Go.Joins.cell_of_block kb 0
  have y1 : w1.cell? ⟨NT, 1, none⟩ = some (.int .i64 0) := Go.Joins.cell_of_block kb 1
  have y2 : w1.cell? ⟨NT, 2, none⟩ = some (.slice none 0 0) := Go.Joins.cell_of_block kb 2
  have g0 : w1.frozen? ⟨NT, 0, none⟩ = false := Go.Joins.unfrozen_of_block kb 0
  have g1 : w1.frozen? ⟨NT, 1, none⟩ = false := Go.Joins.unfrozen_of_block kb 1
  have g2 : w1.frozen? ⟨NT, 2, none⟩ = false := Go.Joins.unfrozen_of_block kb 2
  have HKx := hid kb
  clear kb
  go_wp2
  obtain ⟨W5, hW⟩ : ∃ W5, W5 = (((w1.setCell ⟨NT, 0, none⟩ (.int .i64 0)).setCell ⟨NT, 1, none⟩ (.int .i64 0)).setCell ⟨NT, 2, none⟩ (.slice none 0 0)) := ⟨_, rfl⟩
  have q0 := (Go.Joins.block_setCell (i := 2) (Go.Joins.block_setCell (i := 1) (Go.Joins.block_setCell (i := 0) HKx.out (.int .i64 0)) (.int .i64 0)) (.slice none 0 0))
  rw [← hW] at q0
  have z0 : W5.cell? ⟨NT, 0, none⟩ = some (.int .i64 0) := Go.Joins.cell_of_block q0 0
  have z1 : W5.cell? ⟨NT, 1, none⟩ = some (.int .i64 0) := Go.Joins.cell_of_block q0 1
  have z2 : W5.cell? ⟨NT, 2, none⟩ = some (.slice none 0 0) := Go.Joins.cell_of_block q0 2
  have B5 : Below w.heap.size w W5 := by
    have h1 := HNT.out
    rw [hW]
    exact ((HB.out.setCell (by simp; omega) _).setCell (by simp; omega) _).setCell (by simp; omega) _
  simp only [← hW]
  clear hW q0
  simp [bodyPost, results, Try.results86, go_sem, z0, z1, z2]
  exact B5

set_option maxHeartbeats 4000000 in
theorem specNo {w : World} {a : Int} (ha : ¬ (0 ≤ a ∧ a ≤ 255)) :
    Calls Try.prog 85 #[.int .i64 a] w fun e w' => e = .returned (.tuple #[ruleV 0 0 (.slice none 0 0), .bool false]) ∧ Below w.heap.size w w' := by
  have HIN : Hid (decide (0 ≤ a ∧ a ≤ 255) = false) := decide_eq_false ha
  clear ha
  go_enter Try.func85, Try.ntmps85
  go_wp2_with fail
  obtain ⟨w1, hW⟩ : ∃ w1, w1 = w.alloc (Obj.cells #[Value.int IntKind.i64 0, Value.int IntKind.i64 0, Value.slice none 0 0] 33) := ⟨_, rfl⟩
  obtain ⟨NT, hN⟩ : ∃ NT, NT = w.heap.size := ⟨_, rfl⟩
  have b1 : Below w.heap.size w w1 := by rw [hW]; exact below1 _ _
  have kb : w1.heap[NT]? = some (Obj.cells #[.int .i64 0, .int .i64 0, .slice none 0 0] 33) := by rw [hW]; exact heap_top hN
  have HNT : Hid (w.heap.size ≤ NT) := by simp only [Hid]; omega
  have HB := hid b1
  simp only [← hW, ← hN]
  clear hW hN b1
  go_at_call 113
  refine inB.mono ?_
  rw [HIN.out]
  rintro e w2 ⟨rfl, rfl⟩
  have y0 : w1.cell? ⟨NT, 0, none⟩ = some (.int .i64 0) := Go.Joins.cell_of_block kb 0
  have y1 : w1.cell? ⟨NT, 1, none⟩ = some (.int .i64 0) := Go.Joins.cell_of_block kb 1
  have y2 : w1.cell? ⟨NT, 2, none⟩ = some (.slice none 0 0) := Go.Joins.cell_of_block kb 2
  have g0 : w1.frozen? ⟨NT, 0, none⟩ = false := Go.Joins.unfrozen_of_block kb 0
  have g1 : w1.frozen? ⟨NT, 1, none⟩ = false := Go.Joins.unfrozen_of_block kb 1
  have g2 : w1.frozen? ⟨NT, 2, none⟩ = false := Go.Joins.unfrozen_of_block kb 2
  have HKx := hid kb
  clear kb
  go_wp2
  obtain ⟨W5, hW⟩ : ∃ W5, W5 = (((w1.setCell ⟨NT, 0, none⟩ (.int .i64 0)).setCell ⟨NT, 1, none⟩ (.int .i64 0)).setCell ⟨NT, 2, none⟩ (.slice none 0 0)) := ⟨_, rfl⟩
  have q0 := (Go.Joins.block_setCell (i := 2) (Go.Joins.block_setCell (i := 1) (Go.Joins.block_setCell (i := 0) HKx.out (.int .i64 0)) (.int .i64 0)) (.slice none 0 0))
  rw [← hW] at q0
  have z0 : W5.cell? ⟨NT, 0, none⟩ = some (.int .i64 0) := Go.Joins.cell_of_block q0 0
  have z1 : W5.cell? ⟨NT, 1, none⟩ = some (.int .i64 0) := Go.Joins.cell_of_block q0 1
  have z2 : W5.cell? ⟨NT, 2, none⟩ = some (.slice none 0 0) := Go.Joins.cell_of_block q0 2
  have B5 : Below w.heap.size w W5 := by
    have h1 := HNT.out
    rw [hW]
    exact ((HB.out.setCell (by simp; omega) _).setCell (by simp; omega) _).setCell (by simp; omega) _
  simp only [← hW]
  clear hW q0
  simp [bodyPost, results, Try.results85, go_sem, z0, z1, z2]
  exact B5

set_option maxHeartbeats 4000000 in
theorem specOk {w : World} {a : Int} (ha : 0 ≤ a ∧ a ≤ 255) :
    Calls Try.prog 85 #[.int .i64 a] w fun e w' => ∃ v' b', e = .returned (.tuple #[ruleV 2 1 v', .bool true]) ∧
      Own 2 w' b' v' (tab (bitT a) 8) ∧ w.heap.size ≤ b' ∧ Below w.heap.size w w' := by
  have HIN : Hid (decide (0 ≤ a ∧ a ≤ 255) = true) := decide_eq_true ha
  obtain ⟨a1, a2⟩ := ha
  go_enter Try.func85, Try.ntmps85
  go_wp2_with fail
  obtain ⟨w0, hW⟩ : ∃ w0, w0 = w.alloc (Obj.cells #[Value.int IntKind.i64 0, Value.int IntKind.i64 0, Value.slice none 0 0] 33) := ⟨_, rfl⟩
  obtain ⟨NT, hN⟩ : ∃ NT, NT = w.heap.size := ⟨_, rfl⟩
  have b0 : Below w.heap.size w w0 := by rw [hW]; exact below1 _ _
  have kb : w0.heap[NT]? = some (Obj.cells #[.int .i64 0, .int .i64 0, .slice none 0 0] 33) := by rw [hW]; exact heap_top hN
  have HNT : Hid (w.heap.size ≤ NT) := by simp only [Hid]; omega
  simp only [← hW, ← hN]
  clear hW hN
  go_at_call 113
  refine inB.mono ?_
  rw [HIN.out]
  rintro e w2 ⟨rfl, rfl⟩
  go_wp2
  obtain ⟨w1, hW⟩ : ∃ w1, w1 = w0.alloc (Obj.cells #[Value.int IntKind.i64 2, Value.int IntKind.i64 1, Value.slice none 0 0] 33) := ⟨_, rfl⟩
  obtain ⟨NO, hN⟩ : ∃ NO, NO = w0.heap.size := ⟨_, rfl⟩
  have HTO : Hid (NT < NO) := by simp only [Hid]; rw [hN]; exact (Array.getElem?_eq_some_iff.1 kb).1
  have kT : w1.heap[NT]? = some (Obj.cells #[.int .i64 0, .int .i64 0, .slice none 0 0] 33) := by rw [hW]; exact heap_old kb
  have kO : w1.heap[NO]? = some (Obj.cells #[.int .i64 2, .int .i64 1, .slice none 0 0] 33) := by rw [hW]; exact heap_top hN
  have b1 : Below w.heap.size w w1 := by rw [hW]; exact b0.trans ((below1 _ _).mono b0.size)
  have HNO : Hid (w.heap.size ≤ NO) := by have := HTO.out; have := HNT.out; simp only [Hid]; omega
  simp only [← hW, ← hN]
  clear hW hN kb b0
  go_loopw [5] (fun t wr => ∃ m : Nat, m ≤ 8 ∧ t = .int .i64 m ∧ Below w.heap.size w wr ∧ wr.heap[NT]? = some (Obj.cells #[.int .i64 0, .int .i64 0, .slice none 0 0] 33) ∧
    ∃ ao5 c5, wr.heap[NO]? = some (Obj.cells #[.int .i64 2, .int .i64 1, .slice ao5 m c5] 33) ∧
      wr.ownsRow (NO + 1) 2 1 (.slice ao5 m c5) (tab (bitT a) m).length ((tab (bitT a) m).map (Value.int .i64))) (fun t _ => 8 - (intOf t).toNat)
  case atStart => exact ⟨0, Nat.zero_le _, rfl, b1, kT, none, 0, kO, World.ownsRow_nil w1 (NO + 1) 2 1⟩
  case round =>
    clear b1 kT kO
    obtain ⟨m, hm, rfl, bel0, kT, ao5, c5, kO, hR⟩ := hrel
    by_cases hlt : m < 8
    · have x2 : wr.cell? ⟨NO, 2, none⟩ = some (.slice ao5 m c5) := Go.Joins.cell_of_block kO 2
      have HB0 := hid bel0
      have HkT := hid kT
      have HkO := hid kO
      have HhR := hid hR
      have HT : Hid (tab (bitT a) (m + 1) = tab (bitT a) m ++ [bits BinOp.and IntKind.i64 (a / 2 ^ m) 1]) := tab_succ _ _
      clear bel0 kT kO hR
      go_wp2_with (first | (at_builtin; refine append1 rfl _ _ rfl (NO + 1) _ _ rfl HhR.out _ rfl ?c1 ?c2 ?_) | go_in)
      case c1 => rw [tab_length]; omega
      case c2 => exact (Array.getElem?_eq_some_iff.1 HkO.out).1
      · intro v' w5 hown5 hbel5
        have ho : w5.ownsRow (NO + 1) 2 1 v' (tab (bitT a) (m + 1)).length ((tab (bitT a) (m + 1)).map (Value.int .i64)) := by rw [HT.out, List.map_append, List.length_append]; simpa using hown5
        have kO5 := (hbel5.block NO (Nat.lt_succ_self NO)).trans HkO.out
        have kT5 := (hbel5.block _ (Nat.lt_of_lt_of_le HTO.out (Nat.le_succ NO))).trans HkT.out
        have hb5 : Below w.heap.size w w5 := HB0.out.trans (hbel5.mono (by have := HNO.out; omega))
        obtain ⟨b5, _, ho5⟩ := Own.of ho
        rcases ho5.form with ⟨_, he⟩ | ⟨c6, hv, _, _, _⟩
        · exact absurd he (by simp [tab])
        rw [tab_length] at hv
        subst hv
        have y2 : w5.cell? ⟨NO, 2, none⟩ = some (.slice ao5 m c5) := Go.Joins.cell_of_block kO5 2
        have g2 : w5.frozen? ⟨NO, 2, none⟩ = false := Go.Joins.unfrozen_of_block kO5 2
        have HO := hid ho
        have HkO5 := hid kO5
        have HkT5 := hid kT5
        have HB5 := hid hb5
        clear ho hown5 hbel5 kO5 kT5 hb5 ho5
        go_wp2
        go_roundw
        case rel =>
          refine ⟨m + 1, by omega, by go_num, HB5.out.setCell (by have := HNO.out; simp; omega) _, (Below.heap_setCell w5 ⟨NO, 2, none⟩ _ _ (Nat.ne_of_lt HTO.out)).trans HkT5.out, some ⟨b5, 0, none⟩, c6, Go.Joins.block_setCell (i := 2) HkO5.out _, ?_⟩
          exact Weigh.rows_set HO.out ⟨NO, 2, none⟩ _ (Nat.lt_succ_self NO)
        case measure => simp [intOf]; omega
    · have hkn : m = 8 := by omega
      subst hkn
      have x0 : wr.cell? ⟨NO, 0, none⟩ = some (.int .i64 2) := Go.Joins.cell_of_block kO 0
      have x1 : wr.cell? ⟨NO, 1, none⟩ = some (.int .i64 1) := Go.Joins.cell_of_block kO 1
      have x2 : wr.cell? ⟨NO, 2, none⟩ = some (.slice ao5 8 c5) := Go.Joins.cell_of_block kO 2
      obtain ⟨b', hb', o'⟩ := Own.of hR
      have hne : NT ≠ b' := by have := HTO.out; omega
      have HNB := hid hne
      have HLo : Hid (w.heap.size ≤ b') := by have := HNO.out; simp only [Hid]; omega
      have HB := hid bel0
      have HO := hid o'
      have kb := kT
      clear bel0 hR kT kO o' hb' hne
      have y0 : wr.cell? ⟨NT, 0, none⟩ = some (.int .i64 0) := Go.Joins.cell_of_block kb 0
      have y1 : wr.cell? ⟨NT, 1, none⟩ = some (.int .i64 0) := Go.Joins.cell_of_block kb 1
      have y2 : wr.cell? ⟨NT, 2, none⟩ = some (.slice none 0 0) := Go.Joins.cell_of_block kb 2
      have g0 : wr.frozen? ⟨NT, 0, none⟩ = false := Go.Joins.unfrozen_of_block kb 0
      have g1 : wr.frozen? ⟨NT, 1, none⟩ = false := Go.Joins.unfrozen_of_block kb 1
      have g2 : wr.frozen? ⟨NT, 2, none⟩ = false := Go.Joins.unfrozen_of_block kb 2
      have HKx := hid kb
      clear kb
      go_wp2
      obtain ⟨W5, hW⟩ : ∃ W5, W5 = (((wr.setCell ⟨NT, 0, none⟩ (.int .i64 2)).setCell ⟨NT, 1, none⟩ (.int .i64 1)).setCell ⟨NT, 2, none⟩ (.slice ao5 8 c5)) := ⟨_, rfl⟩
      have q0 := (Go.Joins.block_setCell (i := 2) (Go.Joins.block_setCell (i := 1) (Go.Joins.block_setCell (i := 0) HKx.out (.int .i64 2)) (.int .i64 1)) (.slice ao5 8 c5))
      rw [← hW] at q0
      have z0 : W5.cell? ⟨NT, 0, none⟩ = some (.int .i64 2) := Go.Joins.cell_of_block q0 0
      have z1 : W5.cell? ⟨NT, 1, none⟩ = some (.int .i64 1) := Go.Joins.cell_of_block q0 1
      have z2 : W5.cell? ⟨NT, 2, none⟩ = some (.slice ao5 8 c5) := Go.Joins.cell_of_block q0 2
      have O5 := (own_set (own_set (own_set HO.out ⟨NT, 0, none⟩ (.int .i64 2) HNB.out) ⟨NT, 1, none⟩ (.int .i64 1) HNB.out) ⟨NT, 2, none⟩ (.slice ao5 8 c5) HNB.out)
      rw [← hW] at O5
      have B5 : Below w.heap.size w W5 := by
        have h1 := HNT.out
        rw [hW]
        exact ((HB.out.setCell (by simp; omega) _).setCell (by simp; omega) _).setCell (by simp; omega) _
      simp only [← hW]
      clear hW q0
      simp [bodyPost, results, Try.results85, go_sem, z0, z1, z2]
      exact ⟨b', O5, HLo.out, B5⟩

theorem agree (a : Int) : ∃ (qs qr : Int) (rs : List Int) (ok : Bool), rs.length ≤ 1000000 ∧
    (∀ (w : World), Calls Try.prog 85 #[.int .i64 a] w fun e w' => ∃ ao c b', e = .returned (.tuple #[ruleV qs qr (.slice ao rs.length c), .bool ok]) ∧ Own 2 w' b' (.slice ao rs.length c) rs ∧ w.heap.size ≤ b' ∧ Below w.heap.size w w') ∧
    (∀ (w : World), Calls Try.prog 86 #[.int .i64 a] w fun e w' => ∃ ao c b', e = .returned (.tuple #[ruleV qs qr (.slice ao rs.length c), .bool ok]) ∧ Own 2 w' b' (.slice ao rs.length c) rs ∧ w.heap.size ≤ b' ∧ Below w.heap.size w w') := by
  by_cases ha : 0 ≤ a ∧ a ≤ 255
  · refine ⟨2, 1, tab (bitT a) 8, true, by simp [tab], fun w => ?_, fun w => ?_⟩
    · refine (specOk ha).mono ?_
      rintro e w' ⟨v', b', rfl, own, lo, bel⟩
      rcases own.form with ⟨rfl, hz⟩ | ⟨c', rfl, _⟩
      · exact absurd hz (by simp [tab])
      · exact ⟨_, _, b', rfl, own, lo, bel⟩
    · refine (implOk ha).mono ?_
      rintro e w' ⟨b', rfl, own, lo, bel⟩
      exact ⟨_, _, b', rfl, own, lo, bel⟩
  · refine ⟨0, 0, [], false, by simp, fun w => ?_, fun w => ?_⟩
    · refine (specNo ha).mono ?_
      rintro e w' ⟨rfl, bel⟩
      exact ⟨none, 0, w.heap.size, rfl, Own.nil _ _ _, Nat.le_refl _, bel⟩
    · refine (implNo ha).mono ?_
      rintro e w' ⟨rfl, bel⟩
      exact ⟨none, 0, w.heap.size, rfl, Own.nil _ _ _, Nat.le_refl _, bel⟩

end Go.Proofs.Ytonghkooncmjgaa.Numb
