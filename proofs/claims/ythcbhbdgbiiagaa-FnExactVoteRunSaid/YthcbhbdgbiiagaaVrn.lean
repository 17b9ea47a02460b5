/- VoteRun of both sides. -/
import Derived.Test.YthcbhbdgbiiagaaVsp
import Derived.Test.YthcbhbdgbiiagaaSOwn
import Derived.Test.YthcbhbdgbiiagaaClone
import Derived.Test.YthcbhbdgbiiagaaFSame
import Derived.Deep.Cut
import Derived.Test.YthcbhbdgbiiagaaPln
namespace Go.Proofs.Ythcbhbdgbiiagaa.Vrn
open Go.RowKit Go.Proofs.Ythcbhbdgbiiagaa.Rd Go.Proofs.Ythcbhbdgbiiagaa.Help Go.Proofs.Ythcbhbdgbiiagaa.Ring Go.Proofs.Ythcbhbdgbiiagaa.Small Go.Proofs.Ythcbhbdgbiiagaa.FVal Go.Proofs.Ythcbhbdgbiiagaa.Keep Go.Proofs.Ythcbhbdgbiiagaa.Rule Go.Proofs.Ythcbhbdgbiiagaa.Grow Go.Proofs.Ythcbhbdgbiiagaa.Arr Go.Proofs.Ythcbhbdgbiiagaa.Lf Go.Proofs.Ythcbhbdgbiiagaa.Vt Go.Proofs.Ythcbhbdgbiiagaa.VtI Go.Proofs.Ythcbhbdgbiiagaa.Vsp Go.Proofs.Ythcbhbdgbiiagaa.Nf
set_option linter.unusedVariables false
set_option linter.unusedSimpArgs false

/-- So many votes. -/
def vit (zs : List Int) (R C : Nat) (rd : Bool) : Nat → List Int
  | 0 => zs
  | k + 1 => voteL (vit zs R C rd k) R C rd
theorem nxt_01 (xs ys zs : List Int) (R C : Nat) (rd : Bool) (i k : Nat) : nxt xs ys zs R C rd i k = 0 ∨ nxt xs ys zs R C rd i k = 1 := by
  unfold nxt; split <;> simp
theorem life_all (xs ys zs : List Int) (R C : Nat) (rd : Bool) (p : Int → Bool) (h0 : p 0 = true) (h1 : p 1 = true) : (lifeL xs ys zs R C rd).all p = true := by
  unfold lifeL grid
  rw [List.all_map, List.all_eq_true]
  intro t _
  rcases nxt_01 xs ys zs R C rd (t / C) (t % C) with h | h <;> simp [h, h0, h1]
theorem vote_len (zs : List Int) (R C : Nat) (rd : Bool) : (voteL zs R C rd).length = R * C := by unfold voteL lifeL; rw [grid_len]
theorem vote_field {R C : Nat} {zs : List Int} (h : fieldB R C zs = true) (z : List Int) (rd : Bool) : fieldB R C (voteL z R C rd) = true := by
  simp only [fieldB, Bool.and_eq_true] at h ⊢
  refine ⟨h.1, ?_, ?_⟩
  · rw [vote_len]; simp
  · unfold allB voteL; exact life_all _ _ z R C rd _ (by decide) (by decide)
theorem vote_plain (z : List Int) (R C : Nat) (rd : Bool) : plainB (voteL z R C rd) = true := by
  unfold plainB voteL; exact life_all _ _ z R C rd _ (by decide) (by decide)
theorem vit_ok {zs : List Int} {R C : Nat} {rd : Bool} (hf : fieldB R C zs = true) (hp : plainB zs = true) (j : Nat) :
    fieldB R C (vit zs R C rd j) = true ∧ plainB (vit zs R C rd j) = true := by
  cases j with
  | zero => exact ⟨hf, hp⟩
  | succ j => exact ⟨vote_field hf _ _, vote_plain _ _ _ _⟩
theorem vit_len {zs : List Int} {R C n : Nat} {rd : Bool} (hl : zs.length = n) (hn : n = R * C) (j : Nat) : (vit zs R C rd j).length = n := by
  cases j with
  | zero => exact hl
  | succ j => show (voteL _ _ _ _).length = n; rw [vote_len, hn]
/-- Nothing changes after so many votes. -/
def fixB (zs : List Int) (R C : Nat) (rd : Bool) (j : Nat) : Bool := Same.sameB R C (vit zs R C rd (j + 1)) R C (vit zs R C rd j)
theorem first_fix (p : Nat → Bool) (M : Nat) : (∃ J, J ≤ M ∧ p J = true ∧ ∀ i, i < J → p i = false) ∨ (∀ i, i ≤ M → p i = false) := by
  induction M with
  | zero =>
    cases h : p 0 with
    | true => exact .inl ⟨0, Nat.le_refl _, h, fun i hi => absurd hi (Nat.not_lt_zero i)⟩
    | false => exact .inr fun i hi => by rw [Nat.le_zero.1 hi]; exact h
  | succ M ih =>
    rcases ih with ⟨J, h1, h2, h3⟩ | h
    · exact .inl ⟨J, Nat.le_succ_of_le h1, h2, h3⟩
    · cases hp : p (M + 1) with
      | true => exact .inl ⟨M + 1, Nat.le_refl _, hp, fun i hi => h i (Nat.le_of_lt_succ hi)⟩
      | false =>
        refine .inr fun i hi => ?_
        rcases Nat.lt_or_ge i (M + 1) with h4 | h4
        · exact h i (Nat.le_of_lt_succ h4)
        · rw [Nat.le_antisymm hi h4]; exact hp

set_option maxHeartbeats 4000000 in
theorem specNo1 {w : World} {s r : Int} {rd : Bool} {st : Int} {b : Nat} {v : Value} {zs : List Int} (h : Rd w b v zs) (hq : plB s r zs = false) :
    Calls Try.prog 20 #[ruleV s r v, .bool rd, .int .i64 st] w fun e w' => e = .returned (.tuple #[ruleV 0 0 (.slice none 0 0), .int .i64 0, .bool false]) ∧ Below w.heap.size w w' := by
  have HH := hid h
  have HQ := hid hq
  obtain ⟨ao, cap, rfl, hc, hm, _⟩ := h
  clear hc hm hq
  go_enter Try.func20, Try.ntmps20
  go_wp2_with fail
  obtain ⟨w1, hW⟩ : ∃ w1, w1 = ((w.alloc (Obj.cells #[.int .i64 s, .int .i64 r, .slice ao zs.length cap] 26)).alloc (Obj.cells #[.int .i64 0, .int .i64 0, .slice none 0 0] 26)) := ⟨_, rfl⟩
  obtain ⟨N, hN⟩ : ∃ N, N = w.heap.size := ⟨_, rfl⟩
  obtain ⟨NT, hT⟩ : ∃ NT, NT = N + 1 := ⟨_, rfl⟩
  have tt : Below w.heap.size w w1 ∧ w1.cell? ⟨N, 0, none⟩ = some (.int .i64 s) ∧ w1.cell? ⟨N, 1, none⟩ = some (.int .i64 r) ∧ w1.cell? ⟨N, 2, none⟩ = some (.slice ao zs.length cap) ∧ w.heap.size ≤ w1.heap.size := by
    rw [hW, hN]
    exact ⟨Go.Joins.below_alloc2 _ _ _, cell_keep (below1 _ _) (by simp), cell_keep (below1 _ _) (by simp), cell_keep (below1 _ _) (by simp), by simp <;> omega⟩
  have kT : w1.heap[NT]? = some (Obj.cells #[.int .i64 0, .int .i64 0, .slice none 0 0] 26) := by rw [hW]; exact FNew.heap_top (by rw [hT, hN]; simp)
  have HNT : Hid (w.heap.size ≤ NT) := by simp only [Hid]; omega
  have HNE : Hid (N ≠ NT ∧ N < NT) := ⟨by omega, by omega⟩
  simp only [← hW, ← hN, ← hT]
  clear hW hN hT
  go_at_call 51
  refine (Can.l04Plain (HH.out.keep tt.1 (Nat.le_refl _)) tt.2.1 tt.2.2.1 tt.2.2.2.1).mono ?_
  rw [show (fieldB _ _ zs && allB zs 2) = _ from HQ.out]
  rintro e w2 ⟨rfl, hm2⟩
  have bel := Can.below_m hm2
  clear hm2
  replace tt := next3_0 bel tt
  replace kT := (bel.block NT (Array.getElem?_eq_some_iff.1 kT).1).trans kT
  clear bel
  have HB := hid tt.1
  have y0 : w2.cell? ⟨NT, 0, none⟩ = some (.int .i64 0) := Go.Joins.cell_of_block kT 0
  have y1 : w2.cell? ⟨NT, 1, none⟩ = some (.int .i64 0) := Go.Joins.cell_of_block kT 1
  have y2 : w2.cell? ⟨NT, 2, none⟩ = some (.slice none 0 0) := Go.Joins.cell_of_block kT 2
  have g0 : w2.frozen? ⟨NT, 0, none⟩ = false := Go.Joins.unfrozen_of_block kT 0
  have g1 : w2.frozen? ⟨NT, 1, none⟩ = false := Go.Joins.unfrozen_of_block kT 1
  have g2 : w2.frozen? ⟨NT, 2, none⟩ = false := Go.Joins.unfrozen_of_block kT 2
  have HKx := hid kT
  clear kT
  go_wp2
  obtain ⟨W5, hW⟩ : ∃ W5, W5 = (((w2.setCell ⟨NT, 0, none⟩ (.int .i64 0)).setCell ⟨NT, 1, none⟩ (.int .i64 0)).setCell ⟨NT, 2, none⟩ (.slice none 0 0)) := ⟨_, rfl⟩
  have q0 := (Go.Joins.block_setCell (i := 2) (Go.Joins.block_setCell (i := 1) (Go.Joins.block_setCell (i := 0) HKx.out (.int .i64 0)) (.int .i64 0)) (.slice none 0 0))
  rw [← hW] at q0
  have z0 : W5.cell? ⟨NT, 0, none⟩ = some (.int .i64 0) := Go.Joins.cell_of_block q0 0
  have z1 : W5.cell? ⟨NT, 1, none⟩ = some (.int .i64 0) := Go.Joins.cell_of_block q0 1
  have z2 : W5.cell? ⟨NT, 2, none⟩ = some (.slice none 0 0) := Go.Joins.cell_of_block q0 2
  have B5 : Below w.heap.size w W5 := by
    have h1 := HNT.out
    rw [hW]
    exact ((HB.out.setCell (by simp; omega) _).setCell (by simp; omega) _).setCell (by simp; omega) _
  simp only [← hW]
  clear hW q0
  simp [bodyPost, results, Try.results20, go_sem, z0, z1, z2]
  exact B5

set_option maxHeartbeats 4000000 in
theorem specNo2 {w : World} {s r : Int} {rd : Bool} {st : Int} {b : Nat} {v : Value} {zs : List Int} (h : Rd w b v zs) (hq : plB s r zs = true) (hsr : ¬ (0 ≤ st ∧ st ≤ 512)) :
    Calls Try.prog 20 #[ruleV s r v, .bool rd, .int .i64 st] w fun e w' => e = .returned (.tuple #[ruleV 0 0 (.slice none 0 0), .int .i64 0, .bool false]) ∧ Below w.heap.size w w' := by
  have HSB : Hid (decide (0 ≤ st ∧ st ≤ 512) = false) := decide_eq_false hsr
  clear hsr
  have HH := hid h
  have HQ := hid hq
  obtain ⟨ao, cap, rfl, hc, hm, _⟩ := h
  clear hc hm hq
  go_enter Try.func20, Try.ntmps20
  go_wp2_with fail
  obtain ⟨w1, hW⟩ : ∃ w1, w1 = ((w.alloc (Obj.cells #[.int .i64 s, .int .i64 r, .slice ao zs.length cap] 26)).alloc (Obj.cells #[.int .i64 0, .int .i64 0, .slice none 0 0] 26)) := ⟨_, rfl⟩
  obtain ⟨N, hN⟩ : ∃ N, N = w.heap.size := ⟨_, rfl⟩
  obtain ⟨NT, hT⟩ : ∃ NT, NT = N + 1 := ⟨_, rfl⟩
  have tt : Below w.heap.size w w1 ∧ w1.cell? ⟨N, 0, none⟩ = some (.int .i64 s) ∧ w1.cell? ⟨N, 1, none⟩ = some (.int .i64 r) ∧ w1.cell? ⟨N, 2, none⟩ = some (.slice ao zs.length cap) ∧ w.heap.size ≤ w1.heap.size := by
    rw [hW, hN]
    exact ⟨Go.Joins.below_alloc2 _ _ _, cell_keep (below1 _ _) (by simp), cell_keep (below1 _ _) (by simp), cell_keep (below1 _ _) (by simp), by simp <;> omega⟩
  have kT : w1.heap[NT]? = some (Obj.cells #[.int .i64 0, .int .i64 0, .slice none 0 0] 26) := by rw [hW]; exact FNew.heap_top (by rw [hT, hN]; simp)
  have HNT : Hid (w.heap.size ≤ NT) := by simp only [Hid]; omega
  have HNE : Hid (N ≠ NT ∧ N < NT) := ⟨by omega, by omega⟩
  simp only [← hW, ← hN, ← hT]
  clear hW hN hT
  go_at_call 51
  refine (Can.l04Plain (HH.out.keep tt.1 (Nat.le_refl _)) tt.2.1 tt.2.2.1 tt.2.2.2.1).mono ?_
  rw [show (fieldB _ _ zs && allB zs 2) = _ from HQ.out]
  rintro e w2 ⟨rfl, hm2⟩
  have bel := Can.below_m hm2
  clear hm2
  replace tt := next3_0 bel tt
  replace kT := (bel.block NT (Array.getElem?_eq_some_iff.1 kT).1).trans kT
  clear bel
  go_wp2_with fail
  go_at_call 55
  refine (inB (lo := 0) (hi := 512)).mono ?_
  rw [HSB.out]
  rintro e w3 ⟨rfl, rfl⟩
  have HB := hid tt.1
  have y0 : w2.cell? ⟨NT, 0, none⟩ = some (.int .i64 0) := Go.Joins.cell_of_block kT 0
  have y1 : w2.cell? ⟨NT, 1, none⟩ = some (.int .i64 0) := Go.Joins.cell_of_block kT 1
  have y2 : w2.cell? ⟨NT, 2, none⟩ = some (.slice none 0 0) := Go.Joins.cell_of_block kT 2
  have g0 : w2.frozen? ⟨NT, 0, none⟩ = false := Go.Joins.unfrozen_of_block kT 0
  have g1 : w2.frozen? ⟨NT, 1, none⟩ = false := Go.Joins.unfrozen_of_block kT 1
  have g2 : w2.frozen? ⟨NT, 2, none⟩ = false := Go.Joins.unfrozen_of_block kT 2
  have HKx := hid kT
  clear kT
  go_wp2
  obtain ⟨W5, hW⟩ : ∃ W5, W5 = (((w2.setCell ⟨NT, 0, none⟩ (.int .i64 0)).setCell ⟨NT, 1, none⟩ (.int .i64 0)).setCell ⟨NT, 2, none⟩ (.slice none 0 0)) := ⟨_, rfl⟩
  have q0 := (Go.Joins.block_setCell (i := 2) (Go.Joins.block_setCell (i := 1) (Go.Joins.block_setCell (i := 0) HKx.out (.int .i64 0)) (.int .i64 0)) (.slice none 0 0))
  rw [← hW] at q0
  have z0 : W5.cell? ⟨NT, 0, none⟩ = some (.int .i64 0) := Go.Joins.cell_of_block q0 0
  have z1 : W5.cell? ⟨NT, 1, none⟩ = some (.int .i64 0) := Go.Joins.cell_of_block q0 1
  have z2 : W5.cell? ⟨NT, 2, none⟩ = some (.slice none 0 0) := Go.Joins.cell_of_block q0 2
  have B5 : Below w.heap.size w W5 := by
    have h1 := HNT.out
    rw [hW]
    exact ((HB.out.setCell (by simp; omega) _).setCell (by simp; omega) _).setCell (by simp; omega) _
  simp only [← hW]
  clear hW q0
  simp [bodyPost, results, Try.results20, go_sem, z0, z1, z2]
  exact B5

set_option maxHeartbeats 4000000 in
theorem implNo1 {w : World} {s r : Int} {rd : Bool} {st : Int} {b : Nat} {v : Value} {zs : List Int} (h : Rd w b v zs) (hq : plB s r zs = false) :
    Calls Try.prog 21 #[ruleV s r v, .bool rd, .int .i64 st] w fun e w' => e = .returned (.tuple #[ruleV 0 0 (.slice none 0 0), .int .i64 0, .bool false]) ∧ Below w.heap.size w w' := by
  have HH := hid h
  have HQ := hid hq
  obtain ⟨ao, cap, rfl, hc, hm, _⟩ := h
  clear hc hm hq
  go_enter Try.func21, Try.ntmps21
  go_wp2_with fail
  obtain ⟨w1, hW⟩ : ∃ w1, w1 = ((w.alloc (Obj.cells #[.int .i64 s, .int .i64 r, .slice ao zs.length cap] 26)).alloc (Obj.cells #[.int .i64 0, .int .i64 0, .slice none 0 0] 26)) := ⟨_, rfl⟩
  obtain ⟨N, hN⟩ : ∃ N, N = w.heap.size := ⟨_, rfl⟩
  obtain ⟨NT, hT⟩ : ∃ NT, NT = N + 1 := ⟨_, rfl⟩
  have tt : Below w.heap.size w w1 ∧ w1.cell? ⟨N, 0, none⟩ = some (.int .i64 s) ∧ w1.cell? ⟨N, 1, none⟩ = some (.int .i64 r) ∧ w1.cell? ⟨N, 2, none⟩ = some (.slice ao zs.length cap) ∧ w.heap.size ≤ w1.heap.size := by
    rw [hW, hN]
    exact ⟨Go.Joins.below_alloc2 _ _ _, cell_keep (below1 _ _) (by simp), cell_keep (below1 _ _) (by simp), cell_keep (below1 _ _) (by simp), by simp <;> omega⟩
  have kT : w1.heap[NT]? = some (Obj.cells #[.int .i64 0, .int .i64 0, .slice none 0 0] 26) := by rw [hW]; exact FNew.heap_top (by rw [hT, hN]; simp)
  have HNT : Hid (w.heap.size ≤ NT) := by simp only [Hid]; omega
  have HNE : Hid (N ≠ NT ∧ N < NT) := ⟨by omega, by omega⟩
  simp only [← hW, ← hN, ← hT]
  clear hW hN hT
  go_at_call 53
  refine (Can.isPlain (HH.out.keep tt.1 (Nat.le_refl _))).mono ?_
  rw [show (fieldB _ _ zs && allB zs 2) = _ from HQ.out]
  rintro e w2 ⟨rfl, bel⟩
  replace tt := next3_0 bel tt
  replace kT := (bel.block NT (Array.getElem?_eq_some_iff.1 kT).1).trans kT
  clear bel
  have HB := hid tt.1
  have y0 : w2.cell? ⟨NT, 0, none⟩ = some (.int .i64 0) := Go.Joins.cell_of_block kT 0
  have y1 : w2.cell? ⟨NT, 1, none⟩ = some (.int .i64 0) := Go.Joins.cell_of_block kT 1
  have y2 : w2.cell? ⟨NT, 2, none⟩ = some (.slice none 0 0) := Go.Joins.cell_of_block kT 2
  have g0 : w2.frozen? ⟨NT, 0, none⟩ = false := Go.Joins.unfrozen_of_block kT 0
  have g1 : w2.frozen? ⟨NT, 1, none⟩ = false := Go.Joins.unfrozen_of_block kT 1
  have g2 : w2.frozen? ⟨NT, 2, none⟩ = false := Go.Joins.unfrozen_of_block kT 2
  have HKx := hid kT
  clear kT
  go_wp2
  obtain ⟨W5, hW⟩ : ∃ W5, W5 = (((w2.setCell ⟨NT, 0, none⟩ (.int .i64 0)).setCell ⟨NT, 1, none⟩ (.int .i64 0)).setCell ⟨NT, 2, none⟩ (.slice none 0 0)) := ⟨_, rfl⟩
  have q0 := (Go.Joins.block_setCell (i := 2) (Go.Joins.block_setCell (i := 1) (Go.Joins.block_setCell (i := 0) HKx.out (.int .i64 0)) (.int .i64 0)) (.slice none 0 0))
  rw [← hW] at q0
  have z0 : W5.cell? ⟨NT, 0, none⟩ = some (.int .i64 0) := Go.Joins.cell_of_block q0 0
  have z1 : W5.cell? ⟨NT, 1, none⟩ = some (.int .i64 0) := Go.Joins.cell_of_block q0 1
  have z2 : W5.cell? ⟨NT, 2, none⟩ = some (.slice none 0 0) := Go.Joins.cell_of_block q0 2
  have B5 : Below w.heap.size w W5 := by
    have h1 := HNT.out
    rw [hW]
    exact ((HB.out.setCell (by simp; omega) _).setCell (by simp; omega) _).setCell (by simp; omega) _
  simp only [← hW]
  clear hW q0
  simp [bodyPost, results, Try.results21, go_sem, z0, z1, z2]
  exact B5

set_option maxHeartbeats 4000000 in
theorem implNo2 {w : World} {s r : Int} {rd : Bool} {st : Int} {b : Nat} {v : Value} {zs : List Int} (h : Rd w b v zs) (hq : plB s r zs = true) (hsr : ¬ (0 ≤ st ∧ st ≤ 512)) :
    Calls Try.prog 21 #[ruleV s r v, .bool rd, .int .i64 st] w fun e w' => e = .returned (.tuple #[ruleV 0 0 (.slice none 0 0), .int .i64 0, .bool false]) ∧ Below w.heap.size w w' := by
  have HSB : Hid (decide (0 ≤ st ∧ st ≤ 512) = false) := decide_eq_false hsr
  clear hsr
  have HH := hid h
  have HQ := hid hq
  obtain ⟨ao, cap, rfl, hc, hm, _⟩ := h
  clear hc hm hq
  go_enter Try.func21, Try.ntmps21
  go_wp2_with fail
  obtain ⟨w1, hW⟩ : ∃ w1, w1 = ((w.alloc (Obj.cells #[.int .i64 s, .int .i64 r, .slice ao zs.length cap] 26)).alloc (Obj.cells #[.int .i64 0, .int .i64 0, .slice none 0 0] 26)) := ⟨_, rfl⟩
  obtain ⟨N, hN⟩ : ∃ N, N = w.heap.size := ⟨_, rfl⟩
  obtain ⟨NT, hT⟩ : ∃ NT, NT = N + 1 := ⟨_, rfl⟩
  have tt : Below w.heap.size w w1 ∧ w1.cell? ⟨N, 0, none⟩ = some (.int .i64 s) ∧ w1.cell? ⟨N, 1, none⟩ = some (.int .i64 r) ∧ w1.cell? ⟨N, 2, none⟩ = some (.slice ao zs.length cap) ∧ w.heap.size ≤ w1.heap.size := by
    rw [hW, hN]
    exact ⟨Go.Joins.below_alloc2 _ _ _, cell_keep (below1 _ _) (by simp), cell_keep (below1 _ _) (by simp), cell_keep (below1 _ _) (by simp), by simp <;> omega⟩
  have kT : w1.heap[NT]? = some (Obj.cells #[.int .i64 0, .int .i64 0, .slice none 0 0] 26) := by rw [hW]; exact FNew.heap_top (by rw [hT, hN]; simp)
  have HNT : Hid (w.heap.size ≤ NT) := by simp only [Hid]; omega
  have HNE : Hid (N ≠ NT ∧ N < NT) := ⟨by omega, by omega⟩
  simp only [← hW, ← hN, ← hT]
  clear hW hN hT
  go_at_call 53
  refine (Can.isPlain (HH.out.keep tt.1 (Nat.le_refl _))).mono ?_
  rw [show (fieldB _ _ zs && allB zs 2) = _ from HQ.out]
  rintro e w2 ⟨rfl, bel⟩
  replace tt := next3_0 bel tt
  replace kT := (bel.block NT (Array.getElem?_eq_some_iff.1 kT).1).trans kT
  clear bel
  go_wp2_with fail
  go_at_call 58
  refine (isCountB (hi := 512)).mono ?_
  rw [HSB.out]
  rintro e w3 ⟨rfl, rfl⟩
  have HB := hid tt.1
  have y0 : w2.cell? ⟨NT, 0, none⟩ = some (.int .i64 0) := Go.Joins.cell_of_block kT 0
  have y1 : w2.cell? ⟨NT, 1, none⟩ = some (.int .i64 0) := Go.Joins.cell_of_block kT 1
  have y2 : w2.cell? ⟨NT, 2, none⟩ = some (.slice none 0 0) := Go.Joins.cell_of_block kT 2
  have g0 : w2.frozen? ⟨NT, 0, none⟩ = false := Go.Joins.unfrozen_of_block kT 0
  have g1 : w2.frozen? ⟨NT, 1, none⟩ = false := Go.Joins.unfrozen_of_block kT 1
  have g2 : w2.frozen? ⟨NT, 2, none⟩ = false := Go.Joins.unfrozen_of_block kT 2
  have HKx := hid kT
  clear kT
  go_wp2
  obtain ⟨W5, hW⟩ : ∃ W5, W5 = (((w2.setCell ⟨NT, 0, none⟩ (.int .i64 0)).setCell ⟨NT, 1, none⟩ (.int .i64 0)).setCell ⟨NT, 2, none⟩ (.slice none 0 0)) := ⟨_, rfl⟩
  have q0 := (Go.Joins.block_setCell (i := 2) (Go.Joins.block_setCell (i := 1) (Go.Joins.block_setCell (i := 0) HKx.out (.int .i64 0)) (.int .i64 0)) (.slice none 0 0))
  rw [← hW] at q0
  have z0 : W5.cell? ⟨NT, 0, none⟩ = some (.int .i64 0) := Go.Joins.cell_of_block q0 0
  have z1 : W5.cell? ⟨NT, 1, none⟩ = some (.int .i64 0) := Go.Joins.cell_of_block q0 1
  have z2 : W5.cell? ⟨NT, 2, none⟩ = some (.slice none 0 0) := Go.Joins.cell_of_block q0 2
  have B5 : Below w.heap.size w W5 := by
    have h1 := HNT.out
    rw [hW]
    exact ((HB.out.setCell (by simp; omega) _).setCell (by simp; omega) _).setCell (by simp; omega) _
  simp only [← hW]
  clear hW q0
  simp [bodyPost, results, Try.results21, go_sem, z0, z1, z2]
  exact B5

set_option maxHeartbeats 16000000 in
set_option maxRecDepth 4000 in
theorem specOk {w : World} {R C n S J : Nat} {rd : Bool} {b : Nat} {v : Value} {zs : List Int} (h : Rd w b v zs) (hq : plB R C zs = true) (hn : n = R * C) (hS : S ≤ 512) (hJ : J ≤ S) (hfx : fixB zs R C rd J = true) (hnf : ∀ i, i < J → fixB zs R C rd i = false) :
    Calls Try.prog 20 #[ruleV R C v, .bool rd, .int .i64 S] w fun e w' => ∃ b' k, e = .returned (.tuple #[ruleV R C (.slice (some ⟨b', 0, none⟩) n k), .int .i64 J, .bool true]) ∧ Own 2 w' b' (.slice (some ⟨b', 0, none⟩) n k) (vit zs R C rd J) ∧ w.heap.size ≤ b' ∧ Below w.heap.size w w' := by
  obtain ⟨hf, hpl⟩ := pl_parts hq
  obtain ⟨hR, hC, hl, hle⟩ := field_nat hf
  have HZ : Hid (1 ≤ zs.length ∧ zs.length ≤ 1048576) := by simp only [Hid]; rw [hl]; exact ⟨Nat.mul_pos hR.1 hC.1, by omega⟩
  have HL : Hid (zs.length = n) := by simp only [Hid]; rw [hn]; exact hl
  have HF := hid hf
  have HPL := hid hpl
  have HN := hid hn
  have HSB : Hid (decide (0 ≤ (S : Int) ∧ (S : Int) ≤ 512) = true) := decide_eq_true (by omega)
  clear hf hpl hn hR hC hl hle
  have HNF : Hid (∀ i, i < J → Same.sameB R C (vit zs R C rd (i + 1)) R C (vit zs R C rd i) = false) := hnf
  clear hnf
  have HFJ : Hid (Same.sameB R C (vit zs R C rd (J + 1)) R C (vit zs R C rd J) = true) := hfx
  clear hfx
  have HH := hid h
  have HQ := hid hq
  obtain ⟨ao, cap, rfl, hc, hm, _⟩ := h
  clear hc hm hq
  go_enter Try.func20, Try.ntmps20
  go_wp2_with fail
  obtain ⟨w1, hW⟩ : ∃ w1, w1 = ((w.alloc (Obj.cells #[.int .i64 R, .int .i64 C, .slice ao zs.length cap] 26)).alloc (Obj.cells #[.int .i64 0, .int .i64 0, .slice none 0 0] 26)) := ⟨_, rfl⟩
  obtain ⟨N, hN⟩ : ∃ N, N = w.heap.size := ⟨_, rfl⟩
  obtain ⟨NT, hT⟩ : ∃ NT, NT = N + 1 := ⟨_, rfl⟩
  have tt : Below w.heap.size w w1 ∧ w1.cell? ⟨N, 0, none⟩ = some (.int .i64 R) ∧ w1.cell? ⟨N, 1, none⟩ = some (.int .i64 C) ∧ w1.cell? ⟨N, 2, none⟩ = some (.slice ao zs.length cap) ∧ w.heap.size ≤ w1.heap.size := by
    rw [hW, hN]
    exact ⟨Go.Joins.below_alloc2 _ _ _, cell_keep (below1 _ _) (by simp), cell_keep (below1 _ _) (by simp), cell_keep (below1 _ _) (by simp), by simp <;> omega⟩
  have kT : w1.heap[NT]? = some (Obj.cells #[.int .i64 0, .int .i64 0, .slice none 0 0] 26) := by rw [hW]; exact FNew.heap_top (by rw [hT, hN]; simp)
  have HNT : Hid (w.heap.size ≤ NT) := by simp only [Hid]; omega
  have HNE : Hid (N ≠ NT ∧ N < NT) := ⟨by omega, by omega⟩
  simp only [← hW, ← hN, ← hT]
  clear hW hN hT
  go_at_call 51
  refine (Can.l04Plain (HH.out.keep tt.1 (Nat.le_refl _)) tt.2.1 tt.2.2.1 tt.2.2.2.1).mono ?_
  rw [show (fieldB _ _ zs && allB zs 2) = _ from HQ.out]
  rintro e w2 ⟨rfl, hm2⟩
  have bel := Can.below_m hm2
  clear hm2
  replace tt := next3_0 bel tt
  replace kT := (bel.block NT (Array.getElem?_eq_some_iff.1 kT).1).trans kT
  clear bel
  go_wp2_with fail
  go_at_call 55
  refine (inB (lo := 0) (hi := 512)).mono ?_
  rw [HSB.out]
  rintro e w3 ⟨rfl, rfl⟩
  go_wp2_with fail
  go_at_call 56
  refine (SOwn.l04Own tt.2.1 tt.2.2.1 tt.2.2.2.1 (HH.out.keep tt.1 (Nat.le_refl _)) HZ.out).mono ?_
  rw [HL.out]
  rintro e w4 ⟨b0, k, rfl, ow, lo, hk1, hk2, bel⟩
  have HNTb : Hid (NT ≠ b0) := Nat.ne_of_lt (Nat.lt_of_lt_of_le (heap_lt kT) lo)
  have HLO : Hid (w.heap.size ≤ b0) := Nat.le_trans tt.1.size lo
  replace kT := heap_keep bel kT
  have HB4 := hid (tt.1.trans (bel.mono tt.1.size))
  have HOW := hid ow
  have HKT := hid kT
  clear bel lo ow kT hk1 hk2 tt
  go_wp2_with fail
  obtain ⟨w9, hW⟩ : ∃ w9, w9 = w4.alloc (Obj.cells #[.int .i64 R, .int .i64 C, .slice (some ⟨b0, 0, none⟩) n k] 26) := ⟨_, rfl⟩
  obtain ⟨NW, hN⟩ : ∃ NW, NW = w4.heap.size := ⟨_, rfl⟩
  have bel : Below w4.heap.size w4 w9 := by rw [hW]; exact below1 _ _
  have HKW : Hid (w9.heap[NW]? = some (Obj.cells #[.int .i64 R, .int .i64 C, .slice (some ⟨b0, 0, none⟩) n k] 26)) := by simp only [Hid]; rw [hW]; exact FNew.heap_top hN
  have HNW : Hid (w.heap.size ≤ NW) := by simp only [Hid]; rw [hN]; exact HB4.out.size
  have HWT : Hid (NW ≠ NT) := by simp only [Hid]; rw [hN]; exact Nat.ne_of_gt (heap_lt HKT.out)
  have HWb : Hid (NW ≠ b0) := by simp only [Hid]; rw [hN]; exact Nat.ne_of_gt HOW.out.lt
  have HKT9 := hid (heap_keep bel HKT.out)
  have HOW9 := hid (HOW.out.keep bel)
  have HB9 := hid (HB4.out.trans (bel.mono HB4.out.size))
  simp only [← hW, ← hN]
  clear hW hN bel HKT HOW HB4
  go_loopw [10] (fun t wr => ∃ j : Nat, j ≤ J ∧ t = .int .i64 (j : Int) ∧ ∃ bc kc : Nat, Own 2 wr bc (.slice (some ⟨bc, 0, none⟩) n kc) (vit zs R C rd j) ∧ wr.heap[NW]? = some (Obj.cells #[.int .i64 R, .int .i64 C, .slice (some ⟨bc, 0, none⟩) n kc] 26) ∧ wr.heap[NT]? = some (Obj.cells #[.int .i64 0, .int .i64 0, .slice none 0 0] 26) ∧ w.heap.size ≤ bc ∧ NW ≠ bc ∧ NT ≠ bc ∧ Below w.heap.size w wr) (fun t _ => (S + 1) - (intOf t).toNat)
  case atStart => exact ⟨0, Nat.zero_le _, rfl, b0, k, HOW9.out, HKW.out, HKT9.out, HLO.out, HWb.out, HNTb.out, HB9.out⟩
  case round =>
    clear HOW9 HKW HKT9 HLO HWb HNTb HB9
    obtain ⟨j, hj, rfl, bc, kc, ow, kW, kT, hlo, hWb0, hTb0, hbel⟩ := hrel
    have hji : (j : Int) < (S : Int) + 1 := by omega
    by_cases hjJ : j = J
    · have HJ := hid hjJ
      have HFX : Hid (Same.sameB R C (vit zs R C rd (j + 1)) R C (vit zs R C rd j) = true) := by have := HFJ.out; rw [hjJ]; exact this
      have c0 : wr.cell? ⟨NW, 0, none⟩ = some (.int .i64 R) := Go.Joins.cell_of_block kW 0
      have c1 : wr.cell? ⟨NW, 1, none⟩ = some (.int .i64 C) := Go.Joins.cell_of_block kW 1
      have c2 : wr.cell? ⟨NW, 2, none⟩ = some (.slice (some ⟨bc, 0, none⟩) n kc) := Go.Joins.cell_of_block kW 2
      have HC := hid (And.intro c0 (And.intro c1 c2))
      have HKW0 := hid kW
      have HKT0 := hid kT
      have HB := hid hbel
      have HOW := hid ow
      have HNB0 := hid hTb0
      have HWB0 := hid hWb0
      have HLO0 := hid hlo
      clear c0 c1 c2 kW kT hbel ow hlo hWb0 hTb0
      go_wp2_with fail
      go_at_call 52
      refine (Vt.specVote HC.out.1 HC.out.2.1 HC.out.2.2 HOW.out.rd (vit_ok HF.out HPL.out j).1 HN.out (vit_ok HF.out HPL.out j).2).mono ?_
      rintro e w5 ⟨b2, rfl, ow2, lo2, bel⟩
      obtain ⟨w6, hW⟩ : ∃ w6, w6 = w5.alloc (Obj.cells #[.int .i64 R, .int .i64 C, .slice (some ⟨b2, 0, none⟩) n n] 26) := ⟨_, rfl⟩
      obtain ⟨NX, hX⟩ : ∃ NX, NX = w5.heap.size := ⟨_, rfl⟩
      have bel6 : Below w5.heap.size w5 w6 := by rw [hW]; exact below1 _ _
      have x0 : w6.cell? ⟨NX, 0, none⟩ = some (.int .i64 R) := by rw [hW, hX]; simp
      have x1 : w6.cell? ⟨NX, 1, none⟩ = some (.int .i64 C) := by rw [hW, hX]; simp
      have x2 : w6.cell? ⟨NX, 2, none⟩ = some (.slice (some ⟨b2, 0, none⟩) n n) := by rw [hW, hX]; simp
      have HWB : Hid (NW ≠ b2) := Nat.ne_of_lt (Nat.lt_of_lt_of_le (heap_lt HKW0.out) lo2)
      have HTB : Hid (NT ≠ b2) := Nat.ne_of_lt (Nat.lt_of_lt_of_le (heap_lt HKT0.out) lo2)
      have HLO2 : Hid (w.heap.size ≤ b2) := Nat.le_trans HB.out.size lo2
      have hkw := heap_keep bel6 (heap_keep bel HKW0.out)
      have hkt := heap_keep bel6 (heap_keep bel HKT0.out)
      have HB6 := hid ((HB.out.trans (bel.mono HB.out.size)).trans (bel6.mono (HB.out.trans (bel.mono HB.out.size)).size))
      have HO2 := hid (ow2.keep bel6)
      have HO1 := hid ((HOW.out.keep bel).keep bel6)
      have c0 : w6.cell? ⟨NW, 0, none⟩ = some (.int .i64 R) := Go.Joins.cell_of_block hkw 0
      have c1 : w6.cell? ⟨NW, 1, none⟩ = some (.int .i64 C) := Go.Joins.cell_of_block hkw 1
      have c2 : w6.cell? ⟨NW, 2, none⟩ = some (.slice (some ⟨bc, 0, none⟩) n kc) := Go.Joins.cell_of_block hkw 2
      have HX := hid (And.intro x0 (And.intro x1 (And.intro x2 (And.intro c0 (And.intro c1 c2)))))
      have HKW := hid hkw
      have HKT := hid hkt
      clear HC HKW0 HKT0 HB HOW ow2 lo2 bel bel6 hkw hkt
      clear x0 x1 x2 c0 c1 c2
      go_wp2_with fail
      simp only [← hW, ← hX]
      clear hW hX
      go_at_call 57
      refine (Same.l02Same HX.out.1 HX.out.2.1 HX.out.2.2.1 HX.out.2.2.2.1 HX.out.2.2.2.2.1 HX.out.2.2.2.2.2 HO2.out.rd HO1.out.rd).mono ?_
      rw [show Same.sameB (R : Int) (C : Int) (voteL (vit zs R C rd j) R C rd) (R : Int) (C : Int) (vit zs R C rd j) = true from HFX.out]
      rintro e w7 ⟨rfl, hm⟩
      have bel := Can.below_m hm
      clear hm
      have y0 : w7.cell? ⟨NW, 0, none⟩ = some (.int .i64 R) := cell_keep bel HX.out.2.2.2.1
      have y1 : w7.cell? ⟨NW, 1, none⟩ = some (.int .i64 C) := cell_keep bel HX.out.2.2.2.2.1
      have y2 : w7.cell? ⟨NW, 2, none⟩ = some (.slice (some ⟨bc, 0, none⟩) n kc) := cell_keep bel HX.out.2.2.2.2.2
      have kW := heap_keep bel HKW.out
      have kT := heap_keep bel HKT.out
      have HB := hid (HB6.out.trans (bel.mono HB6.out.size))
      have HO := hid (HO1.out.keep bel)
      have HNB := HNB0
      have HLo := HLO0
      clear bel HX HKW HKT HB6 HO2 HO1 HFX kW
      have x0 := y0
      have x1 := y1
      have x2 := y2
      clear y0 y1 y2
      have y0 : w7.cell? ⟨NT, 0, none⟩ = some (.int .i64 0) := Go.Joins.cell_of_block kT 0
      have y1 : w7.cell? ⟨NT, 1, none⟩ = some (.int .i64 0) := Go.Joins.cell_of_block kT 1
      have y2 : w7.cell? ⟨NT, 2, none⟩ = some (.slice none 0 0) := Go.Joins.cell_of_block kT 2
      have g0 : w7.frozen? ⟨NT, 0, none⟩ = false := Go.Joins.unfrozen_of_block kT 0
      have g1 : w7.frozen? ⟨NT, 1, none⟩ = false := Go.Joins.unfrozen_of_block kT 1
      have g2 : w7.frozen? ⟨NT, 2, none⟩ = false := Go.Joins.unfrozen_of_block kT 2
      have HKx := hid kT
      clear kT
      go_wp2
      obtain ⟨W5, hW⟩ : ∃ W5, W5 = (((w7.setCell ⟨NT, 0, none⟩ (.int .i64 R)).setCell ⟨NT, 1, none⟩ (.int .i64 C)).setCell ⟨NT, 2, none⟩ (.slice (some ⟨bc, 0, none⟩) n kc)) := ⟨_, rfl⟩
      have q0 := (Go.Joins.block_setCell (i := 2) (Go.Joins.block_setCell (i := 1) (Go.Joins.block_setCell (i := 0) HKx.out (.int .i64 R)) (.int .i64 C)) (.slice (some ⟨bc, 0, none⟩) n kc))
      rw [← hW] at q0
      have z0 : W5.cell? ⟨NT, 0, none⟩ = some (.int .i64 R) := Go.Joins.cell_of_block q0 0
      have z1 : W5.cell? ⟨NT, 1, none⟩ = some (.int .i64 C) := Go.Joins.cell_of_block q0 1
      have z2 : W5.cell? ⟨NT, 2, none⟩ = some (.slice (some ⟨bc, 0, none⟩) n kc) := Go.Joins.cell_of_block q0 2
      have O5 := (own_set (own_set (own_set HO.out ⟨NT, 0, none⟩ (.int .i64 R) HNB.out) ⟨NT, 1, none⟩ (.int .i64 C) HNB.out) ⟨NT, 2, none⟩ (.slice (some ⟨bc, 0, none⟩) n kc) HNB.out)
      rw [← hW] at O5
      have B5 : Below w.heap.size w W5 := by
        have h1 := HNT.out
        rw [hW]
        exact ((HB.out.setCell (by simp; omega) _).setCell (by simp; omega) _).setCell (by simp; omega) _
      simp only [← hW]
      clear hW q0
      simp [bodyPost, results, Try.results20, go_sem, z0, z1, z2]
      exact ⟨bc, kc, ⟨rfl, rfl⟩, by rw [← HJ.out]; exact O5, HLo.out, B5⟩
    · have hlt : j < J := by omega
      clear hjJ
      have HFX : Hid (Same.sameB R C (vit zs R C rd (j + 1)) R C (vit zs R C rd j) = false) := HNF.out j (by omega)
      have c0 : wr.cell? ⟨NW, 0, none⟩ = some (.int .i64 R) := Go.Joins.cell_of_block kW 0
      have c1 : wr.cell? ⟨NW, 1, none⟩ = some (.int .i64 C) := Go.Joins.cell_of_block kW 1
      have c2 : wr.cell? ⟨NW, 2, none⟩ = some (.slice (some ⟨bc, 0, none⟩) n kc) := Go.Joins.cell_of_block kW 2
      have HC := hid (And.intro c0 (And.intro c1 c2))
      have HKW0 := hid kW
      have HKT0 := hid kT
      have HB := hid hbel
      have HOW := hid ow
      have HNB0 := hid hTb0
      have HWB0 := hid hWb0
      have HLO0 := hid hlo
      clear c0 c1 c2 kW kT hbel ow hlo hWb0 hTb0
      go_wp2_with fail
      go_at_call 52
      refine (Vt.specVote HC.out.1 HC.out.2.1 HC.out.2.2 HOW.out.rd (vit_ok HF.out HPL.out j).1 HN.out (vit_ok HF.out HPL.out j).2).mono ?_
      rintro e w5 ⟨b2, rfl, ow2, lo2, bel⟩
      obtain ⟨w6, hW⟩ : ∃ w6, w6 = w5.alloc (Obj.cells #[.int .i64 R, .int .i64 C, .slice (some ⟨b2, 0, none⟩) n n] 26) := ⟨_, rfl⟩
      obtain ⟨NX, hX⟩ : ∃ NX, NX = w5.heap.size := ⟨_, rfl⟩
      have bel6 : Below w5.heap.size w5 w6 := by rw [hW]; exact below1 _ _
      have x0 : w6.cell? ⟨NX, 0, none⟩ = some (.int .i64 R) := by rw [hW, hX]; simp
      have x1 : w6.cell? ⟨NX, 1, none⟩ = some (.int .i64 C) := by rw [hW, hX]; simp
      have x2 : w6.cell? ⟨NX, 2, none⟩ = some (.slice (some ⟨b2, 0, none⟩) n n) := by rw [hW, hX]; simp
      have HWB : Hid (NW ≠ b2) := Nat.ne_of_lt (Nat.lt_of_lt_of_le (heap_lt HKW0.out) lo2)
      have HTB : Hid (NT ≠ b2) := Nat.ne_of_lt (Nat.lt_of_lt_of_le (heap_lt HKT0.out) lo2)
      have HLO2 : Hid (w.heap.size ≤ b2) := Nat.le_trans HB.out.size lo2
      have hkw := heap_keep bel6 (heap_keep bel HKW0.out)
      have hkt := heap_keep bel6 (heap_keep bel HKT0.out)
      have HB6 := hid ((HB.out.trans (bel.mono HB.out.size)).trans (bel6.mono (HB.out.trans (bel.mono HB.out.size)).size))
      have HO2 := hid (ow2.keep bel6)
      have HO1 := hid ((HOW.out.keep bel).keep bel6)
      have c0 : w6.cell? ⟨NW, 0, none⟩ = some (.int .i64 R) := Go.Joins.cell_of_block hkw 0
      have c1 : w6.cell? ⟨NW, 1, none⟩ = some (.int .i64 C) := Go.Joins.cell_of_block hkw 1
      have c2 : w6.cell? ⟨NW, 2, none⟩ = some (.slice (some ⟨bc, 0, none⟩) n kc) := Go.Joins.cell_of_block hkw 2
      have HX := hid (And.intro x0 (And.intro x1 (And.intro x2 (And.intro c0 (And.intro c1 c2)))))
      have HKW := hid hkw
      have HKT := hid hkt
      clear HC HKW0 HKT0 HB HOW ow2 lo2 bel bel6 hkw hkt
      clear x0 x1 x2 c0 c1 c2
      go_wp2_with fail
      simp only [← hW, ← hX]
      clear hW hX
      go_at_call 57
      refine (Same.l02Same HX.out.1 HX.out.2.1 HX.out.2.2.1 HX.out.2.2.2.1 HX.out.2.2.2.2.1 HX.out.2.2.2.2.2 HO2.out.rd HO1.out.rd).mono ?_
      rw [show Same.sameB (R : Int) (C : Int) (voteL (vit zs R C rd j) R C rd) (R : Int) (C : Int) (vit zs R C rd j) = false from HFX.out]
      rintro e w7 ⟨rfl, hm⟩
      have bel := Can.below_m hm
      clear hm
      have y0 : w7.cell? ⟨NW, 0, none⟩ = some (.int .i64 R) := cell_keep bel HX.out.2.2.2.1
      have y1 : w7.cell? ⟨NW, 1, none⟩ = some (.int .i64 C) := cell_keep bel HX.out.2.2.2.2.1
      have y2 : w7.cell? ⟨NW, 2, none⟩ = some (.slice (some ⟨bc, 0, none⟩) n kc) := cell_keep bel HX.out.2.2.2.2.2
      have kW := heap_keep bel HKW.out
      have kT := heap_keep bel HKT.out
      have x0 : w7.cell? ⟨NX, 0, none⟩ = some (.int .i64 R) := cell_keep bel HX.out.1
      have x1 : w7.cell? ⟨NX, 1, none⟩ = some (.int .i64 C) := cell_keep bel HX.out.2.1
      have x2 : w7.cell? ⟨NX, 2, none⟩ = some (.slice (some ⟨b2, 0, none⟩) n n) := cell_keep bel HX.out.2.2.1
      have g0 : w7.frozen? ⟨NW, 0, none⟩ = false := Go.Joins.unfrozen_of_block kW 0
      have g1 : w7.frozen? ⟨NW, 1, none⟩ = false := Go.Joins.unfrozen_of_block kW 1
      have g2 : w7.frozen? ⟨NW, 2, none⟩ = false := Go.Joins.unfrozen_of_block kW 2
      have bN := HB6.out.trans (bel.mono HB6.out.size)
      have oN := HO2.out.keep bel
      have qk := (Go.Joins.block_setCell (i := 2) (Go.Joins.block_setCell (i := 1) (Go.Joins.block_setCell (i := 0) kW (.int .i64 R)) (.int .i64 C)) (.slice (some ⟨b2, 0, none⟩) n n))
      have qo := (own_set (own_set (own_set oN ⟨NW, 0, none⟩ (.int .i64 R) HWB.out) ⟨NW, 1, none⟩ (.int .i64 C) HWB.out) ⟨NW, 2, none⟩ (.slice (some ⟨b2, 0, none⟩) n n) HWB.out)
      have qb := (((bN.setCell (p := ⟨NW, 0, none⟩) HNW.out (.int .i64 R)).setCell (p := ⟨NW, 1, none⟩) HNW.out (.int .i64 C)).setCell (p := ⟨NW, 2, none⟩) HNW.out (.slice (some ⟨b2, 0, none⟩) n n))
      have qt := ((Below.heap_setCell _ ⟨NW, 2, none⟩ (.slice (some ⟨b2, 0, none⟩) n n) _ HWT.out.symm).trans ((Below.heap_setCell _ ⟨NW, 1, none⟩ (.int .i64 C) _ HWT.out.symm).trans ((Below.heap_setCell _ ⟨NW, 0, none⟩ (.int .i64 R) _ HWT.out.symm).trans kT)))
      have HQ6 := hid (And.intro qo (And.intro qk (And.intro qt qb)))
      clear qk qo qb qt bN oN kW kT bel HX HKW HKT HB6 HO2 HO1 HFX HNB0 HWB0 HLO0
      go_wp2
      clear x0 x1 x2 y0 y1 y2 g0 g1 g2
      go_roundw
      case rel => exact ⟨j + 1, by omega, by go_num, b2, n, HQ6.out.1, HQ6.out.2.1, HQ6.out.2.2.1, HLO2.out, HWB.out, HTB.out, HQ6.out.2.2.2⟩
      case measure => simp [intOf]; omega

set_option maxHeartbeats 16000000 in
set_option maxRecDepth 4000 in
theorem specNo3 {w : World} {R C n S J : Nat} {rd : Bool} {b : Nat} {v : Value} {zs : List Int} (h : Rd w b v zs) (hq : plB R C zs = true) (hn : n = R * C) (hS : S ≤ 512) (hJ : J = S + 1) (hnf : ∀ i, i < J → fixB zs R C rd i = false) :
    Calls Try.prog 20 #[ruleV R C v, .bool rd, .int .i64 S] w fun e w' => e = .returned (.tuple #[ruleV 0 0 (.slice none 0 0), .int .i64 0, .bool false]) ∧ Below w.heap.size w w' := by
  obtain ⟨hf, hpl⟩ := pl_parts hq
  obtain ⟨hR, hC, hl, hle⟩ := field_nat hf
  have HZ : Hid (1 ≤ zs.length ∧ zs.length ≤ 1048576) := by simp only [Hid]; rw [hl]; exact ⟨Nat.mul_pos hR.1 hC.1, by omega⟩
  have HL : Hid (zs.length = n) := by simp only [Hid]; rw [hn]; exact hl
  have HF := hid hf
  have HPL := hid hpl
  have HN := hid hn
  have HSB : Hid (decide (0 ≤ (S : Int) ∧ (S : Int) ≤ 512) = true) := decide_eq_true (by omega)
  clear hf hpl hn hR hC hl hle
  have HNF : Hid (∀ i, i < J → Same.sameB R C (vit zs R C rd (i + 1)) R C (vit zs R C rd i) = false) := hnf
  clear hnf
  have HH := hid h
  have HQ := hid hq
  obtain ⟨ao, cap, rfl, hc, hm, _⟩ := h
  clear hc hm hq
  go_enter Try.func20, Try.ntmps20
  go_wp2_with fail
  obtain ⟨w1, hW⟩ : ∃ w1, w1 = ((w.alloc (Obj.cells #[.int .i64 R, .int .i64 C, .slice ao zs.length cap] 26)).alloc (Obj.cells #[.int .i64 0, .int .i64 0, .slice none 0 0] 26)) := ⟨_, rfl⟩
  obtain ⟨N, hN⟩ : ∃ N, N = w.heap.size := ⟨_, rfl⟩
  obtain ⟨NT, hT⟩ : ∃ NT, NT = N + 1 := ⟨_, rfl⟩
  have tt : Below w.heap.size w w1 ∧ w1.cell? ⟨N, 0, none⟩ = some (.int .i64 R) ∧ w1.cell? ⟨N, 1, none⟩ = some (.int .i64 C) ∧ w1.cell? ⟨N, 2, none⟩ = some (.slice ao zs.length cap) ∧ w.heap.size ≤ w1.heap.size := by
    rw [hW, hN]
    exact ⟨Go.Joins.below_alloc2 _ _ _, cell_keep (below1 _ _) (by simp), cell_keep (below1 _ _) (by simp), cell_keep (below1 _ _) (by simp), by simp <;> omega⟩
  have kT : w1.heap[NT]? = some (Obj.cells #[.int .i64 0, .int .i64 0, .slice none 0 0] 26) := by rw [hW]; exact FNew.heap_top (by rw [hT, hN]; simp)
  have HNT : Hid (w.heap.size ≤ NT) := by simp only [Hid]; omega
  have HNE : Hid (N ≠ NT ∧ N < NT) := ⟨by omega, by omega⟩
  simp only [← hW, ← hN, ← hT]
  clear hW hN hT
  go_at_call 51
  refine (Can.l04Plain (HH.out.keep tt.1 (Nat.le_refl _)) tt.2.1 tt.2.2.1 tt.2.2.2.1).mono ?_
  rw [show (fieldB _ _ zs && allB zs 2) = _ from HQ.out]
  rintro e w2 ⟨rfl, hm2⟩
  have bel := Can.below_m hm2
  clear hm2
  replace tt := next3_0 bel tt
  replace kT := (bel.block NT (Array.getElem?_eq_some_iff.1 kT).1).trans kT
  clear bel
  go_wp2_with fail
  go_at_call 55
  refine (inB (lo := 0) (hi := 512)).mono ?_
  rw [HSB.out]
  rintro e w3 ⟨rfl, rfl⟩
  go_wp2_with fail
  go_at_call 56
  refine (SOwn.l04Own tt.2.1 tt.2.2.1 tt.2.2.2.1 (HH.out.keep tt.1 (Nat.le_refl _)) HZ.out).mono ?_
  rw [HL.out]
  rintro e w4 ⟨b0, k, rfl, ow, lo, hk1, hk2, bel⟩
  have HNTb : Hid (NT ≠ b0) := Nat.ne_of_lt (Nat.lt_of_lt_of_le (heap_lt kT) lo)
  have HLO : Hid (w.heap.size ≤ b0) := Nat.le_trans tt.1.size lo
  replace kT := heap_keep bel kT
  have HB4 := hid (tt.1.trans (bel.mono tt.1.size))
  have HOW := hid ow
  have HKT := hid kT
  clear bel lo ow kT hk1 hk2 tt
  go_wp2_with fail
  obtain ⟨w9, hW⟩ : ∃ w9, w9 = w4.alloc (Obj.cells #[.int .i64 R, .int .i64 C, .slice (some ⟨b0, 0, none⟩) n k] 26) := ⟨_, rfl⟩
  obtain ⟨NW, hN⟩ : ∃ NW, NW = w4.heap.size := ⟨_, rfl⟩
  have bel : Below w4.heap.size w4 w9 := by rw [hW]; exact below1 _ _
  have HKW : Hid (w9.heap[NW]? = some (Obj.cells #[.int .i64 R, .int .i64 C, .slice (some ⟨b0, 0, none⟩) n k] 26)) := by simp only [Hid]; rw [hW]; exact FNew.heap_top hN
  have HNW : Hid (w.heap.size ≤ NW) := by simp only [Hid]; rw [hN]; exact HB4.out.size
  have HWT : Hid (NW ≠ NT) := by simp only [Hid]; rw [hN]; exact Nat.ne_of_gt (heap_lt HKT.out)
  have HWb : Hid (NW ≠ b0) := by simp only [Hid]; rw [hN]; exact Nat.ne_of_gt HOW.out.lt
  have HKT9 := hid (heap_keep bel HKT.out)
  have HOW9 := hid (HOW.out.keep bel)
  have HB9 := hid (HB4.out.trans (bel.mono HB4.out.size))
  simp only [← hW, ← hN]
  clear hW hN bel HKT HOW HB4
  go_loopw [10] (fun t wr => ∃ j : Nat, j ≤ J ∧ t = .int .i64 (j : Int) ∧ ∃ bc kc : Nat, Own 2 wr bc (.slice (some ⟨bc, 0, none⟩) n kc) (vit zs R C rd j) ∧ wr.heap[NW]? = some (Obj.cells #[.int .i64 R, .int .i64 C, .slice (some ⟨bc, 0, none⟩) n kc] 26) ∧ wr.heap[NT]? = some (Obj.cells #[.int .i64 0, .int .i64 0, .slice none 0 0] 26) ∧ w.heap.size ≤ bc ∧ NW ≠ bc ∧ NT ≠ bc ∧ Below w.heap.size w wr) (fun t _ => (S + 1) - (intOf t).toNat)
  case atStart => exact ⟨0, Nat.zero_le _, rfl, b0, k, HOW9.out, HKW.out, HKT9.out, HLO.out, HWb.out, HNTb.out, HB9.out⟩
  case round =>
    clear HOW9 HKW HKT9 HLO HWb HNTb HB9
    obtain ⟨j, hj, rfl, bc, kc, ow, kW, kT, hlo, hWb0, hTb0, hbel⟩ := hrel
    by_cases hlt : j < J
    · have hji : (j : Int) < (S : Int) + 1 := by omega
      have HFX : Hid (Same.sameB R C (vit zs R C rd (j + 1)) R C (vit zs R C rd j) = false) := HNF.out j (by omega)
      have c0 : wr.cell? ⟨NW, 0, none⟩ = some (.int .i64 R) := Go.Joins.cell_of_block kW 0
      have c1 : wr.cell? ⟨NW, 1, none⟩ = some (.int .i64 C) := Go.Joins.cell_of_block kW 1
      have c2 : wr.cell? ⟨NW, 2, none⟩ = some (.slice (some ⟨bc, 0, none⟩) n kc) := Go.Joins.cell_of_block kW 2
      have HC := hid (And.intro c0 (And.intro c1 c2))
      have HKW0 := hid kW
      have HKT0 := hid kT
      have HB := hid hbel
      have HOW := hid ow
      have HNB0 := hid hTb0
      have HWB0 := hid hWb0
      have HLO0 := hid hlo
      clear c0 c1 c2 kW kT hbel ow hlo hWb0 hTb0
      go_wp2_with fail
      go_at_call 52
      refine (Vt.specVote HC.out.1 HC.out.2.1 HC.out.2.2 HOW.out.rd (vit_ok HF.out HPL.out j).1 HN.out (vit_ok HF.out HPL.out j).2).mono ?_
      rintro e w5 ⟨b2, rfl, ow2, lo2, bel⟩
      obtain ⟨w6, hW⟩ : ∃ w6, w6 = w5.alloc (Obj.cells #[.int .i64 R, .int .i64 C, .slice (some ⟨b2, 0, none⟩) n n] 26) := ⟨_, rfl⟩
      obtain ⟨NX, hX⟩ : ∃ NX, NX = w5.heap.size := ⟨_, rfl⟩
      have bel6 : Below w5.heap.size w5 w6 := by rw [hW]; exact below1 _ _
      have x0 : w6.cell? ⟨NX, 0, none⟩ = some (.int .i64 R) := by rw [hW, hX]; simp
      have x1 : w6.cell? ⟨NX, 1, none⟩ = some (.int .i64 C) := by rw [hW, hX]; simp
      have x2 : w6.cell? ⟨NX, 2, none⟩ = some (.slice (some ⟨b2, 0, none⟩) n n) := by rw [hW, hX]; simp
      have HWB : Hid (NW ≠ b2) := Nat.ne_of_lt (Nat.lt_of_lt_of_le (heap_lt HKW0.out) lo2)
      have HTB : Hid (NT ≠ b2) := Nat.ne_of_lt (Nat.lt_of_lt_of_le (heap_lt HKT0.out) lo2)
      have HLO2 : Hid (w.heap.size ≤ b2) := Nat.le_trans HB.out.size lo2
      have hkw := heap_keep bel6 (heap_keep bel HKW0.out)
      have hkt := heap_keep bel6 (heap_keep bel HKT0.out)
      have HB6 := hid ((HB.out.trans (bel.mono HB.out.size)).trans (bel6.mono (HB.out.trans (bel.mono HB.out.size)).size))
      have HO2 := hid (ow2.keep bel6)
      have HO1 := hid ((HOW.out.keep bel).keep bel6)
      have c0 : w6.cell? ⟨NW, 0, none⟩ = some (.int .i64 R) := Go.Joins.cell_of_block hkw 0
      have c1 : w6.cell? ⟨NW, 1, none⟩ = some (.int .i64 C) := Go.Joins.cell_of_block hkw 1
      have c2 : w6.cell? ⟨NW, 2, none⟩ = some (.slice (some ⟨bc, 0, none⟩) n kc) := Go.Joins.cell_of_block hkw 2
      have HX := hid (And.intro x0 (And.intro x1 (And.intro x2 (And.intro c0 (And.intro c1 c2)))))
      have HKW := hid hkw
      have HKT := hid hkt
      clear HC HKW0 HKT0 HB HOW ow2 lo2 bel bel6 hkw hkt
      clear x0 x1 x2 c0 c1 c2
      go_wp2_with fail
      simp only [← hW, ← hX]
      clear hW hX
      go_at_call 57
      refine (Same.l02Same HX.out.1 HX.out.2.1 HX.out.2.2.1 HX.out.2.2.2.1 HX.out.2.2.2.2.1 HX.out.2.2.2.2.2 HO2.out.rd HO1.out.rd).mono ?_
      rw [show Same.sameB (R : Int) (C : Int) (voteL (vit zs R C rd j) R C rd) (R : Int) (C : Int) (vit zs R C rd j) = false from HFX.out]
      rintro e w7 ⟨rfl, hm⟩
      have bel := Can.below_m hm
      clear hm
      have y0 : w7.cell? ⟨NW, 0, none⟩ = some (.int .i64 R) := cell_keep bel HX.out.2.2.2.1
      have y1 : w7.cell? ⟨NW, 1, none⟩ = some (.int .i64 C) := cell_keep bel HX.out.2.2.2.2.1
      have y2 : w7.cell? ⟨NW, 2, none⟩ = some (.slice (some ⟨bc, 0, none⟩) n kc) := cell_keep bel HX.out.2.2.2.2.2
      have kW := heap_keep bel HKW.out
      have kT := heap_keep bel HKT.out
      have x0 : w7.cell? ⟨NX, 0, none⟩ = some (.int .i64 R) := cell_keep bel HX.out.1
      have x1 : w7.cell? ⟨NX, 1, none⟩ = some (.int .i64 C) := cell_keep bel HX.out.2.1
      have x2 : w7.cell? ⟨NX, 2, none⟩ = some (.slice (some ⟨b2, 0, none⟩) n n) := cell_keep bel HX.out.2.2.1
      have g0 : w7.frozen? ⟨NW, 0, none⟩ = false := Go.Joins.unfrozen_of_block kW 0
      have g1 : w7.frozen? ⟨NW, 1, none⟩ = false := Go.Joins.unfrozen_of_block kW 1
      have g2 : w7.frozen? ⟨NW, 2, none⟩ = false := Go.Joins.unfrozen_of_block kW 2
      have bN := HB6.out.trans (bel.mono HB6.out.size)
      have oN := HO2.out.keep bel
      have qk := (Go.Joins.block_setCell (i := 2) (Go.Joins.block_setCell (i := 1) (Go.Joins.block_setCell (i := 0) kW (.int .i64 R)) (.int .i64 C)) (.slice (some ⟨b2, 0, none⟩) n n))
      have qo := (own_set (own_set (own_set oN ⟨NW, 0, none⟩ (.int .i64 R) HWB.out) ⟨NW, 1, none⟩ (.int .i64 C) HWB.out) ⟨NW, 2, none⟩ (.slice (some ⟨b2, 0, none⟩) n n) HWB.out)
      have qb := (((bN.setCell (p := ⟨NW, 0, none⟩) HNW.out (.int .i64 R)).setCell (p := ⟨NW, 1, none⟩) HNW.out (.int .i64 C)).setCell (p := ⟨NW, 2, none⟩) HNW.out (.slice (some ⟨b2, 0, none⟩) n n))
      have qt := ((Below.heap_setCell _ ⟨NW, 2, none⟩ (.slice (some ⟨b2, 0, none⟩) n n) _ HWT.out.symm).trans ((Below.heap_setCell _ ⟨NW, 1, none⟩ (.int .i64 C) _ HWT.out.symm).trans ((Below.heap_setCell _ ⟨NW, 0, none⟩ (.int .i64 R) _ HWT.out.symm).trans kT)))
      have HQ6 := hid (And.intro qo (And.intro qk (And.intro qt qb)))
      clear qk qo qb qt bN oN kW kT bel HX HKW HKT HB6 HO2 HO1 HFX HNB0 HWB0 HLO0
      go_wp2
      clear x0 x1 x2 y0 y1 y2 g0 g1 g2
      go_roundw
      case rel => exact ⟨j + 1, by omega, by go_num, b2, n, HQ6.out.1, HQ6.out.2.1, HQ6.out.2.2.1, HLO2.out, HWB.out, HTB.out, HQ6.out.2.2.2⟩
      case measure => simp [intOf]; omega
    · have hj2 : j = S + 1 := by omega
      subst hj2
      have HNB := hid hTb0
      have HB := hid hbel
      clear hlo hWb0 hTb0 hbel ow kW
      have y0 : wr.cell? ⟨NT, 0, none⟩ = some (.int .i64 0) := Go.Joins.cell_of_block kT 0
      have y1 : wr.cell? ⟨NT, 1, none⟩ = some (.int .i64 0) := Go.Joins.cell_of_block kT 1
      have y2 : wr.cell? ⟨NT, 2, none⟩ = some (.slice none 0 0) := Go.Joins.cell_of_block kT 2
      have g0 : wr.frozen? ⟨NT, 0, none⟩ = false := Go.Joins.unfrozen_of_block kT 0
      have g1 : wr.frozen? ⟨NT, 1, none⟩ = false := Go.Joins.unfrozen_of_block kT 1
      have g2 : wr.frozen? ⟨NT, 2, none⟩ = false := Go.Joins.unfrozen_of_block kT 2
      have HKx := hid kT
      clear kT
      go_wp2
      obtain ⟨W5, hW⟩ : ∃ W5, W5 = (((wr.setCell ⟨NT, 0, none⟩ (.int .i64 0)).setCell ⟨NT, 1, none⟩ (.int .i64 0)).setCell ⟨NT, 2, none⟩ (.slice none 0 0)) := ⟨_, rfl⟩
      have q0 := (Go.Joins.block_setCell (i := 2) (Go.Joins.block_setCell (i := 1) (Go.Joins.block_setCell (i := 0) HKx.out (.int .i64 0)) (.int .i64 0)) (.slice none 0 0))
      rw [← hW] at q0
      have z0 : W5.cell? ⟨NT, 0, none⟩ = some (.int .i64 0) := Go.Joins.cell_of_block q0 0
      have z1 : W5.cell? ⟨NT, 1, none⟩ = some (.int .i64 0) := Go.Joins.cell_of_block q0 1
      have z2 : W5.cell? ⟨NT, 2, none⟩ = some (.slice none 0 0) := Go.Joins.cell_of_block q0 2
      have B5 : Below w.heap.size w W5 := by
        have h1 := HNT.out
        rw [hW]
        exact ((HB.out.setCell (by simp; omega) _).setCell (by simp; omega) _).setCell (by simp; omega) _
      simp only [← hW]
      clear hW q0
      simp [bodyPost, results, Try.results20, go_sem, z0, z1, z2]
      exact B5

set_option maxHeartbeats 16000000 in
set_option maxRecDepth 4000 in
theorem implOk {w : World} {R C n S J : Nat} {rd : Bool} {b : Nat} {v : Value} {zs : List Int} (h : Rd w b v zs) (hq : plB R C zs = true) (hn : n = R * C) (hS : S ≤ 512) (hJ : J ≤ S) (hfx : fixB zs R C rd J = true) (hnf : ∀ i, i < J → fixB zs R C rd i = false) :
    Calls Try.prog 21 #[ruleV R C v, .bool rd, .int .i64 S] w fun e w' => ∃ b' k, e = .returned (.tuple #[ruleV R C (.slice (some ⟨b', 0, none⟩) n k), .int .i64 J, .bool true]) ∧ Own 2 w' b' (.slice (some ⟨b', 0, none⟩) n k) (vit zs R C rd J) ∧ w.heap.size ≤ b' ∧ Below w.heap.size w w' := by
  obtain ⟨hf, hpl⟩ := pl_parts hq
  obtain ⟨hR, hC, hl, hle⟩ := field_nat hf
  have HZ : Hid (1 ≤ zs.length ∧ zs.length ≤ 1048576) := by simp only [Hid]; rw [hl]; exact ⟨Nat.mul_pos hR.1 hC.1, by omega⟩
  have HL : Hid (zs.length = n) := by simp only [Hid]; rw [hn]; exact hl
  have HF := hid hf
  have HPL := hid hpl
  have HN := hid hn
  have HSB : Hid (decide (0 ≤ (S : Int) ∧ (S : Int) ≤ 512) = true) := decide_eq_true (by omega)
  clear hf hpl hn hR hC hl hle
  have HNF : Hid (∀ i, i < J → Same.sameB R C (vit zs R C rd (i + 1)) R C (vit zs R C rd i) = false) := hnf
  clear hnf
  have HFJ : Hid (Same.sameB R C (vit zs R C rd (J + 1)) R C (vit zs R C rd J) = true) := hfx
  clear hfx
  have HH := hid h
  have HQ := hid hq
  obtain ⟨ao, cap, rfl, hc, hm, _⟩ := h
  clear hc hm hq
  go_enter Try.func21, Try.ntmps21
  go_wp2_with fail
  obtain ⟨w1, hW⟩ : ∃ w1, w1 = ((w.alloc (Obj.cells #[.int .i64 R, .int .i64 C, .slice ao zs.length cap] 26)).alloc (Obj.cells #[.int .i64 0, .int .i64 0, .slice none 0 0] 26)) := ⟨_, rfl⟩
  obtain ⟨N, hN⟩ : ∃ N, N = w.heap.size := ⟨_, rfl⟩
  obtain ⟨NT, hT⟩ : ∃ NT, NT = N + 1 := ⟨_, rfl⟩
  have tt : Below w.heap.size w w1 ∧ w1.cell? ⟨N, 0, none⟩ = some (.int .i64 R) ∧ w1.cell? ⟨N, 1, none⟩ = some (.int .i64 C) ∧ w1.cell? ⟨N, 2, none⟩ = some (.slice ao zs.length cap) ∧ w.heap.size ≤ w1.heap.size := by
    rw [hW, hN]
    exact ⟨Go.Joins.below_alloc2 _ _ _, cell_keep (below1 _ _) (by simp), cell_keep (below1 _ _) (by simp), cell_keep (below1 _ _) (by simp), by simp <;> omega⟩
  have kT : w1.heap[NT]? = some (Obj.cells #[.int .i64 0, .int .i64 0, .slice none 0 0] 26) := by rw [hW]; exact FNew.heap_top (by rw [hT, hN]; simp)
  have HNT : Hid (w.heap.size ≤ NT) := by simp only [Hid]; omega
  have HNE : Hid (N ≠ NT ∧ N < NT) := ⟨by omega, by omega⟩
  simp only [← hW, ← hN, ← hT]
  clear hW hN hT
  go_at_call 53
  refine (Can.isPlain (HH.out.keep tt.1 (Nat.le_refl _))).mono ?_
  rw [show (fieldB _ _ zs && allB zs 2) = _ from HQ.out]
  rintro e w2 ⟨rfl, bel⟩
  replace tt := next3_0 bel tt
  replace kT := (bel.block NT (Array.getElem?_eq_some_iff.1 kT).1).trans kT
  clear bel
  go_wp2_with fail
  go_at_call 58
  refine (isCountB (hi := 512)).mono ?_
  rw [HSB.out]
  rintro e w3 ⟨rfl, rfl⟩
  go_wp2_with fail
  go_at_call 59
  refine (Clone.copyOf (HH.out.keep tt.1 (Nat.le_refl _)) HZ.out).mono ?_
  rw [HL.out]
  rintro e w4 ⟨b0, k, rfl, ow, lo, hk1, hk2, bel⟩
  have HNTb : Hid (NT ≠ b0) := Nat.ne_of_lt (Nat.lt_of_lt_of_le (heap_lt kT) lo)
  have HLO : Hid (w.heap.size ≤ b0) := Nat.le_trans tt.1.size lo
  replace kT := heap_keep bel kT
  have HB4 := hid (tt.1.trans (bel.mono tt.1.size))
  have HOW := hid ow
  have HKT := hid kT
  clear bel lo ow kT hk1 hk2 tt
  go_wp2_with fail
  go_at_call 54
  refine (VtI.voting (rd := rd)).mono ?_
  rintro e w8 ⟨NA, NR, rfl, vo, hNA, hNR, bel⟩
  have HVO0 := hid vo
  have HKT8 := hid (heap_keep bel HKT.out)
  have HOW8 := hid (HOW.out.keep bel)
  have HB8 := hid (HB4.out.trans (bel.mono HB4.out.size))
  clear HKT HOW HB4 bel vo hNA hNR
  go_wp2_with fail
  obtain ⟨w9, hW⟩ : ∃ w9, w9 = w8.alloc (Obj.cells #[.int .i64 R, .int .i64 C, .slice (some ⟨b0, 0, none⟩) n k] 26) := ⟨_, rfl⟩
  obtain ⟨NW, hN⟩ : ∃ NW, NW = w8.heap.size := ⟨_, rfl⟩
  have bel : Below w8.heap.size w8 w9 := by rw [hW]; exact below1 _ _
  have HKW : Hid (w9.heap[NW]? = some (Obj.cells #[.int .i64 R, .int .i64 C, .slice (some ⟨b0, 0, none⟩) n k] 26)) := by simp only [Hid]; rw [hW]; exact FNew.heap_top hN
  have HNW : Hid (w.heap.size ≤ NW) := by simp only [Hid]; rw [hN]; exact HB8.out.size
  have HWT : Hid (NW ≠ NT) := by simp only [Hid]; rw [hN]; exact Nat.ne_of_gt (heap_lt HKT8.out)
  have HWb : Hid (NW ≠ b0) := by simp only [Hid]; rw [hN]; exact Nat.ne_of_gt HOW8.out.lt
  have HKT9 := hid (heap_keep bel HKT8.out)
  have HOW9 := hid (HOW8.out.keep bel)
  have HB9 := hid (HB8.out.trans (bel.mono HB8.out.size))
  have HVO9 := hid (HVO0.out.keep bel)
  have HVN : Hid (NA ≠ NW ∧ NR ≠ NW) := by simp only [Hid]; rw [hN]; exact ⟨Nat.ne_of_lt (heap_lt HVO0.out.1), Nat.ne_of_lt (heap_lt HVO0.out.2)⟩
  simp only [← hW, ← hN]
  clear hW hN bel HKT8 HOW8 HB8 HVO0
  have hwr1 : wrap64 ((S : Int) + 1) = (S : Int) + 1 := wrap_id (by omega) (by omega)
  go_loopw [28] (fun t wr => ∃ j : Nat, j ≤ J ∧ t = .int .i64 (j : Int) ∧ ∃ bc kc : Nat, Own 2 wr bc (.slice (some ⟨bc, 0, none⟩) n kc) (vit zs R C rd j) ∧ wr.heap[NW]? = some (Obj.cells #[.int .i64 R, .int .i64 C, .slice (some ⟨bc, 0, none⟩) n kc] 26) ∧ wr.heap[NT]? = some (Obj.cells #[.int .i64 0, .int .i64 0, .slice none 0 0] 26) ∧ w.heap.size ≤ bc ∧ NW ≠ bc ∧ NT ≠ bc ∧ Below w.heap.size w wr ∧ VtI.Vot wr NA NR rd) (fun t _ => (S + 1) - (intOf t).toNat)
  case atStart => exact ⟨0, Nat.zero_le _, rfl, b0, k, HOW9.out, HKW.out, HKT9.out, HLO.out, HWb.out, HNTb.out, HB9.out, HVO9.out⟩
  case round =>
    clear HOW9 HKW HKT9 HLO HWb HNTb HB9 HVO9
    obtain ⟨j, hj, rfl, bc, kc, ow, kW, kT, hlo, hWb0, hTb0, hbel, hvo⟩ := hrel
    have hji : (j : Int) < (S : Int) + 1 := by omega
    by_cases hjJ : j = J
    · have HJ := hid hjJ
      have HFX : Hid (Same.sameB R C (vit zs R C rd (j + 1)) R C (vit zs R C rd j) = true) := by have := HFJ.out; rw [hjJ]; exact this
      have c0 : wr.cell? ⟨NW, 0, none⟩ = some (.int .i64 R) := Go.Joins.cell_of_block kW 0
      have c1 : wr.cell? ⟨NW, 1, none⟩ = some (.int .i64 C) := Go.Joins.cell_of_block kW 1
      have c2 : wr.cell? ⟨NW, 2, none⟩ = some (.slice (some ⟨bc, 0, none⟩) n kc) := Go.Joins.cell_of_block kW 2
      have HC := hid (And.intro c0 (And.intro c1 c2))
      have HKW0 := hid kW
      have HKT0 := hid kT
      have HB := hid hbel
      have HOW := hid ow
      have HNB0 := hid hTb0
      have HWB0 := hid hWb0
      have HLO0 := hid hlo
      clear kW kT hbel ow hlo hWb0 hTb0
      have HVO := hid hvo
      clear hvo
      go_wp2_with fail
      go_at_call 101
      refine (VtI.votClo HVO.out HOW.out.rd (vit_ok HF.out HPL.out j).1 HN.out (vit_ok HF.out HPL.out j).2).mono ?_
      rintro e w5 ⟨b2, rfl, ow2, lo2, bel⟩
      clear c0 c1 c2
      obtain ⟨w6, hW⟩ : ∃ w6, w6 = w5.alloc (Obj.cells #[.int .i64 R, .int .i64 C, .slice (some ⟨b2, 0, none⟩) n n] 26) := ⟨_, rfl⟩
      obtain ⟨NX, hX⟩ : ∃ NX, NX = w5.heap.size := ⟨_, rfl⟩
      have bel6 : Below w5.heap.size w5 w6 := by rw [hW]; exact below1 _ _
      have x0 : w6.cell? ⟨NX, 0, none⟩ = some (.int .i64 R) := by rw [hW, hX]; simp
      have x1 : w6.cell? ⟨NX, 1, none⟩ = some (.int .i64 C) := by rw [hW, hX]; simp
      have x2 : w6.cell? ⟨NX, 2, none⟩ = some (.slice (some ⟨b2, 0, none⟩) n n) := by rw [hW, hX]; simp
      have HWB : Hid (NW ≠ b2) := Nat.ne_of_lt (Nat.lt_of_lt_of_le (heap_lt HKW0.out) lo2)
      have HTB : Hid (NT ≠ b2) := Nat.ne_of_lt (Nat.lt_of_lt_of_le (heap_lt HKT0.out) lo2)
      have HLO2 : Hid (w.heap.size ≤ b2) := Nat.le_trans HB.out.size lo2
      have hkw := heap_keep bel6 (heap_keep bel HKW0.out)
      have hkt := heap_keep bel6 (heap_keep bel HKT0.out)
      have HB6 := hid ((HB.out.trans (bel.mono HB.out.size)).trans (bel6.mono (HB.out.trans (bel.mono HB.out.size)).size))
      have HO2 := hid (ow2.keep bel6)
      have HO1 := hid ((HOW.out.keep bel).keep bel6)
      have HVO6 := hid ((HVO.out.keep bel).keep bel6)
      clear HVO
      have c0 : w6.cell? ⟨NW, 0, none⟩ = some (.int .i64 R) := Go.Joins.cell_of_block hkw 0
      have c1 : w6.cell? ⟨NW, 1, none⟩ = some (.int .i64 C) := Go.Joins.cell_of_block hkw 1
      have c2 : w6.cell? ⟨NW, 2, none⟩ = some (.slice (some ⟨bc, 0, none⟩) n kc) := Go.Joins.cell_of_block hkw 2
      have HX := hid (And.intro x0 (And.intro x1 (And.intro x2 (And.intro c0 (And.intro c1 c2)))))
      have HKW := hid hkw
      have HKT := hid hkt
      clear HC HKW0 HKT0 HB HOW ow2 lo2 bel bel6 hkw hkt
      rw [hW, hX] at x0 x1 x2
      rw [hW] at c0 c1 c2
      go_wp2_with fail
      simp only [← hW, ← hX]
      clear x0 x1 x2 c0 c1 c2
      clear hW hX
      go_at_call 60
      refine (Same.impl_two HO2.out.rd HO1.out.rd).mono ?_
      rw [show Same.sameB (R : Int) (C : Int) (lifeL [5, 6, 7, 8] [4, 5, 6, 7, 8] (vit zs R C rd j) R C rd) (R : Int) (C : Int) (vit zs R C rd j) = true from HFX.out]
      rintro e w7 ⟨rfl, bel⟩
      have y0 : w7.cell? ⟨NW, 0, none⟩ = some (.int .i64 R) := cell_keep bel HX.out.2.2.2.1
      have y1 : w7.cell? ⟨NW, 1, none⟩ = some (.int .i64 C) := cell_keep bel HX.out.2.2.2.2.1
      have y2 : w7.cell? ⟨NW, 2, none⟩ = some (.slice (some ⟨bc, 0, none⟩) n kc) := cell_keep bel HX.out.2.2.2.2.2
      have kW := heap_keep bel HKW.out
      have kT := heap_keep bel HKT.out
      have HB := hid (HB6.out.trans (bel.mono HB6.out.size))
      have HO := hid (HO1.out.keep bel)
      have HNB := HNB0
      have HLo := HLO0
      clear bel HX HKW HKT HB6 HO2 HO1 HFX kW
      clear HVO6
      have x0 := y0
      have x1 := y1
      have x2 := y2
      clear y0 y1 y2
      have y0 : w7.cell? ⟨NT, 0, none⟩ = some (.int .i64 0) := Go.Joins.cell_of_block kT 0
      have y1 : w7.cell? ⟨NT, 1, none⟩ = some (.int .i64 0) := Go.Joins.cell_of_block kT 1
      have y2 : w7.cell? ⟨NT, 2, none⟩ = some (.slice none 0 0) := Go.Joins.cell_of_block kT 2
      have g0 : w7.frozen? ⟨NT, 0, none⟩ = false := Go.Joins.unfrozen_of_block kT 0
      have g1 : w7.frozen? ⟨NT, 1, none⟩ = false := Go.Joins.unfrozen_of_block kT 1
      have g2 : w7.frozen? ⟨NT, 2, none⟩ = false := Go.Joins.unfrozen_of_block kT 2
      have HKx := hid kT
      clear kT
      go_wp2
      obtain ⟨W5, hW⟩ : ∃ W5, W5 = (((w7.setCell ⟨NT, 0, none⟩ (.int .i64 R)).setCell ⟨NT, 1, none⟩ (.int .i64 C)).setCell ⟨NT, 2, none⟩ (.slice (some ⟨bc, 0, none⟩) n kc)) := ⟨_, rfl⟩
      have q0 := (Go.Joins.block_setCell (i := 2) (Go.Joins.block_setCell (i := 1) (Go.Joins.block_setCell (i := 0) HKx.out (.int .i64 R)) (.int .i64 C)) (.slice (some ⟨bc, 0, none⟩) n kc))
      rw [← hW] at q0
      have z0 : W5.cell? ⟨NT, 0, none⟩ = some (.int .i64 R) := Go.Joins.cell_of_block q0 0
      have z1 : W5.cell? ⟨NT, 1, none⟩ = some (.int .i64 C) := Go.Joins.cell_of_block q0 1
      have z2 : W5.cell? ⟨NT, 2, none⟩ = some (.slice (some ⟨bc, 0, none⟩) n kc) := Go.Joins.cell_of_block q0 2
      have O5 := (own_set (own_set (own_set HO.out ⟨NT, 0, none⟩ (.int .i64 R) HNB.out) ⟨NT, 1, none⟩ (.int .i64 C) HNB.out) ⟨NT, 2, none⟩ (.slice (some ⟨bc, 0, none⟩) n kc) HNB.out)
      rw [← hW] at O5
      have B5 : Below w.heap.size w W5 := by
        have h1 := HNT.out
        rw [hW]
        exact ((HB.out.setCell (by simp; omega) _).setCell (by simp; omega) _).setCell (by simp; omega) _
      simp only [← hW]
      clear hW q0
      simp [bodyPost, results, Try.results21, go_sem, z0, z1, z2]
      exact ⟨bc, kc, ⟨rfl, rfl⟩, by rw [← HJ.out]; exact O5, HLo.out, B5⟩
    · have hlt : j < J := by omega
      clear hjJ
      have HFX : Hid (Same.sameB R C (vit zs R C rd (j + 1)) R C (vit zs R C rd j) = false) := HNF.out j (by omega)
      have c0 : wr.cell? ⟨NW, 0, none⟩ = some (.int .i64 R) := Go.Joins.cell_of_block kW 0
      have c1 : wr.cell? ⟨NW, 1, none⟩ = some (.int .i64 C) := Go.Joins.cell_of_block kW 1
      have c2 : wr.cell? ⟨NW, 2, none⟩ = some (.slice (some ⟨bc, 0, none⟩) n kc) := Go.Joins.cell_of_block kW 2
      have HC := hid (And.intro c0 (And.intro c1 c2))
      have HKW0 := hid kW
      have HKT0 := hid kT
      have HB := hid hbel
      have HOW := hid ow
      have HNB0 := hid hTb0
      have HWB0 := hid hWb0
      have HLO0 := hid hlo
      clear kW kT hbel ow hlo hWb0 hTb0
      have HVO := hid hvo
      clear hvo
      go_wp2_with fail
      go_at_call 101
      refine (VtI.votClo HVO.out HOW.out.rd (vit_ok HF.out HPL.out j).1 HN.out (vit_ok HF.out HPL.out j).2).mono ?_
      rintro e w5 ⟨b2, rfl, ow2, lo2, bel⟩
      clear c0 c1 c2
      obtain ⟨w6, hW⟩ : ∃ w6, w6 = w5.alloc (Obj.cells #[.int .i64 R, .int .i64 C, .slice (some ⟨b2, 0, none⟩) n n] 26) := ⟨_, rfl⟩
      obtain ⟨NX, hX⟩ : ∃ NX, NX = w5.heap.size := ⟨_, rfl⟩
      have bel6 : Below w5.heap.size w5 w6 := by rw [hW]; exact below1 _ _
      have x0 : w6.cell? ⟨NX, 0, none⟩ = some (.int .i64 R) := by rw [hW, hX]; simp
      have x1 : w6.cell? ⟨NX, 1, none⟩ = some (.int .i64 C) := by rw [hW, hX]; simp
      have x2 : w6.cell? ⟨NX, 2, none⟩ = some (.slice (some ⟨b2, 0, none⟩) n n) := by rw [hW, hX]; simp
      have HWB : Hid (NW ≠ b2) := Nat.ne_of_lt (Nat.lt_of_lt_of_le (heap_lt HKW0.out) lo2)
      have HTB : Hid (NT ≠ b2) := Nat.ne_of_lt (Nat.lt_of_lt_of_le (heap_lt HKT0.out) lo2)
      have HLO2 : Hid (w.heap.size ≤ b2) := Nat.le_trans HB.out.size lo2
      have hkw := heap_keep bel6 (heap_keep bel HKW0.out)
      have hkt := heap_keep bel6 (heap_keep bel HKT0.out)
      have HB6 := hid ((HB.out.trans (bel.mono HB.out.size)).trans (bel6.mono (HB.out.trans (bel.mono HB.out.size)).size))
      have HO2 := hid (ow2.keep bel6)
      have HO1 := hid ((HOW.out.keep bel).keep bel6)
      have HVO6 := hid ((HVO.out.keep bel).keep bel6)
      clear HVO
      have c0 : w6.cell? ⟨NW, 0, none⟩ = some (.int .i64 R) := Go.Joins.cell_of_block hkw 0
      have c1 : w6.cell? ⟨NW, 1, none⟩ = some (.int .i64 C) := Go.Joins.cell_of_block hkw 1
      have c2 : w6.cell? ⟨NW, 2, none⟩ = some (.slice (some ⟨bc, 0, none⟩) n kc) := Go.Joins.cell_of_block hkw 2
      have HX := hid (And.intro x0 (And.intro x1 (And.intro x2 (And.intro c0 (And.intro c1 c2)))))
      have HKW := hid hkw
      have HKT := hid hkt
      clear HC HKW0 HKT0 HB HOW ow2 lo2 bel bel6 hkw hkt
      rw [hW, hX] at x0 x1 x2
      rw [hW] at c0 c1 c2
      go_wp2_with fail
      simp only [← hW, ← hX]
      clear x0 x1 x2 c0 c1 c2
      clear hW hX
      go_at_call 60
      refine (Same.impl_two HO2.out.rd HO1.out.rd).mono ?_
      rw [show Same.sameB (R : Int) (C : Int) (lifeL [5, 6, 7, 8] [4, 5, 6, 7, 8] (vit zs R C rd j) R C rd) (R : Int) (C : Int) (vit zs R C rd j) = false from HFX.out]
      rintro e w7 ⟨rfl, bel⟩
      have y0 : w7.cell? ⟨NW, 0, none⟩ = some (.int .i64 R) := cell_keep bel HX.out.2.2.2.1
      have y1 : w7.cell? ⟨NW, 1, none⟩ = some (.int .i64 C) := cell_keep bel HX.out.2.2.2.2.1
      have y2 : w7.cell? ⟨NW, 2, none⟩ = some (.slice (some ⟨bc, 0, none⟩) n kc) := cell_keep bel HX.out.2.2.2.2.2
      have kW := heap_keep bel HKW.out
      have kT := heap_keep bel HKT.out
      have x0 : w7.cell? ⟨NX, 0, none⟩ = some (.int .i64 R) := cell_keep bel HX.out.1
      have x1 : w7.cell? ⟨NX, 1, none⟩ = some (.int .i64 C) := cell_keep bel HX.out.2.1
      have x2 : w7.cell? ⟨NX, 2, none⟩ = some (.slice (some ⟨b2, 0, none⟩) n n) := cell_keep bel HX.out.2.2.1
      have g0 : w7.frozen? ⟨NW, 0, none⟩ = false := Go.Joins.unfrozen_of_block kW 0
      have g1 : w7.frozen? ⟨NW, 1, none⟩ = false := Go.Joins.unfrozen_of_block kW 1
      have g2 : w7.frozen? ⟨NW, 2, none⟩ = false := Go.Joins.unfrozen_of_block kW 2
      have bN := HB6.out.trans (bel.mono HB6.out.size)
      have oN := HO2.out.keep bel
      have vN := HVO6.out.keep bel
      have qk := (Go.Joins.block_setCell (i := 2) (Go.Joins.block_setCell (i := 1) (Go.Joins.block_setCell (i := 0) kW (.int .i64 R)) (.int .i64 C)) (.slice (some ⟨b2, 0, none⟩) n n))
      have qo := (own_set (own_set (own_set oN ⟨NW, 0, none⟩ (.int .i64 R) HWB.out) ⟨NW, 1, none⟩ (.int .i64 C) HWB.out) ⟨NW, 2, none⟩ (.slice (some ⟨b2, 0, none⟩) n n) HWB.out)
      have qb := (((bN.setCell (p := ⟨NW, 0, none⟩) HNW.out (.int .i64 R)).setCell (p := ⟨NW, 1, none⟩) HNW.out (.int .i64 C)).setCell (p := ⟨NW, 2, none⟩) HNW.out (.slice (some ⟨b2, 0, none⟩) n n))
      have qt := ((Below.heap_setCell _ ⟨NW, 2, none⟩ (.slice (some ⟨b2, 0, none⟩) n n) _ HWT.out.symm).trans ((Below.heap_setCell _ ⟨NW, 1, none⟩ (.int .i64 C) _ HWT.out.symm).trans ((Below.heap_setCell _ ⟨NW, 0, none⟩ (.int .i64 R) _ HWT.out.symm).trans kT)))
      have qa := ((Below.heap_setCell _ ⟨NW, 2, none⟩ (.slice (some ⟨b2, 0, none⟩) n n) _ HVN.out.1).trans ((Below.heap_setCell _ ⟨NW, 1, none⟩ (.int .i64 C) _ HVN.out.1).trans ((Below.heap_setCell _ ⟨NW, 0, none⟩ (.int .i64 R) _ HVN.out.1).trans vN.1)))
      have qr := ((Below.heap_setCell _ ⟨NW, 2, none⟩ (.slice (some ⟨b2, 0, none⟩) n n) _ HVN.out.2).trans ((Below.heap_setCell _ ⟨NW, 1, none⟩ (.int .i64 C) _ HVN.out.2).trans ((Below.heap_setCell _ ⟨NW, 0, none⟩ (.int .i64 R) _ HVN.out.2).trans vN.2)))
      have HQ6 := hid (And.intro qo (And.intro qk (And.intro qt (And.intro qb (And.intro qa qr)))))
      clear qk qo qb qt bN oN kW kT bel HX HKW HKT HB6 HO2 HO1 HFX HNB0 HWB0 HLO0 qa qr vN HVO6
      go_wp2
      clear x0 x1 x2 y0 y1 y2 g0 g1 g2
      go_roundw
      case rel => exact ⟨j + 1, by omega, by go_num, b2, n, HQ6.out.1, HQ6.out.2.1, HQ6.out.2.2.1, HLO2.out, HWB.out, HTB.out, HQ6.out.2.2.2.1, ⟨HQ6.out.2.2.2.2.1, HQ6.out.2.2.2.2.2⟩⟩
      case measure => simp [intOf]; omega

set_option maxHeartbeats 16000000 in
set_option maxRecDepth 4000 in
theorem implNo3 {w : World} {R C n S J : Nat} {rd : Bool} {b : Nat} {v : Value} {zs : List Int} (h : Rd w b v zs) (hq : plB R C zs = true) (hn : n = R * C) (hS : S ≤ 512) (hJ : J = S + 1) (hnf : ∀ i, i < J → fixB zs R C rd i = false) :
    Calls Try.prog 21 #[ruleV R C v, .bool rd, .int .i64 S] w fun e w' => e = .returned (.tuple #[ruleV 0 0 (.slice none 0 0), .int .i64 0, .bool false]) ∧ Below w.heap.size w w' := by
  obtain ⟨hf, hpl⟩ := pl_parts hq
  obtain ⟨hR, hC, hl, hle⟩ := field_nat hf
  have HZ : Hid (1 ≤ zs.length ∧ zs.length ≤ 1048576) := by simp only [Hid]; rw [hl]; exact ⟨Nat.mul_pos hR.1 hC.1, by omega⟩
  have HL : Hid (zs.length = n) := by simp only [Hid]; rw [hn]; exact hl
  have HF := hid hf
  have HPL := hid hpl
  have HN := hid hn
  have HSB : Hid (decide (0 ≤ (S : Int) ∧ (S : Int) ≤ 512) = true) := decide_eq_true (by omega)
  clear hf hpl hn hR hC hl hle
  have HNF : Hid (∀ i, i < J → Same.sameB R C (vit zs R C rd (i + 1)) R C (vit zs R C rd i) = false) := hnf
  clear hnf
  have HH := hid h
  have HQ := hid hq
  obtain ⟨ao, cap, rfl, hc, hm, _⟩ := h
  clear hc hm hq
  go_enter Try.func21, Try.ntmps21
  go_wp2_with fail
  obtain ⟨w1, hW⟩ : ∃ w1, w1 = ((w.alloc (Obj.cells #[.int .i64 R, .int .i64 C, .slice ao zs.length cap] 26)).alloc (Obj.cells #[.int .i64 0, .int .i64 0, .slice none 0 0] 26)) := ⟨_, rfl⟩
  obtain ⟨N, hN⟩ : ∃ N, N = w.heap.size := ⟨_, rfl⟩
  obtain ⟨NT, hT⟩ : ∃ NT, NT = N + 1 := ⟨_, rfl⟩
  have tt : Below w.heap.size w w1 ∧ w1.cell? ⟨N, 0, none⟩ = some (.int .i64 R) ∧ w1.cell? ⟨N, 1, none⟩ = some (.int .i64 C) ∧ w1.cell? ⟨N, 2, none⟩ = some (.slice ao zs.length cap) ∧ w.heap.size ≤ w1.heap.size := by
    rw [hW, hN]
    exact ⟨Go.Joins.below_alloc2 _ _ _, cell_keep (below1 _ _) (by simp), cell_keep (below1 _ _) (by simp), cell_keep (below1 _ _) (by simp), by simp <;> omega⟩
  have kT : w1.heap[NT]? = some (Obj.cells #[.int .i64 0, .int .i64 0, .slice none 0 0] 26) := by rw [hW]; exact FNew.heap_top (by rw [hT, hN]; simp)
  have HNT : Hid (w.heap.size ≤ NT) := by simp only [Hid]; omega
  have HNE : Hid (N ≠ NT ∧ N < NT) := ⟨by omega, by omega⟩
  simp only [← hW, ← hN, ← hT]
  clear hW hN hT
  go_at_call 53
  refine (Can.isPlain (HH.out.keep tt.1 (Nat.le_refl _))).mono ?_
  rw [show (fieldB _ _ zs && allB zs 2) = _ from HQ.out]
  rintro e w2 ⟨rfl, bel⟩
  replace tt := next3_0 bel tt
  replace kT := (bel.block NT (Array.getElem?_eq_some_iff.1 kT).1).trans kT
  clear bel
  go_wp2_with fail
  go_at_call 58
  refine (isCountB (hi := 512)).mono ?_
  rw [HSB.out]
  rintro e w3 ⟨rfl, rfl⟩
  go_wp2_with fail
  go_at_call 59
  refine (Clone.copyOf (HH.out.keep tt.1 (Nat.le_refl _)) HZ.out).mono ?_
  rw [HL.out]
  rintro e w4 ⟨b0, k, rfl, ow, lo, hk1, hk2, bel⟩
  have HNTb : Hid (NT ≠ b0) := Nat.ne_of_lt (Nat.lt_of_lt_of_le (heap_lt kT) lo)
  have HLO : Hid (w.heap.size ≤ b0) := Nat.le_trans tt.1.size lo
  replace kT := heap_keep bel kT
  have HB4 := hid (tt.1.trans (bel.mono tt.1.size))
  have HOW := hid ow
  have HKT := hid kT
  clear bel lo ow kT hk1 hk2 tt
  go_wp2_with fail
  go_at_call 54
  refine (VtI.voting (rd := rd)).mono ?_
  rintro e w8 ⟨NA, NR, rfl, vo, hNA, hNR, bel⟩
  have HVO0 := hid vo
  have HKT8 := hid (heap_keep bel HKT.out)
  have HOW8 := hid (HOW.out.keep bel)
  have HB8 := hid (HB4.out.trans (bel.mono HB4.out.size))
  clear HKT HOW HB4 bel vo hNA hNR
  go_wp2_with fail
  obtain ⟨w9, hW⟩ : ∃ w9, w9 = w8.alloc (Obj.cells #[.int .i64 R, .int .i64 C, .slice (some ⟨b0, 0, none⟩) n k] 26) := ⟨_, rfl⟩
  obtain ⟨NW, hN⟩ : ∃ NW, NW = w8.heap.size := ⟨_, rfl⟩
  have bel : Below w8.heap.size w8 w9 := by rw [hW]; exact below1 _ _
  have HKW : Hid (w9.heap[NW]? = some (Obj.cells #[.int .i64 R, .int .i64 C, .slice (some ⟨b0, 0, none⟩) n k] 26)) := by simp only [Hid]; rw [hW]; exact FNew.heap_top hN
  have HNW : Hid (w.heap.size ≤ NW) := by simp only [Hid]; rw [hN]; exact HB8.out.size
  have HWT : Hid (NW ≠ NT) := by simp only [Hid]; rw [hN]; exact Nat.ne_of_gt (heap_lt HKT8.out)
  have HWb : Hid (NW ≠ b0) := by simp only [Hid]; rw [hN]; exact Nat.ne_of_gt HOW8.out.lt
  have HKT9 := hid (heap_keep bel HKT8.out)
  have HOW9 := hid (HOW8.out.keep bel)
  have HB9 := hid (HB8.out.trans (bel.mono HB8.out.size))
  have HVO9 := hid (HVO0.out.keep bel)
  have HVN : Hid (NA ≠ NW ∧ NR ≠ NW) := by simp only [Hid]; rw [hN]; exact ⟨Nat.ne_of_lt (heap_lt HVO0.out.1), Nat.ne_of_lt (heap_lt HVO0.out.2)⟩
  simp only [← hW, ← hN]
  clear hW hN bel HKT8 HOW8 HB8 HVO0
  have hwr1 : wrap64 ((S : Int) + 1) = (S : Int) + 1 := wrap_id (by omega) (by omega)
  go_loopw [28] (fun t wr => ∃ j : Nat, j ≤ J ∧ t = .int .i64 (j : Int) ∧ ∃ bc kc : Nat, Own 2 wr bc (.slice (some ⟨bc, 0, none⟩) n kc) (vit zs R C rd j) ∧ wr.heap[NW]? = some (Obj.cells #[.int .i64 R, .int .i64 C, .slice (some ⟨bc, 0, none⟩) n kc] 26) ∧ wr.heap[NT]? = some (Obj.cells #[.int .i64 0, .int .i64 0, .slice none 0 0] 26) ∧ w.heap.size ≤ bc ∧ NW ≠ bc ∧ NT ≠ bc ∧ Below w.heap.size w wr ∧ VtI.Vot wr NA NR rd) (fun t _ => (S + 1) - (intOf t).toNat)
  case atStart => exact ⟨0, Nat.zero_le _, rfl, b0, k, HOW9.out, HKW.out, HKT9.out, HLO.out, HWb.out, HNTb.out, HB9.out, HVO9.out⟩
  case round =>
    clear HOW9 HKW HKT9 HLO HWb HNTb HB9 HVO9
    obtain ⟨j, hj, rfl, bc, kc, ow, kW, kT, hlo, hWb0, hTb0, hbel, hvo⟩ := hrel
    by_cases hlt : j < J
    · have hji : (j : Int) < (S : Int) + 1 := by omega
      have HFX : Hid (Same.sameB R C (vit zs R C rd (j + 1)) R C (vit zs R C rd j) = false) := HNF.out j (by omega)
      have c0 : wr.cell? ⟨NW, 0, none⟩ = some (.int .i64 R) := Go.Joins.cell_of_block kW 0
      have c1 : wr.cell? ⟨NW, 1, none⟩ = some (.int .i64 C) := Go.Joins.cell_of_block kW 1
      have c2 : wr.cell? ⟨NW, 2, none⟩ = some (.slice (some ⟨bc, 0, none⟩) n kc) := Go.Joins.cell_of_block kW 2
      have HC := hid (And.intro c0 (And.intro c1 c2))
      have HKW0 := hid kW
      have HKT0 := hid kT
      have HB := hid hbel
      have HOW := hid ow
      have HNB0 := hid hTb0
      have HWB0 := hid hWb0
      have HLO0 := hid hlo
      clear kW kT hbel ow hlo hWb0 hTb0
      have HVO := hid hvo
      clear hvo
      go_wp2_with fail
      go_at_call 101
      refine (VtI.votClo HVO.out HOW.out.rd (vit_ok HF.out HPL.out j).1 HN.out (vit_ok HF.out HPL.out j).2).mono ?_
      rintro e w5 ⟨b2, rfl, ow2, lo2, bel⟩
      clear c0 c1 c2
      obtain ⟨w6, hW⟩ : ∃ w6, w6 = w5.alloc (Obj.cells #[.int .i64 R, .int .i64 C, .slice (some ⟨b2, 0, none⟩) n n] 26) := ⟨_, rfl⟩
      obtain ⟨NX, hX⟩ : ∃ NX, NX = w5.heap.size := ⟨_, rfl⟩
      have bel6 : Below w5.heap.size w5 w6 := by rw [hW]; exact below1 _ _
      have x0 : w6.cell? ⟨NX, 0, none⟩ = some (.int .i64 R) := by rw [hW, hX]; simp
      have x1 : w6.cell? ⟨NX, 1, none⟩ = some (.int .i64 C) := by rw [hW, hX]; simp
      have x2 : w6.cell? ⟨NX, 2, none⟩ = some (.slice (some ⟨b2, 0, none⟩) n n) := by rw [hW, hX]; simp
      have HWB : Hid (NW ≠ b2) := Nat.ne_of_lt (Nat.lt_of_lt_of_le (heap_lt HKW0.out) lo2)
      have HTB : Hid (NT ≠ b2) := Nat.ne_of_lt (Nat.lt_of_lt_of_le (heap_lt HKT0.out) lo2)
      have HLO2 : Hid (w.heap.size ≤ b2) := Nat.le_trans HB.out.size lo2
      have hkw := heap_keep bel6 (heap_keep bel HKW0.out)
      have hkt := heap_keep bel6 (heap_keep bel HKT0.out)
      have HB6 := hid ((HB.out.trans (bel.mono HB.out.size)).trans (bel6.mono (HB.out.trans (bel.mono HB.out.size)).size))
      have HO2 := hid (ow2.keep bel6)
      have HO1 := hid ((HOW.out.keep bel).keep bel6)
      have HVO6 := hid ((HVO.out.keep bel).keep bel6)
      clear HVO
      have c0 : w6.cell? ⟨NW, 0, none⟩ = some (.int .i64 R) := Go.Joins.cell_of_block hkw 0
      have c1 : w6.cell? ⟨NW, 1, none⟩ = some (.int .i64 C) := Go.Joins.cell_of_block hkw 1
      have c2 : w6.cell? ⟨NW, 2, none⟩ = some (.slice (some ⟨bc, 0, none⟩) n kc) := Go.Joins.cell_of_block hkw 2
      have HX := hid (And.intro x0 (And.intro x1 (And.intro x2 (And.intro c0 (And.intro c1 c2)))))
      have HKW := hid hkw
      have HKT := hid hkt
      clear HC HKW0 HKT0 HB HOW ow2 lo2 bel bel6 hkw hkt
      rw [hW, hX] at x0 x1 x2
      rw [hW] at c0 c1 c2
      go_wp2_with fail
      simp only [← hW, ← hX]
      clear x0 x1 x2 c0 c1 c2
      clear hW hX
      go_at_call 60
      refine (Same.impl_two HO2.out.rd HO1.out.rd).mono ?_
      rw [show Same.sameB (R : Int) (C : Int) (lifeL [5, 6, 7, 8] [4, 5, 6, 7, 8] (vit zs R C rd j) R C rd) (R : Int) (C : Int) (vit zs R C rd j) = false from HFX.out]
      rintro e w7 ⟨rfl, bel⟩
      have y0 : w7.cell? ⟨NW, 0, none⟩ = some (.int .i64 R) := cell_keep bel HX.out.2.2.2.1
      have y1 : w7.cell? ⟨NW, 1, none⟩ = some (.int .i64 C) := cell_keep bel HX.out.2.2.2.2.1
      have y2 : w7.cell? ⟨NW, 2, none⟩ = some (.slice (some ⟨bc, 0, none⟩) n kc) := cell_keep bel HX.out.2.2.2.2.2
      have kW := heap_keep bel HKW.out
      have kT := heap_keep bel HKT.out
      have x0 : w7.cell? ⟨NX, 0, none⟩ = some (.int .i64 R) := cell_keep bel HX.out.1
      have x1 : w7.cell? ⟨NX, 1, none⟩ = some (.int .i64 C) := cell_keep bel HX.out.2.1
      have x2 : w7.cell? ⟨NX, 2, none⟩ = some (.slice (some ⟨b2, 0, none⟩) n n) := cell_keep bel HX.out.2.2.1
      have g0 : w7.frozen? ⟨NW, 0, none⟩ = false := Go.Joins.unfrozen_of_block kW 0
      have g1 : w7.frozen? ⟨NW, 1, none⟩ = false := Go.Joins.unfrozen_of_block kW 1
      have g2 : w7.frozen? ⟨NW, 2, none⟩ = false := Go.Joins.unfrozen_of_block kW 2
      have bN := HB6.out.trans (bel.mono HB6.out.size)
      have oN := HO2.out.keep bel
      have vN := HVO6.out.keep bel
      have qk := (Go.Joins.block_setCell (i := 2) (Go.Joins.block_setCell (i := 1) (Go.Joins.block_setCell (i := 0) kW (.int .i64 R)) (.int .i64 C)) (.slice (some ⟨b2, 0, none⟩) n n))
      have qo := (own_set (own_set (own_set oN ⟨NW, 0, none⟩ (.int .i64 R) HWB.out) ⟨NW, 1, none⟩ (.int .i64 C) HWB.out) ⟨NW, 2, none⟩ (.slice (some ⟨b2, 0, none⟩) n n) HWB.out)
      have qb := (((bN.setCell (p := ⟨NW, 0, none⟩) HNW.out (.int .i64 R)).setCell (p := ⟨NW, 1, none⟩) HNW.out (.int .i64 C)).setCell (p := ⟨NW, 2, none⟩) HNW.out (.slice (some ⟨b2, 0, none⟩) n n))
      have qt := ((Below.heap_setCell _ ⟨NW, 2, none⟩ (.slice (some ⟨b2, 0, none⟩) n n) _ HWT.out.symm).trans ((Below.heap_setCell _ ⟨NW, 1, none⟩ (.int .i64 C) _ HWT.out.symm).trans ((Below.heap_setCell _ ⟨NW, 0, none⟩ (.int .i64 R) _ HWT.out.symm).trans kT)))
      have qa := ((Below.heap_setCell _ ⟨NW, 2, none⟩ (.slice (some ⟨b2, 0, none⟩) n n) _ HVN.out.1).trans ((Below.heap_setCell _ ⟨NW, 1, none⟩ (.int .i64 C) _ HVN.out.1).trans ((Below.heap_setCell _ ⟨NW, 0, none⟩ (.int .i64 R) _ HVN.out.1).trans vN.1)))
      have qr := ((Below.heap_setCell _ ⟨NW, 2, none⟩ (.slice (some ⟨b2, 0, none⟩) n n) _ HVN.out.2).trans ((Below.heap_setCell _ ⟨NW, 1, none⟩ (.int .i64 C) _ HVN.out.2).trans ((Below.heap_setCell _ ⟨NW, 0, none⟩ (.int .i64 R) _ HVN.out.2).trans vN.2)))
      have HQ6 := hid (And.intro qo (And.intro qk (And.intro qt (And.intro qb (And.intro qa qr)))))
      clear qk qo qb qt bN oN kW kT bel HX HKW HKT HB6 HO2 HO1 HFX HNB0 HWB0 HLO0 qa qr vN HVO6
      go_wp2
      clear x0 x1 x2 y0 y1 y2 g0 g1 g2
      go_roundw
      case rel => exact ⟨j + 1, by omega, by go_num, b2, n, HQ6.out.1, HQ6.out.2.1, HQ6.out.2.2.1, HLO2.out, HWB.out, HTB.out, HQ6.out.2.2.2.1, ⟨HQ6.out.2.2.2.2.1, HQ6.out.2.2.2.2.2⟩⟩
      case measure => simp [intOf]; omega
    · have hj2 : j = S + 1 := by omega
      subst hj2
      have HNB := hid hTb0
      have HB := hid hbel
      clear hlo hWb0 hTb0 hbel ow kW hvo
      have y0 : wr.cell? ⟨NT, 0, none⟩ = some (.int .i64 0) := Go.Joins.cell_of_block kT 0
      have y1 : wr.cell? ⟨NT, 1, none⟩ = some (.int .i64 0) := Go.Joins.cell_of_block kT 1
      have y2 : wr.cell? ⟨NT, 2, none⟩ = some (.slice none 0 0) := Go.Joins.cell_of_block kT 2
      have g0 : wr.frozen? ⟨NT, 0, none⟩ = false := Go.Joins.unfrozen_of_block kT 0
      have g1 : wr.frozen? ⟨NT, 1, none⟩ = false := Go.Joins.unfrozen_of_block kT 1
      have g2 : wr.frozen? ⟨NT, 2, none⟩ = false := Go.Joins.unfrozen_of_block kT 2
      have HKx := hid kT
      clear kT
      go_wp2
      obtain ⟨W5, hW⟩ : ∃ W5, W5 = (((wr.setCell ⟨NT, 0, none⟩ (.int .i64 0)).setCell ⟨NT, 1, none⟩ (.int .i64 0)).setCell ⟨NT, 2, none⟩ (.slice none 0 0)) := ⟨_, rfl⟩
      have q0 := (Go.Joins.block_setCell (i := 2) (Go.Joins.block_setCell (i := 1) (Go.Joins.block_setCell (i := 0) HKx.out (.int .i64 0)) (.int .i64 0)) (.slice none 0 0))
      rw [← hW] at q0
      have z0 : W5.cell? ⟨NT, 0, none⟩ = some (.int .i64 0) := Go.Joins.cell_of_block q0 0
      have z1 : W5.cell? ⟨NT, 1, none⟩ = some (.int .i64 0) := Go.Joins.cell_of_block q0 1
      have z2 : W5.cell? ⟨NT, 2, none⟩ = some (.slice none 0 0) := Go.Joins.cell_of_block q0 2
      have B5 : Below w.heap.size w W5 := by
        have h1 := HNT.out
        rw [hW]
        exact ((HB.out.setCell (by simp; omega) _).setCell (by simp; omega) _).setCell (by simp; omega) _
      simp only [← hW]
      clear hW q0
      simp [bodyPost, results, Try.results21, go_sem, z0, z1, z2]
      exact B5

theorem agree (s r : Int) (zs : List Int) (rd : Bool) (st : Int) : ∃ (qs qr : Int) (rs : List Int) (q1 : Int) (ok : Bool), rs.length ≤ 1000000 ∧
    (∀ (w : World) (b : Nat) (v : Value), Rd w b v zs → Calls Try.prog 20 #[ruleV s r v, .bool rd, .int .i64 st] w fun e w' => ∃ ao c b', e = .returned (.tuple #[ruleV qs qr (.slice ao rs.length c), .int .i64 q1, .bool ok]) ∧ Own 2 w' b' (.slice ao rs.length c) rs ∧ w.heap.size ≤ b' ∧ Below w.heap.size w w') ∧
    (∀ (w : World) (b : Nat) (v : Value), Rd w b v zs → Calls Try.prog 21 #[ruleV s r v, .bool rd, .int .i64 st] w fun e w' => ∃ ao c b', e = .returned (.tuple #[ruleV qs qr (.slice ao rs.length c), .int .i64 q1, .bool ok]) ∧ Own 2 w' b' (.slice ao rs.length c) rs ∧ w.heap.size ≤ b' ∧ Below w.heap.size w w') := by
  have none_ : (∀ (w : World) (b : Nat) (v : Value), Rd w b v zs → Calls Try.prog 20 #[ruleV s r v, .bool rd, .int .i64 st] w fun e w' => e = .returned (.tuple #[ruleV 0 0 (.slice none 0 0), .int .i64 0, .bool false]) ∧ Below w.heap.size w w') → (∀ (w : World) (b : Nat) (v : Value), Rd w b v zs → Calls Try.prog 21 #[ruleV s r v, .bool rd, .int .i64 st] w fun e w' => e = .returned (.tuple #[ruleV 0 0 (.slice none 0 0), .int .i64 0, .bool false]) ∧ Below w.heap.size w w') → ∃ (qs qr : Int) (rs : List Int) (q1 : Int) (ok : Bool), rs.length ≤ 1000000 ∧
    (∀ (w : World) (b : Nat) (v : Value), Rd w b v zs → Calls Try.prog 20 #[ruleV s r v, .bool rd, .int .i64 st] w fun e w' => ∃ ao c b', e = .returned (.tuple #[ruleV qs qr (.slice ao rs.length c), .int .i64 q1, .bool ok]) ∧ Own 2 w' b' (.slice ao rs.length c) rs ∧ w.heap.size ≤ b' ∧ Below w.heap.size w w') ∧
    (∀ (w : World) (b : Nat) (v : Value), Rd w b v zs → Calls Try.prog 21 #[ruleV s r v, .bool rd, .int .i64 st] w fun e w' => ∃ ao c b', e = .returned (.tuple #[ruleV qs qr (.slice ao rs.length c), .int .i64 q1, .bool ok]) ∧ Own 2 w' b' (.slice ao rs.length c) rs ∧ w.heap.size ≤ b' ∧ Below w.heap.size w w') := by
    intro h1 h2
    refine ⟨0, 0, [], 0, false, by simp, fun w b v k => (h1 w b v k).mono ?_, fun w b v k => (h2 w b v k).mono ?_⟩
    · rintro e w' ⟨rfl, bel⟩
      exact ⟨none, 0, w.heap.size, rfl, Own.nil _ _ _, Nat.le_refl _, bel⟩
    · rintro e w' ⟨rfl, bel⟩
      exact ⟨none, 0, w.heap.size, rfl, Own.nil _ _ _, Nat.le_refl _, bel⟩
  cases hq : plB s r zs with
  | false => exact none_ (fun w b v k => specNo1 k hq) (fun w b v k => implNo1 k hq)
  | true =>
    by_cases hst : 0 ≤ st ∧ st ≤ 512
    · have hb := pl_nat hq
      obtain ⟨R, rfl⟩ := Int.eq_ofNat_of_zero_le (show 0 ≤ s by omega)
      obtain ⟨C, rfl⟩ := Int.eq_ofNat_of_zero_le (show 0 ≤ r by omega)
      obtain ⟨S, rfl⟩ := Int.eq_ofNat_of_zero_le hst.1
      have hS : S ≤ 512 := by omega
      rcases first_fix (fixB zs R C rd) S with ⟨J, hJ, hfx, hnf⟩ | hnf
      · have hlen : (vit zs R C rd J).length = R * C := vit_len (field_nat (pl_parts hq).1).2.2.1 rfl J
        have hle : R * C ≤ 24 * 24 := Nat.mul_le_mul (by omega) (by omega)
        refine ⟨R, C, vit zs R C rd J, J, true, by omega, fun w b v k => (specOk k hq rfl hS hJ hfx hnf).mono ?_, fun w b v k => (implOk k hq rfl hS hJ hfx hnf).mono ?_⟩
        · rintro e w' ⟨b', c, rfl, ow, lo, bel⟩
          exact ⟨some ⟨b', 0, none⟩, c, b', by rw [hlen], by rw [hlen]; exact ow, lo, bel⟩
        · rintro e w' ⟨b', c, rfl, ow, lo, bel⟩
          exact ⟨some ⟨b', 0, none⟩, c, b', by rw [hlen], by rw [hlen]; exact ow, lo, bel⟩
      · exact none_ (fun w b v k => specNo3 k hq rfl hS rfl (fun i hi => hnf i (Nat.le_of_lt_succ hi))) (fun w b v k => implNo3 k hq rfl hS rfl (fun i hi => hnf i (Nat.le_of_lt_succ hi)))
    · exact none_ (fun w b v k => specNo2 k hq hst) (fun w b v k => implNo2 k hq hst)


end Go.Proofs.Ythcbhbdgbiiagaa.Vrn
