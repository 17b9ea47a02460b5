/- PasteField of both sides. -/
import Derived.Test.YtmhonhkiakjdjaaGrow
import Derived.Test.YtmhonhkiakjdjaaFCut
import Derived.Test.YtmhonhkiakjdjaaSOwn
import Derived.Test.YtmhonhkiakjdjaaApart
namespace Go.Proofs.Ytmhonhkiakjdjaa.FPst
open Go.RowKit Go.Proofs.Ytmhonhkiakjdjaa.Rd Go.Proofs.Ytmhonhkiakjdjaa.Help Go.Proofs.Ytmhonhkiakjdjaa.Ring Go.Proofs.Ytmhonhkiakjdjaa.Small Go.Proofs.Ytmhonhkiakjdjaa.FVal Go.Proofs.Ytmhonhkiakjdjaa.Keep Go.Proofs.Ytmhonhkiakjdjaa.Rule Go.Proofs.Ytmhonhkiakjdjaa.Grow Go.Proofs.Ytmhonhkiakjdjaa.Copy Go.Proofs.Ytmhonhkiakjdjaa.FCut
set_option linter.unusedVariables false
set_option linter.unusedSimpArgs false

/-- Behind p rows, and q cells of the next one, that are put on. -/
def pst (zs ps : List Int) (C Q ra rb p q i k : Nat) : Int :=
  if rb ≤ k ∧ k < rb + Q ∧ ra ≤ i ∧ (i < ra + p ∨ (i = ra + p ∧ k < rb + q)) then ps.getD ((i - ra) * Q + (k - rb)) 0 else zs.getD (i * C + k) 0
/-- The cells of a field on which another one is put. -/
def pasteL (zs ps : List Int) (R C P Q ra rb : Nat) : List Int := grid R C (pst zs ps C Q ra rb P 0)
theorem pst_start {zs ps : List Int} {R C Q ra rb : Nat} (h : zs.length = R * C) : AtG zs R C (pst zs ps C Q ra rb 0 0) :=
  ⟨h, fun i k _ _ => by rw [pst, if_neg (by omega)]⟩
theorem pst_end {zs ps ys : List Int} {R C P Q ra rb : Nat} (h : AtG ys R C (pst zs ps C Q ra rb P 0)) : ys = pasteL zs ps R C P Q ra rb := at_grid h.1 h.2
theorem pst_row {zs ps ys : List Int} {R C Q ra rb p : Nat} (h : AtG ys R C (pst zs ps C Q ra rb p Q)) : AtG ys R C (pst zs ps C Q ra rb (p + 1) 0) := by
  refine ⟨h.1, fun i k hi hk => ?_⟩
  rw [h.2 i k hi hk, pst, pst]
  by_cases c : rb ≤ k ∧ k < rb + Q ∧ ra ≤ i ∧ (i < ra + p ∨ (i = ra + p ∧ k < rb + Q))
  · rw [if_pos c, if_pos (by omega)]
  · rw [if_neg c, if_neg (by omega)]
theorem same_place {C i k j l : Nat} (hk : k < C) (hl : l < C) (h : i * C + k = j * C + l) : i = j ∧ k = l := by
  have h1 := pos_div (i := i) hk
  have h2 := pos_div (i := j) hl
  rw [h] at h1
  exact ⟨h1.1.symm.trans h2.1, h1.2.symm.trans h2.2⟩
theorem pst_set {zs ps ys : List Int} {R C Q ra rb p q : Nat} (h : AtG ys R C (pst zs ps C Q ra rb p q)) (hp : ra + p < R) (hq : rb + q < C) (hQ : q < Q) :
    AtG (ys.set ((ra + p) * C + (rb + q)) (ps.getD (p * Q + q) 0)) R C (pst zs ps C Q ra rb p (q + 1)) := by
  have hb := pos_bd hp hq
  refine ⟨by rw [List.length_set]; exact h.1, fun i k hi hk => ?_⟩
  by_cases e : i * C + k = (ra + p) * C + (rb + q)
  · obtain ⟨e1, e2⟩ := same_place hk hq e
    rw [e, pst, if_pos (by omega), show i - ra = p by omega, show k - rb = q by omega]
    simp only [List.getD]
    rw [List.getElem?_set_self (by rw [h.1]; exact hb)]
    rfl
  · have hs := h.2 i k hi hk
    simp only [List.getD] at hs ⊢
    rw [List.getElem?_set_ne (fun x => e x.symm), hs, pst, pst]
    have e' : ¬ (i = ra + p ∧ k = rb + q) := fun x => e (by rw [x.1, x.2])
    by_cases c : rb ≤ k ∧ k < rb + Q ∧ ra ≤ i ∧ (i < ra + p ∨ (i = ra + p ∧ k < rb + q))
    · rw [if_pos c, if_pos (by omega)]
    · rw [if_neg c, if_neg (by omega)]
theorem pst_splice {zs ps ys xs : List Int} {R C Q ra rb p : Nat} (h : AtG ys R C (pst zs ps C Q ra rb p 0)) (hp : ra + p < R) (hq : rb + Q ≤ C) (hx : xs.length = Q) (hf : ∀ k, k < Q → xs.getD k 0 = ps.getD (p * Q + k) 0) :
    AtG (splice ys ((ra + p) * C + rb) xs) R C (pst zs ps C Q ra rb (p + 1) 0) := by
  have hin := Row.row_in (C := C) hp
  have hfit : (ra + p) * C + rb + xs.length ≤ ys.length := by rw [h.1, hx]; omega
  refine ⟨by rw [length_splice _ _ _ hfit]; exact h.1, fun i k hi hk => ?_⟩
  rw [splice_get hfit, hx]
  rcases Nat.lt_trichotomy i (ra + p) with hip | hip | hip
  · have hm := Nat.mul_le_mul_right C (show i + 1 ≤ ra + p by omega)
    rw [Nat.succ_mul] at hm
    rw [if_neg (by omega), h.2 i k hi hk, pst, pst]
    by_cases c : rb ≤ k ∧ k < rb + Q ∧ ra ≤ i ∧ (i < ra + p ∨ (i = ra + p ∧ k < rb + 0))
    · rw [if_pos c, if_pos (by omega)]
    · rw [if_neg c, if_neg (by omega)]
  · subst hip
    by_cases c : rb ≤ k ∧ k < rb + Q
    · rw [if_pos (by omega), show (ra + p) * C + k - ((ra + p) * C + rb) = k - rb by omega, hf _ (by omega), pst, if_pos (by omega), show ra + p - ra = p by omega]
    · rw [if_neg (by omega), h.2 _ k hi hk, pst, pst, if_neg (by omega), if_neg (by omega)]
  · have hm := Nat.mul_le_mul_right C (show ra + p + 1 ≤ i by omega)
    rw [Nat.succ_mul] at hm
    rw [if_neg (by omega), h.2 i k hi hk, pst, pst, if_neg (by omega), if_neg (by omega)]
theorem gTr {w0 w w' : World} {b : Nat} (g : w0.grownBy w (some b)) (h : w.grownBy w' (some b)) : w0.grownBy w' (some b) :=
  ⟨h.os.trans g.os, h.tape.trans g.tape, h.output.trans g.output, Nat.le_trans g.size h.size, fun k hk hne => (h.block k (Nat.lt_of_lt_of_le hk g.size) hne).trans (g.block k hk hne)⟩

set_option maxHeartbeats 8000000 in
theorem specNo1 {w : World} {s r s' r' row col : Int} {b b2 : Nat} {v v2 : Value} {zs ps : List Int} (h : Rd w b v zs) (h2 : Rd w b2 v2 ps) (hq : fieldB s r zs = false) :
    Calls Try.prog 11 #[ruleV s r v, ruleV s' r' v2, .int .i64 row, .int .i64 col] w fun e w' => e = .returned (.tuple #[ruleV 0 0 (.slice none 0 0), .bool false]) ∧ Below w.heap.size w w' := by
  have HH := hid h
  have HH2 := hid h2
  have HQ := hid hq
  have HSR : Hid (fieldB s r zs = true → (1 ≤ s ∧ s ≤ 24) ∧ 1 ≤ r ∧ r ≤ 24) := by
    intro hq2
    simp only [fieldB, Bool.and_eq_true] at hq2
    have := hq2.1
    simp [sidesB] at this; omega
  obtain ⟨ao, cap, rfl, hc, hm, _⟩ := h
  obtain ⟨ao2, cap2, rfl, hc2, hm2, _⟩ := h2
  clear hc hm hc2 hm2 hq
  go_enter Try.func11, Try.ntmps11
  go_wp2_with fail
  obtain ⟨w1, hW⟩ : ∃ w1, w1 = ((w.alloc (Obj.cells #[.int .i64 s, .int .i64 r, .slice ao zs.length cap] 26)).alloc (Obj.cells #[.int .i64 s', .int .i64 r', .slice ao2 ps.length cap2] 26)).alloc (Obj.cells #[.int .i64 0, .int .i64 0, .slice none 0 0] 26) := ⟨_, rfl⟩
  obtain ⟨N, hN⟩ : ∃ N, N = w.heap.size := ⟨_, rfl⟩
  obtain ⟨M, hM2⟩ : ∃ M, M = N + 1 := ⟨_, rfl⟩
  obtain ⟨NT, hM⟩ : ∃ NT, NT = M + 1 := ⟨_, rfl⟩
  have st : Below w.heap.size w w1 ∧ w1.cell? ⟨N, 0, none⟩ = some (.int .i64 s) ∧ w1.cell? ⟨N, 1, none⟩ = some (.int .i64 r) ∧ w1.cell? ⟨N, 2, none⟩ = some (.slice ao zs.length cap) ∧ w1.cell? ⟨M, 0, none⟩ = some (.int .i64 s') ∧ w1.cell? ⟨M, 1, none⟩ = some (.int .i64 r') ∧ w1.cell? ⟨M, 2, none⟩ = some (.slice ao2 ps.length cap2) ∧ Rd w1 b (.slice ao zs.length cap) zs ∧ Rd w1 b2 (.slice ao2 ps.length cap2) ps ∧ w.heap.size ≤ w1.heap.size := by
    rw [hW, hM2, hN]
    exact ⟨Go.Joins.below_alloc3 _ _ _ _, Go.Joins.cell_of_block (FNew.heap_old (FNew.heap_old (FNew.heap_top rfl))) 0, Go.Joins.cell_of_block (FNew.heap_old (FNew.heap_old (FNew.heap_top rfl))) 1, Go.Joins.cell_of_block (FNew.heap_old (FNew.heap_old (FNew.heap_top rfl))) 2, Go.Joins.cell_of_block (FNew.heap_old (FNew.heap_top (by simp))) 0, Go.Joins.cell_of_block (FNew.heap_old (FNew.heap_top (by simp))) 1, Go.Joins.cell_of_block (FNew.heap_old (FNew.heap_top (by simp))) 2, HH.out.keep (Go.Joins.below_alloc3 _ _ _ _) (Nat.le_refl _), HH2.out.keep (Go.Joins.below_alloc3 _ _ _ _) (Nat.le_refl _), by simp; omega⟩
  have kT : w1.heap[NT]? = some (Obj.cells #[.int .i64 0, .int .i64 0, .slice none 0 0] 26) := by rw [hW]; exact FNew.heap_top (by rw [hM, hM2, hN]; simp)
  have HNT : Hid (w.heap.size ≤ NT) := by simp only [Hid]; omega
  have HNN : Hid (M = N + 1 ∧ NT = M + 1 ∧ N = w.heap.size) := ⟨hM2, hM, hN⟩
  simp only [← hW, ← hN, ← hM2, ← hM]
  clear hW hN hM hM2
  go_at_call 38
  refine (FSpec.is (rd6_2_0 st) st.2.1 st.2.2.1 st.2.2.2.1).mono ?_
  rw [HQ.out]
  rintro e v0 ⟨rfl, m0, hv0⟩
  have bel : Below w1.heap.size w1 v0 := by rw [hv0]; exact FSpec.below_drewN' _ _ _
  clear hv0
  replace st := next6_2 bel st
  replace kT := (bel.block NT (Array.getElem?_eq_some_iff.1 kT).1).trans kT
  clear bel
  have HB := hid st.1
  have y0 : v0.cell? ⟨NT, 0, none⟩ = some (.int .i64 0) := Go.Joins.cell_of_block kT 0
  have y1 : v0.cell? ⟨NT, 1, none⟩ = some (.int .i64 0) := Go.Joins.cell_of_block kT 1
  have y2 : v0.cell? ⟨NT, 2, none⟩ = some (.slice none 0 0) := Go.Joins.cell_of_block kT 2
  have g0 : v0.frozen? ⟨NT, 0, none⟩ = false := Go.Joins.unfrozen_of_block kT 0
  have g1 : v0.frozen? ⟨NT, 1, none⟩ = false := Go.Joins.unfrozen_of_block kT 1
  have g2 : v0.frozen? ⟨NT, 2, none⟩ = false := Go.Joins.unfrozen_of_block kT 2
  have HKx := hid kT
  clear kT
  go_wp2
  obtain ⟨W5, hW⟩ : ∃ W5, W5 = (((v0.setCell ⟨NT, 0, none⟩ (.int .i64 0)).setCell ⟨NT, 1, none⟩ (.int .i64 0)).setCell ⟨NT, 2, none⟩ (.slice none 0 0)) := ⟨_, rfl⟩
  have q0 := (Go.Joins.block_setCell (i := 2) (Go.Joins.block_setCell (i := 1) (Go.Joins.block_setCell (i := 0) HKx.out (.int .i64 0)) (.int .i64 0)) (.slice none 0 0))
  rw [← hW] at q0
  have z0 : W5.cell? ⟨NT, 0, none⟩ = some (.int .i64 0) := Go.Joins.cell_of_block q0 0
  have z1 : W5.cell? ⟨NT, 1, none⟩ = some (.int .i64 0) := Go.Joins.cell_of_block q0 1
  have z2 : W5.cell? ⟨NT, 2, none⟩ = some (.slice none 0 0) := Go.Joins.cell_of_block q0 2
  have B5 : Below w.heap.size w W5 := by
    have h1 := HNT.out
    rw [hW]
    exact ((HB.out.setCell (by simp; omega) _).setCell (by simp; omega) _).setCell (by simp; omega) _
  simp only [← hW]
  clear hW q0
  simp [bodyPost, results, Try.results11, go_sem, z0, z1, z2]
  exact B5

set_option maxHeartbeats 8000000 in
theorem specNo2 {w : World} {s r s' r' row col : Int} {b b2 : Nat} {v v2 : Value} {zs ps : List Int} (h : Rd w b v zs) (h2 : Rd w b2 v2 ps) (hq : fieldB s r zs = true) (hp : fieldB s' r' ps = false) :
    Calls Try.prog 11 #[ruleV s r v, ruleV s' r' v2, .int .i64 row, .int .i64 col] w fun e w' => e = .returned (.tuple #[ruleV 0 0 (.slice none 0 0), .bool false]) ∧ Below w.heap.size w w' := by
  have HH := hid h
  have HH2 := hid h2
  have HQ := hid hq
  have HP := hid hp
  have HSR : Hid (fieldB s r zs = true → (1 ≤ s ∧ s ≤ 24) ∧ 1 ≤ r ∧ r ≤ 24) := by
    intro hq2
    simp only [fieldB, Bool.and_eq_true] at hq2
    have := hq2.1
    simp [sidesB] at this; omega
  obtain ⟨ao, cap, rfl, hc, hm, _⟩ := h
  obtain ⟨ao2, cap2, rfl, hc2, hm2, _⟩ := h2
  clear hc hm hc2 hm2 hq hp
  go_enter Try.func11, Try.ntmps11
  go_wp2_with fail
  obtain ⟨w1, hW⟩ : ∃ w1, w1 = ((w.alloc (Obj.cells #[.int .i64 s, .int .i64 r, .slice ao zs.length cap] 26)).alloc (Obj.cells #[.int .i64 s', .int .i64 r', .slice ao2 ps.length cap2] 26)).alloc (Obj.cells #[.int .i64 0, .int .i64 0, .slice none 0 0] 26) := ⟨_, rfl⟩
  obtain ⟨N, hN⟩ : ∃ N, N = w.heap.size := ⟨_, rfl⟩
  obtain ⟨M, hM2⟩ : ∃ M, M = N + 1 := ⟨_, rfl⟩
  obtain ⟨NT, hM⟩ : ∃ NT, NT = M + 1 := ⟨_, rfl⟩
  have st : Below w.heap.size w w1 ∧ w1.cell? ⟨N, 0, none⟩ = some (.int .i64 s) ∧ w1.cell? ⟨N, 1, none⟩ = some (.int .i64 r) ∧ w1.cell? ⟨N, 2, none⟩ = some (.slice ao zs.length cap) ∧ w1.cell? ⟨M, 0, none⟩ = some (.int .i64 s') ∧ w1.cell? ⟨M, 1, none⟩ = some (.int .i64 r') ∧ w1.cell? ⟨M, 2, none⟩ = some (.slice ao2 ps.length cap2) ∧ Rd w1 b (.slice ao zs.length cap) zs ∧ Rd w1 b2 (.slice ao2 ps.length cap2) ps ∧ w.heap.size ≤ w1.heap.size := by
    rw [hW, hM2, hN]
    exact ⟨Go.Joins.below_alloc3 _ _ _ _, Go.Joins.cell_of_block (FNew.heap_old (FNew.heap_old (FNew.heap_top rfl))) 0, Go.Joins.cell_of_block (FNew.heap_old (FNew.heap_old (FNew.heap_top rfl))) 1, Go.Joins.cell_of_block (FNew.heap_old (FNew.heap_old (FNew.heap_top rfl))) 2, Go.Joins.cell_of_block (FNew.heap_old (FNew.heap_top (by simp))) 0, Go.Joins.cell_of_block (FNew.heap_old (FNew.heap_top (by simp))) 1, Go.Joins.cell_of_block (FNew.heap_old (FNew.heap_top (by simp))) 2, HH.out.keep (Go.Joins.below_alloc3 _ _ _ _) (Nat.le_refl _), HH2.out.keep (Go.Joins.below_alloc3 _ _ _ _) (Nat.le_refl _), by simp; omega⟩
  have kT : w1.heap[NT]? = some (Obj.cells #[.int .i64 0, .int .i64 0, .slice none 0 0] 26) := by rw [hW]; exact FNew.heap_top (by rw [hM, hM2, hN]; simp)
  have HNT : Hid (w.heap.size ≤ NT) := by simp only [Hid]; omega
  have HNN : Hid (M = N + 1 ∧ NT = M + 1 ∧ N = w.heap.size) := ⟨hM2, hM, hN⟩
  simp only [← hW, ← hN, ← hM2, ← hM]
  clear hW hN hM hM2
  go_at_call 38
  refine (FSpec.is (rd6_2_0 st) st.2.1 st.2.2.1 st.2.2.2.1).mono ?_
  rw [HQ.out]
  rintro e v0 ⟨rfl, m0, hv0⟩
  have bel : Below w1.heap.size w1 v0 := by rw [hv0]; exact FSpec.below_drewN' _ _ _
  clear hv0
  replace st := next6_2 bel st
  replace kT := (bel.block NT (Array.getElem?_eq_some_iff.1 kT).1).trans kT
  clear bel
  go_wp2_with fail
  go_at_call 38
  refine (FSpec.is (rd6_2_1 st) st.2.2.2.2.1 st.2.2.2.2.2.1 st.2.2.2.2.2.2.1).mono ?_
  rw [HP.out]
  rintro e v1 ⟨rfl, m1, hv1⟩
  have bel : Below v0.heap.size v0 v1 := by rw [hv1]; exact FSpec.below_drewN' _ _ _
  clear hv1
  replace st := next6_2 bel st
  replace kT := (bel.block NT (Array.getElem?_eq_some_iff.1 kT).1).trans kT
  clear bel
  have HB := hid st.1
  have y0 : v1.cell? ⟨NT, 0, none⟩ = some (.int .i64 0) := Go.Joins.cell_of_block kT 0
  have y1 : v1.cell? ⟨NT, 1, none⟩ = some (.int .i64 0) := Go.Joins.cell_of_block kT 1
  have y2 : v1.cell? ⟨NT, 2, none⟩ = some (.slice none 0 0) := Go.Joins.cell_of_block kT 2
  have g0 : v1.frozen? ⟨NT, 0, none⟩ = false := Go.Joins.unfrozen_of_block kT 0
  have g1 : v1.frozen? ⟨NT, 1, none⟩ = false := Go.Joins.unfrozen_of_block kT 1
  have g2 : v1.frozen? ⟨NT, 2, none⟩ = false := Go.Joins.unfrozen_of_block kT 2
  have HKx := hid kT
  clear kT
  go_wp2
  obtain ⟨W5, hW⟩ : ∃ W5, W5 = (((v1.setCell ⟨NT, 0, none⟩ (.int .i64 0)).setCell ⟨NT, 1, none⟩ (.int .i64 0)).setCell ⟨NT, 2, none⟩ (.slice none 0 0)) := ⟨_, rfl⟩
  have q0 := (Go.Joins.block_setCell (i := 2) (Go.Joins.block_setCell (i := 1) (Go.Joins.block_setCell (i := 0) HKx.out (.int .i64 0)) (.int .i64 0)) (.slice none 0 0))
  rw [← hW] at q0
  have z0 : W5.cell? ⟨NT, 0, none⟩ = some (.int .i64 0) := Go.Joins.cell_of_block q0 0
  have z1 : W5.cell? ⟨NT, 1, none⟩ = some (.int .i64 0) := Go.Joins.cell_of_block q0 1
  have z2 : W5.cell? ⟨NT, 2, none⟩ = some (.slice none 0 0) := Go.Joins.cell_of_block q0 2
  have B5 : Below w.heap.size w W5 := by
    have h1 := HNT.out
    rw [hW]
    exact ((HB.out.setCell (by simp; omega) _).setCell (by simp; omega) _).setCell (by simp; omega) _
  simp only [← hW]
  clear hW q0
  simp [bodyPost, results, Try.results11, go_sem, z0, z1, z2]
  exact B5

set_option maxHeartbeats 8000000 in
theorem specNo3 {w : World} {s r s' r' row col : Int} {b b2 : Nat} {v v2 : Value} {zs ps : List Int} (h : Rd w b v zs) (h2 : Rd w b2 v2 ps) (hq : fieldB s r zs = true) (hp : fieldB s' r' ps = true) (hk : cutB s r row col s' r' = false) :
    Calls Try.prog 11 #[ruleV s r v, ruleV s' r' v2, .int .i64 row, .int .i64 col] w fun e w' => e = .returned (.tuple #[ruleV 0 0 (.slice none 0 0), .bool false]) ∧ Below w.heap.size w w' := by
  have HH := hid h
  have HH2 := hid h2
  have HQ := hid hq
  have HP := hid hp
  have HK := hid hk
  have HSR : Hid (fieldB s r zs = true → (1 ≤ s ∧ s ≤ 24) ∧ 1 ≤ r ∧ r ≤ 24) := by
    intro hq2
    simp only [fieldB, Bool.and_eq_true] at hq2
    have := hq2.1
    simp [sidesB] at this; omega
  have HRI := hid (HSR.out hq).1
  have HCI := hid (HSR.out hq).2
  obtain ⟨ao, cap, rfl, hc, hm, _⟩ := h
  obtain ⟨ao2, cap2, rfl, hc2, hm2, _⟩ := h2
  clear hc hm hc2 hm2 hq hp hk
  go_enter Try.func11, Try.ntmps11
  go_wp2_with fail
  obtain ⟨w1, hW⟩ : ∃ w1, w1 = ((w.alloc (Obj.cells #[.int .i64 s, .int .i64 r, .slice ao zs.length cap] 26)).alloc (Obj.cells #[.int .i64 s', .int .i64 r', .slice ao2 ps.length cap2] 26)).alloc (Obj.cells #[.int .i64 0, .int .i64 0, .slice none 0 0] 26) := ⟨_, rfl⟩
  obtain ⟨N, hN⟩ : ∃ N, N = w.heap.size := ⟨_, rfl⟩
  obtain ⟨M, hM2⟩ : ∃ M, M = N + 1 := ⟨_, rfl⟩
  obtain ⟨NT, hM⟩ : ∃ NT, NT = M + 1 := ⟨_, rfl⟩
  have st : Below w.heap.size w w1 ∧ w1.cell? ⟨N, 0, none⟩ = some (.int .i64 s) ∧ w1.cell? ⟨N, 1, none⟩ = some (.int .i64 r) ∧ w1.cell? ⟨N, 2, none⟩ = some (.slice ao zs.length cap) ∧ w1.cell? ⟨M, 0, none⟩ = some (.int .i64 s') ∧ w1.cell? ⟨M, 1, none⟩ = some (.int .i64 r') ∧ w1.cell? ⟨M, 2, none⟩ = some (.slice ao2 ps.length cap2) ∧ Rd w1 b (.slice ao zs.length cap) zs ∧ Rd w1 b2 (.slice ao2 ps.length cap2) ps ∧ w.heap.size ≤ w1.heap.size := by
    rw [hW, hM2, hN]
    exact ⟨Go.Joins.below_alloc3 _ _ _ _, Go.Joins.cell_of_block (FNew.heap_old (FNew.heap_old (FNew.heap_top rfl))) 0, Go.Joins.cell_of_block (FNew.heap_old (FNew.heap_old (FNew.heap_top rfl))) 1, Go.Joins.cell_of_block (FNew.heap_old (FNew.heap_old (FNew.heap_top rfl))) 2, Go.Joins.cell_of_block (FNew.heap_old (FNew.heap_top (by simp))) 0, Go.Joins.cell_of_block (FNew.heap_old (FNew.heap_top (by simp))) 1, Go.Joins.cell_of_block (FNew.heap_old (FNew.heap_top (by simp))) 2, HH.out.keep (Go.Joins.below_alloc3 _ _ _ _) (Nat.le_refl _), HH2.out.keep (Go.Joins.below_alloc3 _ _ _ _) (Nat.le_refl _), by simp; omega⟩
  have kT : w1.heap[NT]? = some (Obj.cells #[.int .i64 0, .int .i64 0, .slice none 0 0] 26) := by rw [hW]; exact FNew.heap_top (by rw [hM, hM2, hN]; simp)
  have HNT : Hid (w.heap.size ≤ NT) := by simp only [Hid]; omega
  have HNN : Hid (M = N + 1 ∧ NT = M + 1 ∧ N = w.heap.size) := ⟨hM2, hM, hN⟩
  simp only [← hW, ← hN, ← hM2, ← hM]
  clear hW hN hM hM2
  go_at_call 38
  refine (FSpec.is (rd6_2_0 st) st.2.1 st.2.2.1 st.2.2.2.1).mono ?_
  rw [HQ.out]
  rintro e v0 ⟨rfl, m0, hv0⟩
  have bel : Below w1.heap.size w1 v0 := by rw [hv0]; exact FSpec.below_drewN' _ _ _
  clear hv0
  replace st := next6_2 bel st
  replace kT := (bel.block NT (Array.getElem?_eq_some_iff.1 kT).1).trans kT
  clear bel
  go_wp2_with fail
  go_at_call 38
  refine (FSpec.is (rd6_2_1 st) st.2.2.2.2.1 st.2.2.2.2.2.1 st.2.2.2.2.2.2.1).mono ?_
  rw [HP.out]
  rintro e v1 ⟨rfl, m1, hv1⟩
  have bel : Below v0.heap.size v0 v1 := by rw [hv1]; exact FSpec.below_drewN' _ _ _
  clear hv1
  replace st := next6_2 bel st
  replace kT := (bel.block NT (Array.getElem?_eq_some_iff.1 kT).1).trans kT
  clear bel
  go_wp2_with fail
  go_at_call 39
  refine (within st.2.1 st.2.2.1 HRI.out HCI.out).mono ?_
  rw [HK.out]
  rintro e v2 ⟨rfl, rfl⟩
  have HB := hid st.1
  have y0 : v1.cell? ⟨NT, 0, none⟩ = some (.int .i64 0) := Go.Joins.cell_of_block kT 0
  have y1 : v1.cell? ⟨NT, 1, none⟩ = some (.int .i64 0) := Go.Joins.cell_of_block kT 1
  have y2 : v1.cell? ⟨NT, 2, none⟩ = some (.slice none 0 0) := Go.Joins.cell_of_block kT 2
  have g0 : v1.frozen? ⟨NT, 0, none⟩ = false := Go.Joins.unfrozen_of_block kT 0
  have g1 : v1.frozen? ⟨NT, 1, none⟩ = false := Go.Joins.unfrozen_of_block kT 1
  have g2 : v1.frozen? ⟨NT, 2, none⟩ = false := Go.Joins.unfrozen_of_block kT 2
  have HKx := hid kT
  clear kT
  go_wp2
  obtain ⟨W5, hW⟩ : ∃ W5, W5 = (((v1.setCell ⟨NT, 0, none⟩ (.int .i64 0)).setCell ⟨NT, 1, none⟩ (.int .i64 0)).setCell ⟨NT, 2, none⟩ (.slice none 0 0)) := ⟨_, rfl⟩
  have q0 := (Go.Joins.block_setCell (i := 2) (Go.Joins.block_setCell (i := 1) (Go.Joins.block_setCell (i := 0) HKx.out (.int .i64 0)) (.int .i64 0)) (.slice none 0 0))
  rw [← hW] at q0
  have z0 : W5.cell? ⟨NT, 0, none⟩ = some (.int .i64 0) := Go.Joins.cell_of_block q0 0
  have z1 : W5.cell? ⟨NT, 1, none⟩ = some (.int .i64 0) := Go.Joins.cell_of_block q0 1
  have z2 : W5.cell? ⟨NT, 2, none⟩ = some (.slice none 0 0) := Go.Joins.cell_of_block q0 2
  have B5 : Below w.heap.size w W5 := by
    have h1 := HNT.out
    rw [hW]
    exact ((HB.out.setCell (by simp; omega) _).setCell (by simp; omega) _).setCell (by simp; omega) _
  simp only [← hW]
  clear hW q0
  simp [bodyPost, results, Try.results11, go_sem, z0, z1, z2]
  exact B5

set_option maxRecDepth 4000 in
set_option maxHeartbeats 16000000 in
theorem specOk {w : World} {R C P Q n m ra rb : Nat} {b b2 : Nat} {v v2 : Value} {zs ps : List Int} (h : Rd w b v zs) (h2 : Rd w b2 v2 ps) (hq : fieldB R C zs = true) (hp : fieldB P Q ps = true) (hn : n = R * C) (hmn : m = P * Q) (hk : ra + P ≤ R ∧ rb + Q ≤ C) :
    Calls Try.prog 11 #[ruleV R C v, ruleV P Q v2, .int .i64 ra, .int .i64 rb] w fun e w' => ∃ b' kk, e = .returned (.tuple #[ruleV R C (.slice (some ⟨b', 0, none⟩) n kk), .bool true]) ∧ Own 2 w' b' (.slice (some ⟨b', 0, none⟩) n kk) (pasteL zs ps R C P Q ra rb) ∧ w.heap.size ≤ b' ∧ Below w.heap.size w w' := by
  obtain ⟨hR, hC, hl, hle⟩ := field_nat hq
  obtain ⟨hP, hQ, hl2, hle2⟩ := field_nat hp
  have HH := hid h
  have HH2 := hid h2
  have HQ := hid hq
  have HP := hid hp
  obtain ⟨ao, cap, rfl, hc, hm, h4⟩ := h
  obtain ⟨ao2, cap2, rfl, hc2, hm2, h42⟩ := h2
  have hpos : 0 < zs.length := by rw [hl]; exact Nat.mul_pos hR.1 hC.1
  have hpos2 : 0 < ps.length := by rw [hl2]; exact Nat.mul_pos hP.1 hQ.1
  obtain ⟨off, rfl, hb, hcell⟩ := h4 hpos
  obtain ⟨off2, rfl, hb2, hcell2⟩ := h42 hpos2
  have hln : zs.length = n := by rw [hn]; exact hl
  have hln2 : ps.length = m := by rw [hmn]; exact hl2
  rw [hln] at HH hc hcell ⊢
  rw [hln2] at HH2 hc2 hcell2 ⊢
  have hsz : n ≤ cap ∧ cap ≤ 9223372036854775807 := by unfold maxLen at hm; omega
  have hsz2 : m ≤ cap2 ∧ cap2 ≤ 9223372036854775807 := by unfold maxLen at hm2; omega
  have HL : Hid (zs.length = n) := hln
  have HN := hid hn
  have HMN := hid hmn
  have HR := hid hR
  have HC := hid hC
  have HPb := hid hP
  have HQb := hid hQ
  have HB0 := hid hb
  have HB2 := hid hb2
  have HCell := hid hcell
  have HCell2 := hid hcell2
  have HCap2 := hid (show m ≤ cap2 ∧ cap2 ≤ maxLen from ⟨hc2, hm2⟩)
  have HLE : Hid (n ≤ 576) := by simp only [Hid]; rw [hn]; exact hle
  have HLE2 : Hid (m ≤ 576) := by simp only [Hid]; rw [hmn]; exact hle2
  have HK := hid hk
  have HW1 : Hid (cutB R C ra rb P Q = true) := decide_eq_true (by omega)
  have HRI : Hid (1 ≤ (R : Int) ∧ (R : Int) ≤ 24) := by simp only [Hid]; omega
  have HCI : Hid (1 ≤ (C : Int) ∧ (C : Int) ≤ 24) := by simp only [Hid]; omega
  have HZ1 : Hid (1 ≤ zs.length ∧ zs.length ≤ 1048576) := by simp only [Hid]; omega
  have hB4 : P ≤ 24 ∧ Q ≤ 24 ∧ R ≤ 24 ∧ C ≤ 24 := by omega
  clear hc hm hc2 hm2 h4 h42 hq hp hn hmn hl hl2 hle hle2 hpos hpos2 hb hb2 hcell hcell2 hln hln2 hk hR hC hP hQ
  go_enter Try.func11, Try.ntmps11
  go_wp2_with fail
  obtain ⟨w1, hW⟩ : ∃ w1, w1 = ((w.alloc (Obj.cells #[.int .i64 R, .int .i64 C, .slice (some ⟨b, off, none⟩) n cap] 26)).alloc (Obj.cells #[.int .i64 P, .int .i64 Q, .slice (some ⟨b2, off2, none⟩) m cap2] 26)).alloc (Obj.cells #[.int .i64 0, .int .i64 0, .slice none 0 0] 26) := ⟨_, rfl⟩
  obtain ⟨N, hN⟩ : ∃ N, N = w.heap.size := ⟨_, rfl⟩
  obtain ⟨M, hM2⟩ : ∃ M, M = N + 1 := ⟨_, rfl⟩
  obtain ⟨NT, hM⟩ : ∃ NT, NT = M + 1 := ⟨_, rfl⟩
  have st : Below w.heap.size w w1 ∧ w1.cell? ⟨N, 0, none⟩ = some (.int .i64 R) ∧ w1.cell? ⟨N, 1, none⟩ = some (.int .i64 C) ∧ w1.cell? ⟨N, 2, none⟩ = some (.slice (some ⟨b, off, none⟩) n cap) ∧ w1.cell? ⟨M, 0, none⟩ = some (.int .i64 P) ∧ w1.cell? ⟨M, 1, none⟩ = some (.int .i64 Q) ∧ w1.cell? ⟨M, 2, none⟩ = some (.slice (some ⟨b2, off2, none⟩) m cap2) ∧ Rd w1 b (.slice (some ⟨b, off, none⟩) n cap) zs ∧ Rd w1 b2 (.slice (some ⟨b2, off2, none⟩) m cap2) ps ∧ w.heap.size ≤ w1.heap.size := by
    rw [hW, hM2, hN]
    exact ⟨Go.Joins.below_alloc3 _ _ _ _, Go.Joins.cell_of_block (FNew.heap_old (FNew.heap_old (FNew.heap_top rfl))) 0, Go.Joins.cell_of_block (FNew.heap_old (FNew.heap_old (FNew.heap_top rfl))) 1, Go.Joins.cell_of_block (FNew.heap_old (FNew.heap_old (FNew.heap_top rfl))) 2, Go.Joins.cell_of_block (FNew.heap_old (FNew.heap_top (by simp))) 0, Go.Joins.cell_of_block (FNew.heap_old (FNew.heap_top (by simp))) 1, Go.Joins.cell_of_block (FNew.heap_old (FNew.heap_top (by simp))) 2, HH.out.keep (Go.Joins.below_alloc3 _ _ _ _) (Nat.le_refl _), HH2.out.keep (Go.Joins.below_alloc3 _ _ _ _) (Nat.le_refl _), by simp; omega⟩
  have kT : w1.heap[NT]? = some (Obj.cells #[.int .i64 0, .int .i64 0, .slice none 0 0] 26) := by rw [hW]; exact FNew.heap_top (by rw [hM, hM2, hN]; simp)
  have HNT : Hid (w.heap.size ≤ NT) := by simp only [Hid]; omega
  have HNN : Hid (M = N + 1 ∧ NT = M + 1 ∧ N = w.heap.size) := ⟨hM2, hM, hN⟩
  simp only [← hW, ← hN, ← hM2, ← hM]
  clear hW hN hM hM2
  go_at_call 38
  refine (FSpec.is (rd6_2_0 st) st.2.1 st.2.2.1 st.2.2.2.1).mono ?_
  rw [HQ.out]
  rintro e v0 ⟨rfl, m0, hv0⟩
  have bel : Below w1.heap.size w1 v0 := by rw [hv0]; exact FSpec.below_drewN' _ _ _
  clear hv0
  replace st := next6_2 bel st
  replace kT := (bel.block NT (Array.getElem?_eq_some_iff.1 kT).1).trans kT
  clear bel
  go_wp2_with fail
  go_at_call 38
  refine (FSpec.is (rd6_2_1 st) st.2.2.2.2.1 st.2.2.2.2.2.1 st.2.2.2.2.2.2.1).mono ?_
  rw [HP.out]
  rintro e v1 ⟨rfl, m1, hv1⟩
  have bel : Below v0.heap.size v0 v1 := by rw [hv1]; exact FSpec.below_drewN' _ _ _
  clear hv1
  replace st := next6_2 bel st
  replace kT := (bel.block NT (Array.getElem?_eq_some_iff.1 kT).1).trans kT
  clear bel
  go_wp2_with fail
  go_at_call 39
  refine (within st.2.1 st.2.2.1 HRI.out HCI.out).mono ?_
  rw [HW1.out]
  rintro e v2 ⟨rfl, rfl⟩

  go_wp2_with fail
  go_at_call 40
  refine (SOwn.l04Own st.2.1 st.2.2.1 st.2.2.2.1 (rd6_2_0 st) HZ1.out).mono ?_
  rintro e w3 ⟨b', kk, rfl, ow, lo, hk1, hk2, bel⟩
  rw [HL.out] at ow hk1 ⊢
  have HKB := hid (And.intro hk1 hk2)
  clear hk1 hk2
  have hNTb : NT < b' := Nat.lt_of_lt_of_le (Array.getElem?_eq_some_iff.1 kT).1 lo
  have lob : w.heap.size ≤ b' := Nat.le_trans st.1.size lo
  replace st := next6_2 bel st
  replace kT := (bel.block NT (Array.getElem?_eq_some_iff.1 kT).1).trans kT
  have hb3 : b' < w3.heap.size := ow.lt
  clear bel lo
  obtain ⟨w4, hW⟩ : ∃ w4, w4 = w3.alloc (Obj.cells #[.int .i64 R, .int .i64 C, .slice (some ⟨b', 0, none⟩) n kk] 26) := ⟨_, rfl⟩
  obtain ⟨NO, hO⟩ : ∃ NO, NO = w3.heap.size := ⟨_, rfl⟩
  have bel : Below w3.heap.size w3 w4 := by rw [hW]; exact below1 _ _
  replace st := next6_2 bel st
  have hTO : NT < NO := by rw [hO]; exact (Array.getElem?_eq_some_iff.1 kT).1
  replace kT := (bel.block NT (Array.getElem?_eq_some_iff.1 kT).1).trans kT
  replace ow := ow.keep bel
  have kO : w4.heap[NO]? = some (Obj.cells #[.int .i64 R, .int .i64 C, .slice (some ⟨b', 0, none⟩) n kk] 26) := by rw [hW]; exact FNew.heap_top hO
  have hbO : b' < NO := by rw [hO]; exact hb3
  have hNb : N < b' := by have := HNN.out; omega
  have HSX := hid st
  have HOW := hid ow
  have HKT := hid kT
  have HKO := hid kO
  have HAp := hid (show N < NT ∧ NT < b' ∧ b' < NO ∧ w.heap.size ≤ b' from ⟨by have := HNN.out; omega, hNTb, hbO, lob⟩)
  clear st ow kT kO bel hb3 hNTb hTO hbO hNb lob
  go_wp2
  simp only [← hW, ← hO]
  clear hW hO
  have HNe : Hid (N ≠ b' ∧ M ≠ b') := by have h1 := HNN.out; have h2 := HAp.out; simp only [Hid]; omega
  have HCLX : Hid (∀ i, i < m → w4.cell? ⟨b2, off2 + i, none⟩ = some (.int .i64 (ps.getD i 0))) := fun i hi => (HSX.out.1.cell (p := ⟨b2, off2 + i, none⟩) HB2.out).trans (HCell2.out i hi)
  go_loopw [11] (fun i wr => ∃ p : Nat, p ≤ P ∧ i = .int .i64 p ∧ ∃ ys, AtG ys R C (pst zs ps C Q ra rb p 0) ∧ Own 2 wr b' (.slice (some ⟨b', 0, none⟩) n kk) ys ∧ w4.grownBy wr (some b')) (fun i _ => P - (intOf i).toNat)
  case atStart => exact ⟨0, Nat.zero_le _, rfl, zs, pst_start (by rw [HL.out, HN.out]), HOW.out, g_refl _ _⟩
  case round =>
    obtain ⟨p, hp, rfl, ys, hat, hown, hg⟩ := hrel
    have c1 := g_cell hg HSX.out.2.2.1 HNe.out.1
    have m0 := g_cell hg HSX.out.2.2.2.2.1 HNe.out.2
    have m1 := g_cell hg HSX.out.2.2.2.2.2.1 HNe.out.2
    have m2 := g_cell hg HSX.out.2.2.2.2.2.2.1 HNe.out.2
    have d0 := g_cell hg (Go.Joins.cell_of_block HKO.out 0) (Nat.ne_of_gt HAp.out.2.2.1)
    have d1 := g_cell hg (Go.Joins.cell_of_block HKO.out 1) (Nat.ne_of_gt HAp.out.2.2.1)
    have d2 := g_cell hg (Go.Joins.cell_of_block HKO.out 2) (Nat.ne_of_gt HAp.out.2.2.1)
    by_cases hlt : p < P
    · have HO1 := hid hown
      have HG1 := hid hg
      have HAT1 := hid hat
      have hpi : (p : Int) < (P : Int) := by omega
      clear hown hg hat
      go_wp2
      clear c1 m0 m1 m2 d0 d1 d2
      go_loopw [12] (fun k wx => ∃ q : Nat, q ≤ Q ∧ k = .int .i64 q ∧ ∃ ys, AtG ys R C (pst zs ps C Q ra rb p q) ∧ Own 2 wx b' (.slice (some ⟨b', 0, none⟩) n kk) ys ∧ w4.grownBy wx (some b')) (fun k _ => Q - (intOf k).toNat)
      case atStart => exact ⟨0, Nat.zero_le _, rfl, ys, HAT1.out, HO1.out, HG1.out⟩
      case round =>
        clear HO1 HG1 HAT1
        obtain ⟨q, hq2, rfl, ys, hat, hown, hg⟩ := hrel
        have c1 := g_cell hg HSX.out.2.2.1 HNe.out.1
        have m0 := g_cell hg HSX.out.2.2.2.2.1 HNe.out.2
        have m1 := g_cell hg HSX.out.2.2.2.2.2.1 HNe.out.2
        have m2 := g_cell hg HSX.out.2.2.2.2.2.2.1 HNe.out.2
        have d0 := g_cell hg (Go.Joins.cell_of_block HKO.out 0) (Nat.ne_of_gt HAp.out.2.2.1)
        have d1 := g_cell hg (Go.Joins.cell_of_block HKO.out 1) (Nat.ne_of_gt HAp.out.2.2.1)
        have d2 := g_cell hg (Go.Joins.cell_of_block HKO.out 2) (Nat.ne_of_gt HAp.out.2.2.1)
        by_cases hlt2 : q < Q
        · obtain ⟨S, hS⟩ : ∃ S, S = p * Q + q := ⟨_, rfl⟩
          obtain ⟨T, hT⟩ : ∃ T, T = (ra + p) * C + (rb + q) := ⟨_, rfl⟩
          have hSn : S < m := by rw [hS, HMN.out]; exact pos_bd hlt hlt2
          have hTn : T < n := by rw [hT, HN.out]; exact pos_bd (by have := HK.out; omega) (by have := HK.out; omega)
          obtain ⟨P1, hP1⟩ : ∃ P1, P1 = (ra + p) * C := ⟨_, rfl⟩
          have hin : P1 + C ≤ n := by rw [hP1, HN.out]; exact Row.row_in (C := C) (show ra + p < R by have := HK.out; omega)
          have hle := HLE.out
          have hkk := HK.out
          have e0 : IntKind.i64.wrap ((ra : Int) + (p : Int)) = (ra : Int) + (p : Int) := by rw [IntKind.wrap_i64]; omega
          have e1 : IntKind.i64.wrap (((ra : Int) + (p : Int)) * (C : Int)) = (P1 : Int) := by rw [show ((ra : Int) + (p : Int)) * (C : Int) = (P1 : Int) by rw [hP1]; simp, IntKind.wrap_i64]; omega
          have e2 : IntKind.i64.wrap ((P1 : Int) + (rb : Int)) = (P1 : Int) + (rb : Int) := by rw [IntKind.wrap_i64]; omega
          have e3 : IntKind.i64.wrap ((P1 : Int) + (rb : Int) + (q : Int)) = (T : Int) := by rw [IntKind.wrap_i64, hT, ← hP1]; omega
          have e4 := (wrap_pos (i := p) (C := Q) (k := q) (by have := HLE2.out; omega)).1
          have e5 := (wrap_pos (i := p) (C := Q) (k := q) (by have := HLE2.out; omega)).2
          rw [← hS] at e5
          obtain ⟨x, hx⟩ : ∃ x, x = ps.getD S 0 := ⟨_, rfl⟩
          have hcx : wr.cell? ⟨b2, off2 + S, none⟩ = some (.int .i64 x) := by rw [hx]; exact g_cell hg ((HCLX.out S hSn)) (Nat.ne_of_lt (Nat.lt_of_lt_of_le HB2.out HAp.out.2.2.2))
          have hox := hown.cell (i := T) (by rw [hat.1, ← HN.out]; exact hTn)
          have hof := hown.free T
          have HSt : Hid (AtG (ys.set T x) R C (pst zs ps C Q ra rb p (q + 1))) := by
            have h1 := pst_set hat (by have := HK.out; omega) (by have := HK.out; omega) hlt2
            rw [← hT, ← hS, ← hx] at h1
            exact h1
          have HO2 := hid hown
          have HG2 := hid hg
          have hpi : (p : Int) < (P : Int) := by omega
          have hqi : (q : Int) < (Q : Int) := by omega
          obtain ⟨P2, hP2⟩ : ∃ P2, P2 = p * Q := ⟨_, rfl⟩
          rw [← hP2] at e4 e5
          clear hx hown hg hat hS hT hP1 hP2 hin hle hkk
          go_wp2_with fail
          go_still_tail 23, (by kernel_rfl)
          change wpList _ _ _ _ _ wr.drew
          have hoxd : wr.drew.cell? ⟨b', T, none⟩ = some (.int .i64 (ys.getD T 0)) := hox
          have hofd : wr.drew.frozen? ⟨b', T, none⟩ = false := hof
          obtain ⟨wd, hwd⟩ : ∃ wd, wd = wr.drew := ⟨_, rfl⟩
          have HG3 : Hid (w4.grownBy wd (some b')) := by rw [hwd]; exact g_drew HG2.out
          have HO3 : Hid (Own 2 wd b' (.slice (some ⟨b', 0, none⟩) n kk) ys) := by rw [hwd]; exact HO2.out
          rw [← hwd] at hoxd hofd ⊢
          clear hwd hox hof hcx c1 m0 m1 m2 d0 d1 d2
          go_wp2
          go_roundw
          case rel => exact ⟨q + 1, by omega, by go_num, _, HSt.out, HO3.out.set T x, g_set HG3.out T _⟩
          case measure => simp [intOf]; omega
        · have hqR : Q = q := by omega
          have HO2 := hid hown
          have HG2 := hid hg
          have HAT2 := hid hat
          clear hown hg hat
          subst hqR
          go_wp2
          go_roundw
          case rel => exact ⟨p + 1, by omega, by go_num, _, pst_row HAT2.out, HO2.out, HG2.out⟩
          case measure => simp [intOf]; omega
    · have hpC : P = p := by omega
      subst hpC
      rw [pst_end hat] at hown
      clear c1 m1 m2
      have hg2 := hg
      have kTr := g_heap hg HKT.out (Nat.ne_of_lt HAp.out.2.1)
      have HB := hid (g_below HSX.out.1 hg HAp.out.2.2.2)
      have HLo : Hid (w.heap.size ≤ b') := HAp.out.2.2.2
      have HNB : Hid (NT ≠ b') := Nat.ne_of_lt HAp.out.2.1
      have HO := hid hown
      clear hown hg hg2
      have y0 : wr.cell? ⟨NT, 0, none⟩ = some (.int .i64 0) := Go.Joins.cell_of_block kTr 0
      have y1 : wr.cell? ⟨NT, 1, none⟩ = some (.int .i64 0) := Go.Joins.cell_of_block kTr 1
      have y2 : wr.cell? ⟨NT, 2, none⟩ = some (.slice none 0 0) := Go.Joins.cell_of_block kTr 2
      have g0 : wr.frozen? ⟨NT, 0, none⟩ = false := Go.Joins.unfrozen_of_block kTr 0
      have g1 : wr.frozen? ⟨NT, 1, none⟩ = false := Go.Joins.unfrozen_of_block kTr 1
      have g2 : wr.frozen? ⟨NT, 2, none⟩ = false := Go.Joins.unfrozen_of_block kTr 2
      have HKx := hid kTr
      clear kTr
      go_wp2
      obtain ⟨W5, hW⟩ : ∃ W5, W5 = (((wr.setCell ⟨NT, 0, none⟩ (.int .i64 R)).setCell ⟨NT, 1, none⟩ (.int .i64 C)).setCell ⟨NT, 2, none⟩ (.slice (some ⟨b', 0, none⟩) n kk)) := ⟨_, rfl⟩
      have q0 := (Go.Joins.block_setCell (i := 2) (Go.Joins.block_setCell (i := 1) (Go.Joins.block_setCell (i := 0) HKx.out (.int .i64 R)) (.int .i64 C)) (.slice (some ⟨b', 0, none⟩) n kk))
      rw [← hW] at q0
      have z0 : W5.cell? ⟨NT, 0, none⟩ = some (.int .i64 R) := Go.Joins.cell_of_block q0 0
      have z1 : W5.cell? ⟨NT, 1, none⟩ = some (.int .i64 C) := Go.Joins.cell_of_block q0 1
      have z2 : W5.cell? ⟨NT, 2, none⟩ = some (.slice (some ⟨b', 0, none⟩) n kk) := Go.Joins.cell_of_block q0 2
      have O5 := (own_set (own_set (own_set HO.out ⟨NT, 0, none⟩ (.int .i64 R) HNB.out) ⟨NT, 1, none⟩ (.int .i64 C) HNB.out) ⟨NT, 2, none⟩ (.slice (some ⟨b', 0, none⟩) n kk) HNB.out)
      rw [← hW] at O5
      have B5 : Below w.heap.size w W5 := by
        have h1 := HNT.out
        rw [hW]
        exact ((HB.out.setCell (by simp; omega) _).setCell (by simp; omega) _).setCell (by simp; omega) _
      simp only [← hW]
      clear hW q0
      simp [bodyPost, results, Try.results11, go_sem, z0, z1, z2]
      exact ⟨b', kk, by simp, O5, HLo.out, B5⟩

end Go.Proofs.Ytmhonhkiakjdjaa.FPst
