/- The marks of a new desk. -/
import Derived.Test.YtonghkooncmjgaaNwd
namespace Go.Proofs.Ytonghkooncmjgaa.NwdM
open Go.RowKit Go.Proofs.Ytonghkooncmjgaa.Rd Go.Proofs.Ytonghkooncmjgaa.Help Go.Proofs.Ytonghkooncmjgaa.Keep Go.Proofs.Ytonghkooncmjgaa.Rule Go.Proofs.Ytonghkooncmjgaa.Dsk Go.Proofs.Ytonghkooncmjgaa.Nwd Go.Proofs.Ytonghkooncmjgaa.Tell
set_option linter.unusedVariables false
set_option linter.unusedSimpArgs false

set_option maxHeartbeats 2000000 in
theorem heldL {w : World} {b1 b2 : Nat} {v1 v2 : Value} {n m : Nat} {q : Int} (h1 : Rd w b1 v1 (marks q n)) (h2 : Rd w b2 v2 (marks (q + n) m)) (h0 : 0 ≤ q) (hq : q + n + m ≤ 1000000) :
    Calls Try.prog 87 #[lifeV v1 v2, .int .i64 q] w fun e w' => e = .returned (.int .i64 (q + n + m)) ∧ Below w.heap.size w w' := by
  have HH1 := hid h1
  have HH2 := hid h2
  obtain ⟨ao1, cap1, rfl, _, _, _⟩ := h1
  obtain ⟨ao2, cap2, rfl, _, _, _⟩ := h2
  have HQ : Hid (0 ≤ q ∧ q + n + m ≤ 1000000) := ⟨h0, hq⟩
  have n1 : decide (q + (n : Int) < 0) = false := decide_eq_false (by omega)
  have n2 : decide (q + (n : Int) + (m : Int) < 0) = false := decide_eq_false (by omega)
  go_enter Try.func87, Try.ntmps87
  go_wp2_with fail
  obtain ⟨w1, hW⟩ : ∃ x, x = w.alloc (Obj.cells #[.slice ao1 (marks q n).length cap1, .slice ao2 (marks (q + n) m).length cap2] 35) := ⟨_, rfl⟩
  obtain ⟨NA, hN⟩ : ∃ x, x = w.heap.size := ⟨_, rfl⟩
  have HB1 : Hid (Below w.heap.size w w1) := by simp only [Hid]; rw [hW]; exact below1 _ _
  have a1 : w1.cell? ⟨NA, 1, none⟩ = some (.slice ao2 (marks (q + n) m).length cap2) := by rw [hW, hN]; simp
  simp only [← hW, ← hN]
  clear hW hN
  go_at_call 54
  refine (heldS (HH1.out.keep HB1.out (Nat.le_refl _)) HQ.out.1 (by have := HQ.out; omega)).mono ?_
  rintro e w2 ⟨rfl, hE⟩
  subst hE
  go_wp2_with fail
  go_at_call 54
  refine (heldS (HH2.out.keep HB1.out (Nat.le_refl _)) (by have := HQ.out; omega) (by have := HQ.out; omega)).mono ?_
  rintro e w3 ⟨rfl, hE⟩
  subst hE
  clear a1
  go_wp2
  go_ret
  exact ⟨rfl, HB1.out⟩

set_option maxHeartbeats 8000000 in
theorem markD {w : World} {B c1 c2 c3 c4 c5 : Nat} {vr : Value} (o1 : Rd.Own 2 w c1 (vr) (tab (Numb.bitT 90) 8)) (o2 : Rd.Own 2 w c2 (.slice (some ⟨c2, 0, none⟩) 3 3) [0, 1, 0]) (o3 : Rd.Own 2 w c3 (.slice (some ⟨c3, 0, none⟩) 9 9) [0, 0, 0, 1, 1, 1, 0, 0, 0]) (o4 : Rd.Own 2 w c4 (.slice (some ⟨c4, 0, none⟩) 1 1) [3]) (o5 : Rd.Own 2 w c5 (.slice (some ⟨c5, 0, none⟩) 2 2) [2, 3]) (hc : c1 < c2 ∧ c2 < c3 ∧ c3 < c4 ∧ c4 < c5) (hB : B ≤ c1) (hBw : B ≤ w.heap.size) (hn1 : vr ≠ .slice none 0 0) :
    Calls Try.prog 26 #[deskV 2 1 (vr) (.slice (some ⟨c2, 0, none⟩) 3 3) 3 3 (.slice (some ⟨c3, 0, none⟩) 9 9) (.slice (some ⟨c4, 0, none⟩) 1 1) (.slice (some ⟨c5, 0, none⟩) 2 2), .int .i64 1] w fun e w' => e = .returned (.int .i64 24) ∧ Rd.Own 2 w' c1 (vr) (marks 1 8) ∧ Rd.Own 2 w' c2 (.slice (some ⟨c2, 0, none⟩) 3 3) (marks 9 3) ∧ Rd.Own 2 w' c3 (.slice (some ⟨c3, 0, none⟩) 9 9) (marks 12 9) ∧ Rd.Own 2 w' c4 (.slice (some ⟨c4, 0, none⟩) 1 1) (marks 21 1) ∧ Rd.Own 2 w' c5 (.slice (some ⟨c5, 0, none⟩) 2 2) (marks 22 2) ∧ Below B w w' ∧
      (∀ k, k < w.heap.size → k ≠ c1 → k ≠ c2 → k ≠ c3 → k ≠ c4 → k ≠ c5 → w'.heap[k]? = w.heap[k]?) := by
  have HO := hid hc
  have HBB : Hid (B ≤ c1 ∧ B ≤ w.heap.size) := ⟨hB, hBw⟩
  have l5 := o5.lt
  have l4 := o4.lt
  have l3 := o3.lt
  have l2 := o2.lt
  have l1 : c1 < w.heap.size := by omega
  have HLs : Hid (c1 < w.heap.size ∧ c2 < w.heap.size ∧ c3 < w.heap.size ∧ c4 < w.heap.size ∧ c5 < w.heap.size) := ⟨l1, l2, l3, l4, l5⟩
  have H1 := hid o1
  have H2 := hid o2
  have H3 := hid o3
  have H4 := hid o4
  have H5 := hid o5
  obtain ⟨ac, cc, rfl⟩ : ∃ ac cc, vr = .slice ac 8 cc := by obtain ⟨ac, cc, h, _⟩ := o1.rd; exact ⟨ac, cc, h⟩
  clear o1 o2 o3 o4 o5 l1 l2 l3 l4 l5 hc hB hBw hn1
  go_enter Try.func26, Try.ntmps26
  go_wp2_with fail
  obtain ⟨w1, hW⟩ : ∃ x, x = w.alloc (Obj.cells #[.int .i64 2, .int .i64 1, .slice ac 8 cc, .slice (some ⟨c2, 0, none⟩) 3 3, .int .i64 3, .int .i64 3, .slice (some ⟨c3, 0, none⟩) 9 9, .slice (some ⟨c4, 0, none⟩) 1 1, .slice (some ⟨c5, 0, none⟩) 2 2] 37) := ⟨_, rfl⟩
  obtain ⟨NA, hN⟩ : ∃ x, x = w.heap.size := ⟨_, rfl⟩
  have b1 : Below w.heap.size w w1 := by rw [hW]; exact below1 _ _
  have kA : w1.heap[NA]? = some (Obj.cells #[.int .i64 2, .int .i64 1, .slice ac 8 cc, .slice (some ⟨c2, 0, none⟩) 3 3, .int .i64 3, .int .i64 3, .slice (some ⟨c3, 0, none⟩) 9 9, .slice (some ⟨c4, 0, none⟩) 1 1, .slice (some ⟨c5, 0, none⟩) 2 2] 37) := by rw [hW]; exact FNew.heap_top hN
  have HNA : Hid (NA = w.heap.size) := hN
  have s1 : w.heap.size < w1.heap.size := by rw [hW]; simp
  have q1 := H1.out.keep b1
  have q2 := H2.out.keep b1
  have q3 := H3.out.keep b1
  have q4 := H4.out.keep b1
  have q5 := H5.out.keep b1
  have HS0 : Hid (∀ k, k < w.heap.size → k ≠ c1 → k ≠ c2 → k ≠ c3 → k ≠ c4 → k ≠ c5 → w1.heap[k]? = w.heap[k]?) := fun k hk _ _ _ _ _ => b1.block k hk
  have HB0 : Hid (Below B w w1) := by simp only [Hid]; rw [hW]; exact (Below.refl _ _).alloc HBB.out.2 _
  simp only [← hW, ← hN]
  clear hW hN b1
  have a0 : w1.cell? ⟨NA, 0, none⟩ = some (.int .i64 2) := Go.Joins.cell_of_block kA 0
  have a1 : w1.cell? ⟨NA, 1, none⟩ = some (.int .i64 1) := Go.Joins.cell_of_block kA 1
  have a2 : w1.cell? ⟨NA, 2, none⟩ = some (.slice ac 8 cc) := Go.Joins.cell_of_block kA 2
  have Q1 := hid q1
  have Q2 := hid q2
  have Q3 := hid q3
  have Q4 := hid q4
  have Q5 := hid q5
  have KA := hid kA
  have SS := hid s1
  clear kA s1 q1 q2 q3 q4 q5
  go_at_call 49
  refine (HelpQ.markR Q1.out (by decide) (by simp [tab])).mono ?_
  rintro e w2 ⟨rfl, r1, g, gn⟩
  clear a0 a1 a2 gn
  have s1 : w.heap.size < w2.heap.size := Nat.lt_of_lt_of_le SS.out g.size
  have hb : ∀ k, k < w1.heap.size → k ≠ c1 → w2.heap[k]? = w1.heap[k]? := fun k hk hne => g.block k hk (by simpa using hne)
  have kA := (hb NA (Array.getElem?_eq_some_iff.1 KA.out).1 (by have := HNA.out; have := HLs.out; omega)).trans KA.out
  have q1 := r1
  have q2 := own_same Q2.out (hb c2 (by have := SS.out; have := HLs.out; omega) (by have := HO.out; omega))
  have q3 := own_same Q3.out (hb c3 (by have := SS.out; have := HLs.out; omega) (by have := HO.out; omega))
  have q4 := own_same Q4.out (hb c4 (by have := SS.out; have := HLs.out; omega) (by have := HO.out; omega))
  have q5 := own_same Q5.out (hb c5 (by have := SS.out; have := HLs.out; omega) (by have := HO.out; omega))
  have HS1 : Hid (∀ k, k < w.heap.size → k ≠ c1 → k ≠ c2 → k ≠ c3 → k ≠ c4 → k ≠ c5 → w2.heap[k]? = w.heap[k]?) := fun k hk e1 e2 e3 e4 e5 => (hb k (by have := SS.out; omega) e1).trans (HS0.out k hk e1 e2 e3 e4 e5)
  have HB1 : Hid (Below B w w2) := HB0.out.grown g (by have := SS.out; have := HBB.out; omega) (fun k e => by cases e; have := HBB.out; have := HO.out; omega)
  clear g hb r1 KA SS Q1 Q2 Q3 Q4 Q5
  have a3 : w2.cell? ⟨NA, 3, none⟩ = some (.slice (some ⟨c2, 0, none⟩) 3 3) := Go.Joins.cell_of_block kA 3
  have Q1 := hid q1
  have Q2 := hid q2
  have Q3 := hid q3
  have Q4 := hid q4
  have Q5 := hid q5
  have KA := hid kA
  have SS := hid s1
  clear kA s1 q1 q2 q3 q4 q5
  go_wp2_with fail
  go_at_call 53
  refine (markS Q2.out (by decide) (by decide)).mono ?_
  rintro e w3 ⟨rfl, r2, g, gn⟩
  clear a3 gn
  have s1 : w.heap.size < w3.heap.size := Nat.lt_of_lt_of_le SS.out g.size
  have hb : ∀ k, k < w2.heap.size → k ≠ c2 → w3.heap[k]? = w2.heap[k]? := fun k hk hne => g.block k hk (by simpa using hne)
  have kA := (hb NA (Array.getElem?_eq_some_iff.1 KA.out).1 (by have := HNA.out; have := HLs.out; omega)).trans KA.out
  have q1 := own_same Q1.out (hb c1 (by have := SS.out; have := HLs.out; omega) (by have := HO.out; omega))
  have q2 := r2
  have q3 := own_same Q3.out (hb c3 (by have := SS.out; have := HLs.out; omega) (by have := HO.out; omega))
  have q4 := own_same Q4.out (hb c4 (by have := SS.out; have := HLs.out; omega) (by have := HO.out; omega))
  have q5 := own_same Q5.out (hb c5 (by have := SS.out; have := HLs.out; omega) (by have := HO.out; omega))
  have HS2 : Hid (∀ k, k < w.heap.size → k ≠ c1 → k ≠ c2 → k ≠ c3 → k ≠ c4 → k ≠ c5 → w3.heap[k]? = w.heap[k]?) := fun k hk e1 e2 e3 e4 e5 => (hb k (by have := SS.out; omega) e2).trans (HS1.out k hk e1 e2 e3 e4 e5)
  have HB2 : Hid (Below B w w3) := HB1.out.grown g (by have := SS.out; have := HBB.out; omega) (fun k e => by cases e; have := HBB.out; have := HO.out; omega)
  clear g hb r2 KA SS Q1 Q2 Q3 Q4 Q5
  have a4 : w3.cell? ⟨NA, 4, none⟩ = some (.int .i64 3) := Go.Joins.cell_of_block kA 4
  have a5 : w3.cell? ⟨NA, 5, none⟩ = some (.int .i64 3) := Go.Joins.cell_of_block kA 5
  have a6 : w3.cell? ⟨NA, 6, none⟩ = some (.slice (some ⟨c3, 0, none⟩) 9 9) := Go.Joins.cell_of_block kA 6
  have Q1 := hid q1
  have Q2 := hid q2
  have Q3 := hid q3
  have Q4 := hid q4
  have Q5 := hid q5
  have KA := hid kA
  have SS := hid s1
  clear kA s1 q1 q2 q3 q4 q5
  go_wp2_with fail
  go_at_call 64
  refine (markR Q3.out (by decide) (by decide)).mono ?_
  rintro e w4 ⟨rfl, r3, g, gn⟩
  clear a4 a5 a6 gn
  have s1 : w.heap.size < w4.heap.size := Nat.lt_of_lt_of_le SS.out g.size
  have hb : ∀ k, k < w3.heap.size → k ≠ c3 → w4.heap[k]? = w3.heap[k]? := fun k hk hne => g.block k hk (by simpa using hne)
  have kA := (hb NA (Array.getElem?_eq_some_iff.1 KA.out).1 (by have := HNA.out; have := HLs.out; omega)).trans KA.out
  have q1 := own_same Q1.out (hb c1 (by have := SS.out; have := HLs.out; omega) (by have := HO.out; omega))
  have q2 := own_same Q2.out (hb c2 (by have := SS.out; have := HLs.out; omega) (by have := HO.out; omega))
  have q3 := r3
  have q4 := own_same Q4.out (hb c4 (by have := SS.out; have := HLs.out; omega) (by have := HO.out; omega))
  have q5 := own_same Q5.out (hb c5 (by have := SS.out; have := HLs.out; omega) (by have := HO.out; omega))
  have HS3 : Hid (∀ k, k < w.heap.size → k ≠ c1 → k ≠ c2 → k ≠ c3 → k ≠ c4 → k ≠ c5 → w4.heap[k]? = w.heap[k]?) := fun k hk e1 e2 e3 e4 e5 => (hb k (by have := SS.out; omega) e3).trans (HS2.out k hk e1 e2 e3 e4 e5)
  have HB3 : Hid (Below B w w4) := HB2.out.grown g (by have := SS.out; have := HBB.out; omega) (fun k e => by cases e; have := HBB.out; have := HO.out; omega)
  clear g hb r3 KA SS Q1 Q2 Q3 Q4 Q5
  have a7 : w4.cell? ⟨NA, 7, none⟩ = some (.slice (some ⟨c4, 0, none⟩) 1 1) := Go.Joins.cell_of_block kA 7
  have a8 : w4.cell? ⟨NA, 8, none⟩ = some (.slice (some ⟨c5, 0, none⟩) 2 2) := Go.Joins.cell_of_block kA 8
  have Q1 := hid q1
  have Q2 := hid q2
  have Q3 := hid q3
  have Q4 := hid q4
  have Q5 := hid q5
  have KA := hid kA
  have SS := hid s1
  clear kA s1 q1 q2 q3 q4 q5
  go_wp2_with fail
  go_at_call 70
  refine (markL Q4.out Q5.out (by have := HO.out; omega) (by decide) (by decide) (by decide) (by decide)).mono ?_
  rintro e w5 ⟨rfl, wm, r4, r5, g, g'⟩
  clear a7 a8
  have hb : ∀ k, k < w4.heap.size → k ≠ c4 → k ≠ c5 → w5.heap[k]? = w4.heap[k]? := fun k hk h4 h5 => (g'.block k (Nat.lt_of_lt_of_le hk g.size) (by simpa using h5)).trans (g.block k hk (by simpa using h4))
  have P1 := own_same Q1.out (hb c1 (by have := SS.out; have := HLs.out; omega) (by have := HO.out; omega) (by have := HO.out; omega))
  have P2 := own_same Q2.out (hb c2 (by have := SS.out; have := HLs.out; omega) (by have := HO.out; omega) (by have := HO.out; omega))
  have P3 := own_same Q3.out (hb c3 (by have := SS.out; have := HLs.out; omega) (by have := HO.out; omega) (by have := HO.out; omega))
  have HS4 : Hid (∀ k, k < w.heap.size → k ≠ c1 → k ≠ c2 → k ≠ c3 → k ≠ c4 → k ≠ c5 → w5.heap[k]? = w.heap[k]?) := fun k hk e1 e2 e3 e4 e5 => (hb k (by have := SS.out; omega) e4 e5).trans (HS3.out k hk e1 e2 e3 e4 e5)
  have HB4 : Hid (Below B w w5) := (HB3.out.grown g (by have := SS.out; have := HBB.out; omega) (fun k e => by cases e; have := HBB.out; have := HO.out; omega)).grown g' (by have := SS.out; have := HBB.out; have := g.size; omega) (fun k e => by cases e; have := HBB.out; have := HO.out; omega)
  have HP := hid (And.intro P1 (And.intro P2 (And.intro P3 (And.intro r4 r5))))
  clear P1 P2 P3 r4 r5 g g' hb KA SS Q1 Q2 Q3 Q4 Q5
  go_wp2
  go_ret
  exact ⟨rfl, HP.out.1, HP.out.2.1, HP.out.2.2.1, HP.out.2.2.2.1, HP.out.2.2.2.2, HB4.out, HS4.out⟩

set_option maxHeartbeats 4000000 in
theorem heldD {w : World} {c1 c2 c3 c4 c5 : Nat} {vr : Value} (o1 : Rd w c1 (vr) (marks 1 8)) (o2 : Rd w c2 (.slice (some ⟨c2, 0, none⟩) 3 3) (marks 9 3)) (o3 : Rd w c3 (.slice (some ⟨c3, 0, none⟩) 9 9) (marks 12 9)) (o4 : Rd w c4 (.slice (some ⟨c4, 0, none⟩) 1 1) (marks 21 1)) (o5 : Rd w c5 (.slice (some ⟨c5, 0, none⟩) 2 2) (marks 22 2)) :
    Calls Try.prog 27 #[deskV 2 1 (vr) (.slice (some ⟨c2, 0, none⟩) 3 3) 3 3 (.slice (some ⟨c3, 0, none⟩) 9 9) (.slice (some ⟨c4, 0, none⟩) 1 1) (.slice (some ⟨c5, 0, none⟩) 2 2), .int .i64 1] w fun e w' => e = .returned (.int .i64 24) ∧ Below w.heap.size w w' := by
  have H1 := hid o1
  have H2 := hid o2
  have H3 := hid o3
  have H4 := hid o4
  have H5 := hid o5
  obtain ⟨ac, cc, rfl⟩ : ∃ ac cc, vr = .slice ac 8 cc := by obtain ⟨ac, cc, h, _⟩ := o1; exact ⟨ac, cc, h⟩
  clear o1 o2 o3 o4 o5
  go_enter Try.func27, Try.ntmps27
  go_wp2_with fail
  obtain ⟨w1, hW⟩ : ∃ x, x = w.alloc (Obj.cells #[.int .i64 2, .int .i64 1, .slice ac 8 cc, .slice (some ⟨c2, 0, none⟩) 3 3, .int .i64 3, .int .i64 3, .slice (some ⟨c3, 0, none⟩) 9 9, .slice (some ⟨c4, 0, none⟩) 1 1, .slice (some ⟨c5, 0, none⟩) 2 2] 37) := ⟨_, rfl⟩
  obtain ⟨NA, hN⟩ : ∃ x, x = w.heap.size := ⟨_, rfl⟩
  have HB1 : Hid (Below w.heap.size w w1) := by simp only [Hid]; rw [hW]; exact below1 _ _
  have kA : w1.heap[NA]? = some (Obj.cells #[.int .i64 2, .int .i64 1, .slice ac 8 cc, .slice (some ⟨c2, 0, none⟩) 3 3, .int .i64 3, .int .i64 3, .slice (some ⟨c3, 0, none⟩) 9 9, .slice (some ⟨c4, 0, none⟩) 1 1, .slice (some ⟨c5, 0, none⟩) 2 2] 37) := by rw [hW]; exact FNew.heap_top hN
  simp only [← hW, ← hN]
  clear hW hN
  have a0 : w1.cell? ⟨NA, 0, none⟩ = some (.int .i64 2) := Go.Joins.cell_of_block kA 0
  have a1 : w1.cell? ⟨NA, 1, none⟩ = some (.int .i64 1) := Go.Joins.cell_of_block kA 1
  have a2 : w1.cell? ⟨NA, 2, none⟩ = some (.slice ac 8 cc) := Go.Joins.cell_of_block kA 2
  go_at_call 50
  refine (HelpQ.heldR (n := 8) (H1.out.keep HB1.out (Nat.le_refl _)) (by decide) (by decide)).mono ?_
  rintro e w2 ⟨rfl, bel⟩
  replace kA := heap_keep bel kA
  have HB2 := hid (HB1.out.trans (bel.mono HB1.out.size))
  clear bel a0 a1 a2
  have a3 : w2.cell? ⟨NA, 3, none⟩ = some (.slice (some ⟨c2, 0, none⟩) 3 3) := Go.Joins.cell_of_block kA 3
  go_wp2_with fail
  go_at_call 54
  refine (heldS (n := 3) (H2.out.keep HB2.out (Nat.le_refl _)) (by decide) (by decide)).mono ?_
  rintro e w3 ⟨rfl, hE⟩
  have bel : Below w2.heap.size w2 w3 := hE ▸ Below.refl _ _
  clear hE
  replace kA := heap_keep bel kA
  have HB3 := hid (HB2.out.trans (bel.mono HB2.out.size))
  clear bel a3
  have a4 : w3.cell? ⟨NA, 4, none⟩ = some (.int .i64 3) := Go.Joins.cell_of_block kA 4
  have a5 : w3.cell? ⟨NA, 5, none⟩ = some (.int .i64 3) := Go.Joins.cell_of_block kA 5
  have a6 : w3.cell? ⟨NA, 6, none⟩ = some (.slice (some ⟨c3, 0, none⟩) 9 9) := Go.Joins.cell_of_block kA 6
  go_wp2_with fail
  go_at_call 65
  refine (heldR (n := 9) (H3.out.keep HB3.out (Nat.le_refl _)) (by decide) (by decide)).mono ?_
  rintro e w4 ⟨rfl, bel⟩
  replace kA := heap_keep bel kA
  have HB4 := hid (HB3.out.trans (bel.mono HB3.out.size))
  clear bel a4 a5 a6
  have a7 : w4.cell? ⟨NA, 7, none⟩ = some (.slice (some ⟨c4, 0, none⟩) 1 1) := Go.Joins.cell_of_block kA 7
  have a8 : w4.cell? ⟨NA, 8, none⟩ = some (.slice (some ⟨c5, 0, none⟩) 2 2) := Go.Joins.cell_of_block kA 8
  go_wp2_with fail
  go_at_call 87
  refine (heldL (n := 1) (m := 2) (H4.out.keep HB4.out (Nat.le_refl _)) (H5.out.keep HB4.out (Nat.le_refl _)) (by decide) (by decide)).mono ?_
  rintro e w5 ⟨rfl, bel⟩
  replace kA := heap_keep bel kA
  have HB5 := hid (HB4.out.trans (bel.mono HB4.out.size))
  clear bel a7 a8
  clear kA
  go_wp2
  go_ret
  exact ⟨rfl, HB5.out⟩

end Go.Proofs.Ytonghkooncmjgaa.NwdM
