/- A desk: marks, and a new one. -/
import Derived.Test.YtonghkooncmjgaaDskK
import Derived.Test.YtonghkooncmjgaaLifeM
import Derived.Test.YtonghkooncmjgaaNumQ
import Derived.Test.YtonghkooncmjgaaFNew
namespace Go.Proofs.Ytonghkooncmjgaa.Nwd
open Go.RowKit Go.Proofs.Ytonghkooncmjgaa.Rd Go.Proofs.Ytonghkooncmjgaa.Help Go.Proofs.Ytonghkooncmjgaa.Keep Go.Proofs.Ytonghkooncmjgaa.Rule Go.Proofs.Ytonghkooncmjgaa.Dsk Go.Proofs.Ytonghkooncmjgaa.Tell
set_option linter.unusedVariables false
set_option linter.unusedSimpArgs false

theorem own_lit {w : World} {b : Nat} {zs : List Int} (h : w.heap[b]? = some (Obj.cells (zs.map (Value.int .i64)).toArray 2)) (hl : zs.length ≤ maxLen) :
    Rd.Own 2 w b (.slice (some ⟨b, 0, none⟩) zs.length zs.length) zs := by
  refine ⟨⟨by simp, .inr ⟨b, zs.length, (zs.map (Value.int .i64)).toArray, rfl, Nat.le_refl _, h, Nat.le_refl _, hl, by simp, ?_⟩⟩, by intro k hk; simp [Value.ownBlock] at hk; exact hk.symm⟩
  rw [List.toList_toArray, List.take_of_length_le (by simp)]
theorem own_same {w w' : World} {b : Nat} {v : Value} {zs : List Int} (h : Rd.Own 2 w b v zs) (e : w'.heap[b]? = w.heap[b]?) : Rd.Own 2 w' b v zs := by
  obtain ⟨⟨h1, h2⟩, h3⟩ := h
  refine ⟨⟨h1, ?_⟩, h3⟩
  rcases h2 with h2 | ⟨g, cap, cur, hv, hb, hg, r⟩
  · exact .inl h2
  · have hgb : g = b := h3 g (by rw [hv]; rfl)
    subst hgb
    exact .inr ⟨g, cap, cur, hv, hb, e.trans hg, r⟩
set_option maxHeartbeats 8000000 in
theorem implOk {w : World} :
    Calls Try.prog 25 #[] w fun e w' => ∃ (vr : Value) (c1 c2 c3 c4 c5 : Nat), e = .returned (deskV 2 1 (vr) (.slice (some ⟨c2, 0, none⟩) 3 3) 3 3 (.slice (some ⟨c3, 0, none⟩) 9 9) (.slice (some ⟨c4, 0, none⟩) 1 1) (.slice (some ⟨c5, 0, none⟩) 2 2)) ∧ Rd.Own 2 w' c1 vr (tab (Numb.bitT 90) 8) ∧ Rd.Own 2 w' c2 (.slice (some ⟨c2, 0, none⟩) 3 3) [0, 1, 0] ∧ Rd.Own 2 w' c3 (.slice (some ⟨c3, 0, none⟩) 9 9) [0, 0, 0, 1, 1, 1, 0, 0, 0] ∧ Rd.Own 2 w' c4 (.slice (some ⟨c4, 0, none⟩) 1 1) [3] ∧ Rd.Own 2 w' c5 (.slice (some ⟨c5, 0, none⟩) 2 2) [2, 3] ∧ (w.heap.size ≤ c1 ∧ c1 < c2 ∧ c2 < c3 ∧ c3 < c4 ∧ c4 < c5) ∧ Below w.heap.size w w' := by
  go_enter Try.func25, Try.ntmps25
  go_wp2_with fail
  obtain ⟨w1, hW⟩ : ∃ x, x = w.alloc (Obj.cells #[.int .i64 0, .int .i64 0, .slice none 0 0, .slice none 0 0, .int .i64 0, .int .i64 0, .slice none 0 0, .slice none 0 0, .slice none 0 0] 37) := ⟨_, rfl⟩
  obtain ⟨NR, hN⟩ : ∃ x, x = w.heap.size := ⟨_, rfl⟩
  have HB1 : Hid (Below w.heap.size w w1) := by simp only [Hid]; rw [hW]; exact below1 _ _
  have kR : w1.heap[NR]? = some (Obj.cells #[.int .i64 0, .int .i64 0, .slice none 0 0, .slice none 0 0, .int .i64 0, .int .i64 0, .slice none 0 0, .slice none 0 0, .slice none 0 0] 37) := by rw [hW]; exact FNew.heap_top hN
  have HNR : Hid (NR = w.heap.size) := hN
  simp only [← hW, ← hN]
  clear hW hN
  go_at_call 86
  refine (Numb.implOk (a := 90) (by decide)).mono ?_
  rintro e w2 ⟨c1, rfl, o1, lo1, bel⟩
  have KR := hid (heap_keep bel kR)
  have HB2 := hid (HB1.out.trans (bel.mono HB1.out.size))
  have O1 := hid o1
  have HL1 : Hid (NR < c1 ∧ w.heap.size ≤ c1) := by have h1 := (Array.getElem?_eq_some_iff.1 kR).1; have h2 := HB1.out.size; simp only [Hid]; omega
  have kz := Go.Joins.cell_of_block KR.out
  clear bel kR o1 lo1
  have e0 : ∀ a1 a2 a3 a4 a5, (((((w2.alloc a1).alloc a2).alloc a3).alloc a4).alloc a5).cell? ⟨NR, 0, none⟩ = some (.int .i64 0) := fun a1 a2 a3 a4 a5 => Go.Joins.cell_of_block (FNew.heap_old (FNew.heap_old (FNew.heap_old (FNew.heap_old (FNew.heap_old KR.out))))) 0
  have f0 : ∀ a1 a2 a3 a4 a5, (((((w2.alloc a1).alloc a2).alloc a3).alloc a4).alloc a5).frozen? ⟨NR, 0, none⟩ = false := fun a1 a2 a3 a4 a5 => Go.Joins.unfrozen_of_block (FNew.heap_old (FNew.heap_old (FNew.heap_old (FNew.heap_old (FNew.heap_old KR.out))))) 0
  have e1 : ∀ a1 a2 a3 a4 a5, (((((w2.alloc a1).alloc a2).alloc a3).alloc a4).alloc a5).cell? ⟨NR, 1, none⟩ = some (.int .i64 0) := fun a1 a2 a3 a4 a5 => Go.Joins.cell_of_block (FNew.heap_old (FNew.heap_old (FNew.heap_old (FNew.heap_old (FNew.heap_old KR.out))))) 1
  have f1 : ∀ a1 a2 a3 a4 a5, (((((w2.alloc a1).alloc a2).alloc a3).alloc a4).alloc a5).frozen? ⟨NR, 1, none⟩ = false := fun a1 a2 a3 a4 a5 => Go.Joins.unfrozen_of_block (FNew.heap_old (FNew.heap_old (FNew.heap_old (FNew.heap_old (FNew.heap_old KR.out))))) 1
  have e2 : ∀ a1 a2 a3 a4 a5, (((((w2.alloc a1).alloc a2).alloc a3).alloc a4).alloc a5).cell? ⟨NR, 2, none⟩ = some (.slice none 0 0) := fun a1 a2 a3 a4 a5 => Go.Joins.cell_of_block (FNew.heap_old (FNew.heap_old (FNew.heap_old (FNew.heap_old (FNew.heap_old KR.out))))) 2
  have f2 : ∀ a1 a2 a3 a4 a5, (((((w2.alloc a1).alloc a2).alloc a3).alloc a4).alloc a5).frozen? ⟨NR, 2, none⟩ = false := fun a1 a2 a3 a4 a5 => Go.Joins.unfrozen_of_block (FNew.heap_old (FNew.heap_old (FNew.heap_old (FNew.heap_old (FNew.heap_old KR.out))))) 2
  have e3 : ∀ a1 a2 a3 a4 a5, (((((w2.alloc a1).alloc a2).alloc a3).alloc a4).alloc a5).cell? ⟨NR, 3, none⟩ = some (.slice none 0 0) := fun a1 a2 a3 a4 a5 => Go.Joins.cell_of_block (FNew.heap_old (FNew.heap_old (FNew.heap_old (FNew.heap_old (FNew.heap_old KR.out))))) 3
  have f3 : ∀ a1 a2 a3 a4 a5, (((((w2.alloc a1).alloc a2).alloc a3).alloc a4).alloc a5).frozen? ⟨NR, 3, none⟩ = false := fun a1 a2 a3 a4 a5 => Go.Joins.unfrozen_of_block (FNew.heap_old (FNew.heap_old (FNew.heap_old (FNew.heap_old (FNew.heap_old KR.out))))) 3
  have e4 : ∀ a1 a2 a3 a4 a5, (((((w2.alloc a1).alloc a2).alloc a3).alloc a4).alloc a5).cell? ⟨NR, 4, none⟩ = some (.int .i64 0) := fun a1 a2 a3 a4 a5 => Go.Joins.cell_of_block (FNew.heap_old (FNew.heap_old (FNew.heap_old (FNew.heap_old (FNew.heap_old KR.out))))) 4
  have f4 : ∀ a1 a2 a3 a4 a5, (((((w2.alloc a1).alloc a2).alloc a3).alloc a4).alloc a5).frozen? ⟨NR, 4, none⟩ = false := fun a1 a2 a3 a4 a5 => Go.Joins.unfrozen_of_block (FNew.heap_old (FNew.heap_old (FNew.heap_old (FNew.heap_old (FNew.heap_old KR.out))))) 4
  have e5 : ∀ a1 a2 a3 a4 a5, (((((w2.alloc a1).alloc a2).alloc a3).alloc a4).alloc a5).cell? ⟨NR, 5, none⟩ = some (.int .i64 0) := fun a1 a2 a3 a4 a5 => Go.Joins.cell_of_block (FNew.heap_old (FNew.heap_old (FNew.heap_old (FNew.heap_old (FNew.heap_old KR.out))))) 5
  have f5 : ∀ a1 a2 a3 a4 a5, (((((w2.alloc a1).alloc a2).alloc a3).alloc a4).alloc a5).frozen? ⟨NR, 5, none⟩ = false := fun a1 a2 a3 a4 a5 => Go.Joins.unfrozen_of_block (FNew.heap_old (FNew.heap_old (FNew.heap_old (FNew.heap_old (FNew.heap_old KR.out))))) 5
  have e6 : ∀ a1 a2 a3 a4 a5, (((((w2.alloc a1).alloc a2).alloc a3).alloc a4).alloc a5).cell? ⟨NR, 6, none⟩ = some (.slice none 0 0) := fun a1 a2 a3 a4 a5 => Go.Joins.cell_of_block (FNew.heap_old (FNew.heap_old (FNew.heap_old (FNew.heap_old (FNew.heap_old KR.out))))) 6
  have f6 : ∀ a1 a2 a3 a4 a5, (((((w2.alloc a1).alloc a2).alloc a3).alloc a4).alloc a5).frozen? ⟨NR, 6, none⟩ = false := fun a1 a2 a3 a4 a5 => Go.Joins.unfrozen_of_block (FNew.heap_old (FNew.heap_old (FNew.heap_old (FNew.heap_old (FNew.heap_old KR.out))))) 6
  have e7 : ∀ a1 a2 a3 a4 a5, (((((w2.alloc a1).alloc a2).alloc a3).alloc a4).alloc a5).cell? ⟨NR, 7, none⟩ = some (.slice none 0 0) := fun a1 a2 a3 a4 a5 => Go.Joins.cell_of_block (FNew.heap_old (FNew.heap_old (FNew.heap_old (FNew.heap_old (FNew.heap_old KR.out))))) 7
  have f7 : ∀ a1 a2 a3 a4 a5, (((((w2.alloc a1).alloc a2).alloc a3).alloc a4).alloc a5).frozen? ⟨NR, 7, none⟩ = false := fun a1 a2 a3 a4 a5 => Go.Joins.unfrozen_of_block (FNew.heap_old (FNew.heap_old (FNew.heap_old (FNew.heap_old (FNew.heap_old KR.out))))) 7
  have e8 : ∀ a1 a2 a3 a4 a5, (((((w2.alloc a1).alloc a2).alloc a3).alloc a4).alloc a5).cell? ⟨NR, 8, none⟩ = some (.slice none 0 0) := fun a1 a2 a3 a4 a5 => Go.Joins.cell_of_block (FNew.heap_old (FNew.heap_old (FNew.heap_old (FNew.heap_old (FNew.heap_old KR.out))))) 8
  have f8 : ∀ a1 a2 a3 a4 a5, (((((w2.alloc a1).alloc a2).alloc a3).alloc a4).alloc a5).frozen? ⟨NR, 8, none⟩ = false := fun a1 a2 a3 a4 a5 => Go.Joins.unfrozen_of_block (FNew.heap_old (FNew.heap_old (FNew.heap_old (FNew.heap_old (FNew.heap_old KR.out))))) 8
  clear kz
  go_wp2
  obtain ⟨W5, hW⟩ : ∃ x, x = (((((w2.alloc (Obj.cells #[.int .i64 2, .int .i64 1, .slice (some ⟨c1, 0, none⟩) 8 8] 33)).alloc (Obj.cells #[.int .i64 0, .int .i64 1, .int .i64 0] 2)).alloc (Obj.cells #[.int .i64 0, .int .i64 0, .int .i64 0, .int .i64 1, .int .i64 1, .int .i64 1, .int .i64 0, .int .i64 0, .int .i64 0] 2)).alloc (Obj.cells #[.int .i64 3] 2)).alloc (Obj.cells #[.int .i64 2, .int .i64 3] 2)) := ⟨_, rfl⟩
  obtain ⟨c0, hc0⟩ : ∃ x, x = w2.heap.size := ⟨_, rfl⟩
  obtain ⟨c2, hc2⟩ : ∃ x, x = c0 + 1 := ⟨_, rfl⟩
  obtain ⟨c3, hc3⟩ : ∃ x, x = c2 + 1 := ⟨_, rfl⟩
  obtain ⟨c4, hc4⟩ : ∃ x, x = c3 + 1 := ⟨_, rfl⟩
  obtain ⟨c5, hc5⟩ : ∃ x, x = c4 + 1 := ⟨_, rfl⟩
  have kR : W5.heap[NR]? = some (Obj.cells #[.int .i64 0, .int .i64 0, .slice none 0 0, .slice none 0 0, .int .i64 0, .int .i64 0, .slice none 0 0, .slice none 0 0, .slice none 0 0] 37) := by rw [hW]; exact FNew.heap_old (FNew.heap_old (FNew.heap_old (FNew.heap_old (FNew.heap_old KR.out))))
  have k2 : W5.heap[c2]? = some (Obj.cells #[.int .i64 0, .int .i64 1, .int .i64 0] 2) := by rw [hW]; exact FNew.heap_old (FNew.heap_old (FNew.heap_old (FNew.heap_top (by rw [hc2, hc0]; simp))))
  have k3 : W5.heap[c3]? = some (Obj.cells #[.int .i64 0, .int .i64 0, .int .i64 0, .int .i64 1, .int .i64 1, .int .i64 1, .int .i64 0, .int .i64 0, .int .i64 0] 2) := by rw [hW]; exact FNew.heap_old (FNew.heap_old (FNew.heap_top (by rw [hc3, hc2, hc0]; simp)))
  have k4 : W5.heap[c4]? = some (Obj.cells #[.int .i64 3] 2) := by rw [hW]; exact FNew.heap_old (FNew.heap_top (by rw [hc4, hc3, hc2, hc0]; simp))
  have k5 : W5.heap[c5]? = some (Obj.cells #[.int .i64 2, .int .i64 3] 2) := by rw [hW]; exact FNew.heap_top (by rw [hc5, hc4, hc3, hc2, hc0]; simp)
  have bel : Below w2.heap.size w2 W5 := by rw [hW]; exact ((((((Below.refl _ _).alloc (Nat.le_refl _) _).alloc (by simp) _).alloc (by simp; omega) _).alloc (by simp; omega) _).alloc (by simp; omega) _)
  have o2 : Rd.Own 2 W5 c2 (.slice (some ⟨c2, 0, none⟩) 3 3) [0, 1, 0] := own_lit (zs := [0, 1, 0]) k2 (by unfold maxLen; decide)
  have o3 : Rd.Own 2 W5 c3 (.slice (some ⟨c3, 0, none⟩) 9 9) [0, 0, 0, 1, 1, 1, 0, 0, 0] := own_lit (zs := [0, 0, 0, 1, 1, 1, 0, 0, 0]) k3 (by unfold maxLen; decide)
  have o4 : Rd.Own 2 W5 c4 (.slice (some ⟨c4, 0, none⟩) 1 1) [3] := own_lit (zs := [3]) k4 (by unfold maxLen; decide)
  have o5 : Rd.Own 2 W5 c5 (.slice (some ⟨c5, 0, none⟩) 2 2) [2, 3] := own_lit (zs := [2, 3]) k5 (by unfold maxLen; decide)
  have o1 := O1.out.keep bel
  have hlt : NR < c1 ∧ c1 < c2 ∧ c2 < c3 ∧ c3 < c4 ∧ c4 < c5 ∧ w.heap.size ≤ c1 ∧ w.heap.size ≤ NR := by have h1 := O1.out.lt; have h2 := HL1.out; have h3 := HNR.out; omega
  have B5 := HB2.out.trans (bel.mono HB2.out.size)
  try simp only [← hW]
  try simp only [← hc0]
  try simp only [← hc2]
  try simp only [← hc3]
  try simp only [← hc4]
  try simp only [← hc5]
  clear hW hc0 hc2 hc3 hc4 hc5 bel k2 k3 k4 k5 e0 f0 e1 f1 e2 f2 e3 f3 e4 f4 e5 f5 e6 f6 e7 f7 e8 f8
  obtain ⟨W9, hW⟩ : ∃ x, x = (((((((((W5.setCell ⟨NR, 0, none⟩ (.int .i64 2)).setCell ⟨NR, 1, none⟩ (.int .i64 1)).setCell ⟨NR, 2, none⟩ (.slice (some ⟨c1, 0, none⟩) 8 8)).setCell ⟨NR, 3, none⟩ (.slice (some ⟨c2, 0, none⟩) 3 3)).setCell ⟨NR, 4, none⟩ (.int .i64 3)).setCell ⟨NR, 5, none⟩ (.int .i64 3)).setCell ⟨NR, 6, none⟩ (.slice (some ⟨c3, 0, none⟩) 9 9)).setCell ⟨NR, 7, none⟩ (.slice (some ⟨c4, 0, none⟩) 1 1)).setCell ⟨NR, 8, none⟩ (.slice (some ⟨c5, 0, none⟩) 2 2)) := ⟨_, rfl⟩
  have q1 : (W5.setCell ⟨NR, 0, none⟩ (.int .i64 2)).heap[NR]? = some (Obj.cells #[.int .i64 2, .int .i64 0, .slice none 0 0, .slice none 0 0, .int .i64 0, .int .i64 0, .slice none 0 0, .slice none 0 0, .slice none 0 0] 37) := Go.Joins.block_setCell (i := 0) kR _
  have q2 : ((W5.setCell ⟨NR, 0, none⟩ (.int .i64 2)).setCell ⟨NR, 1, none⟩ (.int .i64 1)).heap[NR]? = some (Obj.cells #[.int .i64 2, .int .i64 1, .slice none 0 0, .slice none 0 0, .int .i64 0, .int .i64 0, .slice none 0 0, .slice none 0 0, .slice none 0 0] 37) := Go.Joins.block_setCell (i := 1) q1 _
  clear q1
  have q3 : (((W5.setCell ⟨NR, 0, none⟩ (.int .i64 2)).setCell ⟨NR, 1, none⟩ (.int .i64 1)).setCell ⟨NR, 2, none⟩ (.slice (some ⟨c1, 0, none⟩) 8 8)).heap[NR]? = some (Obj.cells #[.int .i64 2, .int .i64 1, .slice (some ⟨c1, 0, none⟩) 8 8, .slice none 0 0, .int .i64 0, .int .i64 0, .slice none 0 0, .slice none 0 0, .slice none 0 0] 37) := Go.Joins.block_setCell (i := 2) q2 _
  clear q2
  have q4 : ((((W5.setCell ⟨NR, 0, none⟩ (.int .i64 2)).setCell ⟨NR, 1, none⟩ (.int .i64 1)).setCell ⟨NR, 2, none⟩ (.slice (some ⟨c1, 0, none⟩) 8 8)).setCell ⟨NR, 3, none⟩ (.slice (some ⟨c2, 0, none⟩) 3 3)).heap[NR]? = some (Obj.cells #[.int .i64 2, .int .i64 1, .slice (some ⟨c1, 0, none⟩) 8 8, .slice (some ⟨c2, 0, none⟩) 3 3, .int .i64 0, .int .i64 0, .slice none 0 0, .slice none 0 0, .slice none 0 0] 37) := Go.Joins.block_setCell (i := 3) q3 _
  clear q3
  have q5 : (((((W5.setCell ⟨NR, 0, none⟩ (.int .i64 2)).setCell ⟨NR, 1, none⟩ (.int .i64 1)).setCell ⟨NR, 2, none⟩ (.slice (some ⟨c1, 0, none⟩) 8 8)).setCell ⟨NR, 3, none⟩ (.slice (some ⟨c2, 0, none⟩) 3 3)).setCell ⟨NR, 4, none⟩ (.int .i64 3)).heap[NR]? = some (Obj.cells #[.int .i64 2, .int .i64 1, .slice (some ⟨c1, 0, none⟩) 8 8, .slice (some ⟨c2, 0, none⟩) 3 3, .int .i64 3, .int .i64 0, .slice none 0 0, .slice none 0 0, .slice none 0 0] 37) := Go.Joins.block_setCell (i := 4) q4 _
  clear q4
  have q6 : ((((((W5.setCell ⟨NR, 0, none⟩ (.int .i64 2)).setCell ⟨NR, 1, none⟩ (.int .i64 1)).setCell ⟨NR, 2, none⟩ (.slice (some ⟨c1, 0, none⟩) 8 8)).setCell ⟨NR, 3, none⟩ (.slice (some ⟨c2, 0, none⟩) 3 3)).setCell ⟨NR, 4, none⟩ (.int .i64 3)).setCell ⟨NR, 5, none⟩ (.int .i64 3)).heap[NR]? = some (Obj.cells #[.int .i64 2, .int .i64 1, .slice (some ⟨c1, 0, none⟩) 8 8, .slice (some ⟨c2, 0, none⟩) 3 3, .int .i64 3, .int .i64 3, .slice none 0 0, .slice none 0 0, .slice none 0 0] 37) := Go.Joins.block_setCell (i := 5) q5 _
  clear q5
  have q7 : (((((((W5.setCell ⟨NR, 0, none⟩ (.int .i64 2)).setCell ⟨NR, 1, none⟩ (.int .i64 1)).setCell ⟨NR, 2, none⟩ (.slice (some ⟨c1, 0, none⟩) 8 8)).setCell ⟨NR, 3, none⟩ (.slice (some ⟨c2, 0, none⟩) 3 3)).setCell ⟨NR, 4, none⟩ (.int .i64 3)).setCell ⟨NR, 5, none⟩ (.int .i64 3)).setCell ⟨NR, 6, none⟩ (.slice (some ⟨c3, 0, none⟩) 9 9)).heap[NR]? = some (Obj.cells #[.int .i64 2, .int .i64 1, .slice (some ⟨c1, 0, none⟩) 8 8, .slice (some ⟨c2, 0, none⟩) 3 3, .int .i64 3, .int .i64 3, .slice (some ⟨c3, 0, none⟩) 9 9, .slice none 0 0, .slice none 0 0] 37) := Go.Joins.block_setCell (i := 6) q6 _
  clear q6
  have q8 : ((((((((W5.setCell ⟨NR, 0, none⟩ (.int .i64 2)).setCell ⟨NR, 1, none⟩ (.int .i64 1)).setCell ⟨NR, 2, none⟩ (.slice (some ⟨c1, 0, none⟩) 8 8)).setCell ⟨NR, 3, none⟩ (.slice (some ⟨c2, 0, none⟩) 3 3)).setCell ⟨NR, 4, none⟩ (.int .i64 3)).setCell ⟨NR, 5, none⟩ (.int .i64 3)).setCell ⟨NR, 6, none⟩ (.slice (some ⟨c3, 0, none⟩) 9 9)).setCell ⟨NR, 7, none⟩ (.slice (some ⟨c4, 0, none⟩) 1 1)).heap[NR]? = some (Obj.cells #[.int .i64 2, .int .i64 1, .slice (some ⟨c1, 0, none⟩) 8 8, .slice (some ⟨c2, 0, none⟩) 3 3, .int .i64 3, .int .i64 3, .slice (some ⟨c3, 0, none⟩) 9 9, .slice (some ⟨c4, 0, none⟩) 1 1, .slice none 0 0] 37) := Go.Joins.block_setCell (i := 7) q7 _
  clear q7
  have q9 : (((((((((W5.setCell ⟨NR, 0, none⟩ (.int .i64 2)).setCell ⟨NR, 1, none⟩ (.int .i64 1)).setCell ⟨NR, 2, none⟩ (.slice (some ⟨c1, 0, none⟩) 8 8)).setCell ⟨NR, 3, none⟩ (.slice (some ⟨c2, 0, none⟩) 3 3)).setCell ⟨NR, 4, none⟩ (.int .i64 3)).setCell ⟨NR, 5, none⟩ (.int .i64 3)).setCell ⟨NR, 6, none⟩ (.slice (some ⟨c3, 0, none⟩) 9 9)).setCell ⟨NR, 7, none⟩ (.slice (some ⟨c4, 0, none⟩) 1 1)).setCell ⟨NR, 8, none⟩ (.slice (some ⟨c5, 0, none⟩) 2 2)).heap[NR]? = some (Obj.cells #[.int .i64 2, .int .i64 1, .slice (some ⟨c1, 0, none⟩) 8 8, .slice (some ⟨c2, 0, none⟩) 3 3, .int .i64 3, .int .i64 3, .slice (some ⟨c3, 0, none⟩) 9 9, .slice (some ⟨c4, 0, none⟩) 1 1, .slice (some ⟨c5, 0, none⟩) 2 2] 37) := Go.Joins.block_setCell (i := 8) q8 _
  clear q8
  rw [← hW] at q9
  have y0 : W9.cell? ⟨NR, 0, none⟩ = some (.int .i64 2) := Go.Joins.cell_of_block q9 0
  have y1 : W9.cell? ⟨NR, 1, none⟩ = some (.int .i64 1) := Go.Joins.cell_of_block q9 1
  have y2 : W9.cell? ⟨NR, 2, none⟩ = some (.slice (some ⟨c1, 0, none⟩) 8 8) := Go.Joins.cell_of_block q9 2
  have y3 : W9.cell? ⟨NR, 3, none⟩ = some (.slice (some ⟨c2, 0, none⟩) 3 3) := Go.Joins.cell_of_block q9 3
  have y4 : W9.cell? ⟨NR, 4, none⟩ = some (.int .i64 3) := Go.Joins.cell_of_block q9 4
  have y5 : W9.cell? ⟨NR, 5, none⟩ = some (.int .i64 3) := Go.Joins.cell_of_block q9 5
  have y6 : W9.cell? ⟨NR, 6, none⟩ = some (.slice (some ⟨c3, 0, none⟩) 9 9) := Go.Joins.cell_of_block q9 6
  have y7 : W9.cell? ⟨NR, 7, none⟩ = some (.slice (some ⟨c4, 0, none⟩) 1 1) := Go.Joins.cell_of_block q9 7
  have y8 : W9.cell? ⟨NR, 8, none⟩ = some (.slice (some ⟨c5, 0, none⟩) 2 2) := Go.Joins.cell_of_block q9 8
  have B9 : Below w.heap.size w W9 := by rw [hW]; exact (((((((((B5.setCell (by simp; omega) _).setCell (by simp; omega) _).setCell (by simp; omega) _).setCell (by simp; omega) _).setCell (by simp; omega) _).setCell (by simp; omega) _).setCell (by simp; omega) _).setCell (by simp; omega) _).setCell (by simp; omega) _)
  have P1 : Rd.Own 2 W9 c1 (.slice (some ⟨c1, 0, none⟩) 8 8) (tab (Numb.bitT 90) 8) := by rw [hW]; exact (own_set (own_set (own_set (own_set (own_set (own_set (own_set (own_set (own_set o1 _ _ (by simp; omega)) _ _ (by simp; omega)) _ _ (by simp; omega)) _ _ (by simp; omega)) _ _ (by simp; omega)) _ _ (by simp; omega)) _ _ (by simp; omega)) _ _ (by simp; omega)) _ _ (by simp; omega))
  have P2 : Rd.Own 2 W9 c2 (.slice (some ⟨c2, 0, none⟩) 3 3) [0, 1, 0] := by rw [hW]; exact (own_set (own_set (own_set (own_set (own_set (own_set (own_set (own_set (own_set o2 _ _ (by simp; omega)) _ _ (by simp; omega)) _ _ (by simp; omega)) _ _ (by simp; omega)) _ _ (by simp; omega)) _ _ (by simp; omega)) _ _ (by simp; omega)) _ _ (by simp; omega)) _ _ (by simp; omega))
  have P3 : Rd.Own 2 W9 c3 (.slice (some ⟨c3, 0, none⟩) 9 9) [0, 0, 0, 1, 1, 1, 0, 0, 0] := by rw [hW]; exact (own_set (own_set (own_set (own_set (own_set (own_set (own_set (own_set (own_set o3 _ _ (by simp; omega)) _ _ (by simp; omega)) _ _ (by simp; omega)) _ _ (by simp; omega)) _ _ (by simp; omega)) _ _ (by simp; omega)) _ _ (by simp; omega)) _ _ (by simp; omega)) _ _ (by simp; omega))
  have P4 : Rd.Own 2 W9 c4 (.slice (some ⟨c4, 0, none⟩) 1 1) [3] := by rw [hW]; exact (own_set (own_set (own_set (own_set (own_set (own_set (own_set (own_set (own_set o4 _ _ (by simp; omega)) _ _ (by simp; omega)) _ _ (by simp; omega)) _ _ (by simp; omega)) _ _ (by simp; omega)) _ _ (by simp; omega)) _ _ (by simp; omega)) _ _ (by simp; omega)) _ _ (by simp; omega))
  have P5 : Rd.Own 2 W9 c5 (.slice (some ⟨c5, 0, none⟩) 2 2) [2, 3] := by rw [hW]; exact (own_set (own_set (own_set (own_set (own_set (own_set (own_set (own_set (own_set o5 _ _ (by simp; omega)) _ _ (by simp; omega)) _ _ (by simp; omega)) _ _ (by simp; omega)) _ _ (by simp; omega)) _ _ (by simp; omega)) _ _ (by simp; omega)) _ _ (by simp; omega)) _ _ (by simp; omega))
  simp only [← hW]
  clear hW q9 kR o1 o2 o3 o4 o5
  refine (?h : ∀ Q : Ending → World → Prop, Q (.returned (deskV 2 1 (.slice (some ⟨c1, 0, none⟩) 8 8) (.slice (some ⟨c2, 0, none⟩) 3 3) 3 3 (.slice (some ⟨c3, 0, none⟩) 9 9) (.slice (some ⟨c4, 0, none⟩) 1 1) (.slice (some ⟨c5, 0, none⟩) 2 2))) W9 → bodyPost _ _ Q _ _ _) _ ⟨.slice (some ⟨c1, 0, none⟩) 8 8, c1, c2, c3, c4, c5, rfl, P1, P2, P3, P4, P5, ⟨by omega, by omega, by omega, by omega, by omega⟩, B9⟩
  clear P1 P2 P3 P4 P5 B9
  intro Q hQ
  have HQ := hid hQ
  clear hQ
  simp [bodyPost, results, Try.results25, go_sem, y0, y1, y2, y3, y4, y5, y6, y7, y8]
  exact HQ.out

set_option maxHeartbeats 8000000 in
theorem specOk {w : World} :
    Calls Try.prog 24 #[] w fun e w' => ∃ (vr : Value) (c1 c2 c3 c4 c5 : Nat), e = .returned (deskV 2 1 (vr) (.slice (some ⟨c2, 0, none⟩) 3 3) 3 3 (.slice (some ⟨c3, 0, none⟩) 9 9) (.slice (some ⟨c4, 0, none⟩) 1 1) (.slice (some ⟨c5, 0, none⟩) 2 2)) ∧ Rd.Own 2 w' c1 vr (tab (Numb.bitT 90) 8) ∧ Rd.Own 2 w' c2 (.slice (some ⟨c2, 0, none⟩) 3 3) [0, 1, 0] ∧ Rd.Own 2 w' c3 (.slice (some ⟨c3, 0, none⟩) 9 9) [0, 0, 0, 1, 1, 1, 0, 0, 0] ∧ Rd.Own 2 w' c4 (.slice (some ⟨c4, 0, none⟩) 1 1) [3] ∧ Rd.Own 2 w' c5 (.slice (some ⟨c5, 0, none⟩) 2 2) [2, 3] ∧ (w.heap.size ≤ c1 ∧ c1 < c2 ∧ c2 < c3 ∧ c3 < c4 ∧ c4 < c5) ∧ Below w.heap.size w w' := by
  go_enter Try.func24, Try.ntmps24
  go_wp2_with fail
  obtain ⟨w1, hW⟩ : ∃ x, x = w.alloc (Obj.cells #[.int .i64 0, .int .i64 0, .slice none 0 0, .slice none 0 0, .int .i64 0, .int .i64 0, .slice none 0 0, .slice none 0 0, .slice none 0 0] 37) := ⟨_, rfl⟩
  obtain ⟨NR, hN⟩ : ∃ x, x = w.heap.size := ⟨_, rfl⟩
  have HB1 : Hid (Below w.heap.size w w1) := by simp only [Hid]; rw [hW]; exact below1 _ _
  have kR : w1.heap[NR]? = some (Obj.cells #[.int .i64 0, .int .i64 0, .slice none 0 0, .slice none 0 0, .int .i64 0, .int .i64 0, .slice none 0 0, .slice none 0 0, .slice none 0 0] 37) := by rw [hW]; exact FNew.heap_top hN
  have HNR : Hid (NR = w.heap.size) := hN
  simp only [← hW, ← hN]
  clear hW hN
  go_at_call 85
  refine (Numb.specOk (a := 90) (by decide)).mono ?_
  rintro e w2 ⟨vr, c1, rfl, o1, lo1, bel⟩
  have KR := hid (heap_keep bel kR)
  have HB2 := hid (HB1.out.trans (bel.mono HB1.out.size))
  have O1 := hid o1
  have HL1 : Hid (NR < c1 ∧ w.heap.size ≤ c1) := by have h1 := (Array.getElem?_eq_some_iff.1 kR).1; have h2 := HB1.out.size; simp only [Hid]; omega
  have kz := Go.Joins.cell_of_block KR.out
  clear bel kR o1 lo1
  obtain ⟨ac, cc, hvr⟩ : ∃ ac cc, vr = .slice ac 8 cc := by obtain ⟨ac, cc, h, _⟩ := O1.out.rd; exact ⟨ac, cc, h⟩
  subst hvr
  have e0 : ∀ a1 a2 a3 a4 a5 a6, ((((((w2.alloc a1).alloc a2).alloc a3).alloc a4).alloc a5).alloc a6).cell? ⟨NR, 0, none⟩ = some (.int .i64 0) := fun a1 a2 a3 a4 a5 a6 => Go.Joins.cell_of_block (FNew.heap_old (FNew.heap_old (FNew.heap_old (FNew.heap_old (FNew.heap_old (FNew.heap_old KR.out)))))) 0
  have f0 : ∀ a1 a2 a3 a4 a5 a6, ((((((w2.alloc a1).alloc a2).alloc a3).alloc a4).alloc a5).alloc a6).frozen? ⟨NR, 0, none⟩ = false := fun a1 a2 a3 a4 a5 a6 => Go.Joins.unfrozen_of_block (FNew.heap_old (FNew.heap_old (FNew.heap_old (FNew.heap_old (FNew.heap_old (FNew.heap_old KR.out)))))) 0
  have e1 : ∀ a1 a2 a3 a4 a5 a6, ((((((w2.alloc a1).alloc a2).alloc a3).alloc a4).alloc a5).alloc a6).cell? ⟨NR, 1, none⟩ = some (.int .i64 0) := fun a1 a2 a3 a4 a5 a6 => Go.Joins.cell_of_block (FNew.heap_old (FNew.heap_old (FNew.heap_old (FNew.heap_old (FNew.heap_old (FNew.heap_old KR.out)))))) 1
  have f1 : ∀ a1 a2 a3 a4 a5 a6, ((((((w2.alloc a1).alloc a2).alloc a3).alloc a4).alloc a5).alloc a6).frozen? ⟨NR, 1, none⟩ = false := fun a1 a2 a3 a4 a5 a6 => Go.Joins.unfrozen_of_block (FNew.heap_old (FNew.heap_old (FNew.heap_old (FNew.heap_old (FNew.heap_old (FNew.heap_old KR.out)))))) 1
  have e2 : ∀ a1 a2 a3 a4 a5 a6, ((((((w2.alloc a1).alloc a2).alloc a3).alloc a4).alloc a5).alloc a6).cell? ⟨NR, 2, none⟩ = some (.slice none 0 0) := fun a1 a2 a3 a4 a5 a6 => Go.Joins.cell_of_block (FNew.heap_old (FNew.heap_old (FNew.heap_old (FNew.heap_old (FNew.heap_old (FNew.heap_old KR.out)))))) 2
  have f2 : ∀ a1 a2 a3 a4 a5 a6, ((((((w2.alloc a1).alloc a2).alloc a3).alloc a4).alloc a5).alloc a6).frozen? ⟨NR, 2, none⟩ = false := fun a1 a2 a3 a4 a5 a6 => Go.Joins.unfrozen_of_block (FNew.heap_old (FNew.heap_old (FNew.heap_old (FNew.heap_old (FNew.heap_old (FNew.heap_old KR.out)))))) 2
  have e3 : ∀ a1 a2 a3 a4 a5 a6, ((((((w2.alloc a1).alloc a2).alloc a3).alloc a4).alloc a5).alloc a6).cell? ⟨NR, 3, none⟩ = some (.slice none 0 0) := fun a1 a2 a3 a4 a5 a6 => Go.Joins.cell_of_block (FNew.heap_old (FNew.heap_old (FNew.heap_old (FNew.heap_old (FNew.heap_old (FNew.heap_old KR.out)))))) 3
  have f3 : ∀ a1 a2 a3 a4 a5 a6, ((((((w2.alloc a1).alloc a2).alloc a3).alloc a4).alloc a5).alloc a6).frozen? ⟨NR, 3, none⟩ = false := fun a1 a2 a3 a4 a5 a6 => Go.Joins.unfrozen_of_block (FNew.heap_old (FNew.heap_old (FNew.heap_old (FNew.heap_old (FNew.heap_old (FNew.heap_old KR.out)))))) 3
  have e4 : ∀ a1 a2 a3 a4 a5 a6, ((((((w2.alloc a1).alloc a2).alloc a3).alloc a4).alloc a5).alloc a6).cell? ⟨NR, 4, none⟩ = some (.int .i64 0) := fun a1 a2 a3 a4 a5 a6 => Go.Joins.cell_of_block (FNew.heap_old (FNew.heap_old (FNew.heap_old (FNew.heap_old (FNew.heap_old (FNew.heap_old KR.out)))))) 4
  have f4 : ∀ a1 a2 a3 a4 a5 a6, ((((((w2.alloc a1).alloc a2).alloc a3).alloc a4).alloc a5).alloc a6).frozen? ⟨NR, 4, none⟩ = false := fun a1 a2 a3 a4 a5 a6 => Go.Joins.unfrozen_of_block (FNew.heap_old (FNew.heap_old (FNew.heap_old (FNew.heap_old (FNew.heap_old (FNew.heap_old KR.out)))))) 4
  have e5 : ∀ a1 a2 a3 a4 a5 a6, ((((((w2.alloc a1).alloc a2).alloc a3).alloc a4).alloc a5).alloc a6).cell? ⟨NR, 5, none⟩ = some (.int .i64 0) := fun a1 a2 a3 a4 a5 a6 => Go.Joins.cell_of_block (FNew.heap_old (FNew.heap_old (FNew.heap_old (FNew.heap_old (FNew.heap_old (FNew.heap_old KR.out)))))) 5
  have f5 : ∀ a1 a2 a3 a4 a5 a6, ((((((w2.alloc a1).alloc a2).alloc a3).alloc a4).alloc a5).alloc a6).frozen? ⟨NR, 5, none⟩ = false := fun a1 a2 a3 a4 a5 a6 => Go.Joins.unfrozen_of_block (FNew.heap_old (FNew.heap_old (FNew.heap_old (FNew.heap_old (FNew.heap_old (FNew.heap_old KR.out)))))) 5
  have e6 : ∀ a1 a2 a3 a4 a5 a6, ((((((w2.alloc a1).alloc a2).alloc a3).alloc a4).alloc a5).alloc a6).cell? ⟨NR, 6, none⟩ = some (.slice none 0 0) := fun a1 a2 a3 a4 a5 a6 => Go.Joins.cell_of_block (FNew.heap_old (FNew.heap_old (FNew.heap_old (FNew.heap_old (FNew.heap_old (FNew.heap_old KR.out)))))) 6
  have f6 : ∀ a1 a2 a3 a4 a5 a6, ((((((w2.alloc a1).alloc a2).alloc a3).alloc a4).alloc a5).alloc a6).frozen? ⟨NR, 6, none⟩ = false := fun a1 a2 a3 a4 a5 a6 => Go.Joins.unfrozen_of_block (FNew.heap_old (FNew.heap_old (FNew.heap_old (FNew.heap_old (FNew.heap_old (FNew.heap_old KR.out)))))) 6
  have e7 : ∀ a1 a2 a3 a4 a5 a6, ((((((w2.alloc a1).alloc a2).alloc a3).alloc a4).alloc a5).alloc a6).cell? ⟨NR, 7, none⟩ = some (.slice none 0 0) := fun a1 a2 a3 a4 a5 a6 => Go.Joins.cell_of_block (FNew.heap_old (FNew.heap_old (FNew.heap_old (FNew.heap_old (FNew.heap_old (FNew.heap_old KR.out)))))) 7
  have f7 : ∀ a1 a2 a3 a4 a5 a6, ((((((w2.alloc a1).alloc a2).alloc a3).alloc a4).alloc a5).alloc a6).frozen? ⟨NR, 7, none⟩ = false := fun a1 a2 a3 a4 a5 a6 => Go.Joins.unfrozen_of_block (FNew.heap_old (FNew.heap_old (FNew.heap_old (FNew.heap_old (FNew.heap_old (FNew.heap_old KR.out)))))) 7
  have e8 : ∀ a1 a2 a3 a4 a5 a6, ((((((w2.alloc a1).alloc a2).alloc a3).alloc a4).alloc a5).alloc a6).cell? ⟨NR, 8, none⟩ = some (.slice none 0 0) := fun a1 a2 a3 a4 a5 a6 => Go.Joins.cell_of_block (FNew.heap_old (FNew.heap_old (FNew.heap_old (FNew.heap_old (FNew.heap_old (FNew.heap_old KR.out)))))) 8
  have f8 : ∀ a1 a2 a3 a4 a5 a6, ((((((w2.alloc a1).alloc a2).alloc a3).alloc a4).alloc a5).alloc a6).frozen? ⟨NR, 8, none⟩ = false := fun a1 a2 a3 a4 a5 a6 => Go.Joins.unfrozen_of_block (FNew.heap_old (FNew.heap_old (FNew.heap_old (FNew.heap_old (FNew.heap_old (FNew.heap_old KR.out)))))) 8
  clear kz
  go_wp2
  obtain ⟨W5, hW⟩ : ∃ x, x = ((((((w2.alloc (Obj.cells #[.int .i64 2, .int .i64 1, .slice ac 8 cc] 33)).alloc (Obj.cells #[.int .i64 0, .int .i64 1, .int .i64 0] 2)).alloc (Obj.cells #[.int .i64 2, .int .i64 1, .slice ac 8 cc, .slice (some ⟨w2.heap.size + 1, 0, none⟩) 3 3, .int .i64 3, .int .i64 3, .slice (some ⟨w2.heap.size + 1 + 1 + 1, 0, none⟩) 9 9, .slice (some ⟨w2.heap.size + 1 + 1 + 1 + 1, 0, none⟩) 1 1, .slice (some ⟨w2.heap.size + 1 + 1 + 1 + 1 + 1, 0, none⟩) 2 2] 37)).alloc (Obj.cells #[.int .i64 0, .int .i64 0, .int .i64 0, .int .i64 1, .int .i64 1, .int .i64 1, .int .i64 0, .int .i64 0, .int .i64 0] 2)).alloc (Obj.cells #[.int .i64 3] 2)).alloc (Obj.cells #[.int .i64 2, .int .i64 3] 2)) := ⟨_, rfl⟩
  obtain ⟨c0, hc0⟩ : ∃ x, x = w2.heap.size := ⟨_, rfl⟩
  obtain ⟨c2, hc2⟩ : ∃ x, x = c0 + 1 := ⟨_, rfl⟩
  obtain ⟨cD, hcD⟩ : ∃ x, x = c2 + 1 := ⟨_, rfl⟩
  obtain ⟨c3, hc3⟩ : ∃ x, x = cD + 1 := ⟨_, rfl⟩
  obtain ⟨c4, hc4⟩ : ∃ x, x = c3 + 1 := ⟨_, rfl⟩
  obtain ⟨c5, hc5⟩ : ∃ x, x = c4 + 1 := ⟨_, rfl⟩
  have kR : W5.heap[NR]? = some (Obj.cells #[.int .i64 0, .int .i64 0, .slice none 0 0, .slice none 0 0, .int .i64 0, .int .i64 0, .slice none 0 0, .slice none 0 0, .slice none 0 0] 37) := by rw [hW]; exact (FNew.heap_old (FNew.heap_old (FNew.heap_old (FNew.heap_old (FNew.heap_old (FNew.heap_old KR.out))))))
  have k2 : W5.heap[c2]? = some (Obj.cells #[.int .i64 0, .int .i64 1, .int .i64 0] 2) := by rw [hW]; exact FNew.heap_old (FNew.heap_old (FNew.heap_old (FNew.heap_old (FNew.heap_top (by rw [hc2, hc0]; simp)))))
  have k3 : W5.heap[c3]? = some (Obj.cells #[.int .i64 0, .int .i64 0, .int .i64 0, .int .i64 1, .int .i64 1, .int .i64 1, .int .i64 0, .int .i64 0, .int .i64 0] 2) := by rw [hW]; exact FNew.heap_old (FNew.heap_old (FNew.heap_top (by rw [hc3, hcD, hc2, hc0]; simp)))
  have k4 : W5.heap[c4]? = some (Obj.cells #[.int .i64 3] 2) := by rw [hW]; exact FNew.heap_old (FNew.heap_top (by rw [hc4, hc3, hcD, hc2, hc0]; simp))
  have k5 : W5.heap[c5]? = some (Obj.cells #[.int .i64 2, .int .i64 3] 2) := by rw [hW]; exact FNew.heap_top (by rw [hc5, hc4, hc3, hcD, hc2, hc0]; simp)
  have bel : Below w2.heap.size w2 W5 := by rw [hW]; exact (((((((Below.refl _ _).alloc (Nat.le_refl _) _).alloc (by simp) _).alloc (by simp; omega) _).alloc (by simp; omega) _).alloc (by simp; omega) _).alloc (by simp; omega) _)
  have o2 : Rd.Own 2 W5 c2 (.slice (some ⟨c2, 0, none⟩) 3 3) [0, 1, 0] := own_lit (zs := [0, 1, 0]) k2 (by unfold maxLen; decide)
  have o3 : Rd.Own 2 W5 c3 (.slice (some ⟨c3, 0, none⟩) 9 9) [0, 0, 0, 1, 1, 1, 0, 0, 0] := own_lit (zs := [0, 0, 0, 1, 1, 1, 0, 0, 0]) k3 (by unfold maxLen; decide)
  have o4 : Rd.Own 2 W5 c4 (.slice (some ⟨c4, 0, none⟩) 1 1) [3] := own_lit (zs := [3]) k4 (by unfold maxLen; decide)
  have o5 : Rd.Own 2 W5 c5 (.slice (some ⟨c5, 0, none⟩) 2 2) [2, 3] := own_lit (zs := [2, 3]) k5 (by unfold maxLen; decide)
  have hc1 : c1 < w2.heap.size := by
    rcases O1.out.form with ⟨_, he⟩ | ⟨_, _, _, _, h⟩
    · exact absurd he (by simp [tab])
    · exact h
  have o1 := O1.out.keep bel
  have hlt : NR ≠ c1 ∧ c1 < c2 ∧ c2 < c3 ∧ c3 < c4 ∧ c4 < c5 ∧ w.heap.size ≤ c1 ∧ w.heap.size ≤ NR ∧ NR < c2 := by have h1 := hc1; have h2 := HL1.out; have h3 := HNR.out; omega
  have B5 := HB2.out.trans (bel.mono HB2.out.size)
  try simp only [← hW]
  try simp only [← hc0]
  try simp only [← hc2]
  try simp only [← hcD]
  try simp only [← hc3]
  try simp only [← hc4]
  try simp only [← hc5]
  clear hW hc0 hc2 hcD hc3 hc4 hc5 hc1 bel k2 k3 k4 k5 e0 f0 e1 f1 e2 f2 e3 f3 e4 f4 e5 f5 e6 f6 e7 f7 e8 f8
  obtain ⟨W9, hW⟩ : ∃ x, x = (((((((((W5.setCell ⟨NR, 0, none⟩ (.int .i64 2)).setCell ⟨NR, 1, none⟩ (.int .i64 1)).setCell ⟨NR, 2, none⟩ (.slice ac 8 cc)).setCell ⟨NR, 3, none⟩ (.slice (some ⟨c2, 0, none⟩) 3 3)).setCell ⟨NR, 4, none⟩ (.int .i64 3)).setCell ⟨NR, 5, none⟩ (.int .i64 3)).setCell ⟨NR, 6, none⟩ (.slice (some ⟨c3, 0, none⟩) 9 9)).setCell ⟨NR, 7, none⟩ (.slice (some ⟨c4, 0, none⟩) 1 1)).setCell ⟨NR, 8, none⟩ (.slice (some ⟨c5, 0, none⟩) 2 2)) := ⟨_, rfl⟩
  have q1 : (W5.setCell ⟨NR, 0, none⟩ (.int .i64 2)).heap[NR]? = some (Obj.cells #[.int .i64 2, .int .i64 0, .slice none 0 0, .slice none 0 0, .int .i64 0, .int .i64 0, .slice none 0 0, .slice none 0 0, .slice none 0 0] 37) := Go.Joins.block_setCell (i := 0) kR _
  have q2 : ((W5.setCell ⟨NR, 0, none⟩ (.int .i64 2)).setCell ⟨NR, 1, none⟩ (.int .i64 1)).heap[NR]? = some (Obj.cells #[.int .i64 2, .int .i64 1, .slice none 0 0, .slice none 0 0, .int .i64 0, .int .i64 0, .slice none 0 0, .slice none 0 0, .slice none 0 0] 37) := Go.Joins.block_setCell (i := 1) q1 _
  clear q1
  have q3 : (((W5.setCell ⟨NR, 0, none⟩ (.int .i64 2)).setCell ⟨NR, 1, none⟩ (.int .i64 1)).setCell ⟨NR, 2, none⟩ (.slice ac 8 cc)).heap[NR]? = some (Obj.cells #[.int .i64 2, .int .i64 1, .slice ac 8 cc, .slice none 0 0, .int .i64 0, .int .i64 0, .slice none 0 0, .slice none 0 0, .slice none 0 0] 37) := Go.Joins.block_setCell (i := 2) q2 _
  clear q2
  have q4 : ((((W5.setCell ⟨NR, 0, none⟩ (.int .i64 2)).setCell ⟨NR, 1, none⟩ (.int .i64 1)).setCell ⟨NR, 2, none⟩ (.slice ac 8 cc)).setCell ⟨NR, 3, none⟩ (.slice (some ⟨c2, 0, none⟩) 3 3)).heap[NR]? = some (Obj.cells #[.int .i64 2, .int .i64 1, .slice ac 8 cc, .slice (some ⟨c2, 0, none⟩) 3 3, .int .i64 0, .int .i64 0, .slice none 0 0, .slice none 0 0, .slice none 0 0] 37) := Go.Joins.block_setCell (i := 3) q3 _
  clear q3
  have q5 : (((((W5.setCell ⟨NR, 0, none⟩ (.int .i64 2)).setCell ⟨NR, 1, none⟩ (.int .i64 1)).setCell ⟨NR, 2, none⟩ (.slice ac 8 cc)).setCell ⟨NR, 3, none⟩ (.slice (some ⟨c2, 0, none⟩) 3 3)).setCell ⟨NR, 4, none⟩ (.int .i64 3)).heap[NR]? = some (Obj.cells #[.int .i64 2, .int .i64 1, .slice ac 8 cc, .slice (some ⟨c2, 0, none⟩) 3 3, .int .i64 3, .int .i64 0, .slice none 0 0, .slice none 0 0, .slice none 0 0] 37) := Go.Joins.block_setCell (i := 4) q4 _
  clear q4
  have q6 : ((((((W5.setCell ⟨NR, 0, none⟩ (.int .i64 2)).setCell ⟨NR, 1, none⟩ (.int .i64 1)).setCell ⟨NR, 2, none⟩ (.slice ac 8 cc)).setCell ⟨NR, 3, none⟩ (.slice (some ⟨c2, 0, none⟩) 3 3)).setCell ⟨NR, 4, none⟩ (.int .i64 3)).setCell ⟨NR, 5, none⟩ (.int .i64 3)).heap[NR]? = some (Obj.cells #[.int .i64 2, .int .i64 1, .slice ac 8 cc, .slice (some ⟨c2, 0, none⟩) 3 3, .int .i64 3, .int .i64 3, .slice none 0 0, .slice none 0 0, .slice none 0 0] 37) := Go.Joins.block_setCell (i := 5) q5 _
  clear q5
  have q7 : (((((((W5.setCell ⟨NR, 0, none⟩ (.int .i64 2)).setCell ⟨NR, 1, none⟩ (.int .i64 1)).setCell ⟨NR, 2, none⟩ (.slice ac 8 cc)).setCell ⟨NR, 3, none⟩ (.slice (some ⟨c2, 0, none⟩) 3 3)).setCell ⟨NR, 4, none⟩ (.int .i64 3)).setCell ⟨NR, 5, none⟩ (.int .i64 3)).setCell ⟨NR, 6, none⟩ (.slice (some ⟨c3, 0, none⟩) 9 9)).heap[NR]? = some (Obj.cells #[.int .i64 2, .int .i64 1, .slice ac 8 cc, .slice (some ⟨c2, 0, none⟩) 3 3, .int .i64 3, .int .i64 3, .slice (some ⟨c3, 0, none⟩) 9 9, .slice none 0 0, .slice none 0 0] 37) := Go.Joins.block_setCell (i := 6) q6 _
  clear q6
  have q8 : ((((((((W5.setCell ⟨NR, 0, none⟩ (.int .i64 2)).setCell ⟨NR, 1, none⟩ (.int .i64 1)).setCell ⟨NR, 2, none⟩ (.slice ac 8 cc)).setCell ⟨NR, 3, none⟩ (.slice (some ⟨c2, 0, none⟩) 3 3)).setCell ⟨NR, 4, none⟩ (.int .i64 3)).setCell ⟨NR, 5, none⟩ (.int .i64 3)).setCell ⟨NR, 6, none⟩ (.slice (some ⟨c3, 0, none⟩) 9 9)).setCell ⟨NR, 7, none⟩ (.slice (some ⟨c4, 0, none⟩) 1 1)).heap[NR]? = some (Obj.cells #[.int .i64 2, .int .i64 1, .slice ac 8 cc, .slice (some ⟨c2, 0, none⟩) 3 3, .int .i64 3, .int .i64 3, .slice (some ⟨c3, 0, none⟩) 9 9, .slice (some ⟨c4, 0, none⟩) 1 1, .slice none 0 0] 37) := Go.Joins.block_setCell (i := 7) q7 _
  clear q7
  have q9 : (((((((((W5.setCell ⟨NR, 0, none⟩ (.int .i64 2)).setCell ⟨NR, 1, none⟩ (.int .i64 1)).setCell ⟨NR, 2, none⟩ (.slice ac 8 cc)).setCell ⟨NR, 3, none⟩ (.slice (some ⟨c2, 0, none⟩) 3 3)).setCell ⟨NR, 4, none⟩ (.int .i64 3)).setCell ⟨NR, 5, none⟩ (.int .i64 3)).setCell ⟨NR, 6, none⟩ (.slice (some ⟨c3, 0, none⟩) 9 9)).setCell ⟨NR, 7, none⟩ (.slice (some ⟨c4, 0, none⟩) 1 1)).setCell ⟨NR, 8, none⟩ (.slice (some ⟨c5, 0, none⟩) 2 2)).heap[NR]? = some (Obj.cells #[.int .i64 2, .int .i64 1, .slice ac 8 cc, .slice (some ⟨c2, 0, none⟩) 3 3, .int .i64 3, .int .i64 3, .slice (some ⟨c3, 0, none⟩) 9 9, .slice (some ⟨c4, 0, none⟩) 1 1, .slice (some ⟨c5, 0, none⟩) 2 2] 37) := Go.Joins.block_setCell (i := 8) q8 _
  clear q8
  rw [← hW] at q9
  have y0 : W9.cell? ⟨NR, 0, none⟩ = some (.int .i64 2) := Go.Joins.cell_of_block q9 0
  have y1 : W9.cell? ⟨NR, 1, none⟩ = some (.int .i64 1) := Go.Joins.cell_of_block q9 1
  have y2 : W9.cell? ⟨NR, 2, none⟩ = some (.slice ac 8 cc) := Go.Joins.cell_of_block q9 2
  have y3 : W9.cell? ⟨NR, 3, none⟩ = some (.slice (some ⟨c2, 0, none⟩) 3 3) := Go.Joins.cell_of_block q9 3
  have y4 : W9.cell? ⟨NR, 4, none⟩ = some (.int .i64 3) := Go.Joins.cell_of_block q9 4
  have y5 : W9.cell? ⟨NR, 5, none⟩ = some (.int .i64 3) := Go.Joins.cell_of_block q9 5
  have y6 : W9.cell? ⟨NR, 6, none⟩ = some (.slice (some ⟨c3, 0, none⟩) 9 9) := Go.Joins.cell_of_block q9 6
  have y7 : W9.cell? ⟨NR, 7, none⟩ = some (.slice (some ⟨c4, 0, none⟩) 1 1) := Go.Joins.cell_of_block q9 7
  have y8 : W9.cell? ⟨NR, 8, none⟩ = some (.slice (some ⟨c5, 0, none⟩) 2 2) := Go.Joins.cell_of_block q9 8
  have B9 : Below w.heap.size w W9 := by rw [hW]; exact (((((((((B5.setCell (by simp; omega) _).setCell (by simp; omega) _).setCell (by simp; omega) _).setCell (by simp; omega) _).setCell (by simp; omega) _).setCell (by simp; omega) _).setCell (by simp; omega) _).setCell (by simp; omega) _).setCell (by simp; omega) _)
  have P1 : Rd.Own 2 W9 c1 (.slice ac 8 cc) (tab (Numb.bitT 90) 8) := by rw [hW]; exact (own_set (own_set (own_set (own_set (own_set (own_set (own_set (own_set (own_set o1 _ _ (by simp; omega)) _ _ (by simp; omega)) _ _ (by simp; omega)) _ _ (by simp; omega)) _ _ (by simp; omega)) _ _ (by simp; omega)) _ _ (by simp; omega)) _ _ (by simp; omega)) _ _ (by simp; omega))
  have P2 : Rd.Own 2 W9 c2 (.slice (some ⟨c2, 0, none⟩) 3 3) [0, 1, 0] := by rw [hW]; exact (own_set (own_set (own_set (own_set (own_set (own_set (own_set (own_set (own_set o2 _ _ (by simp; omega)) _ _ (by simp; omega)) _ _ (by simp; omega)) _ _ (by simp; omega)) _ _ (by simp; omega)) _ _ (by simp; omega)) _ _ (by simp; omega)) _ _ (by simp; omega)) _ _ (by simp; omega))
  have P3 : Rd.Own 2 W9 c3 (.slice (some ⟨c3, 0, none⟩) 9 9) [0, 0, 0, 1, 1, 1, 0, 0, 0] := by rw [hW]; exact (own_set (own_set (own_set (own_set (own_set (own_set (own_set (own_set (own_set o3 _ _ (by simp; omega)) _ _ (by simp; omega)) _ _ (by simp; omega)) _ _ (by simp; omega)) _ _ (by simp; omega)) _ _ (by simp; omega)) _ _ (by simp; omega)) _ _ (by simp; omega)) _ _ (by simp; omega))
  have P4 : Rd.Own 2 W9 c4 (.slice (some ⟨c4, 0, none⟩) 1 1) [3] := by rw [hW]; exact (own_set (own_set (own_set (own_set (own_set (own_set (own_set (own_set (own_set o4 _ _ (by simp; omega)) _ _ (by simp; omega)) _ _ (by simp; omega)) _ _ (by simp; omega)) _ _ (by simp; omega)) _ _ (by simp; omega)) _ _ (by simp; omega)) _ _ (by simp; omega)) _ _ (by simp; omega))
  have P5 : Rd.Own 2 W9 c5 (.slice (some ⟨c5, 0, none⟩) 2 2) [2, 3] := by rw [hW]; exact (own_set (own_set (own_set (own_set (own_set (own_set (own_set (own_set (own_set o5 _ _ (by simp; omega)) _ _ (by simp; omega)) _ _ (by simp; omega)) _ _ (by simp; omega)) _ _ (by simp; omega)) _ _ (by simp; omega)) _ _ (by simp; omega)) _ _ (by simp; omega)) _ _ (by simp; omega))
  simp only [← hW]
  clear hW q9 kR o1 o2 o3 o4 o5
  refine (?h : ∀ Q : Ending → World → Prop, Q (.returned (deskV 2 1 (.slice ac 8 cc) (.slice (some ⟨c2, 0, none⟩) 3 3) 3 3 (.slice (some ⟨c3, 0, none⟩) 9 9) (.slice (some ⟨c4, 0, none⟩) 1 1) (.slice (some ⟨c5, 0, none⟩) 2 2))) W9 → bodyPost _ _ Q _ _ _) _ ⟨.slice ac 8 cc, c1, c2, c3, c4, c5, rfl, P1, P2, P3, P4, P5, ⟨by omega, by omega, by omega, by omega, by omega⟩, B9⟩
  clear P1 P2 P3 P4 P5 B9
  intro Q hQ
  have HQ := hid hQ
  clear hQ
  simp [bodyPost, results, Try.results24, go_sem, y0, y1, y2, y3, y4, y5, y6, y7, y8]
  exact HQ.out

end Go.Proofs.Ytonghkooncmjgaa.Nwd
