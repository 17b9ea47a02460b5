/- What is saved: both sides and the helpers. -/
import Derived.Test.YthcbhbdgbiiagaaQKit
import Derived.Test.YthcbhbdgbiiagaaFldKit
import Derived.Test.YthcbhbdgbiiagaaSpO
import Derived.Test.YthcbhbdgbiiagaaFsO
import Derived.Test.YthcbhbdgbiiagaaFVal
import Derived.Test.YthcbhbdgbiiagaaFNew
import Derived.Test.YthcbhbdgbiiagaaNam
import Derived.Deep.Cut
namespace Go.Proofs.Ythcbhbdgbiiagaa.Sav
open Go.RowKit Go.Proofs.Ythcbhbdgbiiagaa.Rd Go.Proofs.Ythcbhbdgbiiagaa.Help Go.Proofs.Ythcbhbdgbiiagaa.Keep Go.Proofs.Ythcbhbdgbiiagaa.Rule
set_option linter.unusedVariables false
set_option linter.unusedSimpArgs false

/-- A value of what is saved. -/
abbrev savV (n : ByteArray) (s r : Int) (v : Value) (s2 r2 : Int) (v2 : Value) : Value := .agg #[.string n, .int .i64 s, .int .i64 r, v, .int .i64 s2, .int .i64 r2, v2]
def savB (n : ByteArray) (s r : Int) (xs : List Int) (s2 r2 : Int) (ys : List Int) : Bool := Nam.nmB n && (validB s r xs && FVal.fieldB s2 r2 ys)
theorem heap_keep {w w' : World} {n : Nat} {o : Obj} (bel : Below w.heap.size w w') (h : w.heap[n]? = some o) : w'.heap[n]? = some o :=
  (bel.block n (Array.getElem?_eq_some_iff.1 h).1).trans h
theorem below_d (B : Nat) (w : World) (m : Nat) : Below B w (w.drewN m) := Spec.below_drewN' B w m
set_option maxHeartbeats 4000000 in
theorem l07Saved {w : World} {n : ByteArray} {s r s2 r2 : Int} {b1 b2 g : Nat} {ao1 ao2 : Option Addr} {cap1 cap2 : Nat} {xs ys : List Int} (hn : n.size ≤ maxLen) (h1 : Rd w b1 (.slice ao1 xs.length cap1) xs) (h2 : Rd w b2 (.slice ao2 ys.length cap2) ys) (hc : w.cell? ⟨g, 0, none⟩ = some (.string n) ∧ w.cell? ⟨g, 1, none⟩ = some (.int .i64 s) ∧ w.cell? ⟨g, 2, none⟩ = some (.int .i64 r) ∧ w.cell? ⟨g, 3, none⟩ = some (.slice ao1 xs.length cap1) ∧ w.cell? ⟨g, 4, none⟩ = some (.int .i64 s2) ∧ w.cell? ⟨g, 5, none⟩ = some (.int .i64 r2) ∧ w.cell? ⟨g, 6, none⟩ = some (.slice ao2 ys.length cap2)) :
    Calls Try.prog 93 #[.pointer (some ⟨g, 0, none⟩)] w fun e w' => e = .returned (.bool (savB n s r xs s2 r2 ys)) ∧ Below w.heap.size w w' := by
  obtain ⟨c0, c1, c2, c3, c4, c5, c6⟩ := hc
  have HC := hid (And.intro c1 (And.intro c2 (And.intro c3 (And.intro c4 (And.intro c5 c6)))))
  have HH1 := hid h1
  have HH2 := hid h2
  have HN := hid hn
  clear h1 h2 hn c1 c2 c3 c4 c5 c6
  obtain ⟨p, hp⟩ : ∃ p, p = Nam.nmB n := ⟨_, rfl⟩
  obtain ⟨q, hq⟩ : ∃ q, q = validB s r xs := ⟨_, rfl⟩
  obtain ⟨q2, hq2⟩ : ∃ q2, q2 = FVal.fieldB s2 r2 ys := ⟨_, rfl⟩
  have HV : Hid (savB n s r xs s2 r2 ys = (p && (q && q2))) := by simp only [Hid, savB, hp, hq, hq2]
  have HP := hid hp
  have HQ := hid hq
  have HQ2 := hid hq2
  rw [HV.out]
  clear hp hq hq2 HV
  go_enter Try.func93, Try.ntmps93
  go_wp2_with fail
  go_at_call 120
  refine (Nam.savedCall n _ HN.out).mono ?_
  rw [← HP.out]
  rintro e w1 ⟨rfl, rfl⟩
  clear c0
  cases p with
  | false =>
    go_wp2
    go_ret
    exact ⟨rfl, Below.refl _ _⟩
  | true =>
    go_wp2_with fail
    go_at_call 70
    refine (SpO.is (o := 1) HH1.out HC.out.1 HC.out.2.1 HC.out.2.2.1).mono ?_
    rw [← HQ.out]
    rintro e w2 ⟨rfl, m, hm⟩
    have HB2 : Hid (Below w.heap.size w w2) := by rw [hm]; exact below_d _ _ _
    clear hm
    cases q with
    | false =>
      go_wp2
      go_ret
      exact ⟨rfl, HB2.out⟩
    | true =>
      go_wp2_with fail
      go_at_call 96
      refine (FsO.is (o := 4) (HH2.out.keep HB2.out (Nat.le_refl _)) (cell_keep HB2.out HC.out.2.2.2.1) (cell_keep HB2.out HC.out.2.2.2.2.1) (cell_keep HB2.out HC.out.2.2.2.2.2)).mono ?_
      rw [← HQ2.out]
      rintro e w3 ⟨rfl, m, hm⟩
      have HB3 : Hid (Below w.heap.size w w3) := by rw [hm]; exact HB2.out.trans (below_d _ _ _)
      clear hm
      go_wp2
      go_ret
      exact ⟨rfl, HB3.out⟩

set_option maxHeartbeats 2000000 in
theorem spec {w : World} {n : ByteArray} {s r s2 r2 : Int} {b1 b2 : Nat} {v1 v2 : Value} {xs ys : List Int} (hn : n.size ≤ maxLen) (h1 : Rd w b1 v1 xs) (h2 : Rd w b2 v2 ys) :
    Calls Try.prog 46 #[savV n s r v1 s2 r2 v2] w fun e w' => e = .returned (.bool (savB n s r xs s2 r2 ys)) ∧ Below w.heap.size w w' := by
  have HH1 := hid h1
  have HH2 := hid h2
  have HN := hid hn
  obtain ⟨ao1, cap1, rfl, hc1, hm1, _⟩ := h1
  obtain ⟨ao2, cap2, rfl, hc2, hm2, _⟩ := h2
  clear hc1 hm1 hc2 hm2 hn
  go_enter Try.func46, Try.ntmps46
  go_wp2_with fail
  obtain ⟨w1, hW⟩ : ∃ w1, w1 = w.alloc (Obj.cells #[.string n, .int .i64 s, .int .i64 r, .slice ao1 xs.length cap1, .int .i64 s2, .int .i64 r2, .slice ao2 ys.length cap2] 69) := ⟨_, rfl⟩
  obtain ⟨g, hN⟩ : ∃ g, g = w.heap.size := ⟨_, rfl⟩
  have st : Below w.heap.size w w1 ∧ w1.cell? ⟨g, 0, none⟩ = some (.string n) ∧ w1.cell? ⟨g, 1, none⟩ = some (.int .i64 s) ∧ w1.cell? ⟨g, 2, none⟩ = some (.int .i64 r) ∧ w1.cell? ⟨g, 3, none⟩ = some (.slice ao1 xs.length cap1) ∧ w1.cell? ⟨g, 4, none⟩ = some (.int .i64 s2) ∧ w1.cell? ⟨g, 5, none⟩ = some (.int .i64 r2) ∧ w1.cell? ⟨g, 6, none⟩ = some (.slice ao2 ys.length cap2) := by
    rw [hW, hN]
    exact ⟨below1 _ _, by simp, by simp, by simp, by simp, by simp, by simp, by simp⟩
  simp only [← hW, ← hN]
  clear hW hN
  go_at_call 93
  refine (l07Saved HN.out (HH1.out.keep st.1 (Nat.le_refl _)) (HH2.out.keep st.1 (Nat.le_refl _)) st.2).mono ?_
  rintro e w2 ⟨rfl, bel⟩
  have HB := hid (st.1.trans (bel.mono st.1.size))
  clear st bel
  go_wp2
  go_ret
  exact ⟨rfl, HB.out⟩

set_option maxHeartbeats 4000000 in
theorem impl {w : World} {n : ByteArray} {s r s2 r2 : Int} {b1 b2 : Nat} {v1 v2 : Value} {xs ys : List Int} (hn : n.size ≤ maxLen) (h1 : Rd w b1 v1 xs) (h2 : Rd w b2 v2 ys) :
    Calls Try.prog 48 #[savV n s r v1 s2 r2 v2] w fun e w' => e = .returned (.bool (savB n s r xs s2 r2 ys)) ∧ Below w.heap.size w w' := by
  obtain ⟨p, hp⟩ : ∃ p, p = Nam.nmB n := ⟨_, rfl⟩
  obtain ⟨q, hq⟩ : ∃ q, q = validB s r xs := ⟨_, rfl⟩
  obtain ⟨q2, hq2⟩ : ∃ q2, q2 = FVal.fieldB s2 r2 ys := ⟨_, rfl⟩
  have HV : Hid (savB n s r xs s2 r2 ys = (p && (q && q2))) := by simp only [Hid, savB, hp, hq, hq2]
  have HP := hid hp
  have HQ := hid hq
  have HQ2 := hid hq2
  rw [HV.out]
  clear hp hq hq2 HV
  have HH1 := hid h1
  have HH2 := hid h2
  have HN := hid hn
  obtain ⟨ao1, cap1, rfl, hc1, hm1, _⟩ := h1
  obtain ⟨ao2, cap2, rfl, hc2, hm2, _⟩ := h2
  clear hc1 hm1 hc2 hm2 hn
  go_enter Try.func48, Try.ntmps48
  go_wp2_with fail
  obtain ⟨w1, hW⟩ : ∃ w1, w1 = w.alloc (Obj.cells #[.string n, .int .i64 s, .int .i64 r, .slice ao1 xs.length cap1, .int .i64 s2, .int .i64 r2, .slice ao2 ys.length cap2] 69) := ⟨_, rfl⟩
  obtain ⟨g, hN⟩ : ∃ g, g = w.heap.size := ⟨_, rfl⟩
  have st : Below w.heap.size w w1 ∧ w1.cell? ⟨g, 0, none⟩ = some (.string n) ∧ w1.cell? ⟨g, 1, none⟩ = some (.int .i64 s) ∧ w1.cell? ⟨g, 2, none⟩ = some (.int .i64 r) ∧ w1.cell? ⟨g, 3, none⟩ = some (.slice ao1 xs.length cap1) ∧ w1.cell? ⟨g, 4, none⟩ = some (.int .i64 s2) ∧ w1.cell? ⟨g, 5, none⟩ = some (.int .i64 r2) ∧ w1.cell? ⟨g, 6, none⟩ = some (.slice ao2 ys.length cap2) := by
    rw [hW, hN]
    exact ⟨below1 _ _, by simp, by simp, by simp, by simp, by simp, by simp, by simp⟩
  simp only [← hW, ← hN]
  clear hW hN
  have HC := hid st
  have c0 := st.2.1
  clear st
  go_at_call 94
  refine (Nam.implCall n _ HN.out).mono ?_
  rw [← HP.out]
  rintro e w2 ⟨rfl, bel⟩
  have HB2 := hid (HC.out.1.trans (bel.mono HC.out.1.size))
  have c1 := cell_keep bel HC.out.2.2.1
  have c2 := cell_keep bel HC.out.2.2.2.1
  have c3 := cell_keep bel HC.out.2.2.2.2.1
  have HK2 := hid bel
  clear c0 bel
  cases p with
  | false =>
    go_wp2
    go_ret
    exact ⟨rfl, HB2.out⟩
  | true =>
    go_wp2_with fail
    go_at_call 72
    refine (Rule.implValid (HH1.out.keep HB2.out (Nat.le_refl _))).mono ?_
    rw [← HQ.out]
    rintro e w3 ⟨rfl, bel⟩
    have HB3 := hid (HB2.out.trans (bel.mono HB2.out.size))
    have HK3 := hid (HK2.out.trans (bel.mono HK2.out.size))
    clear c1 c2 c3 bel
    have c4 := cell_keep HK3.out HC.out.2.2.2.2.2.1
    have c5 := cell_keep HK3.out HC.out.2.2.2.2.2.2.1
    have c6 := cell_keep HK3.out HC.out.2.2.2.2.2.2.2
    cases q with
    | false =>
      go_wp2
      go_ret
      exact ⟨rfl, HB3.out⟩
    | true =>
      go_wp2_with fail
      go_at_call 95
      refine (FVal.implValid (HH2.out.keep HB3.out (Nat.le_refl _))).mono ?_
      rw [← HQ2.out]
      rintro e w4 ⟨rfl, bel⟩
      have HB4 := hid (HB3.out.trans (bel.mono HB3.out.size))
      clear bel
      go_wp2
      go_ret
      exact ⟨rfl, HB4.out⟩

set_option maxHeartbeats 4000000 in
theorem toSv {w : World} {n : ByteArray} {s r s2 r2 : Int} {b1 b2 : Nat} {v1 v2 : Value} {xs ys : List Int} (hn : n.size ≤ maxLen) (h1 : Rd w b1 v1 xs) (h2 : Rd w b2 v2 ys) (l1 : xs.length ≤ 1048576) (l2 : ys.length ≤ 1048576) :
    Calls Try.prog 47 #[savV n s r v1 s2 r2 v2] w fun e w' => ∃ c1 c2, e = .returned (savV n s r (Value.slice (some ⟨c1, 0, none⟩) xs.length xs.length) s2 r2 (Value.slice (some ⟨c2, 0, none⟩) ys.length ys.length)) ∧
      Own 2 w' c1 (Value.slice (some ⟨c1, 0, none⟩) xs.length xs.length) xs ∧ Own 2 w' c2 (Value.slice (some ⟨c2, 0, none⟩) ys.length ys.length) ys ∧ w.heap.size ≤ c1 ∧ w.heap.size ≤ c2 ∧ Below w.heap.size w w' := by
  have HL1 := hid l1
  have HL2 := hid l2
  clear l1 l2
  have HH1 := hid h1
  have HH2 := hid h2
  have HN := hid hn
  obtain ⟨ao1, cap1, rfl, hc1, hm1, _⟩ := h1
  obtain ⟨ao2, cap2, rfl, hc2, hm2, _⟩ := h2
  clear hc1 hm1 hc2 hm2 hn
  go_enter Try.func47, Try.ntmps47
  go_wp2_with fail
  obtain ⟨W3, hW⟩ : ∃ W3, W3 = ((w.alloc (Obj.cells #[.string n, .int .i64 s, .int .i64 r, .slice ao1 xs.length cap1, .int .i64 s2, .int .i64 r2, .slice ao2 ys.length cap2] 65)).alloc (Obj.cells #[.string { data := #[] }, .int .i64 0, .int .i64 0, .slice none 0 0, .int .i64 0, .int .i64 0, .slice none 0 0] 69)).alloc (Obj.cells #[.string n, .int .i64 0, .int .i64 0, .slice none 0 0, .int .i64 0, .int .i64 0, .slice none 0 0] 69) := ⟨_, rfl⟩
  obtain ⟨NA, hA⟩ : ∃ NA, NA = w.heap.size := ⟨_, rfl⟩
  obtain ⟨NR, hR⟩ : ∃ NR, NR = NA + 1 := ⟨_, rfl⟩
  obtain ⟨NO, hO⟩ : ∃ NO, NO = NR + 1 := ⟨_, rfl⟩
  have B3 : Below w.heap.size w W3 := by rw [hW]; exact Go.Joins.below_alloc3 _ _ _ _
  have kA : W3.heap[NA]? = some (Obj.cells #[.string n, .int .i64 s, .int .i64 r, .slice ao1 xs.length cap1, .int .i64 s2, .int .i64 r2, .slice ao2 ys.length cap2] 65) := by rw [hW]; exact FNew.heap_old (FNew.heap_old (FNew.heap_top hA))
  have kR : W3.heap[NR]? = some (Obj.cells #[.string { data := #[] }, .int .i64 0, .int .i64 0, .slice none 0 0, .int .i64 0, .int .i64 0, .slice none 0 0] 69) := by rw [hW]; exact FNew.heap_old (FNew.heap_top (by rw [hR, hA]; simp))
  have kO : W3.heap[NO]? = some (Obj.cells #[.string n, .int .i64 0, .int .i64 0, .slice none 0 0, .int .i64 0, .int .i64 0, .slice none 0 0] 69) := by rw [hW]; exact FNew.heap_top (by rw [hO, hR, hA]; simp)
  have hz : W3.heap.size = NA + 3 := by rw [hW, hA]; simp
  simp only [← hW, ← hA, ← hR, ← hO]
  clear hW
  go_at_call 28
  refine (HelpQ.toR (HH1.out.keep B3 (Nat.le_refl _)) HL1.out).mono ?_
  rintro e w4 ⟨c1, rfl, own1, lo1, bel4⟩
  have HNs : Hid (NA = w.heap.size ∧ NR = NA + 1 ∧ NO = NR + 1 ∧ NA + 3 ≤ c1) := ⟨hA, hR, hO, by omega⟩
  have kA4 := heap_keep bel4 kA
  have kR4 := heap_keep bel4 kR
  have kO4 := heap_keep bel4 kO
  have B4 := B3.trans (bel4.mono B3.size)
  have hz4 : NA + 3 ≤ w4.heap.size := by have := bel4.size; omega
  have x1 : w4.cell? ⟨NO, 1, none⟩ = some (.int .i64 0) := Go.Joins.cell_of_block kO4 1
  have x2 : w4.cell? ⟨NO, 2, none⟩ = some (.int .i64 0) := Go.Joins.cell_of_block kO4 2
  have x3 : w4.cell? ⟨NO, 3, none⟩ = some (.slice none 0 0) := Go.Joins.cell_of_block kO4 3
  have f1 : w4.frozen? ⟨NO, 1, none⟩ = false := Go.Joins.unfrozen_of_block kO4 1
  have f2 : w4.frozen? ⟨NO, 2, none⟩ = false := Go.Joins.unfrozen_of_block kO4 2
  have f3 : w4.frozen? ⟨NO, 3, none⟩ = false := Go.Joins.unfrozen_of_block kO4 3
  have a4 : w4.cell? ⟨NA, 4, none⟩ = some (.int .i64 s2) := Go.Joins.cell_of_block kA4 4
  have a5 : w4.cell? ⟨NA, 5, none⟩ = some (.int .i64 r2) := Go.Joins.cell_of_block kA4 5
  have a6 : w4.cell? ⟨NA, 6, none⟩ = some (.slice ao2 ys.length cap2) := Go.Joins.cell_of_block kA4 6
  have H4 := hid (And.intro kA4 (And.intro kR4 (And.intro kO4 (And.intro B4 (And.intro hz4 own1)))))
  clear kA kR kO hz B3 hA hR hO bel4 lo1 own1 kA4 kR4 kO4 B4 hz4
  go_wp2_with fail
  obtain ⟨W5, hW⟩ : ∃ W5, W5 = (((w4.setCell ⟨NO, 1, none⟩ (.int .i64 s)).setCell ⟨NO, 2, none⟩ (.int .i64 r)).setCell ⟨NO, 3, none⟩ (Value.slice (some ⟨c1, 0, none⟩) xs.length xs.length)) := ⟨_, rfl⟩
  obtain ⟨HA, HR, HO, HC1⟩ := id HNs.out
  obtain ⟨kA4, kR4, kO4, B4, hz4, own1⟩ := id H4.out
  have kO5 : W5.heap[NO]? = some (Obj.cells #[.string n, .int .i64 s, .int .i64 r, Value.slice (some ⟨c1, 0, none⟩) xs.length xs.length, .int .i64 0, .int .i64 0, .slice none 0 0] 69) := by
    rw [hW]; exact Go.Joins.block_setCell (i := 3) (Go.Joins.block_setCell (i := 2) (Go.Joins.block_setCell (i := 1) kO4 _) _) _
  have kR5 : W5.heap[NR]? = some (Obj.cells #[.string { data := #[] }, .int .i64 0, .int .i64 0, .slice none 0 0, .int .i64 0, .int .i64 0, .slice none 0 0] 69) := by
    rw [hW, Below.heap_setCell _ _ _ _ (by simp; omega), Below.heap_setCell _ _ _ _ (by simp; omega), Below.heap_setCell _ _ _ _ (by simp; omega)]; exact kR4
  have hz5 : W5.heap.size = w4.heap.size := by rw [hW]; simp
  have B5 : Below w.heap.size w W5 := by rw [hW]; exact ((B4.setCell (by simp; omega) _).setCell (by simp; omega) _).setCell (by simp; omega) _
  have own5 : Own 2 W5 c1 (Value.slice (some ⟨c1, 0, none⟩) xs.length xs.length) xs := by rw [hW]; exact own_set (own_set (own_set own1 _ _ (by simp; omega)) _ _ (by simp; omega)) _ _ (by simp; omega)
  simp only [← hW]
  clear hW kA4 kR4 kO4 B4 own1 x1 x2 x3 f1 f2 f3 a4 a5 a6
  go_at_call 15
  refine (toR (HH2.out.keep B5 (Nat.le_refl _)) HL2.out).mono ?_
  rintro e w6 ⟨c2, rfl, own2, lo2, bel6⟩
  have kR6 := heap_keep bel6 kR5
  have kO6 := heap_keep bel6 kO5
  have B6 := B5.trans (bel6.mono B5.size)
  have hz6 : NA + 3 ≤ w6.heap.size := by have := bel6.size; omega
  have own6 := own5.keep bel6
  obtain ⟨A, hA⟩ : ∃ A : Array Value, A = #[.int .i64 s2, .int .i64 r2, Value.slice (some ⟨c2, 0, none⟩) ys.length ys.length] := ⟨_, rfl⟩
  obtain ⟨W7, hW⟩ : ∃ W7, W7 = ((w6.setCell ⟨NO, 4, none⟩ (.int .i64 s2)).setCell ⟨NO, 5, none⟩ (.int .i64 r2)).setCell ⟨NO, 6, none⟩ (Value.slice (some ⟨c2, 0, none⟩) ys.length ys.length) := ⟨_, rfl⟩
  have hst : (storeCells ⟨NO, 4, none⟩ A.toList).run Try.prog w6 = .ok () W7 := by
    have x4 : w6.cell? ⟨NO, 4, none⟩ = some (.int .i64 0) := Go.Joins.cell_of_block kO6 4
    have x5 : w6.cell? ⟨NO, 5, none⟩ = some (.int .i64 0) := Go.Joins.cell_of_block kO6 5
    have x6 : w6.cell? ⟨NO, 6, none⟩ = some (.slice none 0 0) := Go.Joins.cell_of_block kO6 6
    have f4 : w6.frozen? ⟨NO, 4, none⟩ = false := Go.Joins.unfrozen_of_block kO6 4
    have f5 : w6.frozen? ⟨NO, 5, none⟩ = false := Go.Joins.unfrozen_of_block kO6 5
    have f6 : w6.frozen? ⟨NO, 6, none⟩ = false := Go.Joins.unfrozen_of_block kO6 6
    rw [hA, hW]
    simp [storeCells, go_sem, Addr.add, x4, x5, x6, f4, f5, f6]
  have kO7 : W7.heap[NO]? = some (Obj.cells #[.string n, .int .i64 s, .int .i64 r, Value.slice (some ⟨c1, 0, none⟩) xs.length xs.length, .int .i64 s2, .int .i64 r2, Value.slice (some ⟨c2, 0, none⟩) ys.length ys.length] 69) := by
    rw [hW]; exact Go.Joins.block_setCell (i := 6) (Go.Joins.block_setCell (i := 5) (Go.Joins.block_setCell (i := 4) kO6 _) _) _
  have kR7 : W7.heap[NR]? = some (Obj.cells #[.string { data := #[] }, .int .i64 0, .int .i64 0, .slice none 0 0, .int .i64 0, .int .i64 0, .slice none 0 0] 69) := by
    rw [hW, Below.heap_setCell _ _ _ _ (by simp; omega), Below.heap_setCell _ _ _ _ (by simp; omega), Below.heap_setCell _ _ _ _ (by simp; omega)]; exact kR6
  have B7 : Below w.heap.size w W7 := by rw [hW]; exact ((B6.setCell (by simp; omega) _).setCell (by simp; omega) _).setCell (by simp; omega) _
  have own71 : Own 2 W7 c1 (Value.slice (some ⟨c1, 0, none⟩) xs.length xs.length) xs := by rw [hW]; exact own_set (own_set (own_set own6 _ _ (by simp; omega)) _ _ (by simp; omega)) _ _ (by simp; omega)
  have own72 : Own 2 W7 c2 (Value.slice (some ⟨c2, 0, none⟩) ys.length ys.length) ys := by rw [hW]; exact own_set (own_set (own_set own2 _ _ (by simp; omega)) _ _ (by simp; omega)) _ _ (by simp; omega)
  have hc2 : NA + 3 ≤ c2 := by omega
  have hz7 : NA + 3 ≤ W7.heap.size := by rw [hW]; simpa using hz6
  have H7 := hid (And.intro kR7 (And.intro B7 (And.intro own71 (And.intro own72 (And.intro hc2 hz7)))))
  have hAs : A.size = 3 := by rw [hA]; rfl
  simp only [ruleV, ← hA]
  have z0 : W7.cell? ⟨NR, 0, none⟩ = some (.string { data := #[] }) := Go.Joins.cell_of_block kR7 0
  have g0 : W7.frozen? ⟨NR, 0, none⟩ = false := Go.Joins.unfrozen_of_block kR7 0
  have z1 : W7.cell? ⟨NR, 1, none⟩ = some (.int .i64 0) := Go.Joins.cell_of_block kR7 1
  have g1 : W7.frozen? ⟨NR, 1, none⟩ = false := Go.Joins.unfrozen_of_block kR7 1
  have z2 : W7.cell? ⟨NR, 2, none⟩ = some (.int .i64 0) := Go.Joins.cell_of_block kR7 2
  have g2 : W7.frozen? ⟨NR, 2, none⟩ = false := Go.Joins.unfrozen_of_block kR7 2
  have z3 : W7.cell? ⟨NR, 3, none⟩ = some (.slice none 0 0) := Go.Joins.cell_of_block kR7 3
  have g3 : W7.frozen? ⟨NR, 3, none⟩ = false := Go.Joins.unfrozen_of_block kR7 3
  have z4 : W7.cell? ⟨NR, 4, none⟩ = some (.int .i64 0) := Go.Joins.cell_of_block kR7 4
  have g4 : W7.frozen? ⟨NR, 4, none⟩ = false := Go.Joins.unfrozen_of_block kR7 4
  have z5 : W7.cell? ⟨NR, 5, none⟩ = some (.int .i64 0) := Go.Joins.cell_of_block kR7 5
  have g5 : W7.frozen? ⟨NR, 5, none⟩ = false := Go.Joins.unfrozen_of_block kR7 5
  have z6 : W7.cell? ⟨NR, 6, none⟩ = some (.slice none 0 0) := Go.Joins.cell_of_block kR7 6
  have g6 : W7.frozen? ⟨NR, 6, none⟩ = false := Go.Joins.unfrozen_of_block kR7 6
  have x0 : W7.cell? ⟨NO, 0, none⟩ = some (.string n) := Go.Joins.cell_of_block kO7 0
  have x1 : W7.cell? ⟨NO, 1, none⟩ = some (.int .i64 s) := Go.Joins.cell_of_block kO7 1
  have x2 : W7.cell? ⟨NO, 2, none⟩ = some (.int .i64 r) := Go.Joins.cell_of_block kO7 2
  have x3 : W7.cell? ⟨NO, 3, none⟩ = some (.slice (some ⟨c1, 0, none⟩) xs.length xs.length) := Go.Joins.cell_of_block kO7 3
  have x4 : W7.cell? ⟨NO, 4, none⟩ = some (.int .i64 s2) := Go.Joins.cell_of_block kO7 4
  have x5 : W7.cell? ⟨NO, 5, none⟩ = some (.int .i64 r2) := Go.Joins.cell_of_block kO7 5
  have x6 : W7.cell? ⟨NO, 6, none⟩ = some (.slice (some ⟨c2, 0, none⟩) ys.length ys.length) := Go.Joins.cell_of_block kO7 6
  clear hW hA kR6 kO6 kR7 kO7 B6 B7 own6 own71 own72 hc2 hz6 hz7 kR5 kO5 hz5 B5 own5 own2 lo2 bel6 HA HR HO HC1 hz4
  go_wp2
  obtain ⟨kR7, B7, own71, own72, hc2, hz7⟩ := id H7.out
  obtain ⟨HA, HR, HO, HC1⟩ := id HNs.out
  obtain ⟨W9, hW⟩ : ∃ W9, W9 = (((((((W7.setCell ⟨NR, 0, none⟩ (.string n)).setCell ⟨NR, 1, none⟩ (.int .i64 s)).setCell ⟨NR, 2, none⟩ (.int .i64 r)).setCell ⟨NR, 3, none⟩ (.slice (some ⟨c1, 0, none⟩) xs.length xs.length)).setCell ⟨NR, 4, none⟩ (.int .i64 s2)).setCell ⟨NR, 5, none⟩ (.int .i64 r2)).setCell ⟨NR, 6, none⟩ (.slice (some ⟨c2, 0, none⟩) ys.length ys.length)) := ⟨_, rfl⟩
  have q1 : (W7.setCell ⟨NR, 0, none⟩ (.string n)).heap[NR]? = some (Obj.cells #[.string n, .int .i64 0, .int .i64 0, .slice none 0 0, .int .i64 0, .int .i64 0, .slice none 0 0] 69) := Go.Joins.block_setCell (i := 0) kR7 _
  have q2 : ((W7.setCell ⟨NR, 0, none⟩ (.string n)).setCell ⟨NR, 1, none⟩ (.int .i64 s)).heap[NR]? = some (Obj.cells #[.string n, .int .i64 s, .int .i64 0, .slice none 0 0, .int .i64 0, .int .i64 0, .slice none 0 0] 69) := Go.Joins.block_setCell (i := 1) q1 _
  clear q1
  have q3 : (((W7.setCell ⟨NR, 0, none⟩ (.string n)).setCell ⟨NR, 1, none⟩ (.int .i64 s)).setCell ⟨NR, 2, none⟩ (.int .i64 r)).heap[NR]? = some (Obj.cells #[.string n, .int .i64 s, .int .i64 r, .slice none 0 0, .int .i64 0, .int .i64 0, .slice none 0 0] 69) := Go.Joins.block_setCell (i := 2) q2 _
  clear q2
  have q4 : ((((W7.setCell ⟨NR, 0, none⟩ (.string n)).setCell ⟨NR, 1, none⟩ (.int .i64 s)).setCell ⟨NR, 2, none⟩ (.int .i64 r)).setCell ⟨NR, 3, none⟩ (.slice (some ⟨c1, 0, none⟩) xs.length xs.length)).heap[NR]? = some (Obj.cells #[.string n, .int .i64 s, .int .i64 r, .slice (some ⟨c1, 0, none⟩) xs.length xs.length, .int .i64 0, .int .i64 0, .slice none 0 0] 69) := Go.Joins.block_setCell (i := 3) q3 _
  clear q3
  have q5 : (((((W7.setCell ⟨NR, 0, none⟩ (.string n)).setCell ⟨NR, 1, none⟩ (.int .i64 s)).setCell ⟨NR, 2, none⟩ (.int .i64 r)).setCell ⟨NR, 3, none⟩ (.slice (some ⟨c1, 0, none⟩) xs.length xs.length)).setCell ⟨NR, 4, none⟩ (.int .i64 s2)).heap[NR]? = some (Obj.cells #[.string n, .int .i64 s, .int .i64 r, .slice (some ⟨c1, 0, none⟩) xs.length xs.length, .int .i64 s2, .int .i64 0, .slice none 0 0] 69) := Go.Joins.block_setCell (i := 4) q4 _
  clear q4
  have q6 : ((((((W7.setCell ⟨NR, 0, none⟩ (.string n)).setCell ⟨NR, 1, none⟩ (.int .i64 s)).setCell ⟨NR, 2, none⟩ (.int .i64 r)).setCell ⟨NR, 3, none⟩ (.slice (some ⟨c1, 0, none⟩) xs.length xs.length)).setCell ⟨NR, 4, none⟩ (.int .i64 s2)).setCell ⟨NR, 5, none⟩ (.int .i64 r2)).heap[NR]? = some (Obj.cells #[.string n, .int .i64 s, .int .i64 r, .slice (some ⟨c1, 0, none⟩) xs.length xs.length, .int .i64 s2, .int .i64 r2, .slice none 0 0] 69) := Go.Joins.block_setCell (i := 5) q5 _
  clear q5
  have q7 : (((((((W7.setCell ⟨NR, 0, none⟩ (.string n)).setCell ⟨NR, 1, none⟩ (.int .i64 s)).setCell ⟨NR, 2, none⟩ (.int .i64 r)).setCell ⟨NR, 3, none⟩ (.slice (some ⟨c1, 0, none⟩) xs.length xs.length)).setCell ⟨NR, 4, none⟩ (.int .i64 s2)).setCell ⟨NR, 5, none⟩ (.int .i64 r2)).setCell ⟨NR, 6, none⟩ (.slice (some ⟨c2, 0, none⟩) ys.length ys.length)).heap[NR]? = some (Obj.cells #[.string n, .int .i64 s, .int .i64 r, .slice (some ⟨c1, 0, none⟩) xs.length xs.length, .int .i64 s2, .int .i64 r2, .slice (some ⟨c2, 0, none⟩) ys.length ys.length] 69) := Go.Joins.block_setCell (i := 6) q6 _
  clear q6
  rw [← hW] at q7
  have y0 : W9.cell? ⟨NR, 0, none⟩ = some (.string n) := Go.Joins.cell_of_block q7 0
  have y1 : W9.cell? ⟨NR, 1, none⟩ = some (.int .i64 s) := Go.Joins.cell_of_block q7 1
  have y2 : W9.cell? ⟨NR, 2, none⟩ = some (.int .i64 r) := Go.Joins.cell_of_block q7 2
  have y3 : W9.cell? ⟨NR, 3, none⟩ = some (.slice (some ⟨c1, 0, none⟩) xs.length xs.length) := Go.Joins.cell_of_block q7 3
  have y4 : W9.cell? ⟨NR, 4, none⟩ = some (.int .i64 s2) := Go.Joins.cell_of_block q7 4
  have y5 : W9.cell? ⟨NR, 5, none⟩ = some (.int .i64 r2) := Go.Joins.cell_of_block q7 5
  have y6 : W9.cell? ⟨NR, 6, none⟩ = some (.slice (some ⟨c2, 0, none⟩) ys.length ys.length) := Go.Joins.cell_of_block q7 6
  have B9 : Below w.heap.size w W9 := by rw [hW]; exact (((((((B7.setCell (by simp; omega) _).setCell (by simp; omega) _).setCell (by simp; omega) _).setCell (by simp; omega) _).setCell (by simp; omega) _).setCell (by simp; omega) _).setCell (by simp; omega) _)
  have O1 : Own 2 W9 c1 (Value.slice (some ⟨c1, 0, none⟩) xs.length xs.length) xs := by rw [hW]; exact (own_set (own_set (own_set (own_set (own_set (own_set (own_set own71 _ _ (by simp; omega)) _ _ (by simp; omega)) _ _ (by simp; omega)) _ _ (by simp; omega)) _ _ (by simp; omega)) _ _ (by simp; omega)) _ _ (by simp; omega))
  have O2 : Own 2 W9 c2 (Value.slice (some ⟨c2, 0, none⟩) ys.length ys.length) ys := by rw [hW]; exact (own_set (own_set (own_set (own_set (own_set (own_set (own_set own72 _ _ (by simp; omega)) _ _ (by simp; omega)) _ _ (by simp; omega)) _ _ (by simp; omega)) _ _ (by simp; omega)) _ _ (by simp; omega)) _ _ (by simp; omega))
  simp only [← hW]
  clear hW q7 z0 g0 x0 z1 g1 x1 z2 g2 x2 z3 g3 x3 z4 g4 x4 z5 g5 x5 z6 g6 x6
  refine (?h : ∀ Q : Ending → World → Prop, Q (.returned (savV n s r (Value.slice (some ⟨c1, 0, none⟩) xs.length xs.length) s2 r2 (Value.slice (some ⟨c2, 0, none⟩) ys.length ys.length))) W9 → bodyPost _ _ Q _ _ _) _ ⟨c1, c2, rfl, O1, O2, by omega, by omega, B9⟩
  clear O1 O2 B9
  intro Q hQ
  have HQ := hid hQ
  clear hQ
  simp [bodyPost, results, Try.results47, go_sem, y0, y1, y2, y3, y4, y5, y6]
  exact HQ.out

end Go.Proofs.Ythcbhbdgbiiagaa.Sav
