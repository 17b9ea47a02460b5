/- For every saved value, impl.ValidSaved answers as the model of the document does and changes nothing that it is given. No condition. -/
import Derived.Test.YthcbhbdgbiiagaaRows
import Derived.Test.YthcbhbdgbiiagaaFldKit
import Derived.Test.YthcbhbdgbiiagaaSavK
import Derived.WalkKit
import Derived.WalkLawsBesides
import Derived.ProofKit
import Derived.OpenShut
import Derived.ShutString
import Derived.ChangeOld
import Derived.Below
import Derived.IntWalk
import Derived.Lib.SmallJoins
import Derived.Deep.Cut
namespace Go.Proofs.Ythcbhbdgbiiagaa.lawValidSaved
open Go.ChangeShapes Go.WideShapes Go.ChangeAt Go.RowKit Go.Joins Go.Proofs.Ythcbhbdgbiiagaa.Rd Go.Proofs.Ythcbhbdgbiiagaa.Help Go.Proofs.Ythcbhbdgbiiagaa.Keep Go.Proofs.Ythcbhbdgbiiagaa.Sav Go.Proofs.Ythcbhbdgbiiagaa.SavK
set_option linter.unusedVariables false
set_option linter.unusedSimpArgs false
theorem own : ownKnob Try.prog.godebug = none := by kernel_rfl
theorem laidOut : laidOutB Try.prog = true := by kernel_rfl
theorem nx7 {w ww w' : World} {n : ByteArray} {s r s2 r2 : Int} {b1 b2 NA : Nat} {ao1 ao2 : Option Addr} {cap1 cap2 : Nat} {xs ys : List Int} (bel : Below ww.heap.size ww w') (h : Below w.heap.size w ww ∧ ww.cell? ⟨NA, 0, none⟩ = some (.string n) ∧ ww.cell? ⟨NA, 1, none⟩ = some (.int .i64 s) ∧ ww.cell? ⟨NA, 2, none⟩ = some (.int .i64 r) ∧ ww.cell? ⟨NA, 3, none⟩ = some (Value.slice ao1 xs.length cap1) ∧ ww.cell? ⟨NA, 4, none⟩ = some (.int .i64 s2) ∧ ww.cell? ⟨NA, 5, none⟩ = some (.int .i64 r2) ∧ ww.cell? ⟨NA, 6, none⟩ = some (Value.slice ao2 ys.length cap2) ∧ Rd ww b1 (Value.slice ao1 xs.length cap1) xs ∧ Rd ww b2 (Value.slice ao2 ys.length cap2) ys ∧ w.heap.size ≤ ww.heap.size) : Below w.heap.size w w' ∧ w'.cell? ⟨NA, 0, none⟩ = some (.string n) ∧ w'.cell? ⟨NA, 1, none⟩ = some (.int .i64 s) ∧ w'.cell? ⟨NA, 2, none⟩ = some (.int .i64 r) ∧ w'.cell? ⟨NA, 3, none⟩ = some (Value.slice ao1 xs.length cap1) ∧ w'.cell? ⟨NA, 4, none⟩ = some (.int .i64 s2) ∧ w'.cell? ⟨NA, 5, none⟩ = some (.int .i64 r2) ∧ w'.cell? ⟨NA, 6, none⟩ = some (Value.slice ao2 ys.length cap2) ∧ Rd w' b1 (Value.slice ao1 xs.length cap1) xs ∧ Rd w' b2 (Value.slice ao2 ys.length cap2) ys ∧ w.heap.size ≤ w'.heap.size := by
  obtain ⟨b0, c0, c1, c2, c3, c4, c5, c6, r1, r2, hz⟩ := h
  exact ⟨b0.trans (bel.mono hz), cell_keep bel c0, cell_keep bel c1, cell_keep bel c2, cell_keep bel c3, cell_keep bel c4, cell_keep bel c5, cell_keep bel c6, r1.keep bel (Nat.le_refl _), r2.keep bel (Nat.le_refl _), Nat.le_trans hz bel.size⟩
theorem nx14 {w ww w' : World} {n : ByteArray} {s r s2 r2 : Int} {b1 b2 NA NX bx1 bx2 : Nat} {ao1 ao2 : Option Addr} {cap1 cap2 : Nat} {xs ys : List Int} (bel : Below ww.heap.size ww w') (h : Below w.heap.size w ww ∧ ww.cell? ⟨NA, 0, none⟩ = some (.string n) ∧ ww.cell? ⟨NA, 1, none⟩ = some (.int .i64 s) ∧ ww.cell? ⟨NA, 2, none⟩ = some (.int .i64 r) ∧ ww.cell? ⟨NA, 3, none⟩ = some (Value.slice ao1 xs.length cap1) ∧ ww.cell? ⟨NA, 4, none⟩ = some (.int .i64 s2) ∧ ww.cell? ⟨NA, 5, none⟩ = some (.int .i64 r2) ∧ ww.cell? ⟨NA, 6, none⟩ = some (Value.slice ao2 ys.length cap2) ∧ ww.cell? ⟨NX, 0, none⟩ = some (.string n) ∧ ww.cell? ⟨NX, 1, none⟩ = some (.int .i64 s) ∧ ww.cell? ⟨NX, 2, none⟩ = some (.int .i64 r) ∧ ww.cell? ⟨NX, 3, none⟩ = some (Value.slice (some ⟨bx1, 0, none⟩) xs.length xs.length) ∧ ww.cell? ⟨NX, 4, none⟩ = some (.int .i64 s2) ∧ ww.cell? ⟨NX, 5, none⟩ = some (.int .i64 r2) ∧ ww.cell? ⟨NX, 6, none⟩ = some (Value.slice (some ⟨bx2, 0, none⟩) ys.length ys.length) ∧ Rd ww b1 (Value.slice ao1 xs.length cap1) xs ∧ Rd ww b2 (Value.slice ao2 ys.length cap2) ys ∧ w.heap.size ≤ ww.heap.size) : Below w.heap.size w w' ∧ w'.cell? ⟨NA, 0, none⟩ = some (.string n) ∧ w'.cell? ⟨NA, 1, none⟩ = some (.int .i64 s) ∧ w'.cell? ⟨NA, 2, none⟩ = some (.int .i64 r) ∧ w'.cell? ⟨NA, 3, none⟩ = some (Value.slice ao1 xs.length cap1) ∧ w'.cell? ⟨NA, 4, none⟩ = some (.int .i64 s2) ∧ w'.cell? ⟨NA, 5, none⟩ = some (.int .i64 r2) ∧ w'.cell? ⟨NA, 6, none⟩ = some (Value.slice ao2 ys.length cap2) ∧ w'.cell? ⟨NX, 0, none⟩ = some (.string n) ∧ w'.cell? ⟨NX, 1, none⟩ = some (.int .i64 s) ∧ w'.cell? ⟨NX, 2, none⟩ = some (.int .i64 r) ∧ w'.cell? ⟨NX, 3, none⟩ = some (Value.slice (some ⟨bx1, 0, none⟩) xs.length xs.length) ∧ w'.cell? ⟨NX, 4, none⟩ = some (.int .i64 s2) ∧ w'.cell? ⟨NX, 5, none⟩ = some (.int .i64 r2) ∧ w'.cell? ⟨NX, 6, none⟩ = some (Value.slice (some ⟨bx2, 0, none⟩) ys.length ys.length) ∧ Rd w' b1 (Value.slice ao1 xs.length cap1) xs ∧ Rd w' b2 (Value.slice ao2 ys.length cap2) ys ∧ w.heap.size ≤ w'.heap.size := by
  obtain ⟨b0, c0, c1, c2, c3, c4, c5, c6, d0, d1, d2, d3, d4, d5, d6, r1, r2, hz⟩ := h
  exact ⟨b0.trans (bel.mono hz), cell_keep bel c0, cell_keep bel c1, cell_keep bel c2, cell_keep bel c3, cell_keep bel c4, cell_keep bel c5, cell_keep bel c6, cell_keep bel d0, cell_keep bel d1, cell_keep bel d2, cell_keep bel d3, cell_keep bel d4, cell_keep bel d5, cell_keep bel d6, r1.keep bel (Nat.le_refl _), r2.keep bel (Nat.le_refl _), Nat.le_trans hz bel.size⟩
theorem drw14 {w ww : World} {n : ByteArray} {s r s2 r2 : Int} {b1 b2 NA NX bx1 bx2 : Nat} {ao1 ao2 : Option Addr} {cap1 cap2 : Nat} {xs ys : List Int} (h : Below w.heap.size w ww ∧ ww.cell? ⟨NA, 0, none⟩ = some (.string n) ∧ ww.cell? ⟨NA, 1, none⟩ = some (.int .i64 s) ∧ ww.cell? ⟨NA, 2, none⟩ = some (.int .i64 r) ∧ ww.cell? ⟨NA, 3, none⟩ = some (Value.slice ao1 xs.length cap1) ∧ ww.cell? ⟨NA, 4, none⟩ = some (.int .i64 s2) ∧ ww.cell? ⟨NA, 5, none⟩ = some (.int .i64 r2) ∧ ww.cell? ⟨NA, 6, none⟩ = some (Value.slice ao2 ys.length cap2) ∧ ww.cell? ⟨NX, 0, none⟩ = some (.string n) ∧ ww.cell? ⟨NX, 1, none⟩ = some (.int .i64 s) ∧ ww.cell? ⟨NX, 2, none⟩ = some (.int .i64 r) ∧ ww.cell? ⟨NX, 3, none⟩ = some (Value.slice (some ⟨bx1, 0, none⟩) xs.length xs.length) ∧ ww.cell? ⟨NX, 4, none⟩ = some (.int .i64 s2) ∧ ww.cell? ⟨NX, 5, none⟩ = some (.int .i64 r2) ∧ ww.cell? ⟨NX, 6, none⟩ = some (Value.slice (some ⟨bx2, 0, none⟩) ys.length ys.length) ∧ Rd ww b1 (Value.slice ao1 xs.length cap1) xs ∧ Rd ww b2 (Value.slice ao2 ys.length cap2) ys ∧ w.heap.size ≤ ww.heap.size) : Below w.heap.size w ww.drew ∧ ww.drew.cell? ⟨NA, 0, none⟩ = some (.string n) ∧ ww.drew.cell? ⟨NA, 1, none⟩ = some (.int .i64 s) ∧ ww.drew.cell? ⟨NA, 2, none⟩ = some (.int .i64 r) ∧ ww.drew.cell? ⟨NA, 3, none⟩ = some (Value.slice ao1 xs.length cap1) ∧ ww.drew.cell? ⟨NA, 4, none⟩ = some (.int .i64 s2) ∧ ww.drew.cell? ⟨NA, 5, none⟩ = some (.int .i64 r2) ∧ ww.drew.cell? ⟨NA, 6, none⟩ = some (Value.slice ao2 ys.length cap2) ∧ ww.drew.cell? ⟨NX, 0, none⟩ = some (.string n) ∧ ww.drew.cell? ⟨NX, 1, none⟩ = some (.int .i64 s) ∧ ww.drew.cell? ⟨NX, 2, none⟩ = some (.int .i64 r) ∧ ww.drew.cell? ⟨NX, 3, none⟩ = some (Value.slice (some ⟨bx1, 0, none⟩) xs.length xs.length) ∧ ww.drew.cell? ⟨NX, 4, none⟩ = some (.int .i64 s2) ∧ ww.drew.cell? ⟨NX, 5, none⟩ = some (.int .i64 r2) ∧ ww.drew.cell? ⟨NX, 6, none⟩ = some (Value.slice (some ⟨bx2, 0, none⟩) ys.length ys.length) ∧ Rd ww.drew b1 (Value.slice ao1 xs.length cap1) xs ∧ Rd ww.drew b2 (Value.slice ao2 ys.length cap2) ys ∧ w.heap.size ≤ ww.drew.heap.size := by
  obtain ⟨b0, c0, c1, c2, c3, c4, c5, c6, d0, d1, d2, d3, d4, d5, d6, r1, r2, hz⟩ := h
  exact ⟨b0.drew, c0, c1, c2, c3, c4, c5, c6, d0, d1, d2, d3, d4, d5, d6, r1, r2, hz⟩
theorem rd14 {w ww : World} {n : ByteArray} {s r s2 r2 : Int} {b1 b2 NA NX bx1 bx2 : Nat} {ao1 ao2 : Option Addr} {cap1 cap2 : Nat} {xs ys : List Int} (h : Below w.heap.size w ww ∧ ww.cell? ⟨NA, 0, none⟩ = some (.string n) ∧ ww.cell? ⟨NA, 1, none⟩ = some (.int .i64 s) ∧ ww.cell? ⟨NA, 2, none⟩ = some (.int .i64 r) ∧ ww.cell? ⟨NA, 3, none⟩ = some (Value.slice ao1 xs.length cap1) ∧ ww.cell? ⟨NA, 4, none⟩ = some (.int .i64 s2) ∧ ww.cell? ⟨NA, 5, none⟩ = some (.int .i64 r2) ∧ ww.cell? ⟨NA, 6, none⟩ = some (Value.slice ao2 ys.length cap2) ∧ ww.cell? ⟨NX, 0, none⟩ = some (.string n) ∧ ww.cell? ⟨NX, 1, none⟩ = some (.int .i64 s) ∧ ww.cell? ⟨NX, 2, none⟩ = some (.int .i64 r) ∧ ww.cell? ⟨NX, 3, none⟩ = some (Value.slice (some ⟨bx1, 0, none⟩) xs.length xs.length) ∧ ww.cell? ⟨NX, 4, none⟩ = some (.int .i64 s2) ∧ ww.cell? ⟨NX, 5, none⟩ = some (.int .i64 r2) ∧ ww.cell? ⟨NX, 6, none⟩ = some (Value.slice (some ⟨bx2, 0, none⟩) ys.length ys.length) ∧ Rd ww b1 (Value.slice ao1 xs.length cap1) xs ∧ Rd ww b2 (Value.slice ao2 ys.length cap2) ys ∧ w.heap.size ≤ ww.heap.size) : Rd ww b1 (Value.slice ao1 xs.length cap1) xs ∧ Rd ww b2 (Value.slice ao2 ys.length cap2) ys := by
  obtain ⟨b0, c0, c1, c2, c3, c4, c5, c6, d0, d1, d2, d3, d4, d5, d6, r1, r2, hz⟩ := h
  exact ⟨r1, r2⟩
theorem rd7 {w ww : World} {n : ByteArray} {s r s2 r2 : Int} {b1 b2 NA : Nat} {ao1 ao2 : Option Addr} {cap1 cap2 : Nat} {xs ys : List Int} (h : Below w.heap.size w ww ∧ ww.cell? ⟨NA, 0, none⟩ = some (.string n) ∧ ww.cell? ⟨NA, 1, none⟩ = some (.int .i64 s) ∧ ww.cell? ⟨NA, 2, none⟩ = some (.int .i64 r) ∧ ww.cell? ⟨NA, 3, none⟩ = some (Value.slice ao1 xs.length cap1) ∧ ww.cell? ⟨NA, 4, none⟩ = some (.int .i64 s2) ∧ ww.cell? ⟨NA, 5, none⟩ = some (.int .i64 r2) ∧ ww.cell? ⟨NA, 6, none⟩ = some (Value.slice ao2 ys.length cap2) ∧ Rd ww b1 (Value.slice ao1 xs.length cap1) xs ∧ Rd ww b2 (Value.slice ao2 ys.length cap2) ys ∧ w.heap.size ≤ ww.heap.size) : Rd ww b1 (Value.slice ao1 xs.length cap1) xs ∧ Rd ww b2 (Value.slice ao2 ys.length cap2) ys := by
  obtain ⟨b0, c0, c1, c2, c3, c4, c5, c6, r1, r2, hz⟩ := h
  exact ⟨r1, r2⟩

set_option maxHeartbeats 2000000 in
theorem small1 {w : World} {n : ByteArray} {s r s2 r2 : Int} {b1 b2 : Nat} {v1 v2 : Value} {xs ys : List Int} (hn : n.size ≤ maxLen) (h1 : Rd w b1 v1 xs) (h2 : Rd w b2 v2 ys) (g1 : (1048576 : Int) < n.size) :
    Calls Try.prog 12 #[savV n s r v1 s2 r2 v2] w fun e w' => e = .returned (.bool true) ∧ Below w.heap.size w w' := by
  have HS : Hid (∀ (w : World), Rd w b1 v1 xs → Rd w b2 v2 ys → Calls Try.prog 45 #[savV n s r v1 s2 r2 v2, .int .i64 1048576] w fun e w' => e = .returned (.int .i64 (-1)) ∧ Below w.heap.size w w') := fun w h1 h2 => sz1 (q := 1048576) hn h1 h2 (by decide) g1
  clear g1
  have HH1 := hid h1
  have HH2 := hid h2
  have HN := hid hn
  obtain ⟨ao1, cap1, rfl, hc1, hm1, _⟩ := h1
  obtain ⟨ao2, cap2, rfl, hc2, hm2, _⟩ := h2
  clear hc1 hm1 hc2 hm2 hn
  go_enter Try.func12, Try.ntmps12
  go_wp2_with fail
  obtain ⟨w1, hW⟩ : ∃ w1, w1 = w.alloc (Obj.cells #[.string n, .int .i64 s, .int .i64 r, Value.slice ao1 xs.length cap1, .int .i64 s2, .int .i64 r2, Value.slice ao2 ys.length cap2] 65) := ⟨_, rfl⟩
  obtain ⟨NA, hN⟩ : ∃ NA, NA = w.heap.size := ⟨_, rfl⟩
  have st : Below w.heap.size w w1 ∧ w1.cell? ⟨NA, 0, none⟩ = some (.string n) ∧ w1.cell? ⟨NA, 1, none⟩ = some (.int .i64 s) ∧ w1.cell? ⟨NA, 2, none⟩ = some (.int .i64 r) ∧ w1.cell? ⟨NA, 3, none⟩ = some (Value.slice ao1 xs.length cap1) ∧ w1.cell? ⟨NA, 4, none⟩ = some (.int .i64 s2) ∧ w1.cell? ⟨NA, 5, none⟩ = some (.int .i64 r2) ∧ w1.cell? ⟨NA, 6, none⟩ = some (Value.slice ao2 ys.length cap2) ∧ Rd w1 b1 (Value.slice ao1 xs.length cap1) xs ∧ Rd w1 b2 (Value.slice ao2 ys.length cap2) ys ∧ w.heap.size ≤ w1.heap.size := by
    rw [hW, hN]
    exact ⟨Rule.below1 _ _, by simp, by simp, by simp, by simp, by simp, by simp, by simp, HH1.out.keep (Rule.below1 _ _) (Nat.le_refl _), HH2.out.keep (Rule.below1 _ _) (Nat.le_refl _), by simp⟩
  have HG : Hid (NA = w.heap.size) := hN
  simp only [← hW, ← hN]
  clear hW hN
  go_at_call 45
  refine (HS.out _ (rd7 st).1 (rd7 st).2).mono ?_
  rintro e w2 ⟨rfl, bel⟩
  have HB := hid (st.1.trans (bel.mono st.1.size))
  clear st bel
  go_wp2
  go_ret
  exact ⟨rfl, HB.out⟩

set_option maxHeartbeats 2000000 in
theorem small2 {w : World} {n : ByteArray} {s r s2 r2 : Int} {b1 b2 : Nat} {v1 v2 : Value} {xs ys : List Int} (hn : n.size ≤ maxLen) (h1 : Rd w b1 v1 xs) (h2 : Rd w b2 v2 ys) (g1 : (n.size : Int) ≤ 1048576) (g2 : (1048576 : Int) - n.size < xs.length) :
    Calls Try.prog 12 #[savV n s r v1 s2 r2 v2] w fun e w' => e = .returned (.bool true) ∧ Below w.heap.size w w' := by
  have HS : Hid (∀ (w : World), Rd w b1 v1 xs → Rd w b2 v2 ys → Calls Try.prog 45 #[savV n s r v1 s2 r2 v2, .int .i64 1048576] w fun e w' => e = .returned (.int .i64 (-1)) ∧ Below w.heap.size w w') := fun w h1 h2 => sz2 (q := 1048576) hn h1 h2 (by decide) g1 g2
  clear g1 g2
  have HH1 := hid h1
  have HH2 := hid h2
  have HN := hid hn
  obtain ⟨ao1, cap1, rfl, hc1, hm1, _⟩ := h1
  obtain ⟨ao2, cap2, rfl, hc2, hm2, _⟩ := h2
  clear hc1 hm1 hc2 hm2 hn
  go_enter Try.func12, Try.ntmps12
  go_wp2_with fail
  obtain ⟨w1, hW⟩ : ∃ w1, w1 = w.alloc (Obj.cells #[.string n, .int .i64 s, .int .i64 r, Value.slice ao1 xs.length cap1, .int .i64 s2, .int .i64 r2, Value.slice ao2 ys.length cap2] 65) := ⟨_, rfl⟩
  obtain ⟨NA, hN⟩ : ∃ NA, NA = w.heap.size := ⟨_, rfl⟩
  have st : Below w.heap.size w w1 ∧ w1.cell? ⟨NA, 0, none⟩ = some (.string n) ∧ w1.cell? ⟨NA, 1, none⟩ = some (.int .i64 s) ∧ w1.cell? ⟨NA, 2, none⟩ = some (.int .i64 r) ∧ w1.cell? ⟨NA, 3, none⟩ = some (Value.slice ao1 xs.length cap1) ∧ w1.cell? ⟨NA, 4, none⟩ = some (.int .i64 s2) ∧ w1.cell? ⟨NA, 5, none⟩ = some (.int .i64 r2) ∧ w1.cell? ⟨NA, 6, none⟩ = some (Value.slice ao2 ys.length cap2) ∧ Rd w1 b1 (Value.slice ao1 xs.length cap1) xs ∧ Rd w1 b2 (Value.slice ao2 ys.length cap2) ys ∧ w.heap.size ≤ w1.heap.size := by
    rw [hW, hN]
    exact ⟨Rule.below1 _ _, by simp, by simp, by simp, by simp, by simp, by simp, by simp, HH1.out.keep (Rule.below1 _ _) (Nat.le_refl _), HH2.out.keep (Rule.below1 _ _) (Nat.le_refl _), by simp⟩
  have HG : Hid (NA = w.heap.size) := hN
  simp only [← hW, ← hN]
  clear hW hN
  go_at_call 45
  refine (HS.out _ (rd7 st).1 (rd7 st).2).mono ?_
  rintro e w2 ⟨rfl, bel⟩
  have HB := hid (st.1.trans (bel.mono st.1.size))
  clear st bel
  go_wp2
  go_ret
  exact ⟨rfl, HB.out⟩

set_option maxHeartbeats 2000000 in
theorem small3 {w : World} {n : ByteArray} {s r s2 r2 : Int} {b1 b2 : Nat} {v1 v2 : Value} {xs ys : List Int} (hn : n.size ≤ maxLen) (h1 : Rd w b1 v1 xs) (h2 : Rd w b2 v2 ys) (g1 : (n.size : Int) ≤ 1048576) (g2 : (xs.length : Int) ≤ 1048576 - n.size) (g3 : (1048576 : Int) - n.size - xs.length < ys.length) :
    Calls Try.prog 12 #[savV n s r v1 s2 r2 v2] w fun e w' => e = .returned (.bool true) ∧ Below w.heap.size w w' := by
  have HS : Hid (∀ (w : World), Rd w b1 v1 xs → Rd w b2 v2 ys → Calls Try.prog 45 #[savV n s r v1 s2 r2 v2, .int .i64 1048576] w fun e w' => e = .returned (.int .i64 (-1)) ∧ Below w.heap.size w w') := fun w h1 h2 => sz3 (q := 1048576) hn h1 h2 (by decide) g1 g2 g3
  clear g1 g2 g3
  have HH1 := hid h1
  have HH2 := hid h2
  have HN := hid hn
  obtain ⟨ao1, cap1, rfl, hc1, hm1, _⟩ := h1
  obtain ⟨ao2, cap2, rfl, hc2, hm2, _⟩ := h2
  clear hc1 hm1 hc2 hm2 hn
  go_enter Try.func12, Try.ntmps12
  go_wp2_with fail
  obtain ⟨w1, hW⟩ : ∃ w1, w1 = w.alloc (Obj.cells #[.string n, .int .i64 s, .int .i64 r, Value.slice ao1 xs.length cap1, .int .i64 s2, .int .i64 r2, Value.slice ao2 ys.length cap2] 65) := ⟨_, rfl⟩
  obtain ⟨NA, hN⟩ : ∃ NA, NA = w.heap.size := ⟨_, rfl⟩
  have st : Below w.heap.size w w1 ∧ w1.cell? ⟨NA, 0, none⟩ = some (.string n) ∧ w1.cell? ⟨NA, 1, none⟩ = some (.int .i64 s) ∧ w1.cell? ⟨NA, 2, none⟩ = some (.int .i64 r) ∧ w1.cell? ⟨NA, 3, none⟩ = some (Value.slice ao1 xs.length cap1) ∧ w1.cell? ⟨NA, 4, none⟩ = some (.int .i64 s2) ∧ w1.cell? ⟨NA, 5, none⟩ = some (.int .i64 r2) ∧ w1.cell? ⟨NA, 6, none⟩ = some (Value.slice ao2 ys.length cap2) ∧ Rd w1 b1 (Value.slice ao1 xs.length cap1) xs ∧ Rd w1 b2 (Value.slice ao2 ys.length cap2) ys ∧ w.heap.size ≤ w1.heap.size := by
    rw [hW, hN]
    exact ⟨Rule.below1 _ _, by simp, by simp, by simp, by simp, by simp, by simp, by simp, HH1.out.keep (Rule.below1 _ _) (Nat.le_refl _), HH2.out.keep (Rule.below1 _ _) (Nat.le_refl _), by simp⟩
  have HG : Hid (NA = w.heap.size) := hN
  simp only [← hW, ← hN]
  clear hW hN
  go_at_call 45
  refine (HS.out _ (rd7 st).1 (rd7 st).2).mono ?_
  rintro e w2 ⟨rfl, bel⟩
  have HB := hid (st.1.trans (bel.mono st.1.size))
  clear st bel
  go_wp2
  go_ret
  exact ⟨rfl, HB.out⟩

set_option maxHeartbeats 16000000 in
set_option maxRecDepth 8000 in
theorem big {w : World} {n : ByteArray} {s r s2 r2 : Int} {b1 b2 : Nat} {v1 v2 : Value} {xs ys : List Int} (hn : n.size ≤ maxLen) (h1 : Rd w b1 v1 xs) (h2 : Rd w b2 v2 ys) (g1 : (n.size : Int) ≤ 1048576) (g2 : (xs.length : Int) ≤ 1048576 - n.size) (g3 : (ys.length : Int) ≤ 1048576 - n.size - xs.length) :
    Calls Try.prog 12 #[savV n s r v1 s2 r2 v2] w fun e w' => e = .returned (.bool true) ∧ Below w.heap.size w w' := by
  have HS : Hid (∀ (w : World), Rd w b1 v1 xs → Rd w b2 v2 ys → Calls Try.prog 45 #[savV n s r v1 s2 r2 v2, .int .i64 1048576] w fun e w' => e = .returned (.int .i64 ((1048576 : Int) - n.size - xs.length - ys.length)) ∧ Below w.heap.size w w') := fun w h1 h2 => sz4 (q := 1048576) hn h1 h2 (by decide) g1 g2 g3
  have HL1 : Hid (xs.length ≤ 1048576) := by simp only [Hid]; omega
  have HL2 : Hid (ys.length ≤ 1048576) := by simp only [Hid]; omega
  obtain ⟨LF, hLF⟩ : ∃ LF : Int, LF = (1048576 : Int) - n.size - xs.length - ys.length := ⟨_, rfl⟩
  rw [← hLF] at HS
  have hl0 : decide (LF < 0) = false := decide_eq_false (by omega)
  have hl1 : ¬ LF < 0 := by omega
  obtain ⟨Q, hQ⟩ : ∃ Q, Q = savB n s r xs s2 r2 ys := ⟨_, rfl⟩
  have HQ := hid hQ
  clear g1 g2 g3 hLF hQ
  have HH1 := hid h1
  have HH2 := hid h2
  have HN := hid hn
  obtain ⟨ao1, cap1, rfl, hc1, hm1, _⟩ := h1
  obtain ⟨ao2, cap2, rfl, hc2, hm2, _⟩ := h2
  clear hc1 hm1 hc2 hm2 hn
  go_enter Try.func12, Try.ntmps12
  go_wp2_with fail
  obtain ⟨w1, hW⟩ : ∃ w1, w1 = w.alloc (Obj.cells #[.string n, .int .i64 s, .int .i64 r, Value.slice ao1 xs.length cap1, .int .i64 s2, .int .i64 r2, Value.slice ao2 ys.length cap2] 65) := ⟨_, rfl⟩
  obtain ⟨NA, hN⟩ : ∃ NA, NA = w.heap.size := ⟨_, rfl⟩
  have st : Below w.heap.size w w1 ∧ w1.cell? ⟨NA, 0, none⟩ = some (.string n) ∧ w1.cell? ⟨NA, 1, none⟩ = some (.int .i64 s) ∧ w1.cell? ⟨NA, 2, none⟩ = some (.int .i64 r) ∧ w1.cell? ⟨NA, 3, none⟩ = some (Value.slice ao1 xs.length cap1) ∧ w1.cell? ⟨NA, 4, none⟩ = some (.int .i64 s2) ∧ w1.cell? ⟨NA, 5, none⟩ = some (.int .i64 r2) ∧ w1.cell? ⟨NA, 6, none⟩ = some (Value.slice ao2 ys.length cap2) ∧ Rd w1 b1 (Value.slice ao1 xs.length cap1) xs ∧ Rd w1 b2 (Value.slice ao2 ys.length cap2) ys ∧ w.heap.size ≤ w1.heap.size := by
    rw [hW, hN]
    exact ⟨Rule.below1 _ _, by simp, by simp, by simp, by simp, by simp, by simp, by simp, HH1.out.keep (Rule.below1 _ _) (Nat.le_refl _), HH2.out.keep (Rule.below1 _ _) (Nat.le_refl _), by simp⟩
  have HG : Hid (NA = w.heap.size) := hN
  simp only [← hW, ← hN]
  clear hW hN
  go_at_call 45
  refine (HS.out _ (rd7 st).1 (rd7 st).2).mono ?_
  rintro e w2 ⟨rfl, bel⟩
  replace st := nx7 bel st
  clear bel
  go_wp2_with fail
  go_at_call 47
  refine (toSv HN.out (rd7 st).1 (rd7 st).2 HL1.out HL2.out).mono ?_
  rintro e w3 ⟨bp1, bp2, rfl, op1, op2, lo1, lo2, bel⟩
  replace st := nx7 bel st
  clear bel lo1 lo2
  go_wp2_with fail
  go_at_call 46
  refine (Sav.spec HN.out op1.rd op2.rd).mono ?_
  rw [← HQ.out]
  rintro e w4 ⟨rfl, bel⟩
  replace st := nx7 bel st
  clear bel op1 op2
  go_wp2_with fail
  go_at_call 47
  refine (toSv HN.out (rd7 st).1 (rd7 st).2 HL1.out HL2.out).mono ?_
  rintro e w5 ⟨bx1, bx2, rfl, ox1, ox2, lo1, lo2, bel⟩
  replace st := nx7 bel st
  clear bel lo1 lo2
  go_wp2_with fail
  obtain ⟨w7, hW⟩ : ∃ w7, w7 = w5.alloc (Obj.cells #[.string n, .int .i64 s, .int .i64 r, Value.slice (some ⟨bx1, 0, none⟩) xs.length xs.length, .int .i64 s2, .int .i64 r2, Value.slice (some ⟨bx2, 0, none⟩) ys.length ys.length] 69) := ⟨_, rfl⟩
  obtain ⟨NX, hN⟩ : ∃ NX, NX = w5.heap.size := ⟨_, rfl⟩
  have bel : Below w5.heap.size w5 w7 := by rw [hW]; exact Rule.below1 _ _
  have st' : Below w.heap.size w w7 ∧ w7.cell? ⟨NA, 0, none⟩ = some (.string n) ∧ w7.cell? ⟨NA, 1, none⟩ = some (.int .i64 s) ∧ w7.cell? ⟨NA, 2, none⟩ = some (.int .i64 r) ∧ w7.cell? ⟨NA, 3, none⟩ = some (Value.slice ao1 xs.length cap1) ∧ w7.cell? ⟨NA, 4, none⟩ = some (.int .i64 s2) ∧ w7.cell? ⟨NA, 5, none⟩ = some (.int .i64 r2) ∧ w7.cell? ⟨NA, 6, none⟩ = some (Value.slice ao2 ys.length cap2) ∧ w7.cell? ⟨NX, 0, none⟩ = some (.string n) ∧ w7.cell? ⟨NX, 1, none⟩ = some (.int .i64 s) ∧ w7.cell? ⟨NX, 2, none⟩ = some (.int .i64 r) ∧ w7.cell? ⟨NX, 3, none⟩ = some (Value.slice (some ⟨bx1, 0, none⟩) xs.length xs.length) ∧ w7.cell? ⟨NX, 4, none⟩ = some (.int .i64 s2) ∧ w7.cell? ⟨NX, 5, none⟩ = some (.int .i64 r2) ∧ w7.cell? ⟨NX, 6, none⟩ = some (Value.slice (some ⟨bx2, 0, none⟩) ys.length ys.length) ∧ Rd w7 b1 (Value.slice ao1 xs.length cap1) xs ∧ Rd w7 b2 (Value.slice ao2 ys.length cap2) ys ∧ w.heap.size ≤ w7.heap.size := by
    obtain ⟨t0, c0, c1, c2, c3, c4, c5, c6, d0, d1, tz⟩ := nx7 bel st
    exact ⟨t0, c0, c1, c2, c3, c4, c5, c6, by rw [hW, hN]; simp, by rw [hW, hN]; simp, by rw [hW, hN]; simp, by rw [hW, hN]; simp, by rw [hW, hN]; simp, by rw [hW, hN]; simp, by rw [hW, hN]; simp, d0, d1, tz⟩
  replace ox1 := ox1.keep bel
  replace ox2 := ox2.keep bel
  clear st bel; have st := st'; clear st'
  simp only [← hW, ← hN]
  clear hW hN
  go_at_call 48
  refine (Sav.impl HN.out ox1.rd ox2.rd).mono ?_
  rw [← HQ.out]
  rintro e w6 ⟨rfl, bel⟩
  replace st := nx14 bel st
  replace ox1 := ox1.keep bel
  replace ox2 := ox2.keep bel
  clear bel
  go_wp2_with fail
  refine wp_region_held_drew (S := (fun ww => Below w.heap.size w ww ∧ ww.cell? ⟨NA, 0, none⟩ = some (.string n) ∧ ww.cell? ⟨NA, 1, none⟩ = some (.int .i64 s) ∧ ww.cell? ⟨NA, 2, none⟩ = some (.int .i64 r) ∧ ww.cell? ⟨NA, 3, none⟩ = some (Value.slice ao1 xs.length cap1) ∧ ww.cell? ⟨NA, 4, none⟩ = some (.int .i64 s2) ∧ ww.cell? ⟨NA, 5, none⟩ = some (.int .i64 r2) ∧ ww.cell? ⟨NA, 6, none⟩ = some (Value.slice ao2 ys.length cap2) ∧ ww.cell? ⟨NX, 0, none⟩ = some (.string n) ∧ ww.cell? ⟨NX, 1, none⟩ = some (.int .i64 s) ∧ ww.cell? ⟨NX, 2, none⟩ = some (.int .i64 r) ∧ ww.cell? ⟨NX, 3, none⟩ = some (Value.slice (some ⟨bx1, 0, none⟩) xs.length xs.length) ∧ ww.cell? ⟨NX, 4, none⟩ = some (.int .i64 s2) ∧ ww.cell? ⟨NX, 5, none⟩ = some (.int .i64 r2) ∧ ww.cell? ⟨NX, 6, none⟩ = some (Value.slice (some ⟨bx2, 0, none⟩) ys.length ys.length) ∧ Rd ww b1 (Value.slice ao1 xs.length cap1) xs ∧ Rd ww b2 (Value.slice ao2 ys.length cap2) ys ∧ w.heap.size ≤ ww.heap.size)) (by kernel_rfl) ?_ (fun hHeld => ?_)
  · ((try dsimp only); exact drw14 st)
  first | (refine wpAnyH_take (i := 0) (v := ?_) rfl ?_ ?_ ?_ (fun _ _ _ h => h) (Or.inl ⟨?_, ?_⟩) ?_ ?_; rotate_left 1; (focus decide +kernel); (focus decide +kernel); (focus decide +kernel); (focus rfl); (focus (intro w hSw; (try dsimp only at hSw); go_simp; (try (with_reducible rfl)); done)); (focus assumption); (try simp only [Act.put, List.setIfInBounds_toArray, List.set_cons_zero, List.set_cons_succ, List.getElem_toArray, List.getElem_cons_succ, List.getElem_cons_zero])) | (refine wpAnyH_take (i := 0) (v := undef) rfl ?_ ?_ ?_ (fun _ _ _ h => h) (Or.inr ⟨?_, rfl⟩) ?_ ?_; (focus decide +kernel); (focus decide +kernel); (focus decide +kernel); (focus rfl); (focus assumption); (try simp only [Act.put, List.setIfInBounds_toArray, List.set_cons_zero, List.set_cons_succ, List.getElem_toArray, List.getElem_cons_succ, List.getElem_cons_zero])) | skip
  first | (refine wpAnyH_take (i := 1) (v := ?_) rfl ?_ ?_ ?_ (fun _ _ _ h => h) (Or.inl ⟨?_, ?_⟩) ?_ ?_; rotate_left 1; (focus decide +kernel); (focus decide +kernel); (focus decide +kernel); (focus rfl); (focus (intro w hSw; (try dsimp only at hSw); go_simp; (try (with_reducible rfl)); done)); (focus assumption); (try simp only [Act.put, List.setIfInBounds_toArray, List.set_cons_zero, List.set_cons_succ, List.getElem_toArray, List.getElem_cons_succ, List.getElem_cons_zero])) | (refine wpAnyH_take (i := 1) (v := undef) rfl ?_ ?_ ?_ (fun _ _ _ h => h) (Or.inr ⟨?_, rfl⟩) ?_ ?_; (focus decide +kernel); (focus decide +kernel); (focus decide +kernel); (focus rfl); (focus assumption); (try simp only [Act.put, List.setIfInBounds_toArray, List.set_cons_zero, List.set_cons_succ, List.getElem_toArray, List.getElem_cons_succ, List.getElem_cons_zero])) | skip
  first | (refine wpAnyH_take (i := 4) (v := ?_) rfl ?_ ?_ ?_ (fun _ _ _ h => h) (Or.inl ⟨?_, ?_⟩) ?_ ?_; rotate_left 1; (focus decide +kernel); (focus decide +kernel); (focus decide +kernel); (focus rfl); (focus (intro w hSw; (try dsimp only at hSw); go_simp; (try (with_reducible rfl)); done)); (focus assumption); (try simp only [Act.put, List.setIfInBounds_toArray, List.set_cons_zero, List.set_cons_succ, List.getElem_toArray, List.getElem_cons_succ, List.getElem_cons_zero])) | (refine wpAnyH_take (i := 4) (v := undef) rfl ?_ ?_ ?_ (fun _ _ _ h => h) (Or.inr ⟨?_, rfl⟩) ?_ ?_; (focus decide +kernel); (focus decide +kernel); (focus decide +kernel); (focus rfl); (focus assumption); (try simp only [Act.put, List.setIfInBounds_toArray, List.set_cons_zero, List.set_cons_succ, List.getElem_toArray, List.getElem_cons_succ, List.getElem_cons_zero])) | skip
  first | (refine wpAnyH_take (i := 2) (v := undef) rfl ?_ ?_ ?_ (fun _ _ _ h => h) (Or.inr ⟨?_, rfl⟩) ?_ ?_; (focus decide +kernel); (focus decide +kernel); (focus decide +kernel); (focus rfl); (focus assumption); (try simp only [Act.put, List.setIfInBounds_toArray, List.set_cons_zero, List.set_cons_succ, List.getElem_toArray, List.getElem_cons_succ, List.getElem_cons_zero])) | (refine wpAnyH_ready (rs := [2]) ?_ (by simp) ?_; (focus decide +kernel); refine AllReadyH.cons rfl (fun K hK => ?_) AllReadyH.nil; go_simp; (go_at_call 47; refine (toSv HN.out (rd14 hHeld).1 (rd14 hHeld).2 HL1.out HL2.out).mono ?_; rintro e w8 ⟨by1, by2, rfl, oy1, oy2, lo1, lo2, bel⟩; replace ox1 : Own 2 w6.drew bx1 (Value.slice (some ⟨bx1, 0, none⟩) xs.length xs.length) xs := ox1; replace ox2 : Own 2 w6.drew bx2 (Value.slice (some ⟨bx2, 0, none⟩) ys.length ys.length) ys := ox2; replace ox1 := ox1.keep bel; replace ox2 := ox2.keep bel; have bel1 := bel; clear lo1 lo2); refine hK.out _ _ ?_ (fun hHeld => ?_); ((try dsimp only); exact nx14 bel hHeld); clear hK K; (try simp only [Act.put, List.setIfInBounds_toArray, List.set_cons_zero, List.set_cons_succ, List.getElem_toArray, List.getElem_cons_succ, List.getElem_cons_zero]))
  first | (refine wpAnyH_take (i := 4) (v := ?_) rfl ?_ ?_ ?_ (fun _ _ _ h => h) (Or.inl ⟨?_, ?_⟩) ?_ ?_; rotate_left 1; (focus decide +kernel); (focus decide +kernel); (focus decide +kernel); (focus rfl); (focus (intro w hSw; (try dsimp only at hSw); go_simp; (try (with_reducible rfl)); done)); (focus assumption); (try simp only [Act.put, List.setIfInBounds_toArray, List.set_cons_zero, List.set_cons_succ, List.getElem_toArray, List.getElem_cons_succ, List.getElem_cons_zero])) | (refine wpAnyH_take (i := 4) (v := undef) rfl ?_ ?_ ?_ (fun _ _ _ h => h) (Or.inr ⟨?_, rfl⟩) ?_ ?_; (focus decide +kernel); (focus decide +kernel); (focus decide +kernel); (focus rfl); (focus assumption); (try simp only [Act.put, List.setIfInBounds_toArray, List.set_cons_zero, List.set_cons_succ, List.getElem_toArray, List.getElem_cons_succ, List.getElem_cons_zero])) | skip
  first | (refine wpAnyH_take (i := 3) (v := undef) rfl ?_ ?_ ?_ (fun _ _ _ h => h) (Or.inr ⟨?_, rfl⟩) ?_ ?_; (focus decide +kernel); (focus decide +kernel); (focus decide +kernel); (focus rfl); (focus assumption); (try simp only [Act.put, List.setIfInBounds_toArray, List.set_cons_zero, List.set_cons_succ, List.getElem_toArray, List.getElem_cons_succ, List.getElem_cons_zero])) | (refine wpAnyH_ready (rs := [3]) ?_ (by simp) ?_; (focus decide +kernel); refine AllReadyH.cons rfl (fun K hK => ?_) AllReadyH.nil; go_simp; (go_at_call 49; refine (eqSv ox1.rd ox2.rd oy1.rd oy2.rd).mono ?_; rintro e w9 ⟨rfl, bel⟩; clear oy1 oy2); refine hK.out _ _ ?_ (fun hHeld => ?_); ((try dsimp only); exact nx14 bel hHeld); clear hK K; (try simp only [Act.put, List.setIfInBounds_toArray, List.set_cons_zero, List.set_cons_succ, List.getElem_toArray, List.getElem_cons_succ, List.getElem_cons_zero]))
  first | (refine wpAnyH_take (i := 4) (v := ?_) rfl ?_ ?_ ?_ (fun _ _ _ h => h) (Or.inl ⟨?_, ?_⟩) ?_ ?_; rotate_left 1; (focus decide +kernel); (focus decide +kernel); (focus decide +kernel); (focus rfl); (focus (intro w hSw; (try dsimp only at hSw); go_simp; (try (with_reducible rfl)); done)); (focus assumption); (try simp only [Act.put, List.setIfInBounds_toArray, List.set_cons_zero, List.set_cons_succ, List.getElem_toArray, List.getElem_cons_succ, List.getElem_cons_zero])) | (refine wpAnyH_take (i := 4) (v := undef) rfl ?_ ?_ ?_ (fun _ _ _ h => h) (Or.inr ⟨?_, rfl⟩) ?_ ?_; (focus decide +kernel); (focus decide +kernel); (focus decide +kernel); (focus rfl); (focus assumption); (try simp only [Act.put, List.setIfInBounds_toArray, List.set_cons_zero, List.set_cons_succ, List.getElem_toArray, List.getElem_cons_succ, List.getElem_cons_zero])) | skip
  refine wpAnyH_done (by kernel_rfl) ?_ _
  clear st; have st := hHeld; clear hHeld
  go_wp2
  go_ret
  exact ⟨rfl, And.left st⟩

theorem walk {w : World} {n : ByteArray} {s r s2 r2 : Int} {b1 b2 : Nat} {v1 v2 : Value} {xs ys : List Int} (hn : n.size ≤ maxLen) (h1 : Rd w b1 v1 xs) (h2 : Rd w b2 v2 ys) :
    Calls Try.prog 12 #[savV n s r v1 s2 r2 v2] w fun e w' => e = .returned (.bool true) ∧ Below w.heap.size w w' := by
  by_cases g1 : (n.size : Int) ≤ 1048576
  · by_cases g2 : (xs.length : Int) ≤ 1048576 - n.size
    · by_cases g3 : (ys.length : Int) ≤ 1048576 - n.size - xs.length
      · exact big hn h1 h2 g1 g2 g3
      · exact small3 hn h1 h2 g1 g2 (by omega)
    · exact small2 hn h1 h2 g1 (by omega)
  · exact small1 hn h1 h2 (by omega)

section
variable {P : Program} {H : Type} {enc : TypeId × Value → H} {w : World} {base : Nat} {spare : Nat → Bool} {held : Bool}
theorem list7 {α : Type} {l : List α} (h : l.length = 7) : ∃ a b c d e f g, l = [a, b, c, d, e, f, g] := by
  match l, h with
  | [a, b, c, d, e, f, g], _ => exact ⟨a, b, c, d, e, f, g, rfl⟩
theorem list3 {α : Type} {l : List α} (h : l.length = 3) : ∃ a b c, l = [a, b, c] := by
  match l, h with
  | [a, b, c], _ => exact ⟨a, b, c, rfl⟩
/-- Three cells of a struct that came in, by its parts. -/
theorem three_of {t : TypeId} {f0 f1 f2 : Field} {fuel : Nat} {a b c : Value} {x : DataW H × List MemPlace} (hs : P.underlying t = some (.struct #[f0, f1, f2])) (k0 : f0.offset = 0 ∧ P.cellsOf f0.type = 1) (k1 : f1.offset = 1 ∧ P.cellsOf f1.type = 1) (k2 : f2.offset = 2 ∧ P.cellsOf f2.type = 1) (h : DataW.trod enc P w base spare held fuel t [a, b, c] = some x) :
    ∃ n, (∃ y, DataW.trod enc P w base spare held n f0.type [a] = some y) ∧ (∃ y, DataW.trod enc P w base spare held n f1.type [b] = some y) ∧ (∃ y, DataW.trod enc P w base spare held n f2.type [c] = some y) := by
  obtain ⟨xs, n, _, _, _, hlen, hg⟩ := DataW.trod_struct hs h
  obtain ⟨y0, y1, y2, rfl⟩ := list3 (show xs.length = 3 from hlen)
  exact ⟨n, ⟨y0, by simpa [k0.1, k0.2] using hg 0 f0 rfl⟩, ⟨y1, by simpa [k1.1, k1.2] using hg 1 f1 rfl⟩, ⟨y2, by simpa [k2.1, k2.2] using hg 2 f2 rfl⟩⟩
/-- A text and two structs of three cells that came in. -/
theorem open_saved {r : Reach} {b0 : Nat} {t : TypeId} {f0 f1 f2 : Field} {v : Value} {d : DataW H} {p : List MemPlace} (hs : P.underlying t = some (.struct #[f0, f1, f2])) (hC : P.cellsOf t = 7) (k0 : f0.offset = 0 ∧ P.cellsOf f0.type = 1) (k1 : f1.offset = 1 ∧ P.cellsOf f1.type = 3) (k2 : f2.offset = 4 ∧ P.cellsOf f2.type = 3)
    (hv : Value.okWide P w r b0 t v) (h : DataW.Trod enc P w base spare held t v d p) :
    ∃ (a b c d e f g : Value) (n : Nat), v = .agg #[a, b, c, d, e, f, g] ∧ (∃ y, DataW.trod enc P w base spare held n f0.type [a] = some y) ∧ (∃ y, DataW.trod enc P w base spare held n f1.type [b, c, d] = some y) ∧ (∃ y, DataW.trod enc P w base spare held n f2.type [e, f, g] = some y) := by
  obtain ⟨cs, rfl, hsz⟩ := okWide_struct hs hv
  obtain ⟨l⟩ := cs
  obtain ⟨a, b, c, d, e, f, g, rfl⟩ := list7 (show l.length = 7 from hsz.trans hC)
  obtain ⟨fuel, hf⟩ := h
  obtain ⟨xs, n, _, _, _, hlen, hg⟩ := DataW.trod_struct hs hf
  obtain ⟨y0, y1, y2, rfl⟩ := list3 (show xs.length = 3 from hlen)
  exact ⟨a, b, c, d, e, f, g, n, rfl, ⟨y0, by simpa [Value.cells, k0.1, k0.2] using hg 0 f0 rfl⟩, ⟨y1, by simpa [Value.cells, k1.1, k1.2] using hg 1 f1 rfl⟩, ⟨y2, by simpa [Value.cells, k2.1, k2.2] using hg 2 f2 rfl⟩⟩
end

set_option maxRecDepth 100000 in
theorem lifted (os : Os) (started : os.Started) (H : Type) (enc : TypeId × Value → H) :
    ReturnsInHanded {} Try.checked os 12 .any (Rows.fnExactValidSavedSpec.pre6 enc Try.prog Try.f12 Rows.fnExactValidSavedRow.domain false) (Rows.fnExactValidSavedSpec.post enc Try.prog Try.f12 false true false false) := by
  refine returnsInHanded_of_change (C := Try.checked) own started (by kernel_rfl) Try.func12
    (ChangeSpec.witness6 (enc := enc) (C := Try.checked) false ⟨#[], #[.agg #[.string ByteArray.empty, .int .i64 0, .int .i64 0, .slice none 0 0, .int .i64 0, .int .i64 0, .slice none 0 0]], []⟩ 8 (by kernel_rfl) (by kernel_rfl) (by kernel_rfl) (by kernel_rfl)) ?_
  intro W base args ds gs before hval0 hW hcnd hreach
  have hval : ∀ (j : Nat) t v, Try.f12.params[j]? = some t → args[j]? = some v → Value.okWide Try.prog W .any base t v := hval0
  have hW' := hW
  obtain ⟨p, q, hA0, hV, rfl, hfz, hnd⟩ := hW
  have hA : DataW.TrodAll enc Try.prog W 0 (fun _ => true) true Try.f12.params.toList args.toList ds p := hA0
  rw [Try.params12] at hA hval
  obtain ⟨v0, vs0, d0, ds0, p0, q0, hargs, rfl, rfl, h0, r0⟩ := trodAll_cons hA
  obtain ⟨rfl, rfl, rfl⟩ := trodAll_nil r0
  obtain rfl : args = #[v0] := by cases args; simp_all
  obtain ⟨rfl, rfl⟩ := trodVars_none hV
  have k0 := h0
  have lt0 : ∀ x ∈ p0, x.block < W.heap.size := by obtain ⟨m, hm⟩ := k0; exact DataW.trod_lt m _ _ _ hm
  obtain ⟨ca, cb, cc, cd, ce, cf, cg, m0, rfl, ⟨y0, t0⟩, ⟨y1, t1⟩, ⟨y2, t2⟩⟩ := open_saved Try.underlying65 (by kernel_rfl) ⟨by kernel_rfl, by kernel_rfl⟩ ⟨by kernel_rfl, by kernel_rfl⟩ ⟨by kernel_rfl, by kernel_rfl⟩ (hval 0 65 v0 rfl rfl) h0
  obtain ⟨sn, en, _, wn⟩ := DataW.trod_string Try.underlying9 t0
  simp at en
  subst en
  obtain ⟨m1, ⟨y10, t10⟩, ⟨y11, t11⟩, ⟨y12, t12⟩⟩ := three_of Try.underlying42 ⟨by kernel_rfl, by kernel_rfl⟩ ⟨by kernel_rfl, by kernel_rfl⟩ ⟨by kernel_rfl, by kernel_rfl⟩ t1
  obtain ⟨a10, e10, _, w10⟩ := DataW.trod_int Try.underlying2 t10
  simp at e10
  subst e10
  obtain ⟨a11, e11, _, w11⟩ := DataW.trod_int Try.underlying2 t11
  simp at e11
  subst e11
  obtain ⟨a1, len1, cap1, e1⟩ := slice_form Try.underlying22 t12
  simp at e1
  subst e1
  obtain ⟨b1, z1, _, w1⟩ : ∃ b zs, zs.length = len1 ∧ Rd W b (.slice a1 len1 cap1) zs := rd_open Try.underlying22 Try.underlying2 (by kernel_rfl) t12
  obtain ⟨m2, ⟨y20, t20⟩, ⟨y21, t21⟩, ⟨y22, t22⟩⟩ := three_of Try.underlying24 ⟨by kernel_rfl, by kernel_rfl⟩ ⟨by kernel_rfl, by kernel_rfl⟩ ⟨by kernel_rfl, by kernel_rfl⟩ t2
  obtain ⟨a20, e20, _, w20⟩ := DataW.trod_int Try.underlying2 t20
  simp at e20
  subst e20
  obtain ⟨a21, e21, _, w21⟩ := DataW.trod_int Try.underlying2 t21
  simp at e21
  subst e21
  obtain ⟨a2, len2, cap2, e2⟩ := slice_form Try.underlying22 t22
  simp at e2
  subst e2
  obtain ⟨b2, z2, _, w2⟩ : ∃ b zs, zs.length = len2 ∧ Rd W b (.slice a2 len2 cap2) zs := rd_open Try.underlying22 Try.underlying2 (by kernel_rfl) t22
  clear hA0 hval0
  refine (walk wn w1 w2).mono fun e W' ⟨he, bel⟩ => ?_
  subst he
  exact ⟨_, rfl, _, _, _, [], _, [], hW', trodAll_mk1 (shut_bool Try.underlying4 _), (trodAll_cons_mk (Below.trod laidOut (by kernel_rfl) (of_decide_eq_true (by kernel_rfl)) k0 bel lt0) (trodAll_mk0)), rfl, bel.frame _, fun h => by cases h⟩

theorem over : Rows.fnExactValidSavedRow.holds Try.pinned (OpenSpec.ofChange Rows.fnExactValidSavedSpec) :=
  OpenClaim.holds_of_wide 12 Try.f12 rfl rfl rfl rfl rfl rfl rfl ⟨rfl, rfl, rfl, rfl, rfl⟩ rfl rfl rfl rfl rfl (by kernel_rfl) Try.func12 (by kernel_rfl)
    (of_decide_eq_true (by kernel_rfl)) (by unfold Func.isWrapper; rw [if_neg (of_decide_eq_false (by kernel_rfl))]; exact ⟨rfl, rfl⟩)
    (fun os started H enc _ => lifted os started H enc)

theorem proved : Rows.FnExactValidSavedSaid := over
end Go.Proofs.Ythcbhbdgbiiagaa.lawValidSaved
