/- DenseBlocks of both sides: where it fails. -/
import Derived.Test.YtnpjhhkhdeomcaaGOwn
import Derived.Test.YtnpjhhkhdeomcaaIsV
import Derived.Test.YtnpjhhkhdeomcaaTrn
import Derived.Test.YtnpjhhkhdeomcaaGrow
import Derived.Test.YtnpjhhkhdeomcaaBlk
import Derived.Test.YtnpjhhkhdeomcaaFSame
namespace Go.Proofs.Ytnpjhhkhdeomcaa.Den
open Go.RowKit Go.Proofs.Ytnpjhhkhdeomcaa.Rd Go.Proofs.Ytnpjhhkhdeomcaa.Rdb Go.Proofs.Ytnpjhhkhdeomcaa.Help Go.Proofs.Ytnpjhhkhdeomcaa.Ring Go.Proofs.Ytnpjhhkhdeomcaa.Small Go.Proofs.Ytnpjhhkhdeomcaa.FVal Go.Proofs.Ytnpjhhkhdeomcaa.Keep Go.Proofs.Ytnpjhhkhdeomcaa.Rule Go.Proofs.Ytnpjhhkhdeomcaa.GVal Go.Proofs.Ytnpjhhkhdeomcaa.GOwn Go.Proofs.Ytnpjhhkhdeomcaa.Trn Go.Proofs.Ytnpjhhkhdeomcaa.Rev Go.Proofs.Ytnpjhhkhdeomcaa.Blk Go.Proofs.Ytnpjhhkhdeomcaa.Ones
set_option linter.unusedVariables false
set_option linter.unusedSimpArgs false
set_option maxHeartbeats 4000000 in
theorem sNo1 {w : World} {g s r : Int} {b1 b2 : Nat} {v1 v2 : Value} {xs : List Int} {ys : List Bool} {A B : Int} (h1 : Rd w b1 v1 xs) (h2 : RdB w b2 v2 ys) (hq : gasB g s r xs ys = false) :
    Calls Try.prog 29 #[gasV g s r v1 v2, .int .i64 A, .int .i64 B] w fun e w' => e = .returned (.tuple #[.slice none 0 0, .bool false]) ∧ Below w.heap.size w w' := by
  have H1 := hid h1
  have H2 := hid h2
  have HQ := hid hq
  obtain ⟨ao1, cap1, rfl, _, _, _⟩ := h1
  obtain ⟨ao2, cap2, rfl, _, _, _⟩ := h2
  clear hq
  have HSD : Hid (sd16 A B = sd16 A B) := rfl
  go_enter Try.func29, Try.ntmps29
  go_wp2_with fail
  obtain ⟨w1, hW⟩ : ∃ w1, w1 = w.alloc (Obj.cells #[.int .i64 g, .int .i64 s, .int .i64 r, (Value.slice ao1 xs.length cap1), (Value.slice ao2 ys.length cap2)] 31) := ⟨_, rfl⟩
  obtain ⟨N, hN⟩ : ∃ N, N = w.heap.size := ⟨_, rfl⟩
  have st : Below w.heap.size w w1 ∧ w1.cell? ⟨N, 0, none⟩ = some (.int .i64 g) ∧ w1.cell? ⟨N, 1, none⟩ = some (.int .i64 s) ∧ w1.cell? ⟨N, 2, none⟩ = some (.int .i64 r) ∧ w1.cell? ⟨N, 3, none⟩ = some ((Value.slice ao1 xs.length cap1)) ∧ w1.cell? ⟨N, 4, none⟩ = some ((Value.slice ao2 ys.length cap2)) ∧ Rd w1 b1 (Value.slice ao1 xs.length cap1) xs ∧ RdB w1 b2 (Value.slice ao2 ys.length cap2) ys ∧ w.heap.size ≤ w1.heap.size := by
    rw [hW, hN]
    exact ⟨below1 _ _, by simp, by simp, by simp, by simp, by simp, H1.out.keep (below1 _ _) (Nat.le_refl _), H2.out.keep (below1 _ _) (Nat.le_refl _), by simp⟩
  have HNN : Hid (N < w1.heap.size ∧ N = w.heap.size) := ⟨by rw [hW, hN]; simp, hN⟩
  simp only [← hW, ← hN]
  clear hW hN
  go_at_call 39
  refine (GVal.l06Is st.2.1 st.2.2.1 st.2.2.2.1 st.2.2.2.2.1 st.2.2.2.2.2.1 (rdx5_IB_0 st) (rdx5_IB_1 st)).mono ?_
  rw [HQ.out]
  rintro e w2 ⟨rfl, hm⟩
  have bel : Below w1.heap.size w1 w2 := by obtain ⟨m, hm⟩ := hm; rw [hm]; exact Help.below_drewN _ _ _
  clear hm
  replace st := nx5_IB bel st
  have HNN2 := hid (Nat.lt_of_lt_of_le HNN.out.1 bel.size)
  clear bel
  have HB := hid st.1
  have c1 := st.2.2.1
  have c2 := st.2.2.2.1
  go_wp2_with (first | (go_at_call 58; refine GVal.l06Sides.mono ?_; rw [HSD.out]; rintro e w' ⟨rfl, rfl⟩))
  go_ret2
  exact ⟨rfl, HB.out⟩

set_option maxHeartbeats 4000000 in
theorem sNo2 {w : World} {g s r : Int} {b1 b2 : Nat} {v1 v2 : Value} {xs : List Int} {ys : List Bool} {A B : Int} (h1 : Rd w b1 v1 xs) (h2 : RdB w b2 v2 ys) (hq : gasB g s r xs ys = true) (hsd : sd16 A B = false) :
    Calls Try.prog 29 #[gasV g s r v1 v2, .int .i64 A, .int .i64 B] w fun e w' => e = .returned (.tuple #[.slice none 0 0, .bool false]) ∧ Below w.heap.size w w' := by
  have H1 := hid h1
  have H2 := hid h2
  have HQ := hid hq
  obtain ⟨ao1, cap1, rfl, _, _, _⟩ := h1
  obtain ⟨ao2, cap2, rfl, _, _, _⟩ := h2
  clear hq
  have HSD := hid hsd
  clear hsd
  go_enter Try.func29, Try.ntmps29
  go_wp2_with fail
  obtain ⟨w1, hW⟩ : ∃ w1, w1 = w.alloc (Obj.cells #[.int .i64 g, .int .i64 s, .int .i64 r, (Value.slice ao1 xs.length cap1), (Value.slice ao2 ys.length cap2)] 31) := ⟨_, rfl⟩
  obtain ⟨N, hN⟩ : ∃ N, N = w.heap.size := ⟨_, rfl⟩
  have st : Below w.heap.size w w1 ∧ w1.cell? ⟨N, 0, none⟩ = some (.int .i64 g) ∧ w1.cell? ⟨N, 1, none⟩ = some (.int .i64 s) ∧ w1.cell? ⟨N, 2, none⟩ = some (.int .i64 r) ∧ w1.cell? ⟨N, 3, none⟩ = some ((Value.slice ao1 xs.length cap1)) ∧ w1.cell? ⟨N, 4, none⟩ = some ((Value.slice ao2 ys.length cap2)) ∧ Rd w1 b1 (Value.slice ao1 xs.length cap1) xs ∧ RdB w1 b2 (Value.slice ao2 ys.length cap2) ys ∧ w.heap.size ≤ w1.heap.size := by
    rw [hW, hN]
    exact ⟨below1 _ _, by simp, by simp, by simp, by simp, by simp, H1.out.keep (below1 _ _) (Nat.le_refl _), H2.out.keep (below1 _ _) (Nat.le_refl _), by simp⟩
  have HNN : Hid (N < w1.heap.size ∧ N = w.heap.size) := ⟨by rw [hW, hN]; simp, hN⟩
  simp only [← hW, ← hN]
  clear hW hN
  go_at_call 39
  refine (GVal.l06Is st.2.1 st.2.2.1 st.2.2.2.1 st.2.2.2.2.1 st.2.2.2.2.2.1 (rdx5_IB_0 st) (rdx5_IB_1 st)).mono ?_
  rw [HQ.out]
  rintro e w2 ⟨rfl, hm⟩
  have bel : Below w1.heap.size w1 w2 := by obtain ⟨m, hm⟩ := hm; rw [hm]; exact Help.below_drewN _ _ _
  clear hm
  replace st := nx5_IB bel st
  have HNN2 := hid (Nat.lt_of_lt_of_le HNN.out.1 bel.size)
  clear bel
  have HB := hid st.1
  have c1 := st.2.2.1
  have c2 := st.2.2.2.1
  go_wp2_with (first | (go_at_call 58; refine GVal.l06Sides.mono ?_; rw [HSD.out]; rintro e w' ⟨rfl, rfl⟩))
  go_ret2
  exact ⟨rfl, HB.out⟩

set_option maxHeartbeats 4000000 in
theorem sNo3 {w : World} {g s r : Int} {b1 b2 : Nat} {v1 v2 : Value} {xs : List Int} {ys : List Bool} {A B : Int} (h1 : Rd w b1 v1 xs) (h2 : RdB w b2 v2 ys) (hq : gasB g s r xs ys = true) (hsd : sd16 A B = true) (hr : (s.tmod A != 0) = true) :
    Calls Try.prog 29 #[gasV g s r v1 v2, .int .i64 A, .int .i64 B] w fun e w' => e = .returned (.tuple #[.slice none 0 0, .bool false]) ∧ Below w.heap.size w w' := by
  have H1 := hid h1
  have H2 := hid h2
  have HQ := hid hq
  obtain ⟨ao1, cap1, rfl, _, _, _⟩ := h1
  obtain ⟨ao2, cap2, rfl, _, _, _⟩ := h2
  clear hq
  have hA : 1 ≤ A ∧ A ≤ 16 := by simp [sd16] at hsd; omega
  have hB : 1 ≤ B ∧ B ≤ 16 := by simp [sd16] at hsd; omega
  have HSD := hid hsd
  clear hsd
  go_enter Try.func29, Try.ntmps29
  go_wp2_with fail
  obtain ⟨w1, hW⟩ : ∃ w1, w1 = w.alloc (Obj.cells #[.int .i64 g, .int .i64 s, .int .i64 r, (Value.slice ao1 xs.length cap1), (Value.slice ao2 ys.length cap2)] 31) := ⟨_, rfl⟩
  obtain ⟨N, hN⟩ : ∃ N, N = w.heap.size := ⟨_, rfl⟩
  have st : Below w.heap.size w w1 ∧ w1.cell? ⟨N, 0, none⟩ = some (.int .i64 g) ∧ w1.cell? ⟨N, 1, none⟩ = some (.int .i64 s) ∧ w1.cell? ⟨N, 2, none⟩ = some (.int .i64 r) ∧ w1.cell? ⟨N, 3, none⟩ = some ((Value.slice ao1 xs.length cap1)) ∧ w1.cell? ⟨N, 4, none⟩ = some ((Value.slice ao2 ys.length cap2)) ∧ Rd w1 b1 (Value.slice ao1 xs.length cap1) xs ∧ RdB w1 b2 (Value.slice ao2 ys.length cap2) ys ∧ w.heap.size ≤ w1.heap.size := by
    rw [hW, hN]
    exact ⟨below1 _ _, by simp, by simp, by simp, by simp, by simp, H1.out.keep (below1 _ _) (Nat.le_refl _), H2.out.keep (below1 _ _) (Nat.le_refl _), by simp⟩
  have HNN : Hid (N < w1.heap.size ∧ N = w.heap.size) := ⟨by rw [hW, hN]; simp, hN⟩
  simp only [← hW, ← hN]
  clear hW hN
  go_at_call 39
  refine (GVal.l06Is st.2.1 st.2.2.1 st.2.2.2.1 st.2.2.2.2.1 st.2.2.2.2.2.1 (rdx5_IB_0 st) (rdx5_IB_1 st)).mono ?_
  rw [HQ.out]
  rintro e w2 ⟨rfl, hm⟩
  have bel : Below w1.heap.size w1 w2 := by obtain ⟨m, hm⟩ := hm; rw [hm]; exact Help.below_drewN _ _ _
  clear hm
  replace st := nx5_IB bel st
  have HNN2 := hid (Nat.lt_of_lt_of_le HNN.out.1 bel.size)
  clear bel
  have HB := hid st.1
  have c1 := st.2.2.1
  have c2 := st.2.2.2.1
  go_wp2_with (first | (go_at_call 58; refine GVal.l06Sides.mono ?_; rw [HSD.out]; rintro e w' ⟨rfl, rfl⟩))
  go_ret2
  exact ⟨rfl, HB.out⟩

set_option maxHeartbeats 4000000 in
theorem sNo4 {w : World} {g s r : Int} {b1 b2 : Nat} {v1 v2 : Value} {xs : List Int} {ys : List Bool} {A B : Int} (h1 : Rd w b1 v1 xs) (h2 : RdB w b2 v2 ys) (hq : gasB g s r xs ys = true) (hsd : sd16 A B = true) (hr : (s.tmod A != 0) = false) (hc : (r.tmod B != 0) = true) :
    Calls Try.prog 29 #[gasV g s r v1 v2, .int .i64 A, .int .i64 B] w fun e w' => e = .returned (.tuple #[.slice none 0 0, .bool false]) ∧ Below w.heap.size w w' := by
  have H1 := hid h1
  have H2 := hid h2
  have HQ := hid hq
  obtain ⟨ao1, cap1, rfl, _, _, _⟩ := h1
  obtain ⟨ao2, cap2, rfl, _, _, _⟩ := h2
  clear hq
  have hA : 1 ≤ A ∧ A ≤ 16 := by simp [sd16] at hsd; omega
  have hB : 1 ≤ B ∧ B ≤ 16 := by simp [sd16] at hsd; omega
  have HSD := hid hsd
  clear hsd
  go_enter Try.func29, Try.ntmps29
  go_wp2_with fail
  obtain ⟨w1, hW⟩ : ∃ w1, w1 = w.alloc (Obj.cells #[.int .i64 g, .int .i64 s, .int .i64 r, (Value.slice ao1 xs.length cap1), (Value.slice ao2 ys.length cap2)] 31) := ⟨_, rfl⟩
  obtain ⟨N, hN⟩ : ∃ N, N = w.heap.size := ⟨_, rfl⟩
  have st : Below w.heap.size w w1 ∧ w1.cell? ⟨N, 0, none⟩ = some (.int .i64 g) ∧ w1.cell? ⟨N, 1, none⟩ = some (.int .i64 s) ∧ w1.cell? ⟨N, 2, none⟩ = some (.int .i64 r) ∧ w1.cell? ⟨N, 3, none⟩ = some ((Value.slice ao1 xs.length cap1)) ∧ w1.cell? ⟨N, 4, none⟩ = some ((Value.slice ao2 ys.length cap2)) ∧ Rd w1 b1 (Value.slice ao1 xs.length cap1) xs ∧ RdB w1 b2 (Value.slice ao2 ys.length cap2) ys ∧ w.heap.size ≤ w1.heap.size := by
    rw [hW, hN]
    exact ⟨below1 _ _, by simp, by simp, by simp, by simp, by simp, H1.out.keep (below1 _ _) (Nat.le_refl _), H2.out.keep (below1 _ _) (Nat.le_refl _), by simp⟩
  have HNN : Hid (N < w1.heap.size ∧ N = w.heap.size) := ⟨by rw [hW, hN]; simp, hN⟩
  simp only [← hW, ← hN]
  clear hW hN
  go_at_call 39
  refine (GVal.l06Is st.2.1 st.2.2.1 st.2.2.2.1 st.2.2.2.2.1 st.2.2.2.2.2.1 (rdx5_IB_0 st) (rdx5_IB_1 st)).mono ?_
  rw [HQ.out]
  rintro e w2 ⟨rfl, hm⟩
  have bel : Below w1.heap.size w1 w2 := by obtain ⟨m, hm⟩ := hm; rw [hm]; exact Help.below_drewN _ _ _
  clear hm
  replace st := nx5_IB bel st
  have HNN2 := hid (Nat.lt_of_lt_of_le HNN.out.1 bel.size)
  clear bel
  have HB := hid st.1
  have c1 := st.2.2.1
  have c2 := st.2.2.2.1
  go_wp2_with (first | (go_at_call 58; refine GVal.l06Sides.mono ?_; rw [HSD.out]; rintro e w' ⟨rfl, rfl⟩))
  go_ret2
  exact ⟨rfl, HB.out⟩

set_option maxHeartbeats 4000000 in
theorem iNo1 {w : World} {g s r : Int} {b1 b2 : Nat} {v1 v2 : Value} {xs : List Int} {ys : List Bool} {A B : Int} (h1 : Rd w b1 v1 xs) (h2 : RdB w b2 v2 ys) (hq : gasB g s r xs ys = false) :
    Calls Try.prog 30 #[gasV g s r v1 v2, .int .i64 A, .int .i64 B] w fun e w' => e = .returned (.tuple #[.slice none 0 0, .bool false]) ∧ Below w.heap.size w w' := by
  have H1 := hid h1
  have H2 := hid h2
  have HQ := hid hq
  obtain ⟨ao1, cap1, rfl, _, _, _⟩ := h1
  obtain ⟨ao2, cap2, rfl, _, _, _⟩ := h2
  clear hq
  have HF1 : Hid (decide (1 ≤ A ∧ A ≤ s) = decide (1 ≤ A ∧ A ≤ s)) := rfl
  have HF2 := HF1
  go_enter Try.func30, Try.ntmps30
  go_wp2_with fail
  obtain ⟨w1, hW⟩ : ∃ w1, w1 = w.alloc (Obj.cells #[.int .i64 g, .int .i64 s, .int .i64 r, (Value.slice ao1 xs.length cap1), (Value.slice ao2 ys.length cap2)] 31) := ⟨_, rfl⟩
  obtain ⟨N, hN⟩ : ∃ N, N = w.heap.size := ⟨_, rfl⟩
  have st : Below w.heap.size w w1 ∧ w1.cell? ⟨N, 0, none⟩ = some (.int .i64 g) ∧ w1.cell? ⟨N, 1, none⟩ = some (.int .i64 s) ∧ w1.cell? ⟨N, 2, none⟩ = some (.int .i64 r) ∧ w1.cell? ⟨N, 3, none⟩ = some ((Value.slice ao1 xs.length cap1)) ∧ w1.cell? ⟨N, 4, none⟩ = some ((Value.slice ao2 ys.length cap2)) ∧ Rd w1 b1 (Value.slice ao1 xs.length cap1) xs ∧ RdB w1 b2 (Value.slice ao2 ys.length cap2) ys ∧ w.heap.size ≤ w1.heap.size := by
    rw [hW, hN]
    exact ⟨below1 _ _, by simp, by simp, by simp, by simp, by simp, H1.out.keep (below1 _ _) (Nat.le_refl _), H2.out.keep (below1 _ _) (Nat.le_refl _), by simp⟩
  have HNN : Hid (N < w1.heap.size ∧ N = w.heap.size) := ⟨by rw [hW, hN]; simp, hN⟩
  simp only [← hW, ← hN]
  clear hW hN
  go_at_call 17
  refine (IsW.implValidGas (rdx5_IB_0 st) (rdx5_IB_1 st)).mono ?_
  rw [HQ.out]
  rintro e w2 ⟨rfl, bel⟩
  replace st := nx5_IB bel st
  have HNN2 := hid (Nat.lt_of_lt_of_le HNN.out.1 bel.size)
  clear bel
  have HB := hid st.1
  have c1 := st.2.2.1
  have c2 := st.2.2.2.1
  go_wp2_with (first | (go_at_call 34; refine isFromB.mono ?_; (first | rw [HF1.out] | rw [HF2.out]); rintro e w' ⟨rfl, rfl⟩))
  go_ret2
  exact ⟨rfl, HB.out⟩

set_option maxHeartbeats 4000000 in
theorem iNo2 {w : World} {g s r : Int} {b1 b2 : Nat} {v1 v2 : Value} {xs : List Int} {ys : List Bool} {A B : Int} (h1 : Rd w b1 v1 xs) (h2 : RdB w b2 v2 ys) (hq : gasB g s r xs ys = true) (h1f : decide (1 ≤ A ∧ A ≤ s) = false) :
    Calls Try.prog 30 #[gasV g s r v1 v2, .int .i64 A, .int .i64 B] w fun e w' => e = .returned (.tuple #[.slice none 0 0, .bool false]) ∧ Below w.heap.size w w' := by
  have H1 := hid h1
  have H2 := hid h2
  have HQ := hid hq
  obtain ⟨ao1, cap1, rfl, _, _, _⟩ := h1
  obtain ⟨ao2, cap2, rfl, _, _, _⟩ := h2
  clear hq
  have HF1 := hid h1f
  have HF2 := HF1
  go_enter Try.func30, Try.ntmps30
  go_wp2_with fail
  obtain ⟨w1, hW⟩ : ∃ w1, w1 = w.alloc (Obj.cells #[.int .i64 g, .int .i64 s, .int .i64 r, (Value.slice ao1 xs.length cap1), (Value.slice ao2 ys.length cap2)] 31) := ⟨_, rfl⟩
  obtain ⟨N, hN⟩ : ∃ N, N = w.heap.size := ⟨_, rfl⟩
  have st : Below w.heap.size w w1 ∧ w1.cell? ⟨N, 0, none⟩ = some (.int .i64 g) ∧ w1.cell? ⟨N, 1, none⟩ = some (.int .i64 s) ∧ w1.cell? ⟨N, 2, none⟩ = some (.int .i64 r) ∧ w1.cell? ⟨N, 3, none⟩ = some ((Value.slice ao1 xs.length cap1)) ∧ w1.cell? ⟨N, 4, none⟩ = some ((Value.slice ao2 ys.length cap2)) ∧ Rd w1 b1 (Value.slice ao1 xs.length cap1) xs ∧ RdB w1 b2 (Value.slice ao2 ys.length cap2) ys ∧ w.heap.size ≤ w1.heap.size := by
    rw [hW, hN]
    exact ⟨below1 _ _, by simp, by simp, by simp, by simp, by simp, H1.out.keep (below1 _ _) (Nat.le_refl _), H2.out.keep (below1 _ _) (Nat.le_refl _), by simp⟩
  have HNN : Hid (N < w1.heap.size ∧ N = w.heap.size) := ⟨by rw [hW, hN]; simp, hN⟩
  simp only [← hW, ← hN]
  clear hW hN
  go_at_call 17
  refine (IsW.implValidGas (rdx5_IB_0 st) (rdx5_IB_1 st)).mono ?_
  rw [HQ.out]
  rintro e w2 ⟨rfl, bel⟩
  replace st := nx5_IB bel st
  have HNN2 := hid (Nat.lt_of_lt_of_le HNN.out.1 bel.size)
  clear bel
  have HB := hid st.1
  have c1 := st.2.2.1
  have c2 := st.2.2.2.1
  go_wp2_with (first | (go_at_call 34; refine isFromB.mono ?_; (first | rw [HF1.out] | rw [HF2.out]); rintro e w' ⟨rfl, rfl⟩))
  go_ret2
  exact ⟨rfl, HB.out⟩

set_option maxHeartbeats 4000000 in
theorem iNo3 {w : World} {g s r : Int} {b1 b2 : Nat} {v1 v2 : Value} {xs : List Int} {ys : List Bool} {A B : Int} (h1 : Rd w b1 v1 xs) (h2 : RdB w b2 v2 ys) (hq : gasB g s r xs ys = true) (h1f : decide (1 ≤ A ∧ A ≤ s) = true) (h2f : decide (1 ≤ B ∧ B ≤ r) = false) :
    Calls Try.prog 30 #[gasV g s r v1 v2, .int .i64 A, .int .i64 B] w fun e w' => e = .returned (.tuple #[.slice none 0 0, .bool false]) ∧ Below w.heap.size w w' := by
  have H1 := hid h1
  have H2 := hid h2
  have HQ := hid hq
  obtain ⟨ao1, cap1, rfl, _, _, _⟩ := h1
  obtain ⟨ao2, cap2, rfl, _, _, _⟩ := h2
  clear hq
  have HF1 := hid h1f
  have HF2 := hid h2f
  go_enter Try.func30, Try.ntmps30
  go_wp2_with fail
  obtain ⟨w1, hW⟩ : ∃ w1, w1 = w.alloc (Obj.cells #[.int .i64 g, .int .i64 s, .int .i64 r, (Value.slice ao1 xs.length cap1), (Value.slice ao2 ys.length cap2)] 31) := ⟨_, rfl⟩
  obtain ⟨N, hN⟩ : ∃ N, N = w.heap.size := ⟨_, rfl⟩
  have st : Below w.heap.size w w1 ∧ w1.cell? ⟨N, 0, none⟩ = some (.int .i64 g) ∧ w1.cell? ⟨N, 1, none⟩ = some (.int .i64 s) ∧ w1.cell? ⟨N, 2, none⟩ = some (.int .i64 r) ∧ w1.cell? ⟨N, 3, none⟩ = some ((Value.slice ao1 xs.length cap1)) ∧ w1.cell? ⟨N, 4, none⟩ = some ((Value.slice ao2 ys.length cap2)) ∧ Rd w1 b1 (Value.slice ao1 xs.length cap1) xs ∧ RdB w1 b2 (Value.slice ao2 ys.length cap2) ys ∧ w.heap.size ≤ w1.heap.size := by
    rw [hW, hN]
    exact ⟨below1 _ _, by simp, by simp, by simp, by simp, by simp, H1.out.keep (below1 _ _) (Nat.le_refl _), H2.out.keep (below1 _ _) (Nat.le_refl _), by simp⟩
  have HNN : Hid (N < w1.heap.size ∧ N = w.heap.size) := ⟨by rw [hW, hN]; simp, hN⟩
  simp only [← hW, ← hN]
  clear hW hN
  go_at_call 17
  refine (IsW.implValidGas (rdx5_IB_0 st) (rdx5_IB_1 st)).mono ?_
  rw [HQ.out]
  rintro e w2 ⟨rfl, bel⟩
  replace st := nx5_IB bel st
  have HNN2 := hid (Nat.lt_of_lt_of_le HNN.out.1 bel.size)
  clear bel
  have HB := hid st.1
  have c1 := st.2.2.1
  have c2 := st.2.2.2.1
  go_wp2_with (first | (go_at_call 34; refine isFromB.mono ?_; (first | rw [HF1.out] | rw [HF2.out]); rintro e w' ⟨rfl, rfl⟩))
  go_ret2
  exact ⟨rfl, HB.out⟩

set_option maxHeartbeats 4000000 in
theorem iNo4 {w : World} {g s r : Int} {b1 b2 : Nat} {v1 v2 : Value} {xs : List Int} {ys : List Bool} {A B : Int} (h1 : Rd w b1 v1 xs) (h2 : RdB w b2 v2 ys) (hq : gasB g s r xs ys = true) (h1f : decide (1 ≤ A ∧ A ≤ s) = true) (h2f : decide (1 ≤ B ∧ B ≤ r) = true) (hr : (s.tmod A != 0) = true) :
    Calls Try.prog 30 #[gasV g s r v1 v2, .int .i64 A, .int .i64 B] w fun e w' => e = .returned (.tuple #[.slice none 0 0, .bool false]) ∧ Below w.heap.size w w' := by
  have H1 := hid h1
  have H2 := hid h2
  have HQ := hid hq
  obtain ⟨ao1, cap1, rfl, _, _, _⟩ := h1
  obtain ⟨ao2, cap2, rfl, _, _, _⟩ := h2
  clear hq
  have HF1 := hid h1f
  have HF2 := hid h2f
  have hA : 1 ≤ A ∧ A ≤ s := by simpa using h1f
  have hB : 1 ≤ B ∧ B ≤ r := by simpa using h2f
  have hr2 : (s % A != 0) = true := by rw [← Int.tmod_eq_emod_of_nonneg (show 0 ≤ s by omega)]; exact hr
  go_enter Try.func30, Try.ntmps30
  go_wp2_with fail
  obtain ⟨w1, hW⟩ : ∃ w1, w1 = w.alloc (Obj.cells #[.int .i64 g, .int .i64 s, .int .i64 r, (Value.slice ao1 xs.length cap1), (Value.slice ao2 ys.length cap2)] 31) := ⟨_, rfl⟩
  obtain ⟨N, hN⟩ : ∃ N, N = w.heap.size := ⟨_, rfl⟩
  have st : Below w.heap.size w w1 ∧ w1.cell? ⟨N, 0, none⟩ = some (.int .i64 g) ∧ w1.cell? ⟨N, 1, none⟩ = some (.int .i64 s) ∧ w1.cell? ⟨N, 2, none⟩ = some (.int .i64 r) ∧ w1.cell? ⟨N, 3, none⟩ = some ((Value.slice ao1 xs.length cap1)) ∧ w1.cell? ⟨N, 4, none⟩ = some ((Value.slice ao2 ys.length cap2)) ∧ Rd w1 b1 (Value.slice ao1 xs.length cap1) xs ∧ RdB w1 b2 (Value.slice ao2 ys.length cap2) ys ∧ w.heap.size ≤ w1.heap.size := by
    rw [hW, hN]
    exact ⟨below1 _ _, by simp, by simp, by simp, by simp, by simp, H1.out.keep (below1 _ _) (Nat.le_refl _), H2.out.keep (below1 _ _) (Nat.le_refl _), by simp⟩
  have HNN : Hid (N < w1.heap.size ∧ N = w.heap.size) := ⟨by rw [hW, hN]; simp, hN⟩
  simp only [← hW, ← hN]
  clear hW hN
  go_at_call 17
  refine (IsW.implValidGas (rdx5_IB_0 st) (rdx5_IB_1 st)).mono ?_
  rw [HQ.out]
  rintro e w2 ⟨rfl, bel⟩
  replace st := nx5_IB bel st
  have HNN2 := hid (Nat.lt_of_lt_of_le HNN.out.1 bel.size)
  clear bel
  have HB := hid st.1
  have c1 := st.2.2.1
  have c2 := st.2.2.2.1
  go_wp2_with (first | (go_at_call 34; refine isFromB.mono ?_; (first | rw [HF1.out] | rw [HF2.out]); rintro e w' ⟨rfl, rfl⟩))
  go_ret2
  exact ⟨rfl, HB.out⟩

set_option maxHeartbeats 4000000 in
theorem iNo5 {w : World} {g s r : Int} {b1 b2 : Nat} {v1 v2 : Value} {xs : List Int} {ys : List Bool} {A B : Int} (h1 : Rd w b1 v1 xs) (h2 : RdB w b2 v2 ys) (hq : gasB g s r xs ys = true) (h1f : decide (1 ≤ A ∧ A ≤ s) = true) (h2f : decide (1 ≤ B ∧ B ≤ r) = true) (hr : (s.tmod A != 0) = false) (hc : (r.tmod B != 0) = true) :
    Calls Try.prog 30 #[gasV g s r v1 v2, .int .i64 A, .int .i64 B] w fun e w' => e = .returned (.tuple #[.slice none 0 0, .bool false]) ∧ Below w.heap.size w w' := by
  have H1 := hid h1
  have H2 := hid h2
  have HQ := hid hq
  obtain ⟨ao1, cap1, rfl, _, _, _⟩ := h1
  obtain ⟨ao2, cap2, rfl, _, _, _⟩ := h2
  clear hq
  have HF1 := hid h1f
  have HF2 := hid h2f
  have hA : 1 ≤ A ∧ A ≤ s := by simpa using h1f
  have hB : 1 ≤ B ∧ B ≤ r := by simpa using h2f
  have hr2 : (s % A != 0) = false := by rw [← Int.tmod_eq_emod_of_nonneg (show 0 ≤ s by omega)]; exact hr
  have hc2 : (r % B != 0) = true := by rw [← Int.tmod_eq_emod_of_nonneg (show 0 ≤ r by omega)]; exact hc
  go_enter Try.func30, Try.ntmps30
  go_wp2_with fail
  obtain ⟨w1, hW⟩ : ∃ w1, w1 = w.alloc (Obj.cells #[.int .i64 g, .int .i64 s, .int .i64 r, (Value.slice ao1 xs.length cap1), (Value.slice ao2 ys.length cap2)] 31) := ⟨_, rfl⟩
  obtain ⟨N, hN⟩ : ∃ N, N = w.heap.size := ⟨_, rfl⟩
  have st : Below w.heap.size w w1 ∧ w1.cell? ⟨N, 0, none⟩ = some (.int .i64 g) ∧ w1.cell? ⟨N, 1, none⟩ = some (.int .i64 s) ∧ w1.cell? ⟨N, 2, none⟩ = some (.int .i64 r) ∧ w1.cell? ⟨N, 3, none⟩ = some ((Value.slice ao1 xs.length cap1)) ∧ w1.cell? ⟨N, 4, none⟩ = some ((Value.slice ao2 ys.length cap2)) ∧ Rd w1 b1 (Value.slice ao1 xs.length cap1) xs ∧ RdB w1 b2 (Value.slice ao2 ys.length cap2) ys ∧ w.heap.size ≤ w1.heap.size := by
    rw [hW, hN]
    exact ⟨below1 _ _, by simp, by simp, by simp, by simp, by simp, H1.out.keep (below1 _ _) (Nat.le_refl _), H2.out.keep (below1 _ _) (Nat.le_refl _), by simp⟩
  have HNN : Hid (N < w1.heap.size ∧ N = w.heap.size) := ⟨by rw [hW, hN]; simp, hN⟩
  simp only [← hW, ← hN]
  clear hW hN
  go_at_call 17
  refine (IsW.implValidGas (rdx5_IB_0 st) (rdx5_IB_1 st)).mono ?_
  rw [HQ.out]
  rintro e w2 ⟨rfl, bel⟩
  replace st := nx5_IB bel st
  have HNN2 := hid (Nat.lt_of_lt_of_le HNN.out.1 bel.size)
  clear bel
  have HB := hid st.1
  have c1 := st.2.2.1
  have c2 := st.2.2.2.1
  go_wp2_with (first | (go_at_call 34; refine isFromB.mono ?_; (first | rw [HF1.out] | rw [HF2.out]); rintro e w' ⟨rfl, rfl⟩))
  go_ret2
  exact ⟨rfl, HB.out⟩


end Go.Proofs.Ytnpjhhkhdeomcaa.Den
