/- Windings: the ways, the sums around blocks, and the functions that tell them. -/
import Derived.Test.YthcbhbdgbiiagaaWav
import Derived.Test.YthcbhbdgbiiagaaRound
import Derived.Test.YthcbhbdgbiiagaaGrow
import Derived.Deep.QuietTactic
import Derived.BigQuiet
import Derived.Deep.Cut
namespace Go.Proofs.Ythcbhbdgbiiagaa.Wnd
open Go.RowKit Go.Proofs.Ythcbhbdgbiiagaa.Rd Go.Proofs.Ythcbhbdgbiiagaa.Help Go.Proofs.Ythcbhbdgbiiagaa.Ring Go.Proofs.Ythcbhbdgbiiagaa.Small Go.Proofs.Ythcbhbdgbiiagaa.FVal Go.Proofs.Ythcbhbdgbiiagaa.Keep Go.Proofs.Ythcbhbdgbiiagaa.Rule Go.Proofs.Ythcbhbdgbiiagaa.Grow Go.Proofs.Ythcbhbdgbiiagaa.Wav
set_option linter.unusedVariables false
set_option linter.unusedSimpArgs false

/-- The way from one state to another one. -/
def wayL (a b st : Int) : Int := if st < 2 * (b - a) then b - a - st else if 2 * (b - a) < -st then b - a + st else b - a
/-- The places around a block. -/
def ar (at_ C j : Nat) : Nat := if j = 1 then at_ + 1 else if j = 2 then at_ + C + 1 else if j = 3 then at_ + C else at_
def sumW (zs : List Int) (st : Int) (at_ C : Nat) : Nat → Int
  | 0 => 0
  | j + 1 => sumW zs st at_ C j + wayL (zs.getD (ar at_ C j) 0) (zs.getD (ar at_ C (j + 1)) 0) st
def val (zs : List Int) (st : Int) (C i k : Nat) : Int := (sumW zs st (i * C + k) C 4).tdiv st
def row (zs : List Int) (st : Int) (C i q : Nat) : List Int := (List.range q).map (val zs st C i)
def acc (zs : List Int) (st : Int) (C p : Nat) : List Int := (List.range p).flatMap fun i => row zs st C i (C - 1)
theorem row_succ (zs : List Int) (st : Int) (C i q : Nat) : row zs st C i (q + 1) = row zs st C i q ++ [val zs st C i q] := by simp [row, List.range_succ]
theorem acc_succ (zs : List Int) (st : Int) (C p : Nat) : acc zs st C (p + 1) = acc zs st C p ++ row zs st C p (C - 1) := by simp [acc, List.range_succ]
theorem row_len (zs : List Int) (st : Int) (C i q : Nat) : (row zs st C i q).length = q := by simp [row]
theorem acc_len (zs : List Int) (st : Int) (C p : Nat) : (acc zs st C p).length = p * (C - 1) := by
  induction p with
  | zero => simp [acc]
  | succ p ih => rw [acc_succ, List.length_append, ih, row_len, Nat.succ_mul]
theorem way_bd {a b st : Int} (ha : 0 ≤ a ∧ a ≤ st - 1) (hb : 0 ≤ b ∧ b ≤ st - 1) (hs : 3 ≤ st ∧ st ≤ 9) : -9 ≤ wayL a b st ∧ wayL a b st ≤ 9 := by
  unfold wayL
  split
  · omega
  · split <;> omega
theorem sum_bd {zs : List Int} {st : Int} (h : allB zs st = true) (hs : 3 ≤ st ∧ st ≤ 9) (at_ C j : Nat) : -(9 * (j : Int)) ≤ sumW zs st at_ C j ∧ sumW zs st at_ C j ≤ 9 * (j : Int) := by
  induction j with
  | zero => simp [sumW]
  | succ j ih =>
    have := way_bd (wave_bd h hs.1 (ar at_ C j)) (wave_bd h hs.1 (ar at_ C (j + 1))) hs
    simp only [sumW]
    omega
theorem val_bd {zs : List Int} {st : Int} (h : allB zs st = true) (hs : 3 ≤ st ∧ st ≤ 9) (C i k : Nat) : -36 ≤ val zs st C i k ∧ val zs st C i k ≤ 36 := by
  have hb := sum_bd h hs (i * C + k) C 4
  unfold val
  generalize sumW zs st (i * C + k) C 4 = S at *
  have h1 : S.tdiv st ≤ 36 ∧ -36 ≤ S.tdiv st := by
    rcases Int.le_total 0 S with h0 | h0
    · rw [Int.tdiv_eq_ediv_of_nonneg h0]
      have h2 : S / st ≤ S := Int.ediv_le_self st h0
      have h3 : 0 ≤ S / st := Int.ediv_nonneg h0 (by omega)
      omega
    · have e : S.tdiv st = -((-S).tdiv st) := by rw [Int.neg_tdiv, Int.neg_neg]
      rw [e, Int.tdiv_eq_ediv_of_nonneg (by omega)]
      have h2 : (-S) / st ≤ -S := Int.ediv_le_self st (by omega)
      have h3 : 0 ≤ (-S) / st := Int.ediv_nonneg (by omega) (by omega)
      omega
  exact ⟨h1.2, h1.1⟩
theorem FNew_pos {R C i k : Nat} (hi : i + 1 < R) (hk : k + 1 < C) : (i + 1) * C + (k + 1) < R * C := by
  have h1 : (i + 1) * C + C ≤ R * C := by rw [← Nat.succ_mul]; exact Nat.mul_le_mul_right C (by omega)
  omega
theorem ar_lt {R C i k : Nat} (hi : i + 1 < R) (hk : k + 1 < C) (j : Nat) : ar (i * C + k) C j < R * C := by
  have h1 : (i + 1) * C + (k + 1) < R * C := FNew_pos hi hk
  rw [Nat.succ_mul] at h1
  unfold ar
  split
  · omega
  · split
    · omega
    · split <;> omega

set_option maxHeartbeats 1000000 in
theorem specWay {w : World} {a b st : Int} (ha : 0 ≤ a ∧ a ≤ 9) (hb : 0 ≤ b ∧ b ≤ 9) (hs : 3 ≤ st ∧ st ≤ 9) :
    Calls Try.prog 86 #[.int .i64 a, .int .i64 b, .int .i64 st] w fun e w' => e = .returned (.int .i64 (wayL a b st)) ∧ w' = w := by
  by_cases h1 : st < 2 * (b - a)
  · have HE : Hid (wayL a b st = b - a - st) := if_pos h1
    rw [HE.out]
    have d1 : decide (st < 2 * (b - a)) = true := decide_eq_true h1
    have d2 : decide (2 * (b - a - st) < -st) = false := decide_eq_false (by omega)
    clear h1
    go_enter Try.func86, Try.ntmps86
    go_wp2
    go_ret
    exact ⟨rfl, rfl⟩
  · have d1 : decide (st < 2 * (b - a)) = false := decide_eq_false h1
    by_cases h2 : 2 * (b - a) < -st
    · have HE : Hid (wayL a b st = b - a + st) := by simp only [Hid]; unfold wayL; rw [if_neg h1, if_pos h2]
      rw [HE.out]
      have d2 : decide (2 * (b - a) < -st) = true := decide_eq_true h2
      clear h1 h2
      go_enter Try.func86, Try.ntmps86
      go_wp2
      go_ret
      exact ⟨rfl, rfl⟩
    · have HE : Hid (wayL a b st = b - a) := by simp only [Hid]; unfold wayL; rw [if_neg h1, if_neg h2]
      rw [HE.out]
      have d2 : decide (2 * (b - a) < -st) = false := decide_eq_false h2
      clear h1 h2
      go_enter Try.func86, Try.ntmps86
      go_wp2
      go_ret
      exact ⟨rfl, rfl⟩

set_option maxHeartbeats 1000000 in
theorem implWay {w : World} {a b st : Int} (ha : 0 ≤ a ∧ a ≤ 9) (hb : 0 ≤ b ∧ b ≤ 9) (hs : 3 ≤ st ∧ st ≤ 9) :
    Calls Try.prog 89 #[.int .i64 a, .int .i64 b, .int .i64 st] w fun e w' => e = .returned (.int .i64 (wayL a b st)) ∧ w' = w := by
  by_cases h2 : 2 * (b - a) < -st
  · have HE : Hid (wayL a b st = b - a + st) := by simp only [Hid]; unfold wayL; rw [if_neg (by omega), if_pos h2]
    rw [HE.out]
    have d2 : decide (2 * (b - a) < -st) = true := decide_eq_true h2
    clear h2
    go_enter Try.func89, Try.ntmps89
    go_wp2
    go_ret
    exact ⟨rfl, rfl⟩
  · have d2 : decide (2 * (b - a) < -st) = false := decide_eq_false h2
    by_cases h1 : st < 2 * (b - a)
    · have HE : Hid (wayL a b st = b - a - st) := if_pos h1
      rw [HE.out]
      have d1 : decide (st < 2 * (b - a)) = true := decide_eq_true h1
      clear h1 h2
      go_enter Try.func89, Try.ntmps89
      go_wp2
      go_ret
      exact ⟨rfl, rfl⟩
    · have HE : Hid (wayL a b st = b - a) := by simp only [Hid]; unfold wayL; rw [if_neg h1, if_neg h2]
      rw [HE.out]
      have d1 : decide (st < 2 * (b - a)) = false := decide_eq_false h1
      clear h1 h2
      go_enter Try.func89, Try.ntmps89
      go_wp2
      go_ret
      exact ⟨rfl, rfl⟩

theorem at_wrap {R C i k : Nat} (hR : R ≤ 24) (hC : C ≤ 24) (hi : i + 1 < R) (hk : k + 1 < C) :
    wrap64 ((i : Int) * (C : Int)) = ((i * C : Nat) : Int) ∧ i * C + k + C + 1 ≤ 700 := by
  have h1 : i * C ≤ 24 * 24 := Nat.mul_le_mul (by omega) hC
  refine ⟨?_, by omega⟩
  rw [show (i : Int) * (C : Int) = ((i * C : Nat) : Int) by simp]
  exact wrap_id (by omega) (by omega)

set_option maxHeartbeats 1000000 in
theorem around {w : World} {R C i k : Nat} (hR : R ≤ 24) (hC : C ≤ 24) (hi : i + 1 < R) (hk : k + 1 < C) :
    Calls Try.prog 85 #[.int .i64 C, .int .i64 i, .int .i64 k] w fun e w' => e = .returned (.slice (some ⟨w.heap.size, 0, none⟩) 5 5) ∧ (∀ j, j < 5 → w'.cell? ⟨w.heap.size, j, none⟩ = some (.int .i64 (ar (i * C + k) C j : Nat))) ∧ w.heap.size < w'.heap.size ∧ Below w.heap.size w w' := by
  obtain ⟨e1, e2⟩ := at_wrap hR hC hi hk
  obtain ⟨P, hP⟩ : ∃ P, P = i * C := ⟨_, rfl⟩
  rw [← hP] at e1 e2 ⊢
  have HE1 := hid e1
  clear hP
  go_enter Try.func85, Try.ntmps85
  go_wp2
  go_ret
  refine ⟨rfl, fun j hj => ?_, by simp, below1 _ _⟩
  have : j = 0 ∨ j = 1 ∨ j = 2 ∨ j = 3 ∨ j = 4 := by omega
  rcases this with rfl | rfl | rfl | rfl | rfl <;> simp [ar]

set_option maxHeartbeats 2000000 in
theorem clo1 {w : World} {NF NS b n P Q : Nat} {st : Int} {v : Value} {zs : List Int} (c2 : w.cell? ⟨NF, 2, none⟩ = some v) (cs : w.cell? ⟨NS, 0, none⟩ = some (.int .i64 st)) (h : Rd w b v zs) (hn : zs.length = n) (hP : P < n) (hQ : Q < n) (ha : allB zs st = true) (hs : 3 ≤ st ∧ st ≤ 9) :
    Calls Try.prog 88 #[.int .i64 P, .int .i64 Q, .pointer (some ⟨NF, 0, none⟩), .pointer (some ⟨NS, 0, none⟩)] w fun e w' => e = .returned (.int .i64 (wayL (zs.getD P 0) (zs.getD Q 0) st)) ∧ ∃ m, w' = w.drewN m := by
  obtain ⟨ao, cap, rfl, hc, hm, h4⟩ := h
  obtain ⟨off, rfl, hb, hcell⟩ := h4 (by omega)
  have hx := hcell P (by omega)
  have hy := hcell Q (by omega)
  have hxb := wave_bd ha hs.1 P
  have hyb := wave_bd ha hs.1 Q
  obtain ⟨x, hx0⟩ : ∃ x, x = zs.getD P 0 := ⟨_, rfl⟩
  obtain ⟨y, hy0⟩ : ∃ y, y = zs.getD Q 0 := ⟨_, rfl⟩
  rw [← hx0] at hx hxb ⊢
  rw [← hy0] at hy hyb ⊢
  rw [hn] at hc c2
  have HW : Hid (∀ ww, Calls Try.prog 89 #[.int .i64 x, .int .i64 y, .int .i64 st] ww fun e w' => e = .returned (.int .i64 (wayL x y st)) ∧ w' = ww) := fun ww => implWay (by omega) (by omega) hs
  obtain ⟨W, hW⟩ : ∃ W, W = wayL x y st := ⟨_, rfl⟩
  rw [← hW] at HW ⊢
  have hPi : (P : Int) < (n : Int) := by omega
  have hQi : (Q : Int) < (n : Int) := by omega
  clear hcell h4 hm hx0 hy0 hW ha hxb hyb
  go_enter Try.func88, Try.ntmps88
  go_wp2_with fail
  go_quiet (first | (go_at_call 89; refine Calls.quiet_of_same (HW.out _)))
  go_wp2
  go_ret
  exact ⟨rfl, _, rfl⟩

set_option maxHeartbeats 1000000 in
theorem clo2 {w : World} {NS : Nat} {S st V : Int} (cs : w.cell? ⟨NS, 0, none⟩ = some (.int .i64 st)) (hV : wrap64 (S.tdiv st) = V) (hs : 3 ≤ st ∧ st ≤ 9) :
    Calls Try.prog 92 #[.int .i64 S, .pointer (some ⟨NS, 0, none⟩)] w fun e w' => e = .returned (.tuple #[.int .i64 V, .bool true]) ∧ w' = w := by
  have h0 : ¬ st = 0 := by omega
  have HVq := hid hV
  clear hV
  go_enter Try.func92, Try.ntmps92
  go_wp2
  go_ret2
  exact ⟨by rw [← HVq.out]; rfl, rfl⟩

end Go.Proofs.Ythcbhbdgbiiagaa.Wnd
