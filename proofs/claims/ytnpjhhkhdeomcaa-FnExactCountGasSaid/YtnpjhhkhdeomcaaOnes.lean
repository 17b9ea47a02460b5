/- How many binary digits are 1. -/
import Derived.Test.YtnpjhhkhdeomcaaTrn
namespace Go.Proofs.Ytnpjhhkhdeomcaa.Ones
open Go.RowKit Go.Proofs.Ytnpjhhkhdeomcaa.Rd Go.Proofs.Ytnpjhhkhdeomcaa.Help Go.Proofs.Ytnpjhhkhdeomcaa.Keep Go.Proofs.Ytnpjhhkhdeomcaa.Rule Go.Proofs.Ytnpjhhkhdeomcaa.GVal Go.Proofs.Ytnpjhhkhdeomcaa.Trn
set_option linter.unusedVariables false
set_option linter.unusedSimpArgs false

def popN (c : Nat) : Nat := c % 2 + c / 2 % 2 + c / 4 % 2 + c / 8 % 2 + c / 16 % 2 + c / 32 % 2

set_option maxHeartbeats 1000000 in
theorem ones {w : World} {c : Nat} (hc : c < 64) :
    Calls Try.prog 60 #[.int .u64 c] w fun e w' => e = .returned (.int .i64 (popN c)) ∧ w = w' := by
  go_enter Try.func60, Try.ntmps60
  go_wp2
  go_ret
  refine ⟨?_, rfl⟩
  rcases (show c = 0 ∨ c = 1 ∨ c = 2 ∨ c = 3 ∨ c = 4 ∨ c = 5 ∨ c = 6 ∨ c = 7 ∨ c = 8 ∨ c = 9 ∨ c = 10 ∨ c = 11 ∨ c = 12 ∨ c = 13 ∨ c = 14 ∨ c = 15 ∨ c = 16 ∨ c = 17 ∨ c = 18 ∨ c = 19 ∨ c = 20 ∨ c = 21 ∨ c = 22 ∨ c = 23 ∨ c = 24 ∨ c = 25 ∨ c = 26 ∨ c = 27 ∨ c = 28 ∨ c = 29 ∨ c = 30 ∨ c = 31 ∨ c = 32 ∨ c = 33 ∨ c = 34 ∨ c = 35 ∨ c = 36 ∨ c = 37 ∨ c = 38 ∨ c = 39 ∨ c = 40 ∨ c = 41 ∨ c = 42 ∨ c = 43 ∨ c = 44 ∨ c = 45 ∨ c = 46 ∨ c = 47 ∨ c = 48 ∨ c = 49 ∨ c = 50 ∨ c = 51 ∨ c = 52 ∨ c = 53 ∨ c = 54 ∨ c = 55 ∨ c = 56 ∨ c = 57 ∨ c = 58 ∨ c = 59 ∨ c = 60 ∨ c = 61 ∨ c = 62 ∨ c = 63 by omega) with rfl | rfl | rfl | rfl | rfl | rfl | rfl | rfl | rfl | rfl | rfl | rfl | rfl | rfl | rfl | rfl | rfl | rfl | rfl | rfl | rfl | rfl | rfl | rfl | rfl | rfl | rfl | rfl | rfl | rfl | rfl | rfl | rfl | rfl | rfl | rfl | rfl | rfl | rfl | rfl | rfl | rfl | rfl | rfl | rfl | rfl | rfl | rfl | rfl | rfl | rfl | rfl | rfl | rfl | rfl | rfl | rfl | rfl | rfl | rfl | rfl | rfl | rfl | rfl <;> kernel_rfl

/-- What becomes of a cell that collides. -/
def col (c g : Nat) (lf : Bool) : Nat :=
  if g = 4 then (if c = 5 ∨ c = 10 then trn c 4 1 4 else c)
  else if c = 9 ∨ c = 18 ∨ c = 36 then trn c 6 (if lf then 1 else 5) 6 else if c = 21 ∨ c = 42 then 63 - c else c
/-- The same, told by turns. -/
def colI (c g : Nat) (lf : Bool) : Nat :=
  if popN c = 2 ∧ trn c g (g / 2) g = c then trn c g (if g = 6 ∧ lf = false then -1 else 1) g
  else if popN c = 3 ∧ g = 6 ∧ trn c g 2 g = c then trn c g 1 g else c
theorem col4_eq : ∀ c : Nat, c < 16 → ∀ lf : Bool, colI c 4 lf = col c 4 lf := by decide +kernel
theorem col6_eq : ∀ c : Nat, c < 64 → ∀ lf : Bool, colI c 6 lf = col c 6 lf := by decide +kernel
theorem col_lt4 : ∀ c : Nat, c < 16 → ∀ lf : Bool, col c 4 lf < 64 := by decide +kernel
theorem col_lt6 : ∀ c : Nat, c < 64 → ∀ lf : Bool, col c 6 lf < 64 := by decide +kernel
theorem q14 : bits .or .i64 1 4 = 5 := by decide +kernel
theorem q28 : bits .or .i64 2 8 = 10 := by decide +kernel
theorem q18 : bits .or .i64 1 8 = 9 := by decide +kernel
theorem q216 : bits .or .i64 2 16 = 18 := by decide +kernel
theorem q432 : bits .or .i64 4 32 = 36 := by decide +kernel

set_option maxHeartbeats 1000000 in
theorem sc5 {w : World} {lf : Bool} :
    Calls Try.prog 69 #[.int .i64 5, .int .i64 4, .bool lf] w fun e w' => e = .returned (.int .i64 (col 5 4 lf : Nat)) ∧ w = w' := by
  have eq14 := q14
  have eq28 := q28
  go_enter Try.func69, Try.ntmps69
  go_wp2_with fail
  refine wp_loop_rounds 1 ?_
  rw [rounds_succ]
  go_wp2_with fail
  go_at_call 51
  refine (specTurned4 (c := 5) (b := 1) (by omega) (by omega)).mono ?_
  rintro e w' ⟨rfl, rfl⟩
  go_wp2_with fail
  go_ret
  exact ⟨congrArg (fun x => Ending.returned (.int .i64 x)) (congrArg Int.ofNat (show trn 5 4 1 4 = col 5 4 lf by cases lf <;> decide +kernel)), rfl⟩

set_option maxHeartbeats 1000000 in
theorem sc10 {w : World} {lf : Bool} :
    Calls Try.prog 69 #[.int .i64 10, .int .i64 4, .bool lf] w fun e w' => e = .returned (.int .i64 (col 10 4 lf : Nat)) ∧ w = w' := by
  have eq14 := q14
  have eq28 := q28
  go_enter Try.func69, Try.ntmps69
  go_wp2_with fail
  refine wp_loop_rounds 2 ?_
  rw [rounds_succ]
  go_wp2_with fail
  rw [rounds_succ]
  go_wp2_with fail
  go_at_call 51
  refine (specTurned4 (c := 10) (b := 1) (by omega) (by omega)).mono ?_
  rintro e w' ⟨rfl, rfl⟩
  go_wp2_with fail
  go_ret
  exact ⟨congrArg (fun x => Ending.returned (.int .i64 x)) (congrArg Int.ofNat (show trn 10 4 1 4 = col 10 4 lf by cases lf <;> decide +kernel)), rfl⟩

set_option maxHeartbeats 1000000 in
theorem sc9t {w : World} :
    Calls Try.prog 69 #[.int .i64 9, .int .i64 6, .bool true] w fun e w' => e = .returned (.int .i64 (col 9 6 true : Nat)) ∧ w = w' := by
  have eq18 := q18
  have eq216 := q216
  have eq432 := q432
  go_enter Try.func69, Try.ntmps69
  go_wp2_with fail
  refine wp_loop_rounds 1 ?_
  rw [rounds_succ]
  go_wp2_with fail
  go_at_call 51
  refine (specTurned6 (c := 9) (b := 1) (by omega) (by omega)).mono ?_
  rintro e w' ⟨rfl, rfl⟩
  go_wp2_with fail
  go_ret
  exact ⟨congrArg (fun x => Ending.returned (.int .i64 x)) (congrArg Int.ofNat (show trn 9 6 1 6 = col 9 6 true by decide +kernel)), rfl⟩

set_option maxHeartbeats 1000000 in
theorem sc9f {w : World} :
    Calls Try.prog 69 #[.int .i64 9, .int .i64 6, .bool false] w fun e w' => e = .returned (.int .i64 (col 9 6 false : Nat)) ∧ w = w' := by
  have eq18 := q18
  have eq216 := q216
  have eq432 := q432
  go_enter Try.func69, Try.ntmps69
  go_wp2_with fail
  refine wp_loop_rounds 1 ?_
  rw [rounds_succ]
  go_wp2_with fail
  go_at_call 51
  refine (specTurned6 (c := 9) (b := 5) (by omega) (by omega)).mono ?_
  rintro e w' ⟨rfl, rfl⟩
  go_wp2_with fail
  go_ret
  exact ⟨congrArg (fun x => Ending.returned (.int .i64 x)) (congrArg Int.ofNat (show trn 9 6 5 6 = col 9 6 false by decide +kernel)), rfl⟩

set_option maxHeartbeats 1000000 in
theorem sc18t {w : World} :
    Calls Try.prog 69 #[.int .i64 18, .int .i64 6, .bool true] w fun e w' => e = .returned (.int .i64 (col 18 6 true : Nat)) ∧ w = w' := by
  have eq18 := q18
  have eq216 := q216
  have eq432 := q432
  go_enter Try.func69, Try.ntmps69
  go_wp2_with fail
  refine wp_loop_rounds 2 ?_
  rw [rounds_succ]
  go_wp2_with fail
  rw [rounds_succ]
  go_wp2_with fail
  go_at_call 51
  refine (specTurned6 (c := 18) (b := 1) (by omega) (by omega)).mono ?_
  rintro e w' ⟨rfl, rfl⟩
  go_wp2_with fail
  go_ret
  exact ⟨congrArg (fun x => Ending.returned (.int .i64 x)) (congrArg Int.ofNat (show trn 18 6 1 6 = col 18 6 true by decide +kernel)), rfl⟩

set_option maxHeartbeats 1000000 in
theorem sc18f {w : World} :
    Calls Try.prog 69 #[.int .i64 18, .int .i64 6, .bool false] w fun e w' => e = .returned (.int .i64 (col 18 6 false : Nat)) ∧ w = w' := by
  have eq18 := q18
  have eq216 := q216
  have eq432 := q432
  go_enter Try.func69, Try.ntmps69
  go_wp2_with fail
  refine wp_loop_rounds 2 ?_
  rw [rounds_succ]
  go_wp2_with fail
  rw [rounds_succ]
  go_wp2_with fail
  go_at_call 51
  refine (specTurned6 (c := 18) (b := 5) (by omega) (by omega)).mono ?_
  rintro e w' ⟨rfl, rfl⟩
  go_wp2_with fail
  go_ret
  exact ⟨congrArg (fun x => Ending.returned (.int .i64 x)) (congrArg Int.ofNat (show trn 18 6 5 6 = col 18 6 false by decide +kernel)), rfl⟩

set_option maxHeartbeats 1000000 in
theorem sc36t {w : World} :
    Calls Try.prog 69 #[.int .i64 36, .int .i64 6, .bool true] w fun e w' => e = .returned (.int .i64 (col 36 6 true : Nat)) ∧ w = w' := by
  have eq18 := q18
  have eq216 := q216
  have eq432 := q432
  go_enter Try.func69, Try.ntmps69
  go_wp2_with fail
  refine wp_loop_rounds 3 ?_
  rw [rounds_succ]
  go_wp2_with fail
  rw [rounds_succ]
  go_wp2_with fail
  rw [rounds_succ]
  go_wp2_with fail
  go_at_call 51
  refine (specTurned6 (c := 36) (b := 1) (by omega) (by omega)).mono ?_
  rintro e w' ⟨rfl, rfl⟩
  go_wp2_with fail
  go_ret
  exact ⟨congrArg (fun x => Ending.returned (.int .i64 x)) (congrArg Int.ofNat (show trn 36 6 1 6 = col 36 6 true by decide +kernel)), rfl⟩

set_option maxHeartbeats 1000000 in
theorem sc36f {w : World} :
    Calls Try.prog 69 #[.int .i64 36, .int .i64 6, .bool false] w fun e w' => e = .returned (.int .i64 (col 36 6 false : Nat)) ∧ w = w' := by
  have eq18 := q18
  have eq216 := q216
  have eq432 := q432
  go_enter Try.func69, Try.ntmps69
  go_wp2_with fail
  refine wp_loop_rounds 3 ?_
  rw [rounds_succ]
  go_wp2_with fail
  rw [rounds_succ]
  go_wp2_with fail
  rw [rounds_succ]
  go_wp2_with fail
  go_at_call 51
  refine (specTurned6 (c := 36) (b := 5) (by omega) (by omega)).mono ?_
  rintro e w' ⟨rfl, rfl⟩
  go_wp2_with fail
  go_ret
  exact ⟨congrArg (fun x => Ending.returned (.int .i64 x)) (congrArg Int.ofNat (show trn 36 6 5 6 = col 36 6 false by decide +kernel)), rfl⟩

set_option maxHeartbeats 1000000 in
theorem specColP4 {w : World} {c : Nat} {lf : Bool} (hc : c < 64) (h0 : ((c : Int) != 5) = true) (h1 : ((c : Int) != 10) = true) :
    Calls Try.prog 69 #[.int .i64 c, .int .i64 4, .bool lf] w fun e w' => e = .returned (.int .i64 c) ∧ w = w' := by
  have eq14 := q14
  have eq28 := q28
  go_enter Try.func69, Try.ntmps69
  go_wp2_with fail
  refine wp_loop_rounds 3 ?_
  rw [rounds_succ]
  go_wp2_with fail
  rw [rounds_succ]
  go_wp2_with fail
  rw [rounds_succ]
  go_wp2_with fail
  go_ret
  exact ⟨rfl, rfl⟩

set_option maxHeartbeats 1000000 in
theorem specColP6 {w : World} {c : Nat} {lf : Bool} (hc : c < 64) (h0 : ((c : Int) != 9) = true) (h1 : ((c : Int) != 18) = true) (h2 : ((c : Int) != 36) = true) (h3 : ((c : Int) == 21) = false) (h4 : ((c : Int) == 42) = false) :
    Calls Try.prog 69 #[.int .i64 c, .int .i64 6, .bool lf] w fun e w' => e = .returned (.int .i64 c) ∧ w = w' := by
  have eq18 := q18
  have eq216 := q216
  have eq432 := q432
  go_enter Try.func69, Try.ntmps69
  go_wp2_with fail
  refine wp_loop_rounds 4 ?_
  rw [rounds_succ]
  go_wp2_with fail
  rw [rounds_succ]
  go_wp2_with fail
  rw [rounds_succ]
  go_wp2_with fail
  rw [rounds_succ]
  go_wp2_with fail
  go_ret
  exact ⟨rfl, rfl⟩

set_option maxHeartbeats 1000000 in
theorem specColP621 {w : World} {lf : Bool} :
    Calls Try.prog 69 #[.int .i64 21, .int .i64 6, .bool lf] w fun e w' => e = .returned (.int .i64 42) ∧ w = w' := by
  have eq18 := q18
  have eq216 := q216
  have eq432 := q432
  go_enter Try.func69, Try.ntmps69
  go_wp2_with fail
  refine wp_loop_rounds 4 ?_
  rw [rounds_succ]
  go_wp2_with fail
  rw [rounds_succ]
  go_wp2_with fail
  rw [rounds_succ]
  go_wp2_with fail
  rw [rounds_succ]
  go_wp2_with fail
  go_ret
  exact ⟨rfl, rfl⟩

set_option maxHeartbeats 1000000 in
theorem specColP642 {w : World} {lf : Bool} :
    Calls Try.prog 69 #[.int .i64 42, .int .i64 6, .bool lf] w fun e w' => e = .returned (.int .i64 21) ∧ w = w' := by
  have eq18 := q18
  have eq216 := q216
  have eq432 := q432
  go_enter Try.func69, Try.ntmps69
  go_wp2_with fail
  refine wp_loop_rounds 4 ?_
  rw [rounds_succ]
  go_wp2_with fail
  rw [rounds_succ]
  go_wp2_with fail
  rw [rounds_succ]
  go_wp2_with fail
  rw [rounds_succ]
  go_wp2_with fail
  go_ret
  exact ⟨rfl, rfl⟩

theorem specCol4 {w : World} {c : Nat} {lf : Bool} (hc : c < 16) :
    Calls Try.prog 69 #[.int .i64 c, .int .i64 4, .bool lf] w fun e w' => e = .returned (.int .i64 (col c 4 lf : Nat)) ∧ w = w' := by
  by_cases h5 : c = 5
  · subst h5; exact sc5
  by_cases h10 : c = 10
  · subst h10; exact sc10
  have e : col c 4 lf = c := by simp [col, h5, h10]
  rw [e]
  exact specColP4 (by omega) (by simp; omega) (by simp; omega)
theorem specCol6 {w : World} {c : Nat} {lf : Bool} (hc : c < 64) :
    Calls Try.prog 69 #[.int .i64 c, .int .i64 6, .bool lf] w fun e w' => e = .returned (.int .i64 (col c 6 lf : Nat)) ∧ w = w' := by
  by_cases h9 : c = 9
  · subst h9; cases lf
    · exact sc9f
    · exact sc9t
  by_cases h18 : c = 18
  · subst h18; cases lf
    · exact sc18f
    · exact sc18t
  by_cases h36 : c = 36
  · subst h36; cases lf
    · exact sc36f
    · exact sc36t
  by_cases h21 : c = 21
  · subst h21; exact specColP621
  by_cases h42 : c = 42
  · subst h42; exact specColP642
  have e : col c 6 lf = c := by simp [col, h9, h18, h36, h21, h42]
  rw [e]
  exact specColP6 hc (by simp; omega) (by simp; omega) (by simp; omega) (by simp; omega) (by simp; omega)

end Go.Proofs.Ytnpjhhkhdeomcaa.Ones
