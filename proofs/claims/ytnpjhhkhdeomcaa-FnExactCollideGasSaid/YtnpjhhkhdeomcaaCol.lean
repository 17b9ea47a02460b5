/- impl.colliding and its closure. -/
import Derived.Test.YtnpjhhkhdeomcaaOnes
namespace Go.Proofs.Ytnpjhhkhdeomcaa.Col
open Go.RowKit Go.Proofs.Ytnpjhhkhdeomcaa.Rd Go.Proofs.Ytnpjhhkhdeomcaa.Help Go.Proofs.Ytnpjhhkhdeomcaa.Keep Go.Proofs.Ytnpjhhkhdeomcaa.Rule Go.Proofs.Ytnpjhhkhdeomcaa.GVal Go.Proofs.Ytnpjhhkhdeomcaa.Trn Go.Proofs.Ytnpjhhkhdeomcaa.Ones
set_option linter.unusedVariables false
set_option linter.unusedSimpArgs false

set_option maxHeartbeats 2000000 in
theorem clo4A1 {w : World} {c NG NB : Nat} (hc : c < 64) (k0 : w.cell? ⟨NG, 0, none⟩ = some (.int .i64 4)) (k1 : w.cell? ⟨NB, 0, none⟩ = some (.int .i64 (1))) (hp : popN c = 2) (hT : trn c 4 2 4 = c) :
    Calls Try.prog 76 #[.int .i64 c, .pointer (some ⟨NG, 0, none⟩), .pointer (some ⟨NB, 0, none⟩)] w fun e w' => e = .returned (.int .i64 (trn c 4 1 4 : Nat)) ∧ Below w.heap.size w w' := by
  have HC := hid hc
  have hcw : IntKind.u64.wrap (c : Int) = (c : Int) := by simp [IntKind.wrap, IntKind.bits, IntKind.signed]; omega
  have p2 : (((popN c : Nat) : Int) == 2) = true := by rw [hp]; rfl
  have hTT : (((trn c 4 2 4 : Nat) : Int) == (c : Int)) = true := by rw [hT]; simp
  have B0 := Below.refl w.heap.size w
  clear hp hT
  go_enter Try.func76, Try.ntmps76
  go_wp2_with (first | (go_at_call 60; refine (ones HC.out).mono ?_; rintro e w' ⟨rfl, rfl⟩) | (go_at_call 52; refine (implTurned4 HC.out (by omega)).mono ?_; rintro e w' ⟨rfl, bel⟩; replace k0 := cell_keep bel k0; replace k1 := cell_keep bel k1; replace B0 := B0.trans (bel.mono B0.size); clear bel))
  go_ret
  exact ⟨rfl, B0⟩

set_option maxHeartbeats 2000000 in
theorem clo4A2 {w : World} {c NG NB : Nat} (hc : c < 64) (k0 : w.cell? ⟨NG, 0, none⟩ = some (.int .i64 4)) (k1 : w.cell? ⟨NB, 0, none⟩ = some (.int .i64 (1))) (hp : popN c = 2) (hT : ¬ trn c 4 2 4 = c) :
    Calls Try.prog 76 #[.int .i64 c, .pointer (some ⟨NG, 0, none⟩), .pointer (some ⟨NB, 0, none⟩)] w fun e w' => e = .returned (.int .i64 (c : Nat)) ∧ Below w.heap.size w w' := by
  have HC := hid hc
  have hcw : IntKind.u64.wrap (c : Int) = (c : Int) := by simp [IntKind.wrap, IntKind.bits, IntKind.signed]; omega
  have p2 : (((popN c : Nat) : Int) == 2) = true := by rw [hp]; rfl
  have p3 : (((popN c : Nat) : Int) == 3) = false := by rw [hp]; rfl
  have hTT : (((trn c 4 2 4 : Nat) : Int) == (c : Int)) = false := by simp; omega
  have B0 := Below.refl w.heap.size w
  clear hp hT
  go_enter Try.func76, Try.ntmps76
  go_wp2_with (first | (go_at_call 60; refine (ones HC.out).mono ?_; rintro e w' ⟨rfl, rfl⟩) | (go_at_call 52; refine (implTurned4 HC.out (by omega)).mono ?_; rintro e w' ⟨rfl, bel⟩; replace k0 := cell_keep bel k0; replace k1 := cell_keep bel k1; replace B0 := B0.trans (bel.mono B0.size); clear bel))
  go_ret
  exact ⟨rfl, B0⟩

set_option maxHeartbeats 2000000 in
theorem clo4C {w : World} {c NG NB : Nat} (hc : c < 64) (k0 : w.cell? ⟨NG, 0, none⟩ = some (.int .i64 4)) (k1 : w.cell? ⟨NB, 0, none⟩ = some (.int .i64 (1))) (hp : popN c ≠ 2) (hp2 : popN c ≠ 3) :
    Calls Try.prog 76 #[.int .i64 c, .pointer (some ⟨NG, 0, none⟩), .pointer (some ⟨NB, 0, none⟩)] w fun e w' => e = .returned (.int .i64 (c : Nat)) ∧ Below w.heap.size w w' := by
  have HC := hid hc
  have hcw : IntKind.u64.wrap (c : Int) = (c : Int) := by simp [IntKind.wrap, IntKind.bits, IntKind.signed]; omega
  have p2 : (((popN c : Nat) : Int) == 2) = false := by simp; omega
  have p3 : (((popN c : Nat) : Int) == 3) = false := by simp; omega
  have B0 := Below.refl w.heap.size w
  clear hp hp2
  go_enter Try.func76, Try.ntmps76
  go_wp2_with (first | (go_at_call 60; refine (ones HC.out).mono ?_; rintro e w' ⟨rfl, rfl⟩) | (go_at_call 52; refine (implTurned4 HC.out (by omega)).mono ?_; rintro e w' ⟨rfl, bel⟩; replace k0 := cell_keep bel k0; replace k1 := cell_keep bel k1; replace B0 := B0.trans (bel.mono B0.size); clear bel))
  go_ret
  exact ⟨rfl, B0⟩

set_option maxHeartbeats 2000000 in
theorem clo4B0 {w : World} {c NG NB : Nat} (hc : c < 64) (k0 : w.cell? ⟨NG, 0, none⟩ = some (.int .i64 4)) (k1 : w.cell? ⟨NB, 0, none⟩ = some (.int .i64 (1))) (hp : popN c = 3) :
    Calls Try.prog 76 #[.int .i64 c, .pointer (some ⟨NG, 0, none⟩), .pointer (some ⟨NB, 0, none⟩)] w fun e w' => e = .returned (.int .i64 (c : Nat)) ∧ Below w.heap.size w w' := by
  have HC := hid hc
  have hcw : IntKind.u64.wrap (c : Int) = (c : Int) := by simp [IntKind.wrap, IntKind.bits, IntKind.signed]; omega
  have p2 : (((popN c : Nat) : Int) == 2) = false := by rw [hp]; rfl
  have p3 : (((popN c : Nat) : Int) == 3) = true := by rw [hp]; rfl
  have B0 := Below.refl w.heap.size w
  clear hp
  go_enter Try.func76, Try.ntmps76
  go_wp2_with (first | (go_at_call 60; refine (ones HC.out).mono ?_; rintro e w' ⟨rfl, rfl⟩) | (go_at_call 52; refine (implTurned4 HC.out (by omega)).mono ?_; rintro e w' ⟨rfl, bel⟩; replace k0 := cell_keep bel k0; replace k1 := cell_keep bel k1; replace B0 := B0.trans (bel.mono B0.size); clear bel))
  go_ret
  exact ⟨rfl, B0⟩

theorem clo4 {w : World} {c NG NB : Nat} {lf : Bool} (hc : c < 64) (k0 : w.cell? ⟨NG, 0, none⟩ = some (.int .i64 4)) (k1 : w.cell? ⟨NB, 0, none⟩ = some (.int .i64 (1))) :
    Calls Try.prog 76 #[.int .i64 c, .pointer (some ⟨NG, 0, none⟩), .pointer (some ⟨NB, 0, none⟩)] w fun e w' => e = .returned (.int .i64 (colI c 4 lf : Nat)) ∧ Below w.heap.size w w' := by
  by_cases h2 : popN c = 2
  · by_cases hT : trn c 4 2 4 = c
    · rw [show colI c 4 lf = trn c 4 1 4 by simp [colI, h2, hT]]; exact clo4A1 hc k0 k1 h2 hT
    · rw [show colI c 4 lf = c by simp [colI, h2, hT]]; exact clo4A2 hc k0 k1 h2 hT
  · by_cases h3 : popN c = 3
    · rw [show colI c 4 lf = c by simp [colI, h3]]; exact clo4B0 hc k0 k1 h3
    · rw [show colI c 4 lf = c by simp [colI, h2, h3]]; exact clo4C hc k0 k1 h2 h3

set_option maxHeartbeats 2000000 in
theorem clo6A1 {w : World} {c NG NB : Nat} (hc : c < 64) (k0 : w.cell? ⟨NG, 0, none⟩ = some (.int .i64 6)) (k1 : w.cell? ⟨NB, 0, none⟩ = some (.int .i64 (1))) (hp : popN c = 2) (hT : trn c 6 3 6 = c) :
    Calls Try.prog 76 #[.int .i64 c, .pointer (some ⟨NG, 0, none⟩), .pointer (some ⟨NB, 0, none⟩)] w fun e w' => e = .returned (.int .i64 (trn c 6 1 6 : Nat)) ∧ Below w.heap.size w w' := by
  have HC := hid hc
  have hcw : IntKind.u64.wrap (c : Int) = (c : Int) := by simp [IntKind.wrap, IntKind.bits, IntKind.signed]; omega
  have p2 : (((popN c : Nat) : Int) == 2) = true := by rw [hp]; rfl
  have hTT : (((trn c 6 3 6 : Nat) : Int) == (c : Int)) = true := by rw [hT]; simp
  have B0 := Below.refl w.heap.size w
  clear hp hT
  go_enter Try.func76, Try.ntmps76
  go_wp2_with (first | (go_at_call 60; refine (ones HC.out).mono ?_; rintro e w' ⟨rfl, rfl⟩) | (go_at_call 52; refine (implTurned6 HC.out (by omega)).mono ?_; rintro e w' ⟨rfl, bel⟩; replace k0 := cell_keep bel k0; replace k1 := cell_keep bel k1; replace B0 := B0.trans (bel.mono B0.size); clear bel))
  go_ret
  exact ⟨rfl, B0⟩

set_option maxHeartbeats 2000000 in
theorem clo6A2 {w : World} {c NG NB : Nat} (hc : c < 64) (k0 : w.cell? ⟨NG, 0, none⟩ = some (.int .i64 6)) (k1 : w.cell? ⟨NB, 0, none⟩ = some (.int .i64 (1))) (hp : popN c = 2) (hT : ¬ trn c 6 3 6 = c) :
    Calls Try.prog 76 #[.int .i64 c, .pointer (some ⟨NG, 0, none⟩), .pointer (some ⟨NB, 0, none⟩)] w fun e w' => e = .returned (.int .i64 (c : Nat)) ∧ Below w.heap.size w w' := by
  have HC := hid hc
  have hcw : IntKind.u64.wrap (c : Int) = (c : Int) := by simp [IntKind.wrap, IntKind.bits, IntKind.signed]; omega
  have p2 : (((popN c : Nat) : Int) == 2) = true := by rw [hp]; rfl
  have p3 : (((popN c : Nat) : Int) == 3) = false := by rw [hp]; rfl
  have hTT : (((trn c 6 3 6 : Nat) : Int) == (c : Int)) = false := by simp; omega
  have B0 := Below.refl w.heap.size w
  clear hp hT
  go_enter Try.func76, Try.ntmps76
  go_wp2_with (first | (go_at_call 60; refine (ones HC.out).mono ?_; rintro e w' ⟨rfl, rfl⟩) | (go_at_call 52; refine (implTurned6 HC.out (by omega)).mono ?_; rintro e w' ⟨rfl, bel⟩; replace k0 := cell_keep bel k0; replace k1 := cell_keep bel k1; replace B0 := B0.trans (bel.mono B0.size); clear bel))
  go_ret
  exact ⟨rfl, B0⟩

set_option maxHeartbeats 2000000 in
theorem clo6C {w : World} {c NG NB : Nat} (hc : c < 64) (k0 : w.cell? ⟨NG, 0, none⟩ = some (.int .i64 6)) (k1 : w.cell? ⟨NB, 0, none⟩ = some (.int .i64 (1))) (hp : popN c ≠ 2) (hp2 : popN c ≠ 3) :
    Calls Try.prog 76 #[.int .i64 c, .pointer (some ⟨NG, 0, none⟩), .pointer (some ⟨NB, 0, none⟩)] w fun e w' => e = .returned (.int .i64 (c : Nat)) ∧ Below w.heap.size w w' := by
  have HC := hid hc
  have hcw : IntKind.u64.wrap (c : Int) = (c : Int) := by simp [IntKind.wrap, IntKind.bits, IntKind.signed]; omega
  have p2 : (((popN c : Nat) : Int) == 2) = false := by simp; omega
  have p3 : (((popN c : Nat) : Int) == 3) = false := by simp; omega
  have B0 := Below.refl w.heap.size w
  clear hp hp2
  go_enter Try.func76, Try.ntmps76
  go_wp2_with (first | (go_at_call 60; refine (ones HC.out).mono ?_; rintro e w' ⟨rfl, rfl⟩) | (go_at_call 52; refine (implTurned6 HC.out (by omega)).mono ?_; rintro e w' ⟨rfl, bel⟩; replace k0 := cell_keep bel k0; replace k1 := cell_keep bel k1; replace B0 := B0.trans (bel.mono B0.size); clear bel))
  go_ret
  exact ⟨rfl, B0⟩

set_option maxHeartbeats 2000000 in
theorem clo6B1 {w : World} {c NG NB : Nat} (hc : c < 64) (k0 : w.cell? ⟨NG, 0, none⟩ = some (.int .i64 6)) (k1 : w.cell? ⟨NB, 0, none⟩ = some (.int .i64 (1))) (hp : popN c = 3) (hT : trn c 6 2 6 = c) :
    Calls Try.prog 76 #[.int .i64 c, .pointer (some ⟨NG, 0, none⟩), .pointer (some ⟨NB, 0, none⟩)] w fun e w' => e = .returned (.int .i64 (trn c 6 1 6 : Nat)) ∧ Below w.heap.size w w' := by
  have HC := hid hc
  have hcw : IntKind.u64.wrap (c : Int) = (c : Int) := by simp [IntKind.wrap, IntKind.bits, IntKind.signed]; omega
  have p2 : (((popN c : Nat) : Int) == 2) = false := by rw [hp]; rfl
  have p3 : (((popN c : Nat) : Int) == 3) = true := by rw [hp]; rfl
  have hTT : (((trn c 6 2 6 : Nat) : Int) == (c : Int)) = true := by rw [hT]; simp
  have B0 := Below.refl w.heap.size w
  clear hp hT
  go_enter Try.func76, Try.ntmps76
  go_wp2_with (first | (go_at_call 60; refine (ones HC.out).mono ?_; rintro e w' ⟨rfl, rfl⟩) | (go_at_call 52; refine (implTurned6 HC.out (by omega)).mono ?_; rintro e w' ⟨rfl, bel⟩; replace k0 := cell_keep bel k0; replace k1 := cell_keep bel k1; replace B0 := B0.trans (bel.mono B0.size); clear bel))
  go_ret
  exact ⟨rfl, B0⟩

set_option maxHeartbeats 2000000 in
theorem clo6B2 {w : World} {c NG NB : Nat} (hc : c < 64) (k0 : w.cell? ⟨NG, 0, none⟩ = some (.int .i64 6)) (k1 : w.cell? ⟨NB, 0, none⟩ = some (.int .i64 (1))) (hp : popN c = 3) (hT : ¬ trn c 6 2 6 = c) :
    Calls Try.prog 76 #[.int .i64 c, .pointer (some ⟨NG, 0, none⟩), .pointer (some ⟨NB, 0, none⟩)] w fun e w' => e = .returned (.int .i64 (c : Nat)) ∧ Below w.heap.size w w' := by
  have HC := hid hc
  have hcw : IntKind.u64.wrap (c : Int) = (c : Int) := by simp [IntKind.wrap, IntKind.bits, IntKind.signed]; omega
  have p2 : (((popN c : Nat) : Int) == 2) = false := by rw [hp]; rfl
  have p3 : (((popN c : Nat) : Int) == 3) = true := by rw [hp]; rfl
  have hTT : (((trn c 6 2 6 : Nat) : Int) == (c : Int)) = false := by simp; omega
  have B0 := Below.refl w.heap.size w
  clear hp hT
  go_enter Try.func76, Try.ntmps76
  go_wp2_with (first | (go_at_call 60; refine (ones HC.out).mono ?_; rintro e w' ⟨rfl, rfl⟩) | (go_at_call 52; refine (implTurned6 HC.out (by omega)).mono ?_; rintro e w' ⟨rfl, bel⟩; replace k0 := cell_keep bel k0; replace k1 := cell_keep bel k1; replace B0 := B0.trans (bel.mono B0.size); clear bel))
  go_ret
  exact ⟨rfl, B0⟩

theorem clo6 {w : World} {c NG NB : Nat} (hc : c < 64) (k0 : w.cell? ⟨NG, 0, none⟩ = some (.int .i64 6)) (k1 : w.cell? ⟨NB, 0, none⟩ = some (.int .i64 (1))) :
    Calls Try.prog 76 #[.int .i64 c, .pointer (some ⟨NG, 0, none⟩), .pointer (some ⟨NB, 0, none⟩)] w fun e w' => e = .returned (.int .i64 (colI c 6 true : Nat)) ∧ Below w.heap.size w w' := by
  by_cases h2 : popN c = 2
  · by_cases hT : trn c 6 3 6 = c
    · rw [show colI c 6 true = trn c 6 1 6 by simp [colI, h2, hT]]; exact clo6A1 hc k0 k1 h2 hT
    · rw [show colI c 6 true = c by simp [colI, h2, hT]]; exact clo6A2 hc k0 k1 h2 hT
  · by_cases h3 : popN c = 3
    · by_cases hT : trn c 6 2 6 = c
      · rw [show colI c 6 true = trn c 6 1 6 by simp [colI, h3, hT]]; exact clo6B1 hc k0 k1 h3 hT
      · rw [show colI c 6 true = c by simp [colI, h3, hT]]; exact clo6B2 hc k0 k1 h3 hT
    · rw [show colI c 6 true = c by simp [colI, h2, h3]]; exact clo6C hc k0 k1 h2 h3

set_option maxHeartbeats 2000000 in
theorem clo6mA1 {w : World} {c NG NB : Nat} (hc : c < 64) (k0 : w.cell? ⟨NG, 0, none⟩ = some (.int .i64 6)) (k1 : w.cell? ⟨NB, 0, none⟩ = some (.int .i64 (-1))) (hp : popN c = 2) (hT : trn c 6 3 6 = c) :
    Calls Try.prog 76 #[.int .i64 c, .pointer (some ⟨NG, 0, none⟩), .pointer (some ⟨NB, 0, none⟩)] w fun e w' => e = .returned (.int .i64 (trn c 6 (-1) 6 : Nat)) ∧ Below w.heap.size w w' := by
  have HC := hid hc
  have hcw : IntKind.u64.wrap (c : Int) = (c : Int) := by simp [IntKind.wrap, IntKind.bits, IntKind.signed]; omega
  have p2 : (((popN c : Nat) : Int) == 2) = true := by rw [hp]; rfl
  have hTT : (((trn c 6 3 6 : Nat) : Int) == (c : Int)) = true := by rw [hT]; simp
  have B0 := Below.refl w.heap.size w
  clear hp hT
  go_enter Try.func76, Try.ntmps76
  go_wp2_with (first | (go_at_call 60; refine (ones HC.out).mono ?_; rintro e w' ⟨rfl, rfl⟩) | (go_at_call 52; refine (implTurned6 HC.out (by omega)).mono ?_; rintro e w' ⟨rfl, bel⟩; replace k0 := cell_keep bel k0; replace k1 := cell_keep bel k1; replace B0 := B0.trans (bel.mono B0.size); clear bel))
  go_ret
  exact ⟨rfl, B0⟩

set_option maxHeartbeats 2000000 in
theorem clo6mA2 {w : World} {c NG NB : Nat} (hc : c < 64) (k0 : w.cell? ⟨NG, 0, none⟩ = some (.int .i64 6)) (k1 : w.cell? ⟨NB, 0, none⟩ = some (.int .i64 (-1))) (hp : popN c = 2) (hT : ¬ trn c 6 3 6 = c) :
    Calls Try.prog 76 #[.int .i64 c, .pointer (some ⟨NG, 0, none⟩), .pointer (some ⟨NB, 0, none⟩)] w fun e w' => e = .returned (.int .i64 (c : Nat)) ∧ Below w.heap.size w w' := by
  have HC := hid hc
  have hcw : IntKind.u64.wrap (c : Int) = (c : Int) := by simp [IntKind.wrap, IntKind.bits, IntKind.signed]; omega
  have p2 : (((popN c : Nat) : Int) == 2) = true := by rw [hp]; rfl
  have p3 : (((popN c : Nat) : Int) == 3) = false := by rw [hp]; rfl
  have hTT : (((trn c 6 3 6 : Nat) : Int) == (c : Int)) = false := by simp; omega
  have B0 := Below.refl w.heap.size w
  clear hp hT
  go_enter Try.func76, Try.ntmps76
  go_wp2_with (first | (go_at_call 60; refine (ones HC.out).mono ?_; rintro e w' ⟨rfl, rfl⟩) | (go_at_call 52; refine (implTurned6 HC.out (by omega)).mono ?_; rintro e w' ⟨rfl, bel⟩; replace k0 := cell_keep bel k0; replace k1 := cell_keep bel k1; replace B0 := B0.trans (bel.mono B0.size); clear bel))
  go_ret
  exact ⟨rfl, B0⟩

set_option maxHeartbeats 2000000 in
theorem clo6mC {w : World} {c NG NB : Nat} (hc : c < 64) (k0 : w.cell? ⟨NG, 0, none⟩ = some (.int .i64 6)) (k1 : w.cell? ⟨NB, 0, none⟩ = some (.int .i64 (-1))) (hp : popN c ≠ 2) (hp2 : popN c ≠ 3) :
    Calls Try.prog 76 #[.int .i64 c, .pointer (some ⟨NG, 0, none⟩), .pointer (some ⟨NB, 0, none⟩)] w fun e w' => e = .returned (.int .i64 (c : Nat)) ∧ Below w.heap.size w w' := by
  have HC := hid hc
  have hcw : IntKind.u64.wrap (c : Int) = (c : Int) := by simp [IntKind.wrap, IntKind.bits, IntKind.signed]; omega
  have p2 : (((popN c : Nat) : Int) == 2) = false := by simp; omega
  have p3 : (((popN c : Nat) : Int) == 3) = false := by simp; omega
  have B0 := Below.refl w.heap.size w
  clear hp hp2
  go_enter Try.func76, Try.ntmps76
  go_wp2_with (first | (go_at_call 60; refine (ones HC.out).mono ?_; rintro e w' ⟨rfl, rfl⟩) | (go_at_call 52; refine (implTurned6 HC.out (by omega)).mono ?_; rintro e w' ⟨rfl, bel⟩; replace k0 := cell_keep bel k0; replace k1 := cell_keep bel k1; replace B0 := B0.trans (bel.mono B0.size); clear bel))
  go_ret
  exact ⟨rfl, B0⟩

set_option maxHeartbeats 2000000 in
theorem clo6mB1 {w : World} {c NG NB : Nat} (hc : c < 64) (k0 : w.cell? ⟨NG, 0, none⟩ = some (.int .i64 6)) (k1 : w.cell? ⟨NB, 0, none⟩ = some (.int .i64 (-1))) (hp : popN c = 3) (hT : trn c 6 2 6 = c) :
    Calls Try.prog 76 #[.int .i64 c, .pointer (some ⟨NG, 0, none⟩), .pointer (some ⟨NB, 0, none⟩)] w fun e w' => e = .returned (.int .i64 (trn c 6 1 6 : Nat)) ∧ Below w.heap.size w w' := by
  have HC := hid hc
  have hcw : IntKind.u64.wrap (c : Int) = (c : Int) := by simp [IntKind.wrap, IntKind.bits, IntKind.signed]; omega
  have p2 : (((popN c : Nat) : Int) == 2) = false := by rw [hp]; rfl
  have p3 : (((popN c : Nat) : Int) == 3) = true := by rw [hp]; rfl
  have hTT : (((trn c 6 2 6 : Nat) : Int) == (c : Int)) = true := by rw [hT]; simp
  have B0 := Below.refl w.heap.size w
  clear hp hT
  go_enter Try.func76, Try.ntmps76
  go_wp2_with (first | (go_at_call 60; refine (ones HC.out).mono ?_; rintro e w' ⟨rfl, rfl⟩) | (go_at_call 52; refine (implTurned6 HC.out (by omega)).mono ?_; rintro e w' ⟨rfl, bel⟩; replace k0 := cell_keep bel k0; replace k1 := cell_keep bel k1; replace B0 := B0.trans (bel.mono B0.size); clear bel))
  go_ret
  exact ⟨rfl, B0⟩

set_option maxHeartbeats 2000000 in
theorem clo6mB2 {w : World} {c NG NB : Nat} (hc : c < 64) (k0 : w.cell? ⟨NG, 0, none⟩ = some (.int .i64 6)) (k1 : w.cell? ⟨NB, 0, none⟩ = some (.int .i64 (-1))) (hp : popN c = 3) (hT : ¬ trn c 6 2 6 = c) :
    Calls Try.prog 76 #[.int .i64 c, .pointer (some ⟨NG, 0, none⟩), .pointer (some ⟨NB, 0, none⟩)] w fun e w' => e = .returned (.int .i64 (c : Nat)) ∧ Below w.heap.size w w' := by
  have HC := hid hc
  have hcw : IntKind.u64.wrap (c : Int) = (c : Int) := by simp [IntKind.wrap, IntKind.bits, IntKind.signed]; omega
  have p2 : (((popN c : Nat) : Int) == 2) = false := by rw [hp]; rfl
  have p3 : (((popN c : Nat) : Int) == 3) = true := by rw [hp]; rfl
  have hTT : (((trn c 6 2 6 : Nat) : Int) == (c : Int)) = false := by simp; omega
  have B0 := Below.refl w.heap.size w
  clear hp hT
  go_enter Try.func76, Try.ntmps76
  go_wp2_with (first | (go_at_call 60; refine (ones HC.out).mono ?_; rintro e w' ⟨rfl, rfl⟩) | (go_at_call 52; refine (implTurned6 HC.out (by omega)).mono ?_; rintro e w' ⟨rfl, bel⟩; replace k0 := cell_keep bel k0; replace k1 := cell_keep bel k1; replace B0 := B0.trans (bel.mono B0.size); clear bel))
  go_ret
  exact ⟨rfl, B0⟩

theorem clo6m {w : World} {c NG NB : Nat} (hc : c < 64) (k0 : w.cell? ⟨NG, 0, none⟩ = some (.int .i64 6)) (k1 : w.cell? ⟨NB, 0, none⟩ = some (.int .i64 (-1))) :
    Calls Try.prog 76 #[.int .i64 c, .pointer (some ⟨NG, 0, none⟩), .pointer (some ⟨NB, 0, none⟩)] w fun e w' => e = .returned (.int .i64 (colI c 6 false : Nat)) ∧ Below w.heap.size w w' := by
  by_cases h2 : popN c = 2
  · by_cases hT : trn c 6 3 6 = c
    · rw [show colI c 6 false = trn c 6 (-1) 6 by simp [colI, h2, hT]]; exact clo6mA1 hc k0 k1 h2 hT
    · rw [show colI c 6 false = c by simp [colI, h2, hT]]; exact clo6mA2 hc k0 k1 h2 hT
  · by_cases h3 : popN c = 3
    · by_cases hT : trn c 6 2 6 = c
      · rw [show colI c 6 false = trn c 6 1 6 by simp [colI, h3, hT]]; exact clo6mB1 hc k0 k1 h3 hT
      · rw [show colI c 6 false = c by simp [colI, h3, hT]]; exact clo6mB2 hc k0 k1 h3 hT
    · rw [show colI c 6 false = c by simp [colI, h2, h3]]; exact clo6mC hc k0 k1 h2 h3

set_option maxHeartbeats 1000000 in
theorem mk4 {w : World} {lf : Bool} :
    Calls Try.prog 70 #[.int .i64 4, .bool lf] w fun e w' => ∃ NG NB, e = .returned (.func (.func 76) #[] #[.pointer (some ⟨NG, 0, none⟩), .pointer (some ⟨NB, 0, none⟩)]) ∧ w'.cell? ⟨NG, 0, none⟩ = some (.int .i64 4) ∧ w'.cell? ⟨NB, 0, none⟩ = some (.int .i64 (1)) ∧ w.heap.size ≤ NG ∧ w.heap.size ≤ NB ∧ NG < w'.heap.size ∧ NB < w'.heap.size ∧ Below w.heap.size w w' := by
  have hmf : ∀ (fn : Fn) (first cap : Array Value) (w : World), (Instr.makeFunc fn first cap).run Try.prog w = .ok (.func fn first cap) w := fun _ _ _ _ => rfl
  go_enter Try.func70, Try.ntmps70
  go_wp2
  go_ret
  exact ⟨w.heap.size, w.heap.size + 1, rfl, by simp, by simp, Nat.le_refl _, Nat.le_succ _, by simp <;> omega, by simp <;> omega, Go.Joins.below_alloc2 _ _ _⟩

set_option maxHeartbeats 1000000 in
theorem mk6 {w : World} :
    Calls Try.prog 70 #[.int .i64 6, .bool true] w fun e w' => ∃ NG NB, e = .returned (.func (.func 76) #[] #[.pointer (some ⟨NG, 0, none⟩), .pointer (some ⟨NB, 0, none⟩)]) ∧ w'.cell? ⟨NG, 0, none⟩ = some (.int .i64 6) ∧ w'.cell? ⟨NB, 0, none⟩ = some (.int .i64 (1)) ∧ w.heap.size ≤ NG ∧ w.heap.size ≤ NB ∧ NG < w'.heap.size ∧ NB < w'.heap.size ∧ Below w.heap.size w w' := by
  have hmf : ∀ (fn : Fn) (first cap : Array Value) (w : World), (Instr.makeFunc fn first cap).run Try.prog w = .ok (.func fn first cap) w := fun _ _ _ _ => rfl
  go_enter Try.func70, Try.ntmps70
  go_wp2
  go_ret
  exact ⟨w.heap.size, w.heap.size + 1, rfl, by simp, by simp, Nat.le_refl _, Nat.le_succ _, by simp <;> omega, by simp <;> omega, Go.Joins.below_alloc2 _ _ _⟩

set_option maxHeartbeats 1000000 in
theorem mk6m {w : World} :
    Calls Try.prog 70 #[.int .i64 6, .bool false] w fun e w' => ∃ NG NB, e = .returned (.func (.func 76) #[] #[.pointer (some ⟨NG, 0, none⟩), .pointer (some ⟨NB, 0, none⟩)]) ∧ w'.cell? ⟨NG, 0, none⟩ = some (.int .i64 6) ∧ w'.cell? ⟨NB, 0, none⟩ = some (.int .i64 (-1)) ∧ w.heap.size ≤ NG ∧ w.heap.size ≤ NB ∧ NG < w'.heap.size ∧ NB < w'.heap.size ∧ Below w.heap.size w w' := by
  have hmf : ∀ (fn : Fn) (first cap : Array Value) (w : World), (Instr.makeFunc fn first cap).run Try.prog w = .ok (.func fn first cap) w := fun _ _ _ _ => rfl
  go_enter Try.func70, Try.ntmps70
  go_wp2
  go_ret
  exact ⟨w.heap.size, w.heap.size + 1, rfl, by simp, by simp, Nat.le_refl _, Nat.le_succ _, by simp <;> omega, by simp <;> omega, Go.Joins.below_alloc2 _ _ _⟩

end Go.Proofs.Ytnpjhhkhdeomcaa.Col
