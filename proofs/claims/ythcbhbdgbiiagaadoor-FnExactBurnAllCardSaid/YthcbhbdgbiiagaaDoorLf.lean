/- Neighbours of a cell: what a step of a life counts (the model's side). -/
import Derived.Test.YthcbhbdgbiiagaaDoorGrow
import Derived.Test.YthcbhbdgbiiagaaDoorRnd
namespace Go.Proofs.YthcbhbdgbiiagaaDoor.Lf
open Go.RowKit Go.Proofs.YthcbhbdgbiiagaaDoor.Rd Go.Proofs.YthcbhbdgbiiagaaDoor.Help Go.Proofs.YthcbhbdgbiiagaaDoor.Ring Go.Proofs.YthcbhbdgbiiagaaDoor.Small Go.Proofs.YthcbhbdgbiiagaaDoor.FVal Go.Proofs.YthcbhbdgbiiagaaDoor.Keep Go.Proofs.YthcbhbdgbiiagaaDoor.Rule Go.Proofs.YthcbhbdgbiiagaaDoor.Grow Go.Proofs.YthcbhbdgbiiagaaDoor.Rnd
set_option linter.unusedVariables false
set_option linter.unusedSimpArgs false

/-- What lies at a place: round and round, or 0 beyond the border. -/
def fr (zs : List Int) (R C : Nat) (rd : Bool) (i k : Int) : Int := if rd = true ∨ (0 ≤ i ∧ i < R ∧ 0 ≤ k ∧ k < C) then zs.getD ((i % (R : Int)).toNat * C + (k % (C : Int)).toNat) 0 else 0
/-- The neighbour with the number j, 4 being the cell itself. -/
def nb (zs : List Int) (R C : Nat) (rd : Bool) (i k : Int) (j : Nat) : Int := if j = 4 then 0 else fr zs R C rd (i - 1 + (j / 3 : Nat)) (k - 1 + (j % 3 : Nat))
/-- The sum of the first j neighbours. -/
def psum (zs : List Int) (R C : Nat) (rd : Bool) (i k : Int) : Nat → Int
  | 0 => 0
  | j + 1 => psum zs R C rd i k j + nb zs R C rd i k j
/-- How many neighbours are 1. -/
def aro (zs : List Int) (R C : Nat) (rd : Bool) (i k : Int) : Int := psum zs R C rd i k 9
/-- All cells are 0 or 1. -/
def plainB (zs : List Int) : Bool := zs.all fun x => decide (0 ≤ x ∧ x ≤ 1)
def nxt (xs ys zs : List Int) (R C : Nat) (rd : Bool) (i k : Nat) : Int :=
  if (zs.getD (i * C + k) 0 = 0 ∧ xs.contains (aro zs R C rd i k) = true) ∨ (zs.getD (i * C + k) 0 = 1 ∧ ys.contains (aro zs R C rd i k) = true) then 1 else 0
/-- The next field. -/
def lifeL (xs ys zs : List Int) (R C : Nat) (rd : Bool) : List Int := grid R C (nxt xs ys zs R C rd)
theorem plain_bd {zs : List Int} (h : plainB zs = true) (j : Nat) : 0 ≤ zs.getD j 0 ∧ zs.getD j 0 ≤ 1 := by
  by_cases hj : j < zs.length
  · have := List.all_eq_true.1 h (zs.getD j 0) (by rw [List.getD_eq_getElem?_getD, List.getElem?_eq_getElem hj]; exact List.getElem_mem hj)
    simpa using this
  · rw [List.getD_eq_getElem?_getD, List.getElem?_eq_none (by omega)]
    simp
theorem fr_bd {zs : List Int} (h : plainB zs = true) (R C : Nat) (rd : Bool) (i k : Int) : 0 ≤ fr zs R C rd i k ∧ fr zs R C rd i k ≤ 1 := by
  unfold fr
  split
  · exact plain_bd h _
  · omega
theorem nb_bd {zs : List Int} (h : plainB zs = true) (R C : Nat) (rd : Bool) (i k : Int) (j : Nat) : 0 ≤ nb zs R C rd i k j ∧ nb zs R C rd i k j ≤ 1 := by
  unfold nb
  split
  · omega
  · exact fr_bd h _ _ _ _ _
theorem psum_bd {zs : List Int} (h : plainB zs = true) (R C : Nat) (rd : Bool) (i k : Int) (j : Nat) : 0 ≤ psum zs R C rd i k j ∧ psum zs R C rd i k j ≤ j := by
  induction j with
  | zero => simp [psum]
  | succ j ih => have := nb_bd h R C rd i k j; simp only [psum]; omega
theorem aro_bd {zs : List Int} (h : plainB zs = true) (R C : Nat) (rd : Bool) (i k : Int) : 0 ≤ aro zs R C rd i k ∧ aro zs R C rd i k ≤ 8 := by
  have h8 : aro zs R C rd i k = psum zs R C rd i k 4 + (nb zs R C rd i k 5 + nb zs R C rd i k 6 + nb zs R C rd i k 7 + nb zs R C rd i k 8) := by
    simp [aro, psum, nb]; omega
  have a := psum_bd h R C rd i k 4
  have b5 := nb_bd h R C rd i k 5
  have b6 := nb_bd h R C rd i k 6
  have b7 := nb_bd h R C rd i k 7
  have b8 := nb_bd h R C rd i k 8
  omega
theorem aro_eq (zs : List Int) (R C : Nat) (rd : Bool) (i k : Int) : aro zs R C rd i k = fr zs R C rd (i - 1) (k - 1) + fr zs R C rd (i - 1) k + fr zs R C rd (i - 1) (k + 1) + fr zs R C rd i (k - 1) + fr zs R C rd i (k + 1) + fr zs R C rd (i + 1) (k - 1) + fr zs R C rd (i + 1) k + fr zs R C rd (i + 1) (k + 1) := by
  simp only [aro, psum, nb]
  simp [show i - 1 + 1 = i by omega, show k - 1 + 1 = k by omega, show i - 1 + 2 = i + 1 by omega, show k - 1 + 2 = k + 1 by omega]
theorem nb_at (zs : List Int) (R C : Nat) (rd : Bool) (i k : Int) {p q : Nat} (hq : q < 3) (h : ¬ (p = 1 ∧ q = 1)) : nb zs R C rd i k (3 * p + q) = fr zs R C rd (i - 1 + (p : Int)) (k - 1 + (q : Int)) := by
  unfold nb
  rw [if_neg (by omega), show (3 * p + q) / 3 = p by omega, show (3 * p + q) % 3 = q by omega]

set_option maxHeartbeats 2000000 in
theorem l04Has {w : World} {b : Nat} {v : Value} {zs : List Int} {x : Int} (h : Rd w b v zs) :
    Calls Tryd.prog 38 #[v, .int .i64 x] w fun e w' => e = .returned (.bool (zs.contains x)) ∧ ∃ m, w' = w.drewN m := by
  obtain ⟨ao, cap, rfl, hc, hm, h4⟩ := h
  have hsz : zs.length ≤ cap ∧ cap ≤ 9223372036854775807 := by unfold maxLen at hm; omega
  have H4 := hid h4
  obtain ⟨Q, hQ⟩ : ∃ Q, Q = zs.contains x := ⟨_, rfl⟩
  rw [← hQ]
  have HQ := hid hQ
  clear hc hm h4 hQ
  go_enter Tryd.func38, Tryd.ntmps38
  go_wp2
  go_loopw [5] (fun i wr => ∃ p : Nat, p ≤ zs.length ∧ i = .int .i64 p ∧ (∀ j, j < p → zs.getD j 0 ≠ x) ∧ ∃ m, wr = w.drewN m) (fun i _ => zs.length - (intOf i).toNat)
  case atStart => exact ⟨0, Nat.zero_le _, rfl, fun j hj => by omega, 0, rfl⟩
  case round =>
    obtain ⟨p, hp, rfl, hall, m, hwr⟩ := hrel
    by_cases hlt : p < zs.length
    · obtain ⟨off, hao, hb, hcell⟩ := H4.out (by omega)
      subst hao
      obtain ⟨y, hy⟩ : ∃ y, y = zs.getD p 0 := ⟨_, rfl⟩
      have hcx : wr.cell? ⟨b, off + p, none⟩ = some (.int .i64 y) := by rw [hwr, hy]; exact hcell p hlt
      have HA := hid hall
      have HWR := hid hwr
      have hpi : (p : Int) < (zs.length : Int) := by omega
      by_cases hyx : y = x
      · have hd : decide (y = x) = true := by simp [hyx]
        have HY := hid (And.intro hy hyx)
        have HC : Hid (zs.contains x = true) := by
          have hm' : zs.getD p 0 ∈ zs := by rw [List.getD_eq_getElem?_getD, List.getElem?_eq_getElem hlt]; exact List.getElem_mem hlt
          rw [← hy, hyx] at hm'
          show zs.contains x = true
          simpa using hm'
        clear hall hwr hy hcell
        go_wp2
        go_ret
        exact ⟨by rw [HQ.out, HC.out]; rfl, m, HWR.out⟩
      · have hd : decide (y = x) = false := by simp [hyx]
        have HY := hid (And.intro hy hyx)
        clear hall hwr hy hcell
        go_wp2
        go_roundw
        case rel =>
          refine ⟨p + 1, by omega, by go_num, fun j hj => ?_, m, HWR.out⟩
          by_cases hjp : j = p
          · rw [hjp, ← HY.out.1]; exact HY.out.2
          · exact HA.out j (by omega)
        case measure => simp [intOf]; omega
    · have hpC : zs.length = p := by omega
      have HC : Hid (zs.contains x = false) := by
        simp only [Hid]
        rw [Bool.eq_false_iff]
        intro hc
        have hc2 : x ∈ zs := by simpa using hc
        obtain ⟨j, hj, hjx⟩ := List.mem_iff_getElem.1 hc2
        exact hall j (by omega) (by rw [List.getD_eq_getElem?_getD, List.getElem?_eq_getElem hj]; exact hjx)
      have HWR := hid hwr
      clear hall hwr
      go_wp2
      go_ret
      exact ⟨by rw [HQ.out, HC.out]; rfl, m, HWR.out⟩

end Go.Proofs.YthcbhbdgbiiagaaDoor.Lf
