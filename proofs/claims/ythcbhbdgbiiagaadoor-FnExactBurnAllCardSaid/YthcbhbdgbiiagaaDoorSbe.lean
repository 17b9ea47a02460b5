/- spec.l04Beside: the places of the four neighbours that are within the field. -/
import Derived.Test.YthcbhbdgbiiagaaDoorApp
import Derived.Test.YthcbhbdgbiiagaaDoorFNew
import Derived.Test.YthcbhbdgbiiagaaDoorGrow

import Derived.Deep.Cut
namespace Go.Proofs.YthcbhbdgbiiagaaDoor.Sbe
open Go.RowKit Go.Proofs.YthcbhbdgbiiagaaDoor.Rd Go.Proofs.YthcbhbdgbiiagaaDoor.Help Go.Proofs.YthcbhbdgbiiagaaDoor.Small Go.Proofs.YthcbhbdgbiiagaaDoor.FVal Go.Proofs.YthcbhbdgbiiagaaDoor.Keep Go.Proofs.YthcbhbdgbiiagaaDoor.Rule Go.Proofs.YthcbhbdgbiiagaaDoor.Grow Go.Proofs.YthcbhbdgbiiagaaDoor.App
set_option linter.unusedVariables false
set_option linter.unusedSimpArgs false

def sb (c : Prop) [Decidable c] (y : Nat) (L : List Nat) : List Nat := if c then L ++ [y] else L
theorem sb_yes {c : Prop} [Decidable c] (h : c) (y : Nat) (L : List Nat) : sb c y L = L ++ [y] := if_pos h
theorem sb_no {c : Prop} [Decidable c] (h : ¬ c) (y : Nat) (L : List Nat) : sb c y L = L := if_neg h
def s1 (C A : Nat) : List Nat := sb (0 < A / C) (A - C) []
def s2 (R C A : Nat) : List Nat := sb (A / C + 1 < R) (A + C) (s1 C A)
def s3 (R C A : Nat) : List Nat := sb (0 < A % C) (A - 1) (s2 R C A)
/-- The places of those neighbours of A that are within. -/
def sbL (R C A : Nat) : List Nat := sb (A % C + 1 < C) (A + 1) (s3 R C A)
theorem sb_len {c : Prop} [Decidable c] (y : Nat) (L : List Nat) : (sb c y L).length ≤ L.length + 1 := by unfold sb; split <;> simp
theorem s1_len (C A : Nat) : (s1 C A).length ≤ 1 := sb_len _ _
theorem s2_len (R C A : Nat) : (s2 R C A).length ≤ 2 := Nat.le_trans (sb_len _ _) (by have := s1_len C A; omega)
theorem s3_len (R C A : Nat) : (s3 R C A).length ≤ 3 := Nat.le_trans (sb_len _ _) (by have := s2_len R C A; omega)
theorem sbL_len (R C A : Nat) : (sbL R C A).length ≤ 4 := Nat.le_trans (sb_len _ _) (by have := s3_len R C A; omega)
def ints (L : List Nat) : List Int := L.map (fun (x : Nat) => (x : Int))
theorem ints_app (L : List Nat) (y : Nat) : ints (L ++ [y]) = ints L ++ [(y : Int)] := by simp [ints]
theorem ints_len (L : List Nat) : (ints L).length = L.length := by simp [ints]
def OwR (B : Nat) (w : World) (v : Value) (L : List Nat) : Prop := w.ownsRow B 2 1 v (ints L).length ((ints L).map (Value.int .i64))
theorem OwR.raw {B : Nat} {w : World} {v : Value} {L : List Nat} (h : OwR B w v L) : w.ownsRow B 2 1 v (ints L).length ((ints L).map (Value.int .i64)) := h
theorem OwR.snoc {B : Nat} {w : World} {v : Value} {L : List Nat} {x : Int} {y : Nat} (h : w.ownsRow B 2 1 v ((ints L).length + 1) ((ints L).map (Value.int .i64) ++ [Value.int .i64 x])) (e : x = (y : Int)) : OwR B w v (L ++ [y]) := by
  unfold OwR; rw [ints_app, ← e, List.length_append, List.map_append]; exact h

set_option maxHeartbeats 4000000 in
theorem l04Beside {w : World} {g R C A : Nat} (c0 : w.cell? ⟨g, 0, none⟩ = some (.int .i64 (R : Int))) (c1 : w.cell? ⟨g, 1, none⟩ = some (.int .i64 (C : Int))) (hR : 1 ≤ R ∧ R ≤ 24) (hC : 1 ≤ C ∧ C ≤ 24) (hA : A < R * C) :
    Calls Tryd.prog 51 #[.pointer (some ⟨g, 0, none⟩), .int .i64 (A : Int)] w fun e w' => ∃ v b, e = .returned v ∧ Rd.Own 2 w' b v (ints (sbL R C A)) ∧ w.heap.size ≤ b ∧ Below w.heap.size w w' := by
  have hA5 : A < 576 := Nat.lt_of_lt_of_le hA (Nat.mul_le_mul hR.2 hC.2)
  obtain ⟨q, hq⟩ : ∃ q, q = A / C := ⟨_, rfl⟩
  obtain ⟨m, hm⟩ : ∃ m, m = A % C := ⟨_, rfl⟩
  have hqb : q < 24 := by rw [hq]; exact Nat.lt_of_lt_of_le (Nat.div_lt_of_lt_mul (by rw [Nat.mul_comm]; exact hA)) hR.2
  have hmb : m < 24 := by rw [hm]; exact Nat.lt_of_lt_of_le (Nat.mod_lt _ (by omega)) hC.2
  have hqA : 0 < q → C ≤ A := fun h => by
    rw [hq] at h
    exact Nat.le_of_not_lt (fun h2 => by rw [Nat.div_eq_of_lt h2] at h; omega)
  have hmA : m ≤ A := by rw [hm]; exact Nat.mod_le _ _
  have eq : (A : Int) / (C : Int) = (q : Int) := by rw [hq]; exact (Int.natCast_ediv A C).symm
  have em : (A : Int) % (C : Int) = (m : Int) := by rw [hm]; exact (Int.natCast_emod A C).symm
  have HQ := hid hq
  have HM := hid hm
  have HC := hid (And.intro c0 c1)
  have hC0 : ¬ (C : Int) = 0 := by omega
  clear hA hq hm
  go_enter Tryd.func51, Tryd.ntmps51
  go_upto_if 22 with fail
  have hrow := World.ownsRow_lit (base := w.heap.size) (e := 2) (size := 1) w #[] 0 (Nat.le_refl _) (by simp) (by simp)
  obtain ⟨w1, hW⟩ : ∃ w1, w1 = w.alloc (Obj.cells #[] 2) := ⟨_, rfl⟩
  obtain ⟨NB, hB⟩ : ∃ NB, NB = w.heap.size := ⟨_, rfl⟩
  have hS : Below w.heap.size w w1 ∧ OwR w.heap.size w1 (.slice (some ⟨NB, 0, none⟩) 0 0) ([]) ∧ w1.cell? ⟨g, 0, none⟩ = some (.int .i64 (R : Int)) ∧ w1.cell? ⟨g, 1, none⟩ = some (.int .i64 (C : Int)) := by
    rw [hW, hB]
    exact ⟨below1 _ _, hrow, cell_keep (below1 _ _) HC.out.1, cell_keep (below1 _ _) HC.out.2⟩
  simp only [← hW, ← hB]
  try simp only [em]
  clear hW hB hrow c0 c1
  go_cut [7] from 8 (fun v wc => Below w.heap.size w wc ∧ OwR w.heap.size wc v (s1 C A) ∧ wc.cell? ⟨g, 0, none⟩ = some (.int .i64 (R : Int)) ∧ wc.cell? ⟨g, 1, none⟩ = some (.int .i64 (C : Int)))
  case first =>
    have HS := hid hS
    have HO := hid (OwR.raw hS.2.1)
    have c0 := HS.out.2.2.1
    have c1 := HS.out.2.2.2
    clear hS
    by_cases hc : 0 < q
    · have HY : Hid (sb (0 < A / C) (A - C) ([]) = [] ++ [A - C]) := sb_yes (by rw [← HQ.out]; exact hc) _ _
      have hCA := hqA hc
      go_wp2_with (at_builtin; refine append1 rfl _ _ rfl w.heap.size _ _ rfl HO.out _ rfl ?c1 ?c2 ?_)
      case c1 => rw [ints_len]; have := (show ([] : List Nat).length ≤ 1 by simp); omega
      case c2 => exact HS.out.1.size
      intro v' w5 hown5 hbel5
      have bel5 := HS.out.1.trans hbel5
      have ow5 : OwR w.heap.size w5 v' (s1 C A) := by
        show OwR w.heap.size w5 v' (sb (0 < A / C) (A - C) ([]))
        rw [HY.out]
        exact OwR.snoc hown5 (by omega)
      have HF := hid (And.intro bel5 (And.intro ow5 (And.intro (cell_keep bel5 HC.out.1) (cell_keep bel5 HC.out.2))))
      clear bel5 ow5 hown5 hbel5 c0 c1
      go_wp2_with fail
      go_meet
      case rel => exact HF.out
    · have HY : Hid (sb (0 < A / C) (A - C) ([]) = []) := sb_no (by rw [← HQ.out]; exact hc) _ _
      go_wp2_with fail
      go_meet
      case rel =>
        refine ⟨HS.out.1, ?_, HS.out.2.2.1, HS.out.2.2.2⟩
        show OwR w.heap.size _ _ (sb (0 < A / C) (A - C) ([]))
        rw [HY.out]
        exact HS.out.2.1
  case rest =>
    have hS := hcut
    have c0 := hS.2.2.1
    have c1 := hS.2.2.2
    clear hcut
    go_upto_if 38 with fail
    clear c0 c1
    go_cut [7] from 8 (fun v wc => Below w.heap.size w wc ∧ OwR w.heap.size wc v (s2 R C A) ∧ wc.cell? ⟨g, 0, none⟩ = some (.int .i64 (R : Int)) ∧ wc.cell? ⟨g, 1, none⟩ = some (.int .i64 (C : Int)))
    case first =>
      have HS := hid hS
      have HO := hid (OwR.raw hS.2.1)
      have c0 := HS.out.2.2.1
      have c1 := HS.out.2.2.2
      clear hS
      by_cases hc : q + 1 < R
      · have HY : Hid (sb (A / C + 1 < R) (A + C) (s1 C A) = s1 C A ++ [A + C]) := sb_yes (by rw [← HQ.out]; exact hc) _ _
        skip
        go_wp2_with (at_builtin; refine append1 rfl _ _ rfl w.heap.size _ _ rfl HO.out _ rfl ?c1 ?c2 ?_)
        case c1 => rw [ints_len]; have := s1_len C A; omega
        case c2 => exact HS.out.1.size
        intro v' w5 hown5 hbel5
        have bel5 := HS.out.1.trans hbel5
        have ow5 : OwR w.heap.size w5 v' (s2 R C A) := by
          show OwR w.heap.size w5 v' (sb (A / C + 1 < R) (A + C) (s1 C A))
          rw [HY.out]
          exact OwR.snoc hown5 (by omega)
        have HF := hid (And.intro bel5 (And.intro ow5 (And.intro (cell_keep bel5 HC.out.1) (cell_keep bel5 HC.out.2))))
        clear bel5 ow5 hown5 hbel5 c0 c1
        go_wp2_with fail
        go_meet
        case rel => exact HF.out
      · have HY : Hid (sb (A / C + 1 < R) (A + C) (s1 C A) = s1 C A) := sb_no (by rw [← HQ.out]; exact hc) _ _
        go_wp2_with fail
        go_meet
        case rel =>
          refine ⟨HS.out.1, ?_, HS.out.2.2.1, HS.out.2.2.2⟩
          show OwR w.heap.size _ _ (sb (A / C + 1 < R) (A + C) (s1 C A))
          rw [HY.out]
          exact HS.out.2.1
    case rest =>
      have hS := hcut
      have c0 := hS.2.2.1
      have c1 := hS.2.2.2
      clear hcut
      go_upto_if 49 with fail
      clear c0 c1
      go_cut [7] from 8 (fun v wc => Below w.heap.size w wc ∧ OwR w.heap.size wc v (s3 R C A) ∧ wc.cell? ⟨g, 0, none⟩ = some (.int .i64 (R : Int)) ∧ wc.cell? ⟨g, 1, none⟩ = some (.int .i64 (C : Int)))
      case first =>
        have HS := hid hS
        have HO := hid (OwR.raw hS.2.1)
        have c0 := HS.out.2.2.1
        have c1 := HS.out.2.2.2
        clear hS
        by_cases hc : 0 < m
        · have HY : Hid (sb (0 < A % C) (A - 1) (s2 R C A) = s2 R C A ++ [A - 1]) := sb_yes (by rw [← HM.out]; exact hc) _ _
          skip
          go_wp2_with (at_builtin; refine append1 rfl _ _ rfl w.heap.size _ _ rfl HO.out _ rfl ?c1 ?c2 ?_)
          case c1 => rw [ints_len]; have := s2_len R C A; omega
          case c2 => exact HS.out.1.size
          intro v' w5 hown5 hbel5
          have bel5 := HS.out.1.trans hbel5
          have ow5 : OwR w.heap.size w5 v' (s3 R C A) := by
            show OwR w.heap.size w5 v' (sb (0 < A % C) (A - 1) (s2 R C A))
            rw [HY.out]
            exact OwR.snoc hown5 (by omega)
          have HF := hid (And.intro bel5 (And.intro ow5 (And.intro (cell_keep bel5 HC.out.1) (cell_keep bel5 HC.out.2))))
          clear bel5 ow5 hown5 hbel5 c0 c1
          go_wp2_with fail
          go_meet
          case rel => exact HF.out
        · have HY : Hid (sb (0 < A % C) (A - 1) (s2 R C A) = s2 R C A) := sb_no (by rw [← HM.out]; exact hc) _ _
          go_wp2_with fail
          go_meet
          case rel =>
            refine ⟨HS.out.1, ?_, HS.out.2.2.1, HS.out.2.2.2⟩
            show OwR w.heap.size _ _ (sb (0 < A % C) (A - 1) (s2 R C A))
            rw [HY.out]
            exact HS.out.2.1
      case rest =>
        have hS := hcut
        have c0 := hS.2.2.1
        have c1 := hS.2.2.2
        clear hcut
        go_upto_if 61 with fail
        clear c0 c1
        go_cut [7] from 8 (fun v wc => Below w.heap.size w wc ∧ OwR w.heap.size wc v (sbL R C A) ∧ wc.cell? ⟨g, 0, none⟩ = some (.int .i64 (R : Int)) ∧ wc.cell? ⟨g, 1, none⟩ = some (.int .i64 (C : Int)))
        case first =>
          have HS := hid hS
          have HO := hid (OwR.raw hS.2.1)
          have c0 := HS.out.2.2.1
          have c1 := HS.out.2.2.2
          clear hS
          by_cases hc : m + 1 < C
          · have HY : Hid (sb (A % C + 1 < C) (A + 1) (s3 R C A) = s3 R C A ++ [A + 1]) := sb_yes (by rw [← HM.out]; exact hc) _ _
            skip
            go_wp2_with (at_builtin; refine append1 rfl _ _ rfl w.heap.size _ _ rfl HO.out _ rfl ?c1 ?c2 ?_)
            case c1 => rw [ints_len]; have := s3_len R C A; omega
            case c2 => exact HS.out.1.size
            intro v' w5 hown5 hbel5
            have bel5 := HS.out.1.trans hbel5
            have ow5 : OwR w.heap.size w5 v' (sbL R C A) := by
              show OwR w.heap.size w5 v' (sb (A % C + 1 < C) (A + 1) (s3 R C A))
              rw [HY.out]
              exact OwR.snoc hown5 (by omega)
            have HF := hid (And.intro bel5 (And.intro ow5 (And.intro (cell_keep bel5 HC.out.1) (cell_keep bel5 HC.out.2))))
            clear bel5 ow5 hown5 hbel5 c0 c1
            go_wp2_with fail
            go_meet
            case rel => exact HF.out
          · have HY : Hid (sb (A % C + 1 < C) (A + 1) (s3 R C A) = s3 R C A) := sb_no (by rw [← HM.out]; exact hc) _ _
            go_wp2_with fail
            go_meet
            case rel =>
              refine ⟨HS.out.1, ?_, HS.out.2.2.1, HS.out.2.2.2⟩
              show OwR w.heap.size _ _ (sb (A % C + 1 < C) (A + 1) (s3 R C A))
              rw [HY.out]
              exact HS.out.2.1
        case rest =>
          have hS := hcut
          have c0 := hS.2.2.1
          have c1 := hS.2.2.2
          clear hcut
          go_wp2
          go_ret
          obtain ⟨b, hb, ho⟩ := Own.of (by first | exact hS.2.1 | assumption)
          exact ⟨_, b, rfl, ho, hb, hS.1⟩

end Go.Proofs.YthcbhbdgbiiagaaDoor.Sbe
