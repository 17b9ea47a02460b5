/- spec.l04Beside: the places of the four neighbours that are within the field. -/
import Derived.Test.YtmbimekndhcgaaaDoorApp
import Derived.Test.YtmbimekndhcgaaaDoorFNew
import Derived.Test.YtmbimekndhcgaaaDoorGrow

import Derived.Deep.Cut
namespace Go.Proofs.YtmbimekndhcgaaaDoor.Sbe
open Go.RowKit Go.Proofs.YtmbimekndhcgaaaDoor.Rd Go.Proofs.YtmbimekndhcgaaaDoor.Help Go.Proofs.YtmbimekndhcgaaaDoor.Small Go.Proofs.YtmbimekndhcgaaaDoor.FVal Go.Proofs.YtmbimekndhcgaaaDoor.Keep Go.Proofs.YtmbimekndhcgaaaDoor.Rule Go.Proofs.YtmbimekndhcgaaaDoor.Grow Go.Proofs.YtmbimekndhcgaaaDoor.App
set_option linter.unusedVariables false
set_option linter.unusedSimpArgs false

def sb (c : Prop) [Decidable c] (y : Nat) (L : List Nat) : List Nat := if c then L ++ [y] else L
theorem sb_yes {c : Prop} [Decidable c] (h : c) (y : Nat) (L : List Nat) : sb c y L = L ++ [y] := if_pos h
theorem sb_no {c : Prop} [Decidable c] (h : ¬ c) (y : Nat) (L : List Nat) : sb c y L = L := if_neg h
def s1 (C A : Nat) : List Nat := sb (0 < A / C) (A - C) []
def s2 (R C A : Nat) : List Nat := sb (A / C + 1 < R) (A + C) (s1 C A)
def s3 (R C A : Nat) : List Nat := sb (0 < A % C) (A - 1) (s2 R C A)
/-- The places of those neighbours of A that are within. -/
def sbL (R C A : Nat) : List Nat := sb (A % C + 1 < C) (A + 1) (s3 R C A)
theorem sb_len {c : Prop} [Decidable c] (y : Nat) (L : List Nat) : (sb c y L).length ≤ L.length + 1 := by unfold sb; split <;> simp
theorem s1_len (C A : Nat) : (s1 C A).length ≤ 1 := sb_len _ _
theorem s2_len (R C A : Nat) : (s2 R C A).length ≤ 2 := Nat.le_trans (sb_len _ _) (by have := s1_len C A; omega)
theorem s3_len (R C A : Nat) : (s3 R C A).length ≤ 3 := Nat.le_trans (sb_len _ _) (by have := s2_len R C A; omega)
theorem sbL_len (R C A : Nat) : (sbL R C A).length ≤ 4 := Nat.le_trans (sb_len _ _) (by have := s3_len R C A; omega)
def ints (L : List Nat) : List Int := L.map (fun (x : Nat) => (x : Int))
theorem ints_app (L : List Nat) (y : Nat) : ints (L ++ [y]) = ints L ++ [(y : Int)] := by simp [ints]
theorem ints_len (L : List Nat) : (ints L).length = L.length := by simp [ints]
def OwR (B : Nat) (w : World) (v : Value) (L : List Nat) : Prop := w.ownsRow B 2 1 v (ints L).length ((ints L).map (Value.int .i64))
theorem OwR.raw {B : Nat} {w : World} {v : Value} {L : List Nat} (h : OwR B w v L) : w.ownsRow B 2 1 v (ints L).length ((ints L).map (Value.int .i64)) := h
theorem OwR.snoc {B : Nat} {w : World} {v : Value} {L : List Nat} {x : Int} {y : Nat} (h : w.ownsRow B 2 1 v ((ints L).length + 1) ((ints L).map (Value.int .i64) ++ [Value.int .i64 x])) (e : x = (y : Int)) : OwR B w v (L ++ [y]) := by
  unfold OwR; rw [ints_app, ← e, List.length_append, List.map_append]; exact h

end Go.Proofs.YtmbimekndhcgaaaDoor.Sbe
