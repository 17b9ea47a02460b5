/- For every text, impl.IsName answers as the model of the document does, and changes nothing that it is given. -/
import Derived.Test.YthcbhbdgbiiagaaHelp
import Derived.WalkKit
import Derived.WalkLawsBesides
import Derived.ProofKit
import Derived.OpenShut
import Derived.ShutString
import Derived.ChangeOld
import Derived.Below
import Derived.IntWalk
import Derived.Lib.Hide
namespace Go.Proofs.Ythcbhbdgbiiagaa.Nam
open Go.ChangeShapes Go.WideShapes Go.ChangeAt Go.RowKit
open Go.ChangeMaps (open_string shut_string)
set_option linter.unusedVariables false
def okB (b : UInt8) : Bool := decide (97 ≤ b.toNat ∧ b.toNat ≤ 122)
def nmB (s : ByteArray) : Bool := s.data.toList.all okB && decide (1 ≤ s.size) && decide (s.size ≤ 8)
theorem mem_of (s : ByteArray) (k : Nat) (h : k < s.size) : s[k] ∈ s.data.toList := by
  have : s.data.toList[k]'(by simpa using h) = s[k] := rfl
  rw [← this]; exact List.getElem_mem _
theorem nm_bad (s : ByteArray) (k : Nat) (h : k < s.size) (hb : ¬ (97 ≤ s[k].toNat ∧ s[k].toNat ≤ 122)) : nmB s = false := by
  have : s.data.toList.all okB = false := by
    rw [List.all_eq_false]
    exact ⟨s[k], mem_of s k h, by unfold okB; rw [decide_eq_false hb]; exact Bool.false_ne_true⟩
  simp [nmB, this]
theorem nm_len (s : ByteArray) (h : s.size < 1 ∨ 8 < s.size) : nmB s = false := by
  unfold nmB
  rcases h with h | h
  · have : decide (1 ≤ s.size) = false := decide_eq_false (by omega)
    simp [this]
  · have : decide (s.size ≤ 8) = false := decide_eq_false (by omega)
    simp [this]
theorem all_of (s : ByteArray) (h : ∀ j (hj : j < s.size), 97 ≤ s[j].toNat ∧ s[j].toNat ≤ 122) : s.data.toList.all okB = true := by
  rw [List.all_eq_true]
  intro b hb
  obtain ⟨j, hj, rfl⟩ := List.getElem_of_mem hb
  have hj' : j < s.size := by simpa using hj
  have := h j hj'
  exact decide_eq_true this
theorem nm_good (s : ByteArray) (h : ∀ j (hj : j < s.size), 97 ≤ s[j].toNat ∧ s[j].toNat ≤ 122) (h1 : 1 ≤ s.size) (h2 : s.size ≤ 8) : nmB s = true := by
  simp [nmB, all_of s h, h1, h2]
/-- The first 'k' bytes are letters. -/
def Good (s : ByteArray) (k : Nat) : Prop := ∀ j (hj : j < s.size), j < k → 97 ≤ s[j].toNat ∧ s[j].toNat ≤ 122
theorem good_zero (s : ByteArray) : Good s 0 := fun j hj h => absurd h (by omega)
theorem good_succ {s : ByteArray} {k : Nat} (h : Good s k) (hk : k < s.size) (hb : 97 ≤ s[k].toNat ∧ s[k].toNat ≤ 122) : Good s (k + 1) := by
  intro j hj hlt
  by_cases e : j = k
  · subst e; exact hb
  · exact h j hj (by omega)
theorem ret_bool {a b : Bool} (h : a = b) : Ending.returned (.bool a) = .returned (.bool b) := by rw [h]

set_option maxHeartbeats 400000 in
theorem implCall (s : ByteArray) (w : World) (hs : s.size ≤ maxLen) :
    Calls Try.prog 94 #[.string s] w fun e w' => e = .returned (.bool (nmB s)) ∧ Below w.heap.size w w' := by
  unfold maxLen at hs
  by_cases hl : s.size < 1 ∨ 8 < s.size
  · rw [nm_len s hl]
    rcases hl with hl | hl
    · go_enter Try.func94, Try.ntmps94
      go_wp2
      go_ret
      exact ⟨rfl, Below.refl _ _⟩
    · have hl1 : 1 ≤ s.size := by omega
      have hg : decide (s.size < 1) = false := decide_eq_false (by omega)
      go_enter Try.func94, Try.ntmps94
      go_wp2
      go_ret
      exact ⟨rfl, Below.refl _ _⟩
  · have hl1 : 1 ≤ s.size := by omega
    have hl2 : s.size ≤ 8 := by omega
    have hg : decide (s.size < 1) = false := decide_eq_false (by omega)
    have hg2 : decide (8 < s.size) = false := decide_eq_false (by omega)
    clear hl
    go_enter Try.func94, Try.ntmps94
    go_wp2
    clear hg hg2
    go_loopw [4] (fun _ wr => ∃ pos : Nat, pos ≤ s.size ∧ wr = w.iter s pos ∧ Good s pos) (fun _ wr => s.size - wr.iterPos w.heap.size)
    case atStart => exact ⟨0, Nat.zero_le _, rfl, good_zero s⟩
    case round =>
      obtain ⟨pos, hk, rfl, hgood⟩ := hrel
      have HG := Lib.hid hgood
      clear hgood
      by_cases hlt : pos < s.size
      · by_cases hb : 97 ≤ s[pos].toNat ∧ s[pos].toNat ≤ 122
        · have hnx := fun ty => run_next_ascii (P := Try.prog) w s pos ty hlt (by omega)
          obtain ⟨hb1, hb2⟩ := hb
          have hc1 : decide ((s[pos].toNat : Int) < 97) = false := decide_eq_false (by omega)
          have hc2 : decide ((122 : Int) < (s[pos].toNat : Int)) = false := decide_eq_false (by omega)
          go_wp2
          go_roundw
          case rel => exact ⟨pos + 1, by omega, rfl, good_succ HG.out hlt ⟨hb1, hb2⟩⟩
          case measure => simp; omega
        · have HB := Lib.hid (nm_bad s pos hlt hb)
          have hr : (Utf8.decode s pos).1 < 97 ∨ 122 < (Utf8.decode s pos).1 := by
            by_cases h128 : s[pos].toNat < 128
            · rw [decode_ascii s pos hlt h128]; simp; omega
            · have := (decode_high s pos hlt (by omega)).1; omega
          have hnx := fun ty => run_next_any (P := Try.prog) w s pos ty hlt
          generalize (Utf8.decode s pos).1 = r at hr hnx
          generalize (Utf8.decode s pos).2 = wd at hnx
          clear hb
          rcases hr with hr | hr
          · go_wp2
            go_ret
            exact ⟨ret_bool HB.out.symm, (Below.refl _ _).alloc (Nat.le_refl _) _⟩
          · have hc1 : decide ((r : Int) < 97) = false := decide_eq_false (by omega)
            go_wp2
            go_ret
            exact ⟨ret_bool HB.out.symm, (Below.refl _ _).alloc (Nat.le_refl _) _⟩
      · have HB := Lib.hid (nm_good s (fun j hj => HG.out j hj (by omega)) hl1 hl2)
        have hnx := fun ty => run_next_end (P := Try.prog) w s pos ty hlt
        go_wp2
        go_ret
        exact ⟨ret_bool HB.out.symm, (Below.refl _ _).alloc (Nat.le_refl _) _⟩

set_option maxHeartbeats 400000 in
theorem savedCall (s : ByteArray) (w : World) (hs : s.size ≤ maxLen) :
    Calls Try.prog 120 #[.string s] w fun e w' => e = .returned (.bool (nmB s)) ∧ w = w' := by
  unfold maxLen at hs
  go_enter Try.func120, Try.ntmps120
  go_wp2
  go_loop [3] (fun i => ∃ k : Nat, k ≤ s.size ∧ i = .int .i64 k ∧ Good s k) (fun i => s.size - (intOf i).toNat)
  case atStart => exact ⟨0, Nat.zero_le _, rfl, good_zero s⟩
  case round =>
    obtain ⟨k, hk, rfl, hgood⟩ := hrel
    have HG := Lib.hid hgood
    clear hgood
    by_cases hlt : k < s.size
    · by_cases hb : 97 ≤ s[k].toNat ∧ s[k].toNat ≤ 122
      · obtain ⟨hb1, hb2⟩ := hb
        have hc1 : decide ((s[k].toNat : Int) < 97) = false := decide_eq_false (by omega)
        have hc2 : decide ((122 : Int) < (s[k].toNat : Int)) = false := decide_eq_false (by omega)
        go_wp2
        go_round
        case rel => exact ⟨k + 1, by omega, by go_num, good_succ HG.out hlt ⟨hb1, hb2⟩⟩
        case measure => simp [intOf]; omega
      · have HB := Lib.hid (nm_bad s k hlt hb)
        by_cases hr : s[k].toNat < 97
        · clear hb
          have hc1 : decide ((s[k].toNat : Int) < 97) = true := decide_eq_true (by omega)
          go_wp2
          go_ret
          exact ⟨ret_bool HB.out.symm, rfl⟩
        · have hr2 : 122 < s[k].toNat := by omega
          clear hb
          have hc1 : decide ((s[k].toNat : Int) < 97) = false := decide_eq_false (by omega)
          have hc2 : decide ((122 : Int) < (s[k].toNat : Int)) = true := decide_eq_true (by omega)
          go_wp2
          go_ret
          exact ⟨ret_bool HB.out.symm, rfl⟩
    · by_cases hl : s.size < 1 ∨ 8 < s.size
      · have HB := Lib.hid (nm_len s hl)
        rcases hl with hl | hl
        · have hg : decide (1 ≤ s.size) = false := decide_eq_false (by omega)
          go_wp2
          go_ret
          exact ⟨ret_bool HB.out.symm, rfl⟩
        · have hg : decide (1 ≤ s.size) = true := decide_eq_true (by omega)
          go_wp2
          go_ret
          exact ⟨ret_bool ((decide_eq_false (by omega)).trans HB.out.symm), rfl⟩
      · have HB := Lib.hid (nm_good s (fun j hj => HG.out j hj (by omega)) (by omega) (by omega))
        have hg : decide (1 ≤ s.size) = true := decide_eq_true (by omega)
        go_wp2
        go_ret
        exact ⟨ret_bool ((decide_eq_true (by omega)).trans HB.out.symm), rfl⟩


end Go.Proofs.Ythcbhbdgbiiagaa.Nam
