/- The helpers of the laws over lists of numbers: copies, comparisons, marks. -/
import Derived.Test.YtlecpilgimiaaaaRows
import Derived.Test.YtlecpilgimiaaaaRd
import Derived.WalkKit
import Derived.WalkLawsBesides
import Derived.IntWalk
import Derived.Deep.OwnRows
import Derived.Deep.Draws
import Derived.Deep.QuietTactic
import Derived.BigQuiet
namespace Go.Proofs.Ytlecpilgimiaaaa.Help
open Go.RowKit Go.Proofs.Ytlecpilgimiaaaa.Rd
set_option linter.unusedVariables false

theorem infoI : (Try.prog.info? 2).map (fun i => (i.zero, i.size, i.bytes)) = some (some (.int .i64 0), 1, 8) := by kernel_rfl

theorem set_part (zs : List Int) (k : Nat) (h : k < zs.length) :
    (zs.take k ++ List.replicate (zs.length - k) 0).set k (zs.getD k 0) = zs.take (k + 1) ++ List.replicate (zs.length - (k + 1)) 0 := by
  apply List.ext_getElem?
  intro j
  rw [List.getElem?_set]
  by_cases hj : k = j
  · subst hj
    have e1 : (zs.take k).length = k := by simp; omega
    have e2 : (zs.take (k + 1)).length = k + 1 := by simp; omega
    rw [if_pos rfl, if_pos (by simp; omega), List.getElem?_append_left (by omega), List.getElem?_take, if_pos (by omega)]
    simp [List.getD, h]
  · rw [if_neg hj]
    simp only [List.getElem?_append, List.length_take]
    by_cases hj1 : j < k
    · rw [if_pos (by omega), if_pos (by omega), List.getElem?_take, List.getElem?_take, if_pos (by omega), if_pos (by omega)]
    · rw [if_neg (by omega), if_neg (by omega)]
      simp only [List.getElem?_replicate]
      by_cases hj2 : j < zs.length
      · rw [if_pos (by omega), if_pos (by omega)]
      · rw [if_neg (by omega), if_neg (by omega)]

theorem below_drewN (B : Nat) (w : World) (n : Nat) : Below B w (w.drewN n) := ⟨rfl, rfl, rfl, Nat.le_refl _, fun _ _ => rfl⟩

set_option maxHeartbeats 400000 in
theorem eqS {w : World} {b1 b2 : Nat} {v1 v2 : Value} {zs : List Int} (h1 : Rd w b1 v1 zs) (h2 : Rd w b2 v2 zs) :
    Calls Try.prog 19 #[v1, v2] w fun e w' => e = .returned (.bool true) ∧ ∃ m, w' = w.drewN m := by
  obtain ⟨ao, cap, rfl, hc, hm, h4⟩ := h1
  obtain ⟨ao2, cap2, rfl, hc2, hm2, h42⟩ := h2
  obtain ⟨n, hn⟩ : ∃ n, n = zs.length := ⟨_, rfl⟩
  rw [← hn] at hc hc2 h4 h42 ⊢
  have Hn : Hid (n = zs.length) := hn
  clear hn
  have hsz : n ≤ 9223372036854775807 := by unfold maxLen at hm; omega
  clear hc hc2 hm hm2
  go_enter Try.func19, Try.ntmps19
  go_wp2
  go_loopw [5] (fun i wr => ∃ k : Nat, k ≤ n ∧ i = .int .i64 k ∧ ∃ m, wr = w.drewN m) (fun i _ => n - (intOf i).toNat)
  case atStart => exact ⟨0, Nat.zero_le _, rfl, 0, rfl⟩
  case round =>
    obtain ⟨k, hk, rfl, m, rfl⟩ := hrel
    by_cases hlt : k < n
    · obtain ⟨off, rfl, hb, hc⟩ := h4 (by omega)
      obtain ⟨off2, rfl, hb2, hc2⟩ := h42 (by omega)
      obtain ⟨x, hx⟩ : ∃ x, x = zs.getD k 0 := ⟨_, rfl⟩
      have hcx : w.cell? ⟨b1, off + k, none⟩ = some (.int .i64 x) := by rw [hx]; exact hc k hlt
      have hcy : w.cell? ⟨b2, off2 + k, none⟩ = some (.int .i64 x) := by rw [hx]; exact hc2 k hlt
      have hki : (k : Int) < (n : Int) := by omega
      clear hx hc hc2
      go_wp2_with fail
      go_quiet (fail)
      go_wp2
      go_roundw
      case rel => exact ⟨k + 1, by omega, by go_num, _, rfl⟩
      case measure => simp [intOf]; omega
    · have hkn : k = n := by omega
      subst hkn
      go_wp2
      go_ret
      exact ⟨rfl, _, rfl⟩

/-- The numbers that the marks make: k, k + 1, .. -/
def marks (k : Int) (n : Nat) : List Int := (List.range n).map fun (i : Nat) => k + (i : Int)
theorem marks_length (k : Int) (n : Nat) : (marks k n).length = n := by simp [marks]
theorem marks_getD (k : Int) (n i : Nat) (h : i < n) : (marks k n).getD i 0 = k + i := by simp [marks, List.getD, h]

theorem marks_set (zs : List Int) (k : Int) (j : Nat) (h : j < zs.length) : (marks k j ++ zs.drop j).set j (k + j) = marks k (j + 1) ++ zs.drop (j + 1) := by
  apply List.ext_getElem?
  intro i
  rw [List.getElem?_set]
  have e1 : (marks k j).length = j := marks_length k j
  have e2 : (marks k (j + 1)).length = j + 1 := marks_length k (j + 1)
  by_cases hj : j = i
  · subst hj
    rw [if_pos rfl, if_pos (by simp [e1]; omega), List.getElem?_append_left (by omega)]
    simp [marks]
  · rw [if_neg hj]
    by_cases hi : i < j
    · rw [List.getElem?_append_left (by omega), List.getElem?_append_left (by omega)]
      simp [marks, hi, show i < j + 1 by omega]
    · rw [List.getElem?_append_right (by omega), List.getElem?_append_right (by omega), e1, e2, List.getElem?_drop, List.getElem?_drop]
      congr 1
      omega

set_option maxHeartbeats 400000 in
theorem markS {w : World} {b : Nat} {v : Value} {zs : List Int} {q : Int} (h : Own 2 w b v zs) (h0 : 0 ≤ q) (hq : q + zs.length ≤ 4611686018427387904) :
    Calls Try.prog 20 #[v, .int .i64 q] w fun e w' => e = .returned (.int .i64 (q + zs.length)) ∧ Own 2 w' b v (marks q zs.length) ∧ w.grownBy w' (some b) ∧ (v = .slice none 0 0 → w' = w) := by
  rcases h.form with ⟨rfl, rfl⟩ | ⟨cap, rfl, hcap, hmax, hb⟩
  · go_enter Try.func20, Try.ntmps20
    go_wp2
    refine wp_loop_rounds 1 ?_
    rw [rounds_succ]
    go_wp2
    go_ret
    exact ⟨by simp, by simpa [marks] using Own.nil _ _ _, World.grownBy.refl _ _, fun _ => rfl⟩
  · obtain ⟨n, hn⟩ : ∃ n, n = zs.length := ⟨_, rfl⟩
    rw [← hn] at hcap hq h ⊢
    have Hn : Hid (n = zs.length) := hn
    have HH : Hid (Own 2 w b (.slice (some ⟨b, 0, none⟩) n cap) zs) := h
    clear hn h hb
    have hsz : n ≤ 9223372036854775807 := by unfold maxLen at hmax; omega
    clear hcap hmax
    go_enter Try.func20, Try.ntmps20
    go_wp2
    go_loopw [1, 5] (fun t i wr => ∃ k : Nat, k ≤ n ∧ i = .int .i64 k ∧ t = .int .i64 (q + k) ∧ Own 2 wr b (.slice (some ⟨b, 0, none⟩) n cap) (marks q k ++ zs.drop k) ∧ w.grownBy wr (some b)) (fun _ i _ => n - (intOf i).toNat)
    case atStart => exact ⟨0, Nat.zero_le _, rfl, by simp, by simpa [marks] using HH.out, World.grownBy.refl _ _⟩
    case round =>
      obtain ⟨k, hk, rfl, rfl, hown, hg⟩ := hrel
      by_cases hlt : k < n
      · have hlen : (marks q k ++ zs.drop k).length = n := by have := Hn.out; simp [marks_length]; omega
        have hox := hown.cell (i := k) (by omega)
        have hof := hown.free k
        have HO : Hid (Own 2 wr b (.slice (some ⟨b, 0, none⟩) n cap) (marks q k ++ zs.drop k)) := hown
        have HG : Hid (w.grownBy wr (some b)) := hg
        clear hown hg hlen
        go_wp2
        go_roundw
        case rel =>
          have hs := marks_set zs q k (by have := Hn.out; omega)
          refine ⟨k + 1, by omega, by go_num, by go_num, ?_, ?_⟩
          · rw [← hs]
            exact HO.out.set k (q + k)
          · have g := HG.out
            exact ⟨g.os, g.tape, g.output, by simpa [World.setCell] using g.size, fun i hi hne => (Below.heap_setCell _ _ _ _ (by intro e; exact hne (by rw [e]))).trans (g.block i hi hne)⟩
        case measure => simp [intOf]; omega
      · have hkn : k = n := by omega
        subst hkn
        have HO : Hid (Own 2 wr b (.slice (some ⟨b, 0, none⟩) k cap) (marks q k ++ zs.drop k)) := hown
        clear hown
        go_wp2
        go_ret
        refine ⟨rfl, ?_, hg, fun h => by simp at h⟩
        have hd : zs.drop k = [] := by rw [Hn.out]; simp
        have := HO.out
        rw [hd, List.append_nil] at this
        exact this

set_option maxHeartbeats 400000 in
theorem heldS {w : World} {b : Nat} {v : Value} {n : Nat} {q : Int} (h : Rd w b v (marks q n)) (h0 : 0 ≤ q) (hq : q + n ≤ 4611686018427387904) :
    Calls Try.prog 21 #[v, .int .i64 q] w fun e w' => e = .returned (.int .i64 (q + n)) ∧ w = w' := by
  obtain ⟨ao, cap, rfl, hc, hm, h4⟩ := h
  have hn := marks_length q n
  rw [hn] at hc h4 ⊢
  have hsz : n ≤ 9223372036854775807 := by unfold maxLen at hm; omega
  clear hc hm hn
  go_enter Try.func21, Try.ntmps21
  go_wp2
  go_loop [1, 5] (fun t i => ∃ k : Nat, k ≤ n ∧ i = .int .i64 k ∧ t = .int .i64 (q + k)) (fun _ i => n - (intOf i).toNat)
  case atStart => exact ⟨0, Nat.zero_le _, rfl, by simp⟩
  case round =>
    obtain ⟨k, hk, rfl, rfl⟩ := hrel
    by_cases hlt : k < n
    · obtain ⟨off, rfl, hb, hc⟩ := h4 (by omega)
      have hcx : w.cell? ⟨b, off + k, none⟩ = some (.int .i64 (q + k)) := by rw [hc k hlt, marks_getD q n k hlt]
      clear hc
      go_wp2
      go_round
      case rel => exact ⟨k + 1, by omega, by go_num, by go_num⟩
      case measure => simp [intOf]; omega
    · have hkn : k = n := by omega
      subst hkn
      go_wp2
      go_ret
      exact ⟨rfl, rfl⟩

end Go.Proofs.Ytlecpilgimiaaaa.Help
