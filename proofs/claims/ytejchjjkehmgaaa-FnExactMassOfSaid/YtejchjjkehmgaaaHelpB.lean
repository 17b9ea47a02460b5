/- The helpers of the laws over lists of bools. -/
import Derived.Test.YtejchjjkehmgaaaRdb
namespace Go.Proofs.Ytejchjjkehmgaaa.Help
open Go.RowKit Go.Proofs.Ytejchjjkehmgaaa.Rd Go.Proofs.Ytejchjjkehmgaaa.Rdb
set_option linter.unusedVariables false

theorem infoB : (Try.prog.info? 4).map (fun i => (i.zero, i.size, i.bytes)) = some (some (.bool false), 1, 1) := by kernel_rfl

theorem set_partB (zs : List Bool) (k : Nat) (h : k < zs.length) :
    (zs.take k ++ List.replicate (zs.length - k) false).set k (zs.getD k false) = zs.take (k + 1) ++ List.replicate (zs.length - (k + 1)) false := by
  apply List.ext_getElem?
  intro j
  rw [List.getElem?_set]
  by_cases hj : k = j
  · subst hj
    have e1 : (zs.take k).length = k := by simp; omega
    have e2 : (zs.take (k + 1)).length = k + 1 := by simp; omega
    rw [if_pos rfl, if_pos (by simp; omega), List.getElem?_append_left (by omega), List.getElem?_take, if_pos (by omega)]
    simp [List.getD, h]
  · rw [if_neg hj]
    simp only [List.getElem?_append, List.length_take]
    by_cases hj1 : j < k
    · rw [if_pos (by omega), if_pos (by omega), List.getElem?_take, List.getElem?_take, if_pos (by omega), if_pos (by omega)]
    · rw [if_neg (by omega), if_neg (by omega)]
      simp only [List.getElem?_replicate]
      by_cases hj2 : j < zs.length
      · rw [if_pos (by omega), if_pos (by omega)]
      · rw [if_neg (by omega), if_neg (by omega)]

set_option maxHeartbeats 400000 in
theorem toSB {w : World} {b : Nat} {v : Value} {zs : List Bool} (h : RdB w b v zs) (hl : zs.length ≤ 1048576) :
    Calls Try.prog 70 #[v] w fun e w' => e = .returned (.slice (some ⟨w.heap.size, 0, none⟩) zs.length zs.length) ∧
      OwnB 4 w' w.heap.size (.slice (some ⟨w.heap.size, 0, none⟩) zs.length zs.length) zs ∧ Below w.heap.size w w' := by
  obtain ⟨ao, cap, rfl, h2, h3, h4⟩ := h
  have hmk := run_make_row' (P := Try.prog) 32 4 (.bool false) 1 Try.underlying32 infoB rfl .i64 .i64 zs.length (by omega) (by omega)
  obtain ⟨n, hn⟩ : ∃ n, n = zs.length := ⟨_, rfl⟩
  obtain ⟨N, hN⟩ : ∃ N, N = w.heap.size := ⟨_, rfl⟩
  have HN : Hid (N = w.heap.size) := hN
  rw [← hn] at hmk hl h2 h4 ⊢
  have Hn : Hid (n = zs.length) := hn
  clear hn hN
  go_enter Try.func70, Try.ntmps70
  go_wp2
  go_loopw [4] (fun i wr => ∃ k : Nat, k ≤ n ∧ i = .int .i64 k ∧ OwnB 4 wr w.heap.size (.slice (some ⟨w.heap.size, 0, none⟩) n n) (zs.take k ++ List.replicate (n - k) false) ∧ Below w.heap.size w wr) (fun i _ => n - (intOf i).toNat)
  case atStart => exact ⟨0, Nat.zero_le _, rfl, by simpa using OwnB.made 4 w n (by unfold maxLen; omega), (Below.refl _ _).alloc (Nat.le_refl _) _⟩
  case round =>
    obtain ⟨k, hk, rfl, hown, hbel⟩ := hrel
    by_cases hlt : k < n
    · obtain ⟨off, rfl, hb, hc⟩ := h4 (by omega)
      obtain ⟨x, hx⟩ : ∃ x, x = zs.getD k false := ⟨_, rfl⟩
      have hcx : wr.cell? ⟨b, off + k, none⟩ = some (.bool x) := by rw [hx]; exact (hbel.cell hb).trans (hc k hlt)
      have hlen : (zs.take k ++ List.replicate (n - k) false).length = n := by have := Hn.out; simp; omega
      have hox := hown.cell (i := k) (by omega)
      have hof := hown.free k
      have HX : Hid (x = zs.getD k false) := hx
      have HO : Hid (OwnB 4 wr w.heap.size (.slice (some ⟨w.heap.size, 0, none⟩) n n) (zs.take k ++ List.replicate (n - k) false)) := hown
      have HB : Hid (Below w.heap.size w wr) := hbel
      clear hx hc hown hbel hlen
      go_wp2
      go_roundw
      case rel =>
        have hs := set_partB zs k (by have := Hn.out; omega)
        rw [← Hn.out, ← HX.out] at hs
        refine ⟨k + 1, by omega, by go_num, ?_, HB.out.setCell (Nat.le_refl _) _⟩
        rw [← hs]
        exact HO.out.set k x
      case measure => simp [intOf]; omega
    · have hkn : k = n := by omega
      subst hkn
      go_wp2
      go_ret
      refine ⟨rfl, ?_, hbel⟩
      have := Hn.out
      rw [this] at hown ⊢
      simpa using hown

set_option maxHeartbeats 400000 in
theorem eqSB {w : World} {b1 b2 : Nat} {v1 v2 : Value} {zs : List Bool} (h1 : RdB w b1 v1 zs) (h2 : RdB w b2 v2 zs) :
    Calls Try.prog 74 #[v1, v2] w fun e w' => e = .returned (.bool true) ∧ ∃ m, w' = w.drewN m := by
  obtain ⟨ao, cap, rfl, hc, hm, h4⟩ := h1
  obtain ⟨ao2, cap2, rfl, hc2, hm2, h42⟩ := h2
  obtain ⟨n, hn⟩ : ∃ n, n = zs.length := ⟨_, rfl⟩
  rw [← hn] at hc hc2 h4 h42 ⊢
  have Hn : Hid (n = zs.length) := hn
  clear hn
  have hsz : n ≤ 9223372036854775807 := by unfold maxLen at hm; omega
  clear hc hc2 hm hm2
  go_enter Try.func74, Try.ntmps74
  go_wp2
  go_loopw [5] (fun i wr => ∃ k : Nat, k ≤ n ∧ i = .int .i64 k ∧ ∃ m, wr = w.drewN m) (fun i _ => n - (intOf i).toNat)
  case atStart => exact ⟨0, Nat.zero_le _, rfl, 0, rfl⟩
  case round =>
    obtain ⟨k, hk, rfl, m, rfl⟩ := hrel
    by_cases hlt : k < n
    · obtain ⟨off, rfl, hb, hc⟩ := h4 (by omega)
      obtain ⟨off2, rfl, hb2, hc2⟩ := h42 (by omega)
      obtain ⟨x, hx⟩ : ∃ x, x = zs.getD k false := ⟨_, rfl⟩
      have hcx : w.cell? ⟨b1, off + k, none⟩ = some (.bool x) := by rw [hx]; exact hc k hlt
      have hcy : w.cell? ⟨b2, off2 + k, none⟩ = some (.bool x) := by rw [hx]; exact hc2 k hlt
      have hki : (k : Int) < (n : Int) := by omega
      clear hx hc hc2
      go_wp2_with fail
      go_quiet (fail)
      go_wp2
      go_roundw
      case rel => exact ⟨k + 1, by omega, by go_num, _, rfl⟩
      case measure => simp [intOf]; omega
    · have hkn : k = n := by omega
      subst hkn
      go_wp2
      go_ret
      exact ⟨rfl, _, rfl⟩

theorem szSB {w : World} {ao : Option Addr} {n cap : Nat} {q : Int} (hn : n ≤ 9223372036854775807) (h0 : 0 ≤ q) (hq : q ≤ 1048576) :
    Calls Try.prog 66 #[.slice ao n cap, .int .i64 q] w fun e w' => e = .returned (.int .i64 (if (n : Int) ≤ q then q - n else -1)) ∧ w = w' := by
  by_cases h : (n : Int) ≤ q
  · rw [if_pos h]
    have h1 : decide (q - (n : Int) < 0) = false := by simp; omega
    go_enter Try.func66, Try.ntmps66
    go_wp2
    go_ret
    exact ⟨rfl, rfl⟩
  · rw [if_neg h]
    have h1 : decide (q - (n : Int) < 0) = true := by simp; omega
    go_enter Try.func66, Try.ntmps66
    go_wp2
    go_ret
    exact ⟨rfl, rfl⟩
theorem eqBB {w : World} {b1 b2 : Nat} {v1 v2 : Value} {zs : List Bool} (h1 : RdB w b1 v1 zs) (h2 : RdB w b2 v2 zs) :
    Calls Try.prog 74 #[v1, v2] w fun e w' => e = .returned (.bool true) ∧ Below w.heap.size w w' := by
  refine (eqSB h1 h2).mono ?_
  rintro e w' ⟨rfl, m, rfl⟩
  exact ⟨rfl, Go.Proofs.Ytejchjjkehmgaaa.Help.below_drewN _ _ _⟩

end Go.Proofs.Ytejchjjkehmgaaa.Help
