/- Marks of bools, of gases, and what is owned beside them. -/
import Derived.Test.YtnpjhhkhdeomcaaGas
namespace Go.Proofs.Ytnpjhhkhdeomcaa.Help
open Go.RowKit Go.Proofs.Ytnpjhhkhdeomcaa.Rd Go.Proofs.Ytnpjhhkhdeomcaa.Rdb Go.Proofs.Ytnpjhhkhdeomcaa.Keep Go.Proofs.Ytnpjhhkhdeomcaa.Rule
set_option linter.unusedVariables false
set_option linter.unusedSimpArgs false

theorem limB {E : TypeId} {w : World} {b : Nat} {v : Value} {zs : List Bool} (h : OwnB E w b v zs) : v = .slice none 0 0 ∨ b < w.heap.size := by
  rcases h.form with ⟨hv, _⟩ | ⟨_, _, _, _, hb⟩
  · exact .inl hv
  · exact .inr hb
theorem besideO {E : TypeId} {w w' : World} {b c : Nat} {v : Value} {zs : List Bool} (h : OwnB E w b v zs) (g : w.grownBy w' (some c)) (hne : v = .slice none 0 0 ∨ b ≠ c) : OwnB E w' b v zs := by
  rcases hne with rfl | hne
  · rcases h.form with ⟨_, rfl⟩ | ⟨_, h', _⟩
    · exact OwnB.nil _ _ _
    · cases h'
  · exact h.grown g (by simp; omega)
theorem besideP {E : TypeId} {w w' : World} {b c : Nat} {v vc : Value} {zs : List Bool} (h : OwnB E w b v zs) (g : w.grownBy w' (some c)) (hn : vc = .slice none 0 0 → Below w.heap.size w w') (hne : vc = .slice none 0 0 ∨ c ≠ b) : OwnB E w' b v zs := by
  rcases hne with hv | hne
  · exact h.keep (hn hv)
  · exact h.grown g (by simp; omega)
theorem ownB_setB {E : TypeId} {w : World} {b : Nat} {v : Value} {zs : List Bool} (h : OwnB E w b v zs) (a : Addr) (u : Value) (hne : v = .slice none 0 0 ∨ a.block ≠ b) : OwnB E (w.setCell a u) b v zs := by
  rcases hne with hv | hne
  · rcases h.form with ⟨_, he⟩ | ⟨cap, hv2, _⟩
    · subst hv; rw [he]; exact OwnB.nil _ _ _
    · rw [hv] at hv2; cases hv2
  · exact ownB_set h a u hne

def markAt (k : Int) : Bool := k % 3 == 0
def marksB (k : Int) (n : Nat) : List Bool := (List.range n).map fun (i : Nat) => markAt (k + (i : Int))
theorem marksB_length (k : Int) (n : Nat) : (marksB k n).length = n := by simp [marksB]
theorem marksB_getD (k : Int) (n i : Nat) (h : i < n) : (marksB k n).getD i false = markAt (k + i) := by simp [marksB, List.getD, h]
theorem marksB_set (zs : List Bool) (k : Int) (j : Nat) (h : j < zs.length) : (marksB k j ++ zs.drop j).set j (markAt (k + j)) = marksB k (j + 1) ++ zs.drop (j + 1) := by
  apply List.ext_getElem?
  intro i
  rw [List.getElem?_set]
  have e1 : (marksB k j).length = j := marksB_length k j
  have e2 : (marksB k (j + 1)).length = j + 1 := marksB_length k (j + 1)
  by_cases hj : j = i
  · subst hj
    rw [if_pos rfl, if_pos (by simp [e1]; omega), List.getElem?_append_left (by omega)]
    simp [marksB]
  · rw [if_neg hj]
    by_cases hi : i < j
    · rw [List.getElem?_append_left (by omega), List.getElem?_append_left (by omega)]
      simp [marksB, hi, show i < j + 1 by omega]
    · rw [List.getElem?_append_right (by omega), List.getElem?_append_right (by omega), e1, e2, List.getElem?_drop, List.getElem?_drop]
      congr 1
      omega

set_option maxHeartbeats 400000 in
theorem markBS {w : World} {b : Nat} {v : Value} {zs : List Bool} {q : Int} (h : OwnB 4 w b v zs) (h0 : 0 ≤ q) (hq : q + zs.length ≤ 4611686018427387904) :
    Calls Try.prog 54 #[v, .int .i64 q] w fun e w' => e = .returned (.int .i64 (q + zs.length)) ∧ OwnB 4 w' b v (marksB q zs.length) ∧ w.grownBy w' (some b) ∧ (v = .slice none 0 0 → Below w.heap.size w w') := by
  rcases h.form with ⟨rfl, rfl⟩ | ⟨cap, rfl, hcap, hmax, hb⟩
  · go_enter Try.func54, Try.ntmps54
    go_wp2
    refine wp_loop_rounds 1 ?_
    rw [rounds_succ]
    go_wp2
    go_ret
    exact ⟨by simp, by simpa [marksB] using OwnB.nil _ _ _, World.grownBy.refl _ _, fun _ => Below.refl _ _⟩
  · obtain ⟨n, hn⟩ : ∃ n, n = zs.length := ⟨_, rfl⟩
    rw [← hn] at hcap hq h ⊢
    have Hn : Hid (n = zs.length) := hn
    have HH : Hid (OwnB 4 w b (.slice (some ⟨b, 0, none⟩) n cap) zs) := h
    clear hn h hb
    have hsz : n ≤ 9223372036854775807 := by unfold maxLen at hmax; omega
    clear hcap hmax
    go_enter Try.func54, Try.ntmps54
    go_wp2
    go_loopw [1, 5] (fun t i wr => ∃ k : Nat, k ≤ n ∧ i = .int .i64 k ∧ t = .int .i64 (q + k) ∧ OwnB 4 wr b (.slice (some ⟨b, 0, none⟩) n cap) (marksB q k ++ zs.drop k) ∧ w.grownBy wr (some b)) (fun _ i _ => n - (intOf i).toNat)
    case atStart => exact ⟨0, Nat.zero_le _, rfl, by simp, by simpa [marksB] using HH.out, World.grownBy.refl _ _⟩
    case round =>
      obtain ⟨k, hk, rfl, rfl, hown, hg⟩ := hrel
      by_cases hlt : k < n
      · have hlen : (marksB q k ++ zs.drop k).length = n := by have := Hn.out; simp [marksB_length]; omega
        have hox := hown.cell (i := k) (by omega)
        have hof := hown.free k
        have HO : Hid (OwnB 4 wr b (.slice (some ⟨b, 0, none⟩) n cap) (marksB q k ++ zs.drop k)) := hown
        have HG : Hid (w.grownBy wr (some b)) := hg
        clear hown hg hlen
        go_wp2
        go_roundw
        case rel =>
          have hs := marksB_set zs q k (by have := Hn.out; omega)
          refine ⟨k + 1, by omega, by go_num, by go_num, ?_, ?_⟩
          · rw [← hs]
            exact HO.out.set k (((q + k) % 3 == 0))
          · have g := HG.out
            exact ⟨g.os, g.tape, g.output, by simpa [World.setCell] using g.size, fun i hi hne => (Below.heap_setCell _ _ _ _ (by intro e; exact hne (by rw [e]))).trans (g.block i hi hne)⟩
        case measure => simp [intOf]; omega
      · have hkn : k = n := by omega
        subst hkn
        have HO : Hid (OwnB 4 wr b (.slice (some ⟨b, 0, none⟩) k cap) (marksB q k ++ zs.drop k)) := hown
        clear hown
        go_wp2
        go_ret
        refine ⟨rfl, ?_, hg, fun h => by simp at h⟩
        have hd : zs.drop k = [] := by rw [Hn.out]; simp
        have := HO.out
        rw [hd, List.append_nil] at this
        exact this

set_option maxHeartbeats 400000 in
theorem heldBS {w : World} {b : Nat} {v : Value} {n : Nat} {q : Int} (h : RdB w b v (marksB q n)) (h0 : 0 ≤ q) (hq : q + n ≤ 4611686018427387904) :
    Calls Try.prog 55 #[v, .int .i64 q] w fun e w' => e = .returned (.int .i64 (q + n)) ∧ w = w' := by
  obtain ⟨ao, cap, rfl, hc, hm, h4⟩ := h
  have hn := marksB_length q n
  rw [hn] at hc h4 ⊢
  have hsz : n ≤ 9223372036854775807 := by unfold maxLen at hm; omega
  clear hc hm hn
  go_enter Try.func55, Try.ntmps55
  go_wp2
  go_loop [1, 5] (fun t i => ∃ k : Nat, k ≤ n ∧ i = .int .i64 k ∧ t = .int .i64 (q + k)) (fun _ i => n - (intOf i).toNat)
  case atStart => exact ⟨0, Nat.zero_le _, rfl, by simp⟩
  case round =>
    obtain ⟨k, hk, rfl, rfl⟩ := hrel
    by_cases hlt : k < n
    · obtain ⟨off, rfl, hb, hc⟩ := h4 (by omega)
      have hcx : w.cell? ⟨b, off + k, none⟩ = some (.bool (markAt (q + k))) := by rw [hc k hlt, marksB_getD q n k hlt]
      clear hc
      have hm : ((q + (k : Int)) % 3 == 0) = markAt (q + k) := rfl
      cases hv : markAt (q + (k : Int))
      all_goals
        rw [hv] at hcx hm
        go_wp2
        go_round
        case rel => exact ⟨k + 1, by omega, by go_num, by go_num⟩
        case measure => simp [intOf]; omega
    · have hkn : k = n := by omega
      subst hkn
      go_wp2
      go_ret
      exact ⟨rfl, rfl⟩

set_option maxHeartbeats 2000000 in
theorem markG {w : World} {gw gr gc : Int} {b1 b2 n1 c1 n2 c2 : Nat} {ao1 ao2 : Option Addr} {xs : List Int} {ys : List Bool} {q : Int} (h1 : Own 2 w b1 (.slice ao1 n1 c1) xs) (h2 : OwnB 4 w b2 (.slice ao2 n2 c2) ys) (hne : b1 ≠ b2) (h0 : 0 ≤ q) (hx : xs.length ≤ 1048576) (hy : ys.length ≤ 1048576) (hq : q ≤ 1000000000) :
    Calls Try.prog 25 #[gasV gw gr gc (.slice ao1 n1 c1) (.slice ao2 n2 c2), .int .i64 q] w fun e w' => e = .returned (.int .i64 (q + xs.length + ys.length)) ∧
      ∃ wm, Own 2 w' b1 (.slice ao1 n1 c1) (marks q xs.length) ∧ OwnB 4 w' b2 (.slice ao2 n2 c2) (marksB (q + xs.length) ys.length) ∧ w.grownBy wm (some b1) ∧ (Value.slice ao1 n1 c1 = .slice none 0 0 → Below w.heap.size w wm) ∧ wm.grownBy w' (some b2) ∧ (Value.slice ao2 n2 c2 = .slice none 0 0 → Below wm.heap.size wm w') := by
  have H1 := hid h1
  have H2 := hid h2
  have HN := hid hne
  have H0 := hid h0
  have HB := hid (And.intro hx (And.intro hy hq))
  clear h1 h2 hne h0 hx hy hq
  go_enter Try.func25, Try.ntmps25
  go_wp2_with fail
  obtain ⟨W2, hW⟩ : ∃ W2, W2 = w.alloc (Obj.cells #[.int .i64 gw, .int .i64 gr, .int .i64 gc, Value.slice ao1 n1 c1, Value.slice ao2 n2 c2] 31) := ⟨_, rfl⟩
  obtain ⟨N, hN⟩ : ∃ N, N = w.heap.size := ⟨_, rfl⟩
  have B2 : Below w.heap.size w W2 := by rw [hW]; exact below1 _ _
  have m1 : W2.cell? ⟨N, 4, none⟩ = some (.slice ao2 n2 c2) := by rw [hW, hN]; simp
  have HNb : Hid (Value.slice ao1 n1 c1 = .slice none 0 0 ∨ N ≠ b1) := (lim H1.out).imp id (fun h => by rw [hN]; exact Nat.ne_of_gt h)
  simp only [← hW, ← hN]
  clear hW hN
  go_at_call 31
  refine (markSB (H1.out.keep B2) H0.out (by have := HB.out; omega)).mono ?_
  rintro e w3 ⟨rfl, o1, g, gn⟩
  have m1' : w3.cell? ⟨N, 4, none⟩ = some (.slice ao2 n2 c2) := by
    rcases HNb.out with hv | hv
    · exact cell_keep (gn hv) m1
    · exact mcell g m1 hv
  have o2 := besideO (H2.out.keep B2) g (.inr (Ne.symm HN.out))
  have HG1 := hid (And.intro (grown_after B2 g) (fun hv : Value.slice ao1 n1 c1 = .slice none 0 0 => B2.trans ((gn hv).mono B2.size)))
  have HO1 := hid o1
  have HO2 := hid o2
  have h0' : 0 ≤ q + (xs.length : Int) := by have := H0.out; omega
  clear g gn m1 B2 o1 o2
  go_wp2_with fail
  go_at_call 54
  refine (markBS HO2.out h0' (by have := HB.out; omega)).mono ?_
  rintro e w4 ⟨rfl, o2, g, gn⟩
  have o1 := beside HO1.out g (.inr HN.out)
  have HF := hid (And.intro o1 (And.intro o2 (And.intro g gn)))
  clear o1 o2 g gn m1'
  go_wp2
  go_ret
  exact ⟨rfl, w3, HF.out.1, HF.out.2.1, HG1.out.1, HG1.out.2, HF.out.2.2.1, HF.out.2.2.2⟩

set_option maxHeartbeats 1000000 in
theorem heldG {w : World} {gw gr gc : Int} {b1 b2 : Nat} {v1 v2 : Value} {n m : Nat} {q : Int} (h1 : Rd w b1 v1 (marks q n)) (h2 : RdB w b2 v2 (marksB (q + n) m)) (h0 : 0 ≤ q) (hn : n ≤ 1048576) (hm : m ≤ 1048576) (hq : q ≤ 1000000000) :
    Calls Try.prog 26 #[gasV gw gr gc v1 v2, .int .i64 q] w fun e w' => e = .returned (.int .i64 (q + n + m)) ∧ Below w.heap.size w w' := by
  have H1 := hid h1
  have H2 := hid h2
  obtain ⟨ao1, c1, rfl, _, _, _⟩ := h1
  obtain ⟨ao2, c2, rfl, _, _, _⟩ := h2
  have k1 : decide (q + (n : Int) < 0) = false := by simp; omega
  have k2 : decide (q + (n : Int) + (m : Int) < 0) = false := by simp; omega
  have H0 := hid h0
  have HB := hid (And.intro hn (And.intro hm hq))
  clear h0 hq hn hm
  go_enter Try.func26, Try.ntmps26
  go_wp2_with fail
  obtain ⟨W2, hW⟩ : ∃ W2, W2 = w.alloc (Obj.cells #[.int .i64 gw, .int .i64 gr, .int .i64 gc, Value.slice ao1 (marks q n).length c1, Value.slice ao2 (marksB (q + n) m).length c2] 31) := ⟨_, rfl⟩
  obtain ⟨N, hN⟩ : ∃ N, N = w.heap.size := ⟨_, rfl⟩
  have B2 : Below w.heap.size w W2 := by rw [hW]; exact below1 _ _
  have m1 : W2.cell? ⟨N, 4, none⟩ = some (.slice ao2 (marksB (q + n) m).length c2) := by rw [hW, hN]; simp
  simp only [← hW, ← hN]
  clear hW hN
  go_at_call 32
  refine (heldS (H1.out.keep B2 (Nat.le_refl _)) H0.out (by have := HB.out; omega)).mono ?_
  rintro e w4 ⟨rfl, rfl⟩
  go_wp2_with fail
  go_at_call 55
  refine (heldBS (H2.out.keep B2 (Nat.le_refl _)) (by have := H0.out; omega) (by have := HB.out; omega)).mono ?_
  rintro e w5 ⟨rfl, rfl⟩
  go_wp2
  go_ret
  exact ⟨rfl, B2⟩

end Go.Proofs.Ytnpjhhkhdeomcaa.Help
