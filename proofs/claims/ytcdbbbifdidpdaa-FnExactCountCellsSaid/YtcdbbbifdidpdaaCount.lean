/- How many cells have a state: both sides. -/
import Derived.Test.YtcdbbbifdidpdaaFldKit
import Derived.Test.YtcdbbbifdidpdaaFSpec
namespace Go.Proofs.Ytcdbbbifdidpdaa.Count
open Go.RowKit Go.Proofs.Ytcdbbbifdidpdaa.Rd Go.Proofs.Ytcdbbbifdidpdaa.Help Go.Proofs.Ytcdbbbifdidpdaa.Ring Go.Proofs.Ytcdbbbifdidpdaa.Small Go.Proofs.Ytcdbbbifdidpdaa.FVal Go.Proofs.Ytcdbbbifdidpdaa.Keep Go.Proofs.Ytcdbbbifdidpdaa.Rule
set_option linter.unusedVariables false
set_option linter.unusedSimpArgs false

/-- How many of the first k cells are x. -/
def cnt (zs : List Int) (x : Int) : Nat → Int
  | 0 => 0
  | k + 1 => if zs.getD k 0 = x then cnt zs x k + 1 else cnt zs x k
theorem cnt_bd (zs : List Int) (x : Int) (k : Nat) : 0 ≤ cnt zs x k ∧ cnt zs x k ≤ k := by
  induction k with
  | zero => simp [cnt]
  | succ k ih => simp only [cnt]; split <;> omega
theorem field_len {s r : Int} {zs : List Int} (h : fieldB s r zs = true) : zs.length ≤ 576 := by
  simp only [fieldB, Bool.and_eq_true, decide_eq_true_eq] at h
  obtain ⟨hs, hx, _⟩ := h
  have hb : (1 ≤ s ∧ s ≤ 24) ∧ 1 ≤ r ∧ r ≤ 24 := by simp [sidesB] at hs; omega
  have := prod_bd hb.1 hb.2
  omega

set_option maxHeartbeats 2000000 in
theorem specNo {w : World} {s r x : Int} {b : Nat} {v : Value} {zs : List Int} (h : Rd w b v zs) (hq : fieldB s r zs = false) :
    Calls Try.prog 26 #[ruleV s r v, .int .i64 x] w fun e w' => e = .returned (.tuple #[.int .i64 0, .bool false]) ∧ Below w.heap.size w w' := by
  have HH := hid h
  have HQ := hid hq
  obtain ⟨ao, cap, rfl, hc, hm, _⟩ := h
  have hsz : zs.length ≤ 9223372036854775807 := by unfold maxLen at hm; omega
  clear hc hm hq
  go_enter Try.func26, Try.ntmps26
  go_wp2_with fail
  obtain ⟨w1, hW⟩ : ∃ w1, w1 = w.alloc (Obj.cells #[.int .i64 s, .int .i64 r, .slice ao zs.length cap] 27) := ⟨_, rfl⟩
  obtain ⟨N, hN⟩ : ∃ N, N = w.heap.size := ⟨_, rfl⟩
  have st : Below w.heap.size w w1 ∧ w1.cell? ⟨N, 0, none⟩ = some (.int .i64 s) ∧ w1.cell? ⟨N, 1, none⟩ = some (.int .i64 r) ∧ w1.cell? ⟨N, 2, none⟩ = some (.slice ao zs.length cap) ∧ Rd w1 b (.slice ao zs.length cap) zs ∧ w.heap.size ≤ w1.heap.size := by
    rw [hW, hN]
    exact ⟨below1 _ _, by simp, by simp, by simp, HH.out.keep (below1 _ _) (Nat.le_refl _), by simp⟩
  simp only [← hW, ← hN]
  clear hW hN
  go_at_call 48
  refine (FSpec.is (rd3_1_0 st) st.2.1 st.2.2.1 st.2.2.2.1).mono ?_
  rw [HQ.out]
  rintro e w2 ⟨rfl, m, hw2⟩
  have bel : Below w1.heap.size w1 w2 := by rw [hw2]; exact FSpec.below_drewN' _ _ _
  clear hw2
  replace st := next3_1 bel st
  clear bel
  go_wp2
  simp [bodyPost, results, Try.results26, go_sem]
  exact And.left st

set_option maxHeartbeats 2000000 in
theorem specOk {w : World} {s r x : Int} {b : Nat} {v : Value} {zs : List Int} (h : Rd w b v zs) (hq : fieldB s r zs = true) :
    Calls Try.prog 26 #[ruleV s r v, .int .i64 x] w fun e w' => e = .returned (.tuple #[.int .i64 (cnt zs x zs.length), .bool true]) ∧ Below w.heap.size w w' := by
  have hle := field_len hq
  have HH := hid h
  have HQ := hid hq
  obtain ⟨ao, cap, rfl, hc, hm, _⟩ := h
  have hsz : zs.length ≤ 9223372036854775807 := by unfold maxLen at hm; omega
  clear hc hm hq
  go_enter Try.func26, Try.ntmps26
  go_wp2_with fail
  obtain ⟨w1, hW⟩ : ∃ w1, w1 = w.alloc (Obj.cells #[.int .i64 s, .int .i64 r, .slice ao zs.length cap] 27) := ⟨_, rfl⟩
  obtain ⟨N, hN⟩ : ∃ N, N = w.heap.size := ⟨_, rfl⟩
  have st : Below w.heap.size w w1 ∧ w1.cell? ⟨N, 0, none⟩ = some (.int .i64 s) ∧ w1.cell? ⟨N, 1, none⟩ = some (.int .i64 r) ∧ w1.cell? ⟨N, 2, none⟩ = some (.slice ao zs.length cap) ∧ Rd w1 b (.slice ao zs.length cap) zs ∧ w.heap.size ≤ w1.heap.size := by
    rw [hW, hN]
    exact ⟨below1 _ _, by simp, by simp, by simp, HH.out.keep (below1 _ _) (Nat.le_refl _), by simp⟩
  simp only [← hW, ← hN]
  clear hW hN
  go_at_call 48
  refine (FSpec.is (rd3_1_0 st) st.2.1 st.2.2.1 st.2.2.2.1).mono ?_
  rw [HQ.out]
  rintro e w2 ⟨rfl, m, hw2⟩
  have bel : Below w1.heap.size w1 w2 := by rw [hw2]; exact FSpec.below_drewN' _ _ _
  clear hw2
  replace st := next3_1 bel st
  clear bel
  obtain ⟨n, hn⟩ : ∃ n, n = zs.length := ⟨_, rfl⟩
  have Hn := hid hn
  rw [← hn] at st hle hsz ⊢
  have HST := hid st
  have c2 := st.2.2.2.1
  clear hn st
  go_wp2
  go_loop [6, 7] (fun c i => ∃ k : Nat, k ≤ n ∧ i = .int .i64 k ∧ c = .int .i64 (cnt zs x k)) (fun _ i => n - (intOf i).toNat)
  case atStart => exact ⟨0, Nat.zero_le _, rfl, rfl⟩
  case round =>
    obtain ⟨k, hk, rfl, rfl⟩ := hrel
    by_cases hlt : k < n
    · obtain ⟨ao2, cap2, hv, _, _, h4⟩ := rd3_1_0 HST.out
      obtain ⟨off, hao, hb, hcc⟩ := h4 (by have := Hn.out; omega)
      have hao2 : ao = some ⟨b, off, none⟩ := by
        have := hv
        simp at this
        rw [this.1]; exact hao
      obtain ⟨y, hy⟩ : ∃ y, y = zs.getD k 0 := ⟨_, rfl⟩
      have hcx : w2.cell? ⟨b, off + k, none⟩ = some (.int .i64 y) := by rw [hy]; exact hcc k (by have := Hn.out; omega)
      obtain ⟨X, hX⟩ : ∃ X, X = cnt zs x k := ⟨_, rfl⟩
      have hbd := cnt_bd zs x k
      rw [← hX] at hbd ⊢
      obtain ⟨bd1, bd2⟩ := hbd
      have hki : (k : Int) < (n : Int) := by omega
      clear hv h4 hao hb hcc
      subst hao2
      by_cases hyx : y = x
      · have HNX : Hid (cnt zs x (k + 1) = X + 1) := by simp only [Hid, cnt]; rw [if_pos (by rw [← hy]; exact hyx), hX]
        have hyb : (y == x) = true := by simpa using hyx
        clear hX hy
        go_wp2
        go_round
        case rel => exact ⟨k + 1, by omega, by go_num, by rw [HNX.out]⟩
        case measure => simp [intOf]; omega
      · have HNX : Hid (cnt zs x (k + 1) = X) := by simp only [Hid, cnt]; rw [if_neg (by rw [← hy]; exact hyx), hX]
        have hyb : (y == x) = false := by simpa using hyx
        clear hX hy
        go_wp2
        go_round
        case rel => exact ⟨k + 1, by omega, by go_num, by rw [HNX.out]⟩
        case measure => simp [intOf]; omega
    · have hkn : k = n := by omega
      subst hkn
      obtain ⟨X, hX⟩ : ∃ X, X = cnt zs x k := ⟨_, rfl⟩
      rw [← hX]
      have HX := hid hX
      clear hX
      go_wp2
      simp [bodyPost, results, Try.results26, go_sem]
      exact ⟨by rw [← Hn.out]; exact HX.out, HST.out.1⟩

set_option maxHeartbeats 2000000 in
theorem implNo {w : World} {s r x : Int} {b : Nat} {v : Value} {zs : List Int} (h : Rd w b v zs) (hq : fieldB s r zs = false) :
    Calls Try.prog 27 #[ruleV s r v, .int .i64 x] w fun e w' => e = .returned (.tuple #[.int .i64 0, .bool false]) ∧ Below w.heap.size w w' := by
  have HH := hid h
  have HQ := hid hq
  obtain ⟨ao, cap, rfl, hc, hm, _⟩ := h
  have hsz : zs.length ≤ 9223372036854775807 := by unfold maxLen at hm; omega
  clear hc hm hq
  go_enter Try.func27, Try.ntmps27
  go_wp2_with fail
  obtain ⟨w1, hW⟩ : ∃ w1, w1 = w.alloc (Obj.cells #[.int .i64 s, .int .i64 r, .slice ao zs.length cap] 27) := ⟨_, rfl⟩
  obtain ⟨N, hN⟩ : ∃ N, N = w.heap.size := ⟨_, rfl⟩
  have st : Below w.heap.size w w1 ∧ w1.cell? ⟨N, 0, none⟩ = some (.int .i64 s) ∧ w1.cell? ⟨N, 1, none⟩ = some (.int .i64 r) ∧ w1.cell? ⟨N, 2, none⟩ = some (.slice ao zs.length cap) ∧ Rd w1 b (.slice ao zs.length cap) zs ∧ w.heap.size ≤ w1.heap.size := by
    rw [hW, hN]
    exact ⟨below1 _ _, by simp, by simp, by simp, HH.out.keep (below1 _ _) (Nat.le_refl _), by simp⟩
  simp only [← hW, ← hN]
  clear hW hN
  go_at_call 18
  refine (implValid (rd3_1_0 st)).mono ?_
  rw [HQ.out]
  rintro e w2 ⟨rfl, bel⟩
  replace st := next3_1 bel st
  clear bel
  go_wp2
  simp [bodyPost, results, Try.results27, go_sem]
  exact And.left st

set_option maxHeartbeats 2000000 in
theorem implOk {w : World} {s r x : Int} {b : Nat} {v : Value} {zs : List Int} (h : Rd w b v zs) (hq : fieldB s r zs = true) :
    Calls Try.prog 27 #[ruleV s r v, .int .i64 x] w fun e w' => e = .returned (.tuple #[.int .i64 (cnt zs x zs.length), .bool true]) ∧ Below w.heap.size w w' := by
  have hle := field_len hq
  have HH := hid h
  have HQ := hid hq
  obtain ⟨ao, cap, rfl, hc, hm, _⟩ := h
  have hsz : zs.length ≤ 9223372036854775807 := by unfold maxLen at hm; omega
  clear hc hm hq
  go_enter Try.func27, Try.ntmps27
  go_wp2_with fail
  obtain ⟨w1, hW⟩ : ∃ w1, w1 = w.alloc (Obj.cells #[.int .i64 s, .int .i64 r, .slice ao zs.length cap] 27) := ⟨_, rfl⟩
  obtain ⟨N, hN⟩ : ∃ N, N = w.heap.size := ⟨_, rfl⟩
  have st : Below w.heap.size w w1 ∧ w1.cell? ⟨N, 0, none⟩ = some (.int .i64 s) ∧ w1.cell? ⟨N, 1, none⟩ = some (.int .i64 r) ∧ w1.cell? ⟨N, 2, none⟩ = some (.slice ao zs.length cap) ∧ Rd w1 b (.slice ao zs.length cap) zs ∧ w.heap.size ≤ w1.heap.size := by
    rw [hW, hN]
    exact ⟨below1 _ _, by simp, by simp, by simp, HH.out.keep (below1 _ _) (Nat.le_refl _), by simp⟩
  simp only [← hW, ← hN]
  clear hW hN
  go_at_call 18
  refine (implValid (rd3_1_0 st)).mono ?_
  rw [HQ.out]
  rintro e w2 ⟨rfl, bel⟩
  replace st := next3_1 bel st
  clear bel
  obtain ⟨n, hn⟩ : ∃ n, n = zs.length := ⟨_, rfl⟩
  have Hn := hid hn
  rw [← hn] at st hle hsz ⊢
  have HST := hid st
  have c2 := st.2.2.2.1
  clear hn st
  go_wp2
  go_loop [6, 8, 15] (fun c x0 i => ∃ k : Nat, k ≤ n ∧ i = .int .i64 k ∧ c = .int .i64 (cnt zs x k)) (fun _ _ i => n - (intOf i).toNat)
  case atStart => exact ⟨0, Nat.zero_le _, rfl, rfl⟩
  case round =>
    obtain ⟨k, hk, rfl, rfl⟩ := hrel
    by_cases hlt : k < n
    · obtain ⟨ao2, cap2, hv, _, _, h4⟩ := rd3_1_0 HST.out
      obtain ⟨off, hao, hb, hcc⟩ := h4 (by have := Hn.out; omega)
      have hao2 : ao = some ⟨b, off, none⟩ := by
        have := hv
        simp at this
        rw [this.1]; exact hao
      obtain ⟨y, hy⟩ : ∃ y, y = zs.getD k 0 := ⟨_, rfl⟩
      have hcx : w2.cell? ⟨b, off + k, none⟩ = some (.int .i64 y) := by rw [hy]; exact hcc k (by have := Hn.out; omega)
      obtain ⟨X, hX⟩ : ∃ X, X = cnt zs x k := ⟨_, rfl⟩
      have hbd := cnt_bd zs x k
      rw [← hX] at hbd ⊢
      obtain ⟨bd1, bd2⟩ := hbd
      have hki : (k : Int) < (n : Int) := by omega
      clear hv h4 hao hb hcc
      subst hao2
      by_cases hyx : y = x
      · have HNX : Hid (cnt zs x (k + 1) = X + 1) := by simp only [Hid, cnt]; rw [if_pos (by rw [← hy]; exact hyx), hX]
        have hyb : (y == x) = true := by simpa using hyx
        clear hX hy
        go_wp2
        go_round
        case rel => exact ⟨k + 1, by omega, by go_num, by rw [HNX.out]⟩
        case measure => simp [intOf]; omega
      · have HNX : Hid (cnt zs x (k + 1) = X) := by simp only [Hid, cnt]; rw [if_neg (by rw [← hy]; exact hyx), hX]
        have hyb : (y == x) = false := by simpa using hyx
        clear hX hy
        go_wp2
        go_round
        case rel => exact ⟨k + 1, by omega, by go_num, by rw [HNX.out]⟩
        case measure => simp [intOf]; omega
    · have hkn : k = n := by omega
      subst hkn
      obtain ⟨X, hX⟩ : ∃ X, X = cnt zs x k := ⟨_, rfl⟩
      rw [← hX]
      have HX := hid hX
      clear hX
      go_wp2
      simp [bodyPost, results, Try.results27, go_sem]
      exact ⟨by rw [← Hn.out]; exact HX.out, HST.out.1⟩

theorem agree (s r : Int) (zs : List Int) (x : Int) : ∃ (q0 : Int) (q1 : Bool),
    (∀ (w : World) (b : Nat) (v : Value), Rd w b v zs → Calls Try.prog 26 #[ruleV s r v, .int .i64 x] w fun e w' => e = .returned (.tuple #[.int .i64 q0, .bool q1]) ∧ Below w.heap.size w w') ∧
    (∀ (w : World) (b : Nat) (v : Value), Rd w b v zs → Calls Try.prog 27 #[ruleV s r v, .int .i64 x] w fun e w' => e = .returned (.tuple #[.int .i64 q0, .bool q1]) ∧ Below w.heap.size w w') := by
  cases hq : fieldB s r zs with
  | true => exact ⟨_, _, fun w b v h => specOk h hq, fun w b v h => implOk h hq⟩
  | false => exact ⟨_, _, fun w b v h => specNo h hq, fun w b v h => implNo h hq⟩

end Go.Proofs.Ytcdbbbifdidpdaa.Count
