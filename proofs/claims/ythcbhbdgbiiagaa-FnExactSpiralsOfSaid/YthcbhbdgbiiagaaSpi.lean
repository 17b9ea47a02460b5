/- SpiralsOf of both sides. -/
import Derived.Test.YthcbhbdgbiiagaaWin
namespace Go.Proofs.Ythcbhbdgbiiagaa.Spi
open Go.Proofs.Ythcbhbdgbiiagaa.Win Go.Proofs.Ythcbhbdgbiiagaa.WinI Go.Proofs.Ythcbhbdgbiiagaa.WinS Go.RowKit Go.Proofs.Ythcbhbdgbiiagaa.Rd Go.Proofs.Ythcbhbdgbiiagaa.Help Go.Proofs.Ythcbhbdgbiiagaa.Ring Go.Proofs.Ythcbhbdgbiiagaa.Small Go.Proofs.Ythcbhbdgbiiagaa.FVal Go.Proofs.Ythcbhbdgbiiagaa.Keep Go.Proofs.Ythcbhbdgbiiagaa.Rule Go.Proofs.Ythcbhbdgbiiagaa.Grow Go.Proofs.Ythcbhbdgbiiagaa.Wav Go.Proofs.Ythcbhbdgbiiagaa.Wnd
set_option linter.unusedVariables false
set_option linter.unusedSimpArgs false

theorem both (s r st : Int) (zs : List Int) : ∃ (rs : List Int) (ok : Bool), rs.length ≤ 1000 ∧ (ok = false → rs = []) ∧ (∀ (w : World) (b : Nat) (v : Value), Rd w b v zs → Calls Try.prog 40 #[ruleV s r v, .int .i64 st] w fun e w' => ∃ ao c b', e = .returned (.tuple #[.slice ao rs.length c, .bool ok]) ∧ Own 2 w' b' (.slice ao rs.length c) rs ∧ w.heap.size ≤ b' ∧ Below w.heap.size w w') ∧ (∀ (w : World) (b : Nat) (v : Value), Rd w b v zs → Calls Try.prog 41 #[ruleV s r v, .int .i64 st] w fun e w' => ∃ ao c b', e = .returned (.tuple #[.slice ao rs.length c, .bool ok]) ∧ Own 2 w' b' (.slice ao rs.length c) rs ∧ w.heap.size ≤ b' ∧ Below w.heap.size w w') := by
  by_cases hq : waveB s r zs st = true
  · have hb := wave_nat hq
    obtain ⟨R, rfl⟩ := Int.eq_ofNat_of_zero_le (show 0 ≤ s by omega)
    obtain ⟨C, rfl⟩ := Int.eq_ofNat_of_zero_le (show 0 ≤ r by omega)
    by_cases h2 : R < 2
    · exact ⟨[], false, by simp, fun _ => rfl, fun w b v hr => liftNo (specNo2 hr hq (by omega)), fun w b v hr => liftNo (implNo2 hr hq h2)⟩
    by_cases h3 : C < 2
    · exact ⟨[], false, by simp, fun _ => rfl, fun w b v hr => liftNo (specNo3 hr hq (by omega) (by omega)), fun w b v hr => liftNo (implNo3 hr hq (by omega) h3)⟩
    refine ⟨acc zs st C (R - 1), true, ?_, (fun h => by cases h), fun w b v hr => liftOk (specOk hr hq rfl (by omega) (by omega)), fun w b v hr => liftOk (implOk hr hq rfl (by omega) (by omega))⟩
    rw [acc_len]
    have : (R - 1) * (C - 1) ≤ 24 * 24 := Nat.mul_le_mul (by omega) (by omega)
    omega
  · have hq : waveB s r zs st = false := by simpa using hq
    exact ⟨[], false, by simp, fun _ => rfl, fun w b v hr => liftNo (specNo1 hr hq), fun w b v hr => liftNo (implNo1 hr hq)⟩

/-- How many are greater, how many are less. -/
def gtN (ts : List Int) : Nat → Nat
  | 0 => 0
  | k + 1 => gtN ts k + (if 0 < ts.getD k 0 then 1 else 0)
def ltN (ts : List Int) : Nat → Nat
  | 0 => 0
  | k + 1 => ltN ts k + (if ts.getD k 0 < 0 then 1 else 0)
theorem gt_le (ts : List Int) (k : Nat) : gtN ts k ≤ k := by
  induction k with
  | zero => simp [gtN]
  | succ k ih => simp only [gtN]; split <;> omega
theorem lt_le (ts : List Int) (k : Nat) : ltN ts k ≤ k := by
  induction k with
  | zero => simp [ltN]
  | succ k ih => simp only [ltN]; split <;> omega

set_option maxHeartbeats 8000000 in
theorem spec {w : World} {s r st : Int} {b : Nat} {v : Value} {zs rs : List Int} {ok : Bool} (h : Rd w b v zs) (hl : rs.length ≤ 1000) (hok : ok = false → rs = []) (hc : ∀ (w : World) (b : Nat) (v : Value), Rd w b v zs → Calls Try.prog 40 #[ruleV s r v, .int .i64 st] w fun e w' => ∃ ao c b', e = .returned (.tuple #[.slice ao rs.length c, .bool ok]) ∧ Own 2 w' b' (.slice ao rs.length c) rs ∧ w.heap.size ≤ b' ∧ Below w.heap.size w w') :
    Calls Try.prog 43 #[ruleV s r v, .int .i64 st] w fun e w' => e = .returned (.tuple #[.int .i64 (gtN rs rs.length : Nat), .int .i64 (ltN rs rs.length : Nat), .bool ok]) ∧ Below w.heap.size w w' := by
  have HC := hid hc
  have HK := hid hok
  clear hc hok
  have HH := hid h
  obtain ⟨ao, cap, rfl, hc, hm, h4⟩ := h
  have H4 := hid h4
  have hcap : zs.length ≤ cap ∧ cap ≤ 9223372036854775807 := by unfold maxLen at hm; omega
  clear hc hm h4
  go_enter Try.func43, Try.ntmps43
  go_wp2_with fail
  have HB0 : Hid (Below w.heap.size w (w.alloc (Obj.cells #[.int .i64 s, .int .i64 r, .slice ao zs.length cap] 26))) := below1 _ _
  go_at_call 40
  refine (HC.out _ b _ (HH.out.keep HB0.out (Nat.le_refl _))).mono ?_
  rintro e w1 ⟨ao2, cap2, b', rfl, hown, hb', bel⟩
  have HB := hid (HB0.out.trans (bel.mono HB0.out.size))
  have HO := hid hown.rd
  clear hown hb' bel
  cases ok with
  | false =>
    have hz := HK.out rfl
    subst hz
    go_wp2
    go_ret3
    exact ⟨rfl, HB.out⟩
  | true =>
    go_wp2
    have HW0 : Hid (Below w1.heap.size w1 w1) := Below.refl _ _
    go_loopw [9, 10, 22] (fun o o2 t wx => ∃ k : Nat, k ≤ rs.length ∧ t = goInt k ∧ o = .int .i64 (gtN rs k : Nat) ∧ o2 = .int .i64 (ltN rs k : Nat) ∧ Below w1.heap.size w1 wx) (fun _ _ t _ => rs.length - (intOf t).toNat)
    case atStart => exact ⟨0, Nat.zero_le _, rfl, rfl, rfl, Below.refl _ _⟩
    case round =>
      obtain ⟨k, hk, rfl, rfl, rfl, hbel⟩ := hrel
      have HX := hid hbel
      by_cases hlt : k < rs.length
      · obtain ⟨ao3, cap3, h1, h2, h3, h4⟩ := HO.out
        obtain ⟨off, h5, h6, h7⟩ := h4 (by omega)
        obtain ⟨rfl, rfl⟩ : ao2 = ao3 ∧ cap2 = cap3 := by simpa using h1
        subst h5
        have hcx : wr.cell? ⟨b', off + k, none⟩ = some (.int .i64 (rs.getD k 0)) := (hbel.cell (p := ⟨b', off + k, none⟩) h6).trans (h7 k hlt)
        have hki : (k : Int) < (rs.length : Int) := by omega
        have hkc : rs.length ≤ cap2 ∧ cap2 ≤ 9223372036854775807 := by unfold maxLen at h3; omega
        have hg := gt_le rs k
        have hl2 := lt_le rs k
        have hgs : gtN rs (k + 1) = gtN rs k + (if 0 < rs.getD k 0 then 1 else 0) := rfl
        have hls : ltN rs (k + 1) = ltN rs k + (if rs.getD k 0 < 0 then 1 else 0) := rfl
        have hw1 : wrap64 ((gtN rs k : Int) + 1) = ((gtN rs k + 1 : Nat) : Int) := by rw [show (gtN rs k : Int) + 1 = ((gtN rs k + 1 : Nat) : Int) by omega]; exact wrap_id (by omega) (by omega)
        have hw2 : wrap64 ((ltN rs k : Int) + 1) = ((ltN rs k + 1 : Nat) : Int) := by rw [show (ltN rs k : Int) + 1 = ((ltN rs k + 1 : Nat) : Int) by omega]; exact wrap_id (by omega) (by omega)
        obtain ⟨y, hy⟩ : ∃ y, y = rs.getD k 0 := ⟨_, rfl⟩
        obtain ⟨A, hA⟩ : ∃ A, A = gtN rs k := ⟨_, rfl⟩
        obtain ⟨B, hB⟩ : ∃ B, B = ltN rs k := ⟨_, rfl⟩
        rw [← hy] at hcx hgs hls
        rw [← hA] at hgs hw1 ⊢
        rw [← hB] at hls hw2 ⊢
        have HGS := hid hgs
        have HLS := hid hls
        clear h1 h2 h3 h4 h6 h7 hbel hg hl2 hgs hls hy hA hB
        rcases (show 0 < y ∨ y < 0 ∨ y = 0 by omega) with hp | hp | hp
        · have n1 : ¬ y < 0 := by omega
          have e1 : decide (0 < y) = true := decide_eq_true hp
          have e2 : decide (y < 0) = false := decide_eq_false n1
          go_wp2
          go_roundw
          case rel => exact ⟨k + 1, by omega, by go_num, by rw [HGS.out, if_pos hp, hw1], by rw [HLS.out, if_neg n1]; rfl, HX.out⟩
          case measure => simp [intOf, goInt]; omega
        · have n1 : ¬ 0 < y := by omega
          have e1 : decide (0 < y) = false := decide_eq_false n1
          have e2 : decide (y < 0) = true := decide_eq_true hp
          go_wp2
          go_roundw
          case rel => exact ⟨k + 1, by omega, by go_num, by rw [HGS.out, if_neg n1]; rfl, by rw [HLS.out, if_pos hp, hw2], HX.out⟩
          case measure => simp [intOf, goInt]; omega
        · subst hp
          go_wp2
          go_roundw
          case rel => exact ⟨k + 1, by omega, by go_num, by rw [HGS.out]; simp, by rw [HLS.out]; simp, HX.out⟩
          case measure => simp [intOf, goInt]; omega
      · have hkl : k = rs.length := by omega
        subst hkl
        have HF := hid (HB.out.trans (hbel.mono HB.out.size))
        clear hbel HX
        go_wp2
        go_ret3
        exact ⟨rfl, HF.out⟩

set_option maxHeartbeats 8000000 in
theorem impl {w : World} {s r st : Int} {b : Nat} {v : Value} {zs rs : List Int} {ok : Bool} (h : Rd w b v zs) (hl : rs.length ≤ 1000) (hok : ok = false → rs = []) (hc : ∀ (w : World) (b : Nat) (v : Value), Rd w b v zs → Calls Try.prog 41 #[ruleV s r v, .int .i64 st] w fun e w' => ∃ ao c b', e = .returned (.tuple #[.slice ao rs.length c, .bool ok]) ∧ Own 2 w' b' (.slice ao rs.length c) rs ∧ w.heap.size ≤ b' ∧ Below w.heap.size w w') :
    Calls Try.prog 44 #[ruleV s r v, .int .i64 st] w fun e w' => e = .returned (.tuple #[.int .i64 (gtN rs rs.length : Nat), .int .i64 (ltN rs rs.length : Nat), .bool ok]) ∧ Below w.heap.size w w' := by
  have HC := hid hc
  have HK := hid hok
  clear hc hok
  have HH := hid h
  obtain ⟨ao, cap, rfl, hc, hm, h4⟩ := h
  have H4 := hid h4
  have hcap : zs.length ≤ cap ∧ cap ≤ 9223372036854775807 := by unfold maxLen at hm; omega
  clear hc hm h4
  go_enter Try.func44, Try.ntmps44
  go_wp2_with fail
  have HB0 : Hid (Below w.heap.size w (w.alloc (Obj.cells #[.int .i64 s, .int .i64 r, .slice ao zs.length cap] 26))) := below1 _ _
  go_at_call 41
  refine (HC.out _ b _ (HH.out.keep HB0.out (Nat.le_refl _))).mono ?_
  rintro e w1 ⟨ao2, cap2, b', rfl, hown, hb', bel⟩
  have HB := hid (HB0.out.trans (bel.mono HB0.out.size))
  have HO := hid hown.rd
  clear hown hb' bel
  go_wp2
  have HW0 : Hid (Below w1.heap.size w1 w1) := Below.refl _ _
  go_loopw [9, 10, 21] (fun o o2 t wx => ∃ k : Nat, k ≤ rs.length ∧ t = goInt k ∧ o = .int .i64 (gtN rs k : Nat) ∧ o2 = .int .i64 (ltN rs k : Nat) ∧ Below w1.heap.size w1 wx) (fun _ _ t _ => rs.length - (intOf t).toNat)
  case atStart => exact ⟨0, Nat.zero_le _, rfl, rfl, rfl, Below.refl _ _⟩
  case round =>
    obtain ⟨k, hk, rfl, rfl, rfl, hbel⟩ := hrel
    have HX := hid hbel
    by_cases hlt : k < rs.length
    · obtain ⟨ao3, cap3, h1, h2, h3, h4⟩ := HO.out
      obtain ⟨off, h5, h6, h7⟩ := h4 (by omega)
      obtain ⟨rfl, rfl⟩ : ao2 = ao3 ∧ cap2 = cap3 := by simpa using h1
      subst h5
      have hcx : wr.cell? ⟨b', off + k, none⟩ = some (.int .i64 (rs.getD k 0)) := (hbel.cell (p := ⟨b', off + k, none⟩) h6).trans (h7 k hlt)
      have hki : (k : Int) < (rs.length : Int) := by omega
      have hkc : rs.length ≤ cap2 ∧ cap2 ≤ 9223372036854775807 := by unfold maxLen at h3; omega
      have hg := gt_le rs k
      have hl2 := lt_le rs k
      have hgs : gtN rs (k + 1) = gtN rs k + (if 0 < rs.getD k 0 then 1 else 0) := rfl
      have hls : ltN rs (k + 1) = ltN rs k + (if rs.getD k 0 < 0 then 1 else 0) := rfl
      have hw1 : wrap64 ((gtN rs k : Int) + 1) = ((gtN rs k + 1 : Nat) : Int) := by rw [show (gtN rs k : Int) + 1 = ((gtN rs k + 1 : Nat) : Int) by omega]; exact wrap_id (by omega) (by omega)
      have hw2 : wrap64 ((ltN rs k : Int) + 1) = ((ltN rs k + 1 : Nat) : Int) := by rw [show (ltN rs k : Int) + 1 = ((ltN rs k + 1 : Nat) : Int) by omega]; exact wrap_id (by omega) (by omega)
      obtain ⟨y, hy⟩ : ∃ y, y = rs.getD k 0 := ⟨_, rfl⟩
      obtain ⟨A, hA⟩ : ∃ A, A = gtN rs k := ⟨_, rfl⟩
      obtain ⟨B, hB⟩ : ∃ B, B = ltN rs k := ⟨_, rfl⟩
      rw [← hy] at hcx hgs hls
      rw [← hA] at hgs hw1 ⊢
      rw [← hB] at hls hw2 ⊢
      have HGS := hid hgs
      have HLS := hid hls
      clear h1 h2 h3 h4 h6 h7 hbel hg hl2 hgs hls hy hA hB
      rcases (show 0 < y ∨ y < 0 ∨ y = 0 by omega) with hp | hp | hp
      · have n1 : ¬ y < 0 := by omega
        have e1 : decide (0 < y) = true := decide_eq_true hp
        have e2 : decide (y < 0) = false := decide_eq_false n1
        go_wp2
        go_roundw
        case rel => exact ⟨k + 1, by omega, by go_num, by rw [HGS.out, if_pos hp, hw1], by rw [HLS.out, if_neg n1]; rfl, HX.out⟩
        case measure => simp [intOf, goInt]; omega
      · have n1 : ¬ 0 < y := by omega
        have e1 : decide (0 < y) = false := decide_eq_false n1
        have e2 : decide (y < 0) = true := decide_eq_true hp
        go_wp2
        go_roundw
        case rel => exact ⟨k + 1, by omega, by go_num, by rw [HGS.out, if_neg n1]; rfl, by rw [HLS.out, if_pos hp, hw2], HX.out⟩
        case measure => simp [intOf, goInt]; omega
      · subst hp
        go_wp2
        go_roundw
        case rel => exact ⟨k + 1, by omega, by go_num, by rw [HGS.out]; simp, by rw [HLS.out]; simp, HX.out⟩
        case measure => simp [intOf, goInt]; omega
    · have hkl : k = rs.length := by omega
      subst hkl
      have HF := hid (HB.out.trans (hbel.mono HB.out.size))
      clear hbel HX
      go_wp2
      go_ret3
      exact ⟨rfl, HF.out⟩

theorem agree (s r st : Int) (zs : List Int) : ∃ (q0 q1 : Int) (q2 : Bool), (∀ (w : World) (b : Nat) (v : Value), Rd w b v zs → Calls Try.prog 43 #[ruleV s r v, .int .i64 st] w fun e w' => e = .returned (.tuple #[.int .i64 q0, .int .i64 q1, .bool q2]) ∧ Below w.heap.size w w') ∧ (∀ (w : World) (b : Nat) (v : Value), Rd w b v zs → Calls Try.prog 44 #[ruleV s r v, .int .i64 st] w fun e w' => e = .returned (.tuple #[.int .i64 q0, .int .i64 q1, .bool q2]) ∧ Below w.heap.size w w') := by
  obtain ⟨rs, ok, hl, hok, hs, hi⟩ := both s r st zs
  exact ⟨_, _, ok, fun w b v hr => spec hr hl hok hs, fun w b v hr => impl hr hl hok hi⟩

end Go.Proofs.Ythcbhbdgbiiagaa.Spi
