/- spec.l01SineWide computes the sine of some turns. -/
import Derived.Test.YtnkcaiifohplaadSine
import Derived.Test.YtnkcaiifohplaadNan
namespace Go.Proofs.Ytnkcaiifohplaad.Fl
open Go Go.RowKit
theorem is_big : Is .f64 4841369599423283200 big := ⟨by decide, by decide⟩
theorem is_lowBig : Is .f64 14064741636278059008 lowBig := ⟨by decide, by decide⟩
set_option maxHeartbeats 400000 in
theorem sineWideNan {b : Nat} {v : Option Nat} (w : World) (hb : Is .f64 b v) (h : fcmp .neq .f64 (fop .sub .f64 v v) (some 0) = true) :
    Calls Try.prog 49 #[.float .f64 b] w fun e w' => ∃ r, e = .returned (.float .f64 r) ∧ Is .f64 r none ∧ ∃ n, w' = w.drewN n := by
  have h0 := is_zero64
  go_enter Try.func49, Try.ntmps49
  go_wp2_with (first | (refine wpList_fop rfl .sub _ _ _ _ rfl .f64 b b rfl rfl rfl hb hb ?_; intro r n hr) | (refine wpList_fcmp rfl .neq _ _ _ _ rfl .f64 _ 0 rfl rfl rfl (by assumption) h0 ?_; rw [h]) | (go_at_call 32; refine (mathNaN _).mono ?_; rintro e w' ⟨r, rfl, hr, rfl⟩))
  go_ret
  exact ⟨_, rfl, by assumption, _, rfl⟩
set_option maxHeartbeats 400000 in
theorem sineWideBig {b : Nat} {v : Option Nat} (w : World) (hb : Is .f64 b v) (h : fcmp .neq .f64 (fop .sub .f64 v v) (some 0) = false) (hg : (fcmp .geq .f64 v big || fcmp .leq .f64 v lowBig) = true) :
    Calls Try.prog 49 #[.float .f64 b] w fun e w' => ∃ r, e = .returned (.float .f64 r) ∧ Is .f64 r (some 0) ∧ ∃ n, w' = w.drewN n := by
  have h0 := is_zero64
  have hB := is_big
  have hL := is_lowBig
  cases h1 : fcmp .geq .f64 v big
  · have h2 : fcmp .leq .f64 v lowBig = true := by rw [h1] at hg; exact hg
    clear hg
    go_enter Try.func49, Try.ntmps49
    go_wp2_with (first | (refine wpList_fop rfl .sub _ _ _ _ rfl .f64 b b rfl rfl rfl hb hb ?_; intro r n hr) | (refine wpList_fcmp rfl .neq _ _ _ _ rfl .f64 _ 0 rfl rfl rfl (by assumption) h0 ?_; rw [h]) | (refine wpList_fcmp rfl .geq _ _ _ _ rfl .f64 b _ rfl rfl rfl hb hB ?_; rw [h1]) | (refine wpList_fcmp rfl .leq _ _ _ _ rfl .f64 b _ rfl rfl rfl hb hL ?_; rw [h2]))
    go_ret
    exact ⟨_, rfl, h0, _, rfl⟩
  · clear hg
    go_enter Try.func49, Try.ntmps49
    go_wp2_with (first | (refine wpList_fop rfl .sub _ _ _ _ rfl .f64 b b rfl rfl rfl hb hb ?_; intro r n hr) | (refine wpList_fcmp rfl .neq _ _ _ _ rfl .f64 _ 0 rfl rfl rfl (by assumption) h0 ?_; rw [h]) | (refine wpList_fcmp rfl .geq _ _ _ _ rfl .f64 b _ rfl rfl rfl hb hB ?_; rw [h1]))
    go_ret
    exact ⟨_, rfl, h0, _, rfl⟩
set_option maxHeartbeats 2000000 in
theorem sineWideFFF {b : Nat} {n : Int} (w : World) (hb : Is .f64 b (some b)) (hn : floatToIntVal .f64 b .i64 = some n) (h : fcmp .neq .f64 (fop .sub .f64 (some b) (some b)) (some 0) = false) (g1 : fcmp .geq .f64 (some b) big = false) (g2 : fcmp .leq .f64 (some b) lowBig = false)
    (hs : fcmp .lss .f64 (partF b n) (some 0) = false) (h2 : fcmp .geq .f64 (turnF false (partF b n)) (some 4602678819172646912) = false) (h3 : fcmp .gtr .f64 (lowF false (turnF false (partF b n))) (some 4598175219545276416) = false) :
    Calls Try.prog 49 #[.float .f64 b] w fun e w' => ∃ r, e = .returned (.float .f64 r) ∧ Is .f64 r (sineF b n) ∧ ∃ n, w' = w.drewN n := by
  have h1 := is_one64
  have h0 := is_zero64
  have hc := is_circle
  have hh := is_half
  have hq := is_quarter
  have hB := is_big
  have hL := is_lowBig
  have hcv := conv_int b n hn
  have hi := is_int n
  clear hn
  obtain ⟨f, hf⟩ : ∃ f, f = turnF false (partF b n) := ⟨_, rfl⟩
  obtain ⟨Z, hZ⟩ : ∃ Z, Z = fop .mul .f64 (foldF false (lowF false f)) circle := ⟨_, rfl⟩
  have HF : Hid (sineF b n = sinR false (sinT Z)) := by
    show _ = _
    unfold sineF sinF
    rw [hs, h2, h3, hZ, hf]
  rw [← hf] at h2 h3
  have HFF := Lib.hid hf.symm
  have HZ1 := Lib.hid hZ.symm
  have H3 := Lib.hid h3
  have HS1 := Lib.hid hs
  clear hf hZ h3 hs
  go_enter Try.func49, Try.ntmps49
  go_wp2_with (first | (refine wpList_fop rfl .sub _ _ _ _ rfl .f64 b b rfl rfl rfl hb hb ?_; intro r m hr) | (refine wpList_fcmp rfl .neq _ _ _ _ rfl .f64 _ 0 rfl rfl rfl hr h0 ?_; rw [h]) | (refine wpList_fcmp rfl .geq _ _ _ _ rfl .f64 b 4841369599423283200 rfl rfl rfl hb hB ?_; rw [g1]) | (refine wpList_fcmp rfl .leq _ _ _ _ rfl .f64 b _ rfl rfl rfl hb hL ?_; rw [g2]) | (refine wpList_fop rfl .sub _ _ _ _ rfl .f64 b _ rfl rfl rfl hb hi ?_; intro fb mf hfb; have hF : Is .f64 fb f := (by rw [← HFF.out]; exact hfb)) | (refine wpList_fcmp rfl .lss _ _ _ _ rfl .f64 _ 0 rfl rfl rfl hfb h0 ?_; erw [HS1.out]) | (refine wpList_fcmp rfl .geq _ _ _ _ rfl .f64 _ 4602678819172646912 rfl rfl rfl hF hh ?_; rw [h2]) | (refine wpList_fcmp rfl .gtr _ _ _ _ rfl .f64 _ 4598175219545276416 rfl rfl rfl hF hq ?_; erw [H3.out]) | (refine wpList_fop rfl .mul _ _ _ _ rfl .f64 _ 4618760256179416344 rfl rfl rfl hF hc ?_; intro zb nz hz0; have hz : Is .f64 zb Z := (by rw [← HZ1.out]; exact hz0); clear hz0) | (refine wpList_fop rfl .mul _ _ _ _ rfl .f64 _ _ rfl rfl rfl hz hz ?_; intro ub nu hu))
  go_loopw [7, 8] (fun p i wr => ∃ (j pb : Nat), j ≤ 8 ∧ i = .int .i64 (8 - (j : Int)) ∧ p = .float .f64 pb ∧ Is .f64 pb (sinP (fop .mul .f64 Z Z) j) ∧ ∃ n, wr = w.drewN n) (fun _ i _ => (intOf i).toNat)
  case atStart => exact ⟨0, _, by omega, rfl, rfl, h1, _, rfl⟩
  case round =>
    obtain ⟨j, pb, hj, rfl, rfl, hp, nj, rfl⟩ := hrel
    by_cases hlt : j < 8
    · have hi := is_int ((kk j : Nat) : Int)
      have hcase : j = 0 ∨ j = 1 ∨ j = 2 ∨ j = 3 ∨ j = 4 ∨ j = 5 ∨ j = 6 ∨ j = 7 := by omega
      clear hlt hj
      rcases hcase with rfl | rfl | rfl | rfl | rfl | rfl | rfl | rfl
      · go_wp2_with (first | (refine wpList_fconv rfl _ _ _ rfl .f64 .f64 _ rfl (by rw [Try.underlying25]; rfl) Try.underlying25 (by assumption) (.inl rfl) ?_; intro rc nc hrc) | (refine wpList_fop rfl .mul _ _ _ _ rfl .f64 _ pb rfl rfl rfl (by assumption) hp ?_; intro r4 n4 hr4) | (refine wpList_fop rfl .quo _ _ _ _ rfl .f64 _ _ rfl rfl rfl (by assumption) hi ?_; intro r3 n3 hr3) | (refine wpList_fop rfl .sub _ _ _ _ rfl .f64 _ _ rfl rfl rfl h1 (by assumption) ?_; intro r5 n5 hr5))
        go_roundw
        case rel => exact ⟨1, _, by omega, by rfl, rfl, by assumption, _, rfl⟩
        case measure => simp [intOf]
      · go_wp2_with (first | (refine wpList_fconv rfl _ _ _ rfl .f64 .f64 _ rfl (by rw [Try.underlying25]; rfl) Try.underlying25 (by assumption) (.inl rfl) ?_; intro rc nc hrc) | (refine wpList_fop rfl .mul _ _ _ _ rfl .f64 _ pb rfl rfl rfl (by assumption) hp ?_; intro r4 n4 hr4) | (refine wpList_fop rfl .quo _ _ _ _ rfl .f64 _ _ rfl rfl rfl (by assumption) hi ?_; intro r3 n3 hr3) | (refine wpList_fop rfl .sub _ _ _ _ rfl .f64 _ _ rfl rfl rfl h1 (by assumption) ?_; intro r5 n5 hr5))
        go_roundw
        case rel => exact ⟨2, _, by omega, by rfl, rfl, by assumption, _, rfl⟩
        case measure => simp [intOf]
      · go_wp2_with (first | (refine wpList_fconv rfl _ _ _ rfl .f64 .f64 _ rfl (by rw [Try.underlying25]; rfl) Try.underlying25 (by assumption) (.inl rfl) ?_; intro rc nc hrc) | (refine wpList_fop rfl .mul _ _ _ _ rfl .f64 _ pb rfl rfl rfl (by assumption) hp ?_; intro r4 n4 hr4) | (refine wpList_fop rfl .quo _ _ _ _ rfl .f64 _ _ rfl rfl rfl (by assumption) hi ?_; intro r3 n3 hr3) | (refine wpList_fop rfl .sub _ _ _ _ rfl .f64 _ _ rfl rfl rfl h1 (by assumption) ?_; intro r5 n5 hr5))
        go_roundw
        case rel => exact ⟨3, _, by omega, by rfl, rfl, by assumption, _, rfl⟩
        case measure => simp [intOf]
      · go_wp2_with (first | (refine wpList_fconv rfl _ _ _ rfl .f64 .f64 _ rfl (by rw [Try.underlying25]; rfl) Try.underlying25 (by assumption) (.inl rfl) ?_; intro rc nc hrc) | (refine wpList_fop rfl .mul _ _ _ _ rfl .f64 _ pb rfl rfl rfl (by assumption) hp ?_; intro r4 n4 hr4) | (refine wpList_fop rfl .quo _ _ _ _ rfl .f64 _ _ rfl rfl rfl (by assumption) hi ?_; intro r3 n3 hr3) | (refine wpList_fop rfl .sub _ _ _ _ rfl .f64 _ _ rfl rfl rfl h1 (by assumption) ?_; intro r5 n5 hr5))
        go_roundw
        case rel => exact ⟨4, _, by omega, by rfl, rfl, by assumption, _, rfl⟩
        case measure => simp [intOf]
      · go_wp2_with (first | (refine wpList_fconv rfl _ _ _ rfl .f64 .f64 _ rfl (by rw [Try.underlying25]; rfl) Try.underlying25 (by assumption) (.inl rfl) ?_; intro rc nc hrc) | (refine wpList_fop rfl .mul _ _ _ _ rfl .f64 _ pb rfl rfl rfl (by assumption) hp ?_; intro r4 n4 hr4) | (refine wpList_fop rfl .quo _ _ _ _ rfl .f64 _ _ rfl rfl rfl (by assumption) hi ?_; intro r3 n3 hr3) | (refine wpList_fop rfl .sub _ _ _ _ rfl .f64 _ _ rfl rfl rfl h1 (by assumption) ?_; intro r5 n5 hr5))
        go_roundw
        case rel => exact ⟨5, _, by omega, by rfl, rfl, by assumption, _, rfl⟩
        case measure => simp [intOf]
      · go_wp2_with (first | (refine wpList_fconv rfl _ _ _ rfl .f64 .f64 _ rfl (by rw [Try.underlying25]; rfl) Try.underlying25 (by assumption) (.inl rfl) ?_; intro rc nc hrc) | (refine wpList_fop rfl .mul _ _ _ _ rfl .f64 _ pb rfl rfl rfl (by assumption) hp ?_; intro r4 n4 hr4) | (refine wpList_fop rfl .quo _ _ _ _ rfl .f64 _ _ rfl rfl rfl (by assumption) hi ?_; intro r3 n3 hr3) | (refine wpList_fop rfl .sub _ _ _ _ rfl .f64 _ _ rfl rfl rfl h1 (by assumption) ?_; intro r5 n5 hr5))
        go_roundw
        case rel => exact ⟨6, _, by omega, by rfl, rfl, by assumption, _, rfl⟩
        case measure => simp [intOf]
      · go_wp2_with (first | (refine wpList_fconv rfl _ _ _ rfl .f64 .f64 _ rfl (by rw [Try.underlying25]; rfl) Try.underlying25 (by assumption) (.inl rfl) ?_; intro rc nc hrc) | (refine wpList_fop rfl .mul _ _ _ _ rfl .f64 _ pb rfl rfl rfl (by assumption) hp ?_; intro r4 n4 hr4) | (refine wpList_fop rfl .quo _ _ _ _ rfl .f64 _ _ rfl rfl rfl (by assumption) hi ?_; intro r3 n3 hr3) | (refine wpList_fop rfl .sub _ _ _ _ rfl .f64 _ _ rfl rfl rfl h1 (by assumption) ?_; intro r5 n5 hr5))
        go_roundw
        case rel => exact ⟨7, _, by omega, by rfl, rfl, by assumption, _, rfl⟩
        case measure => simp [intOf]
      · go_wp2_with (first | (refine wpList_fconv rfl _ _ _ rfl .f64 .f64 _ rfl (by rw [Try.underlying25]; rfl) Try.underlying25 (by assumption) (.inl rfl) ?_; intro rc nc hrc) | (refine wpList_fop rfl .mul _ _ _ _ rfl .f64 _ pb rfl rfl rfl (by assumption) hp ?_; intro r4 n4 hr4) | (refine wpList_fop rfl .quo _ _ _ _ rfl .f64 _ _ rfl rfl rfl (by assumption) hi ?_; intro r3 n3 hr3) | (refine wpList_fop rfl .sub _ _ _ _ rfl .f64 _ _ rfl rfl rfl h1 (by assumption) ?_; intro r5 n5 hr5))
        go_roundw
        case rel => exact ⟨8, _, by omega, by rfl, rfl, by assumption, _, rfl⟩
        case measure => simp [intOf]
    · obtain rfl : j = 8 := by omega
      go_wp2_with (first | (refine wpList_fconv rfl _ _ _ rfl .f64 .f64 _ rfl (by rw [Try.underlying25]; rfl) Try.underlying25 (by assumption) (.inl rfl) ?_; intro rc nc hrc) | (refine wpList_fop rfl .mul _ _ _ _ rfl .f64 _ pb rfl rfl rfl hz hp ?_; intro r3 n3 hr3) | (refine wpList_fneg rfl _ _ rfl .f64 _ rfl (by assumption) ?_; intro r9 hr9))
      go_ret
      exact ⟨_, rfl, by rw [HF.out]; assumption, _, rfl⟩
set_option maxHeartbeats 2000000 in
theorem sineWideFFT {b : Nat} {n : Int} (w : World) (hb : Is .f64 b (some b)) (hn : floatToIntVal .f64 b .i64 = some n) (h : fcmp .neq .f64 (fop .sub .f64 (some b) (some b)) (some 0) = false) (g1 : fcmp .geq .f64 (some b) big = false) (g2 : fcmp .leq .f64 (some b) lowBig = false)
    (hs : fcmp .lss .f64 (partF b n) (some 0) = false) (h2 : fcmp .geq .f64 (turnF false (partF b n)) (some 4602678819172646912) = false) (h3 : fcmp .gtr .f64 (lowF false (turnF false (partF b n))) (some 4598175219545276416) = true) :
    Calls Try.prog 49 #[.float .f64 b] w fun e w' => ∃ r, e = .returned (.float .f64 r) ∧ Is .f64 r (sineF b n) ∧ ∃ n, w' = w.drewN n := by
  have h1 := is_one64
  have h0 := is_zero64
  have hc := is_circle
  have hh := is_half
  have hq := is_quarter
  have hB := is_big
  have hL := is_lowBig
  have hcv := conv_int b n hn
  have hi := is_int n
  clear hn
  obtain ⟨f, hf⟩ : ∃ f, f = turnF false (partF b n) := ⟨_, rfl⟩
  obtain ⟨Z, hZ⟩ : ∃ Z, Z = fop .mul .f64 (foldF true (lowF false f)) circle := ⟨_, rfl⟩
  have HF : Hid (sineF b n = sinR false (sinT Z)) := by
    show _ = _
    unfold sineF sinF
    rw [hs, h2, h3, hZ, hf]
  rw [← hf] at h2 h3
  have HFF := Lib.hid hf.symm
  have HZ1 := Lib.hid hZ.symm
  have H3 := Lib.hid h3
  have HS1 := Lib.hid hs
  clear hf hZ h3 hs
  go_enter Try.func49, Try.ntmps49
  go_wp2_with (first | (refine wpList_fop rfl .sub _ _ _ _ rfl .f64 b b rfl rfl rfl hb hb ?_; intro r m hr) | (refine wpList_fcmp rfl .neq _ _ _ _ rfl .f64 _ 0 rfl rfl rfl hr h0 ?_; rw [h]) | (refine wpList_fcmp rfl .geq _ _ _ _ rfl .f64 b 4841369599423283200 rfl rfl rfl hb hB ?_; rw [g1]) | (refine wpList_fcmp rfl .leq _ _ _ _ rfl .f64 b _ rfl rfl rfl hb hL ?_; rw [g2]) | (refine wpList_fop rfl .sub _ _ _ _ rfl .f64 b _ rfl rfl rfl hb hi ?_; intro fb mf hfb; have hF : Is .f64 fb f := (by rw [← HFF.out]; exact hfb)) | (refine wpList_fcmp rfl .lss _ _ _ _ rfl .f64 _ 0 rfl rfl rfl hfb h0 ?_; erw [HS1.out]) | (refine wpList_fcmp rfl .geq _ _ _ _ rfl .f64 _ 4602678819172646912 rfl rfl rfl hF hh ?_; rw [h2]) | (refine wpList_fcmp rfl .gtr _ _ _ _ rfl .f64 _ 4598175219545276416 rfl rfl rfl hF hq ?_; erw [H3.out]) | (refine wpList_fop rfl .sub _ _ _ _ rfl .f64 4602678819172646912 _ rfl rfl rfl hh hF ?_; intro rm nm hrm) | (refine wpList_fop rfl .mul _ _ _ _ rfl .f64 _ 4618760256179416344 rfl rfl rfl hrm hc ?_; intro zb nz hz0; have hz : Is .f64 zb Z := (by rw [← HZ1.out]; exact hz0); clear hz0) | (refine wpList_fop rfl .mul _ _ _ _ rfl .f64 _ _ rfl rfl rfl hz hz ?_; intro ub nu hu))
  go_loopw [7, 8] (fun p i wr => ∃ (j pb : Nat), j ≤ 8 ∧ i = .int .i64 (8 - (j : Int)) ∧ p = .float .f64 pb ∧ Is .f64 pb (sinP (fop .mul .f64 Z Z) j) ∧ ∃ n, wr = w.drewN n) (fun _ i _ => (intOf i).toNat)
  case atStart => exact ⟨0, _, by omega, rfl, rfl, h1, _, rfl⟩
  case round =>
    obtain ⟨j, pb, hj, rfl, rfl, hp, nj, rfl⟩ := hrel
    by_cases hlt : j < 8
    · have hi := is_int ((kk j : Nat) : Int)
      have hcase : j = 0 ∨ j = 1 ∨ j = 2 ∨ j = 3 ∨ j = 4 ∨ j = 5 ∨ j = 6 ∨ j = 7 := by omega
      clear hlt hj
      rcases hcase with rfl | rfl | rfl | rfl | rfl | rfl | rfl | rfl
      · go_wp2_with (first | (refine wpList_fconv rfl _ _ _ rfl .f64 .f64 _ rfl (by rw [Try.underlying25]; rfl) Try.underlying25 (by assumption) (.inl rfl) ?_; intro rc nc hrc) | (refine wpList_fop rfl .mul _ _ _ _ rfl .f64 _ pb rfl rfl rfl (by assumption) hp ?_; intro r4 n4 hr4) | (refine wpList_fop rfl .quo _ _ _ _ rfl .f64 _ _ rfl rfl rfl (by assumption) hi ?_; intro r3 n3 hr3) | (refine wpList_fop rfl .sub _ _ _ _ rfl .f64 _ _ rfl rfl rfl h1 (by assumption) ?_; intro r5 n5 hr5))
        go_roundw
        case rel => exact ⟨1, _, by omega, by rfl, rfl, by assumption, _, rfl⟩
        case measure => simp [intOf]
      · go_wp2_with (first | (refine wpList_fconv rfl _ _ _ rfl .f64 .f64 _ rfl (by rw [Try.underlying25]; rfl) Try.underlying25 (by assumption) (.inl rfl) ?_; intro rc nc hrc) | (refine wpList_fop rfl .mul _ _ _ _ rfl .f64 _ pb rfl rfl rfl (by assumption) hp ?_; intro r4 n4 hr4) | (refine wpList_fop rfl .quo _ _ _ _ rfl .f64 _ _ rfl rfl rfl (by assumption) hi ?_; intro r3 n3 hr3) | (refine wpList_fop rfl .sub _ _ _ _ rfl .f64 _ _ rfl rfl rfl h1 (by assumption) ?_; intro r5 n5 hr5))
        go_roundw
        case rel => exact ⟨2, _, by omega, by rfl, rfl, by assumption, _, rfl⟩
        case measure => simp [intOf]
      · go_wp2_with (first | (refine wpList_fconv rfl _ _ _ rfl .f64 .f64 _ rfl (by rw [Try.underlying25]; rfl) Try.underlying25 (by assumption) (.inl rfl) ?_; intro rc nc hrc) | (refine wpList_fop rfl .mul _ _ _ _ rfl .f64 _ pb rfl rfl rfl (by assumption) hp ?_; intro r4 n4 hr4) | (refine wpList_fop rfl .quo _ _ _ _ rfl .f64 _ _ rfl rfl rfl (by assumption) hi ?_; intro r3 n3 hr3) | (refine wpList_fop rfl .sub _ _ _ _ rfl .f64 _ _ rfl rfl rfl h1 (by assumption) ?_; intro r5 n5 hr5))
        go_roundw
        case rel => exact ⟨3, _, by omega, by rfl, rfl, by assumption, _, rfl⟩
        case measure => simp [intOf]
      · go_wp2_with (first | (refine wpList_fconv rfl _ _ _ rfl .f64 .f64 _ rfl (by rw [Try.underlying25]; rfl) Try.underlying25 (by assumption) (.inl rfl) ?_; intro rc nc hrc) | (refine wpList_fop rfl .mul _ _ _ _ rfl .f64 _ pb rfl rfl rfl (by assumption) hp ?_; intro r4 n4 hr4) | (refine wpList_fop rfl .quo _ _ _ _ rfl .f64 _ _ rfl rfl rfl (by assumption) hi ?_; intro r3 n3 hr3) | (refine wpList_fop rfl .sub _ _ _ _ rfl .f64 _ _ rfl rfl rfl h1 (by assumption) ?_; intro r5 n5 hr5))
        go_roundw
        case rel => exact ⟨4, _, by omega, by rfl, rfl, by assumption, _, rfl⟩
        case measure => simp [intOf]
      · go_wp2_with (first | (refine wpList_fconv rfl _ _ _ rfl .f64 .f64 _ rfl (by rw [Try.underlying25]; rfl) Try.underlying25 (by assumption) (.inl rfl) ?_; intro rc nc hrc) | (refine wpList_fop rfl .mul _ _ _ _ rfl .f64 _ pb rfl rfl rfl (by assumption) hp ?_; intro r4 n4 hr4) | (refine wpList_fop rfl .quo _ _ _ _ rfl .f64 _ _ rfl rfl rfl (by assumption) hi ?_; intro r3 n3 hr3) | (refine wpList_fop rfl .sub _ _ _ _ rfl .f64 _ _ rfl rfl rfl h1 (by assumption) ?_; intro r5 n5 hr5))
        go_roundw
        case rel => exact ⟨5, _, by omega, by rfl, rfl, by assumption, _, rfl⟩
        case measure => simp [intOf]
      · go_wp2_with (first | (refine wpList_fconv rfl _ _ _ rfl .f64 .f64 _ rfl (by rw [Try.underlying25]; rfl) Try.underlying25 (by assumption) (.inl rfl) ?_; intro rc nc hrc) | (refine wpList_fop rfl .mul _ _ _ _ rfl .f64 _ pb rfl rfl rfl (by assumption) hp ?_; intro r4 n4 hr4) | (refine wpList_fop rfl .quo _ _ _ _ rfl .f64 _ _ rfl rfl rfl (by assumption) hi ?_; intro r3 n3 hr3) | (refine wpList_fop rfl .sub _ _ _ _ rfl .f64 _ _ rfl rfl rfl h1 (by assumption) ?_; intro r5 n5 hr5))
        go_roundw
        case rel => exact ⟨6, _, by omega, by rfl, rfl, by assumption, _, rfl⟩
        case measure => simp [intOf]
      · go_wp2_with (first | (refine wpList_fconv rfl _ _ _ rfl .f64 .f64 _ rfl (by rw [Try.underlying25]; rfl) Try.underlying25 (by assumption) (.inl rfl) ?_; intro rc nc hrc) | (refine wpList_fop rfl .mul _ _ _ _ rfl .f64 _ pb rfl rfl rfl (by assumption) hp ?_; intro r4 n4 hr4) | (refine wpList_fop rfl .quo _ _ _ _ rfl .f64 _ _ rfl rfl rfl (by assumption) hi ?_; intro r3 n3 hr3) | (refine wpList_fop rfl .sub _ _ _ _ rfl .f64 _ _ rfl rfl rfl h1 (by assumption) ?_; intro r5 n5 hr5))
        go_roundw
        case rel => exact ⟨7, _, by omega, by rfl, rfl, by assumption, _, rfl⟩
        case measure => simp [intOf]
      · go_wp2_with (first | (refine wpList_fconv rfl _ _ _ rfl .f64 .f64 _ rfl (by rw [Try.underlying25]; rfl) Try.underlying25 (by assumption) (.inl rfl) ?_; intro rc nc hrc) | (refine wpList_fop rfl .mul _ _ _ _ rfl .f64 _ pb rfl rfl rfl (by assumption) hp ?_; intro r4 n4 hr4) | (refine wpList_fop rfl .quo _ _ _ _ rfl .f64 _ _ rfl rfl rfl (by assumption) hi ?_; intro r3 n3 hr3) | (refine wpList_fop rfl .sub _ _ _ _ rfl .f64 _ _ rfl rfl rfl h1 (by assumption) ?_; intro r5 n5 hr5))
        go_roundw
        case rel => exact ⟨8, _, by omega, by rfl, rfl, by assumption, _, rfl⟩
        case measure => simp [intOf]
    · obtain rfl : j = 8 := by omega
      go_wp2_with (first | (refine wpList_fconv rfl _ _ _ rfl .f64 .f64 _ rfl (by rw [Try.underlying25]; rfl) Try.underlying25 (by assumption) (.inl rfl) ?_; intro rc nc hrc) | (refine wpList_fop rfl .mul _ _ _ _ rfl .f64 _ pb rfl rfl rfl hz hp ?_; intro r3 n3 hr3) | (refine wpList_fneg rfl _ _ rfl .f64 _ rfl (by assumption) ?_; intro r9 hr9))
      go_ret
      exact ⟨_, rfl, by rw [HF.out]; assumption, _, rfl⟩
set_option maxHeartbeats 2000000 in
theorem sineWideFTF {b : Nat} {n : Int} (w : World) (hb : Is .f64 b (some b)) (hn : floatToIntVal .f64 b .i64 = some n) (h : fcmp .neq .f64 (fop .sub .f64 (some b) (some b)) (some 0) = false) (g1 : fcmp .geq .f64 (some b) big = false) (g2 : fcmp .leq .f64 (some b) lowBig = false)
    (hs : fcmp .lss .f64 (partF b n) (some 0) = false) (h2 : fcmp .geq .f64 (turnF false (partF b n)) (some 4602678819172646912) = true) (h3 : fcmp .gtr .f64 (lowF true (turnF false (partF b n))) (some 4598175219545276416) = false) :
    Calls Try.prog 49 #[.float .f64 b] w fun e w' => ∃ r, e = .returned (.float .f64 r) ∧ Is .f64 r (sineF b n) ∧ ∃ n, w' = w.drewN n := by
  have h1 := is_one64
  have h0 := is_zero64
  have hc := is_circle
  have hh := is_half
  have hq := is_quarter
  have hB := is_big
  have hL := is_lowBig
  have hcv := conv_int b n hn
  have hi := is_int n
  clear hn
  obtain ⟨f, hf⟩ : ∃ f, f = turnF false (partF b n) := ⟨_, rfl⟩
  obtain ⟨Z, hZ⟩ : ∃ Z, Z = fop .mul .f64 (foldF false (lowF true f)) circle := ⟨_, rfl⟩
  have HF : Hid (sineF b n = sinR true (sinT Z)) := by
    show _ = _
    unfold sineF sinF
    rw [hs, h2, h3, hZ, hf]
  rw [← hf] at h2 h3
  have HFF := Lib.hid hf.symm
  have HZ1 := Lib.hid hZ.symm
  have H3 := Lib.hid h3
  have HS1 := Lib.hid hs
  clear hf hZ h3 hs
  go_enter Try.func49, Try.ntmps49
  go_wp2_with (first | (refine wpList_fop rfl .sub _ _ _ _ rfl .f64 b b rfl rfl rfl hb hb ?_; intro r m hr) | (refine wpList_fcmp rfl .neq _ _ _ _ rfl .f64 _ 0 rfl rfl rfl hr h0 ?_; rw [h]) | (refine wpList_fcmp rfl .geq _ _ _ _ rfl .f64 b 4841369599423283200 rfl rfl rfl hb hB ?_; rw [g1]) | (refine wpList_fcmp rfl .leq _ _ _ _ rfl .f64 b _ rfl rfl rfl hb hL ?_; rw [g2]) | (refine wpList_fop rfl .sub _ _ _ _ rfl .f64 b _ rfl rfl rfl hb hi ?_; intro fb mf hfb; have hF : Is .f64 fb f := (by rw [← HFF.out]; exact hfb)) | (refine wpList_fcmp rfl .lss _ _ _ _ rfl .f64 _ 0 rfl rfl rfl hfb h0 ?_; erw [HS1.out]) | (refine wpList_fcmp rfl .geq _ _ _ _ rfl .f64 _ 4602678819172646912 rfl rfl rfl hF hh ?_; rw [h2]) | (refine wpList_fop rfl .sub _ _ _ _ rfl .f64 _ 4602678819172646912 rfl rfl rfl hF hh ?_; intro rl nl hrl) | (refine wpList_fcmp rfl .gtr _ _ _ _ rfl .f64 _ 4598175219545276416 rfl rfl rfl hrl hq ?_; erw [H3.out]) | (refine wpList_fop rfl .mul _ _ _ _ rfl .f64 _ 4618760256179416344 rfl rfl rfl hrl hc ?_; intro zb nz hz0; have hz : Is .f64 zb Z := (by rw [← HZ1.out]; exact hz0); clear hz0) | (refine wpList_fop rfl .mul _ _ _ _ rfl .f64 _ _ rfl rfl rfl hz hz ?_; intro ub nu hu))
  go_loopw [7, 8] (fun p i wr => ∃ (j pb : Nat), j ≤ 8 ∧ i = .int .i64 (8 - (j : Int)) ∧ p = .float .f64 pb ∧ Is .f64 pb (sinP (fop .mul .f64 Z Z) j) ∧ ∃ n, wr = w.drewN n) (fun _ i _ => (intOf i).toNat)
  case atStart => exact ⟨0, _, by omega, rfl, rfl, h1, _, rfl⟩
  case round =>
    obtain ⟨j, pb, hj, rfl, rfl, hp, nj, rfl⟩ := hrel
    by_cases hlt : j < 8
    · have hi := is_int ((kk j : Nat) : Int)
      have hcase : j = 0 ∨ j = 1 ∨ j = 2 ∨ j = 3 ∨ j = 4 ∨ j = 5 ∨ j = 6 ∨ j = 7 := by omega
      clear hlt hj
      rcases hcase with rfl | rfl | rfl | rfl | rfl | rfl | rfl | rfl
      · go_wp2_with (first | (refine wpList_fconv rfl _ _ _ rfl .f64 .f64 _ rfl (by rw [Try.underlying25]; rfl) Try.underlying25 (by assumption) (.inl rfl) ?_; intro rc nc hrc) | (refine wpList_fop rfl .mul _ _ _ _ rfl .f64 _ pb rfl rfl rfl (by assumption) hp ?_; intro r4 n4 hr4) | (refine wpList_fop rfl .quo _ _ _ _ rfl .f64 _ _ rfl rfl rfl (by assumption) hi ?_; intro r3 n3 hr3) | (refine wpList_fop rfl .sub _ _ _ _ rfl .f64 _ _ rfl rfl rfl h1 (by assumption) ?_; intro r5 n5 hr5))
        go_roundw
        case rel => exact ⟨1, _, by omega, by rfl, rfl, by assumption, _, rfl⟩
        case measure => simp [intOf]
      · go_wp2_with (first | (refine wpList_fconv rfl _ _ _ rfl .f64 .f64 _ rfl (by rw [Try.underlying25]; rfl) Try.underlying25 (by assumption) (.inl rfl) ?_; intro rc nc hrc) | (refine wpList_fop rfl .mul _ _ _ _ rfl .f64 _ pb rfl rfl rfl (by assumption) hp ?_; intro r4 n4 hr4) | (refine wpList_fop rfl .quo _ _ _ _ rfl .f64 _ _ rfl rfl rfl (by assumption) hi ?_; intro r3 n3 hr3) | (refine wpList_fop rfl .sub _ _ _ _ rfl .f64 _ _ rfl rfl rfl h1 (by assumption) ?_; intro r5 n5 hr5))
        go_roundw
        case rel => exact ⟨2, _, by omega, by rfl, rfl, by assumption, _, rfl⟩
        case measure => simp [intOf]
      · go_wp2_with (first | (refine wpList_fconv rfl _ _ _ rfl .f64 .f64 _ rfl (by rw [Try.underlying25]; rfl) Try.underlying25 (by assumption) (.inl rfl) ?_; intro rc nc hrc) | (refine wpList_fop rfl .mul _ _ _ _ rfl .f64 _ pb rfl rfl rfl (by assumption) hp ?_; intro r4 n4 hr4) | (refine wpList_fop rfl .quo _ _ _ _ rfl .f64 _ _ rfl rfl rfl (by assumption) hi ?_; intro r3 n3 hr3) | (refine wpList_fop rfl .sub _ _ _ _ rfl .f64 _ _ rfl rfl rfl h1 (by assumption) ?_; intro r5 n5 hr5))
        go_roundw
        case rel => exact ⟨3, _, by omega, by rfl, rfl, by assumption, _, rfl⟩
        case measure => simp [intOf]
      · go_wp2_with (first | (refine wpList_fconv rfl _ _ _ rfl .f64 .f64 _ rfl (by rw [Try.underlying25]; rfl) Try.underlying25 (by assumption) (.inl rfl) ?_; intro rc nc hrc) | (refine wpList_fop rfl .mul _ _ _ _ rfl .f64 _ pb rfl rfl rfl (by assumption) hp ?_; intro r4 n4 hr4) | (refine wpList_fop rfl .quo _ _ _ _ rfl .f64 _ _ rfl rfl rfl (by assumption) hi ?_; intro r3 n3 hr3) | (refine wpList_fop rfl .sub _ _ _ _ rfl .f64 _ _ rfl rfl rfl h1 (by assumption) ?_; intro r5 n5 hr5))
        go_roundw
        case rel => exact ⟨4, _, by omega, by rfl, rfl, by assumption, _, rfl⟩
        case measure => simp [intOf]
      · go_wp2_with (first | (refine wpList_fconv rfl _ _ _ rfl .f64 .f64 _ rfl (by rw [Try.underlying25]; rfl) Try.underlying25 (by assumption) (.inl rfl) ?_; intro rc nc hrc) | (refine wpList_fop rfl .mul _ _ _ _ rfl .f64 _ pb rfl rfl rfl (by assumption) hp ?_; intro r4 n4 hr4) | (refine wpList_fop rfl .quo _ _ _ _ rfl .f64 _ _ rfl rfl rfl (by assumption) hi ?_; intro r3 n3 hr3) | (refine wpList_fop rfl .sub _ _ _ _ rfl .f64 _ _ rfl rfl rfl h1 (by assumption) ?_; intro r5 n5 hr5))
        go_roundw
        case rel => exact ⟨5, _, by omega, by rfl, rfl, by assumption, _, rfl⟩
        case measure => simp [intOf]
      · go_wp2_with (first | (refine wpList_fconv rfl _ _ _ rfl .f64 .f64 _ rfl (by rw [Try.underlying25]; rfl) Try.underlying25 (by assumption) (.inl rfl) ?_; intro rc nc hrc) | (refine wpList_fop rfl .mul _ _ _ _ rfl .f64 _ pb rfl rfl rfl (by assumption) hp ?_; intro r4 n4 hr4) | (refine wpList_fop rfl .quo _ _ _ _ rfl .f64 _ _ rfl rfl rfl (by assumption) hi ?_; intro r3 n3 hr3) | (refine wpList_fop rfl .sub _ _ _ _ rfl .f64 _ _ rfl rfl rfl h1 (by assumption) ?_; intro r5 n5 hr5))
        go_roundw
        case rel => exact ⟨6, _, by omega, by rfl, rfl, by assumption, _, rfl⟩
        case measure => simp [intOf]
      · go_wp2_with (first | (refine wpList_fconv rfl _ _ _ rfl .f64 .f64 _ rfl (by rw [Try.underlying25]; rfl) Try.underlying25 (by assumption) (.inl rfl) ?_; intro rc nc hrc) | (refine wpList_fop rfl .mul _ _ _ _ rfl .f64 _ pb rfl rfl rfl (by assumption) hp ?_; intro r4 n4 hr4) | (refine wpList_fop rfl .quo _ _ _ _ rfl .f64 _ _ rfl rfl rfl (by assumption) hi ?_; intro r3 n3 hr3) | (refine wpList_fop rfl .sub _ _ _ _ rfl .f64 _ _ rfl rfl rfl h1 (by assumption) ?_; intro r5 n5 hr5))
        go_roundw
        case rel => exact ⟨7, _, by omega, by rfl, rfl, by assumption, _, rfl⟩
        case measure => simp [intOf]
      · go_wp2_with (first | (refine wpList_fconv rfl _ _ _ rfl .f64 .f64 _ rfl (by rw [Try.underlying25]; rfl) Try.underlying25 (by assumption) (.inl rfl) ?_; intro rc nc hrc) | (refine wpList_fop rfl .mul _ _ _ _ rfl .f64 _ pb rfl rfl rfl (by assumption) hp ?_; intro r4 n4 hr4) | (refine wpList_fop rfl .quo _ _ _ _ rfl .f64 _ _ rfl rfl rfl (by assumption) hi ?_; intro r3 n3 hr3) | (refine wpList_fop rfl .sub _ _ _ _ rfl .f64 _ _ rfl rfl rfl h1 (by assumption) ?_; intro r5 n5 hr5))
        go_roundw
        case rel => exact ⟨8, _, by omega, by rfl, rfl, by assumption, _, rfl⟩
        case measure => simp [intOf]
    · obtain rfl : j = 8 := by omega
      go_wp2_with (first | (refine wpList_fconv rfl _ _ _ rfl .f64 .f64 _ rfl (by rw [Try.underlying25]; rfl) Try.underlying25 (by assumption) (.inl rfl) ?_; intro rc nc hrc) | (refine wpList_fop rfl .mul _ _ _ _ rfl .f64 _ pb rfl rfl rfl hz hp ?_; intro r3 n3 hr3) | (refine wpList_fneg rfl _ _ rfl .f64 _ rfl (by assumption) ?_; intro r9 hr9))
      go_ret
      exact ⟨_, rfl, by rw [HF.out]; assumption, _, rfl⟩
set_option maxHeartbeats 2000000 in
theorem sineWideFTT {b : Nat} {n : Int} (w : World) (hb : Is .f64 b (some b)) (hn : floatToIntVal .f64 b .i64 = some n) (h : fcmp .neq .f64 (fop .sub .f64 (some b) (some b)) (some 0) = false) (g1 : fcmp .geq .f64 (some b) big = false) (g2 : fcmp .leq .f64 (some b) lowBig = false)
    (hs : fcmp .lss .f64 (partF b n) (some 0) = false) (h2 : fcmp .geq .f64 (turnF false (partF b n)) (some 4602678819172646912) = true) (h3 : fcmp .gtr .f64 (lowF true (turnF false (partF b n))) (some 4598175219545276416) = true) :
    Calls Try.prog 49 #[.float .f64 b] w fun e w' => ∃ r, e = .returned (.float .f64 r) ∧ Is .f64 r (sineF b n) ∧ ∃ n, w' = w.drewN n := by
  have h1 := is_one64
  have h0 := is_zero64
  have hc := is_circle
  have hh := is_half
  have hq := is_quarter
  have hB := is_big
  have hL := is_lowBig
  have hcv := conv_int b n hn
  have hi := is_int n
  clear hn
  obtain ⟨f, hf⟩ : ∃ f, f = turnF false (partF b n) := ⟨_, rfl⟩
  obtain ⟨Z, hZ⟩ : ∃ Z, Z = fop .mul .f64 (foldF true (lowF true f)) circle := ⟨_, rfl⟩
  have HF : Hid (sineF b n = sinR true (sinT Z)) := by
    show _ = _
    unfold sineF sinF
    rw [hs, h2, h3, hZ, hf]
  rw [← hf] at h2 h3
  have HFF := Lib.hid hf.symm
  have HZ1 := Lib.hid hZ.symm
  have H3 := Lib.hid h3
  have HS1 := Lib.hid hs
  clear hf hZ h3 hs
  go_enter Try.func49, Try.ntmps49
  go_wp2_with (first | (refine wpList_fop rfl .sub _ _ _ _ rfl .f64 b b rfl rfl rfl hb hb ?_; intro r m hr) | (refine wpList_fcmp rfl .neq _ _ _ _ rfl .f64 _ 0 rfl rfl rfl hr h0 ?_; rw [h]) | (refine wpList_fcmp rfl .geq _ _ _ _ rfl .f64 b 4841369599423283200 rfl rfl rfl hb hB ?_; rw [g1]) | (refine wpList_fcmp rfl .leq _ _ _ _ rfl .f64 b _ rfl rfl rfl hb hL ?_; rw [g2]) | (refine wpList_fop rfl .sub _ _ _ _ rfl .f64 b _ rfl rfl rfl hb hi ?_; intro fb mf hfb; have hF : Is .f64 fb f := (by rw [← HFF.out]; exact hfb)) | (refine wpList_fcmp rfl .lss _ _ _ _ rfl .f64 _ 0 rfl rfl rfl hfb h0 ?_; erw [HS1.out]) | (refine wpList_fcmp rfl .geq _ _ _ _ rfl .f64 _ 4602678819172646912 rfl rfl rfl hF hh ?_; rw [h2]) | (refine wpList_fop rfl .sub _ _ _ _ rfl .f64 _ 4602678819172646912 rfl rfl rfl hF hh ?_; intro rl nl hrl) | (refine wpList_fcmp rfl .gtr _ _ _ _ rfl .f64 _ 4598175219545276416 rfl rfl rfl hrl hq ?_; erw [H3.out]) | (refine wpList_fop rfl .sub _ _ _ _ rfl .f64 4602678819172646912 _ rfl rfl rfl hh hrl ?_; intro rm nm hrm) | (refine wpList_fop rfl .mul _ _ _ _ rfl .f64 _ 4618760256179416344 rfl rfl rfl hrm hc ?_; intro zb nz hz0; have hz : Is .f64 zb Z := (by rw [← HZ1.out]; exact hz0); clear hz0) | (refine wpList_fop rfl .mul _ _ _ _ rfl .f64 _ _ rfl rfl rfl hz hz ?_; intro ub nu hu))
  go_loopw [7, 8] (fun p i wr => ∃ (j pb : Nat), j ≤ 8 ∧ i = .int .i64 (8 - (j : Int)) ∧ p = .float .f64 pb ∧ Is .f64 pb (sinP (fop .mul .f64 Z Z) j) ∧ ∃ n, wr = w.drewN n) (fun _ i _ => (intOf i).toNat)
  case atStart => exact ⟨0, _, by omega, rfl, rfl, h1, _, rfl⟩
  case round =>
    obtain ⟨j, pb, hj, rfl, rfl, hp, nj, rfl⟩ := hrel
    by_cases hlt : j < 8
    · have hi := is_int ((kk j : Nat) : Int)
      have hcase : j = 0 ∨ j = 1 ∨ j = 2 ∨ j = 3 ∨ j = 4 ∨ j = 5 ∨ j = 6 ∨ j = 7 := by omega
      clear hlt hj
      rcases hcase with rfl | rfl | rfl | rfl | rfl | rfl | rfl | rfl
      · go_wp2_with (first | (refine wpList_fconv rfl _ _ _ rfl .f64 .f64 _ rfl (by rw [Try.underlying25]; rfl) Try.underlying25 (by assumption) (.inl rfl) ?_; intro rc nc hrc) | (refine wpList_fop rfl .mul _ _ _ _ rfl .f64 _ pb rfl rfl rfl (by assumption) hp ?_; intro r4 n4 hr4) | (refine wpList_fop rfl .quo _ _ _ _ rfl .f64 _ _ rfl rfl rfl (by assumption) hi ?_; intro r3 n3 hr3) | (refine wpList_fop rfl .sub _ _ _ _ rfl .f64 _ _ rfl rfl rfl h1 (by assumption) ?_; intro r5 n5 hr5))
        go_roundw
        case rel => exact ⟨1, _, by omega, by rfl, rfl, by assumption, _, rfl⟩
        case measure => simp [intOf]
      · go_wp2_with (first | (refine wpList_fconv rfl _ _ _ rfl .f64 .f64 _ rfl (by rw [Try.underlying25]; rfl) Try.underlying25 (by assumption) (.inl rfl) ?_; intro rc nc hrc) | (refine wpList_fop rfl .mul _ _ _ _ rfl .f64 _ pb rfl rfl rfl (by assumption) hp ?_; intro r4 n4 hr4) | (refine wpList_fop rfl .quo _ _ _ _ rfl .f64 _ _ rfl rfl rfl (by assumption) hi ?_; intro r3 n3 hr3) | (refine wpList_fop rfl .sub _ _ _ _ rfl .f64 _ _ rfl rfl rfl h1 (by assumption) ?_; intro r5 n5 hr5))
        go_roundw
        case rel => exact ⟨2, _, by omega, by rfl, rfl, by assumption, _, rfl⟩
        case measure => simp [intOf]
      · go_wp2_with (first | (refine wpList_fconv rfl _ _ _ rfl .f64 .f64 _ rfl (by rw [Try.underlying25]; rfl) Try.underlying25 (by assumption) (.inl rfl) ?_; intro rc nc hrc) | (refine wpList_fop rfl .mul _ _ _ _ rfl .f64 _ pb rfl rfl rfl (by assumption) hp ?_; intro r4 n4 hr4) | (refine wpList_fop rfl .quo _ _ _ _ rfl .f64 _ _ rfl rfl rfl (by assumption) hi ?_; intro r3 n3 hr3) | (refine wpList_fop rfl .sub _ _ _ _ rfl .f64 _ _ rfl rfl rfl h1 (by assumption) ?_; intro r5 n5 hr5))
        go_roundw
        case rel => exact ⟨3, _, by omega, by rfl, rfl, by assumption, _, rfl⟩
        case measure => simp [intOf]
      · go_wp2_with (first | (refine wpList_fconv rfl _ _ _ rfl .f64 .f64 _ rfl (by rw [Try.underlying25]; rfl) Try.underlying25 (by assumption) (.inl rfl) ?_; intro rc nc hrc) | (refine wpList_fop rfl .mul _ _ _ _ rfl .f64 _ pb rfl rfl rfl (by assumption) hp ?_; intro r4 n4 hr4) | (refine wpList_fop rfl .quo _ _ _ _ rfl .f64 _ _ rfl rfl rfl (by assumption) hi ?_; intro r3 n3 hr3) | (refine wpList_fop rfl .sub _ _ _ _ rfl .f64 _ _ rfl rfl rfl h1 (by assumption) ?_; intro r5 n5 hr5))
        go_roundw
        case rel => exact ⟨4, _, by omega, by rfl, rfl, by assumption, _, rfl⟩
        case measure => simp [intOf]
      · go_wp2_with (first | (refine wpList_fconv rfl _ _ _ rfl .f64 .f64 _ rfl (by rw [Try.underlying25]; rfl) Try.underlying25 (by assumption) (.inl rfl) ?_; intro rc nc hrc) | (refine wpList_fop rfl .mul _ _ _ _ rfl .f64 _ pb rfl rfl rfl (by assumption) hp ?_; intro r4 n4 hr4) | (refine wpList_fop rfl .quo _ _ _ _ rfl .f64 _ _ rfl rfl rfl (by assumption) hi ?_; intro r3 n3 hr3) | (refine wpList_fop rfl .sub _ _ _ _ rfl .f64 _ _ rfl rfl rfl h1 (by assumption) ?_; intro r5 n5 hr5))
        go_roundw
        case rel => exact ⟨5, _, by omega, by rfl, rfl, by assumption, _, rfl⟩
        case measure => simp [intOf]
      · go_wp2_with (first | (refine wpList_fconv rfl _ _ _ rfl .f64 .f64 _ rfl (by rw [Try.underlying25]; rfl) Try.underlying25 (by assumption) (.inl rfl) ?_; intro rc nc hrc) | (refine wpList_fop rfl .mul _ _ _ _ rfl .f64 _ pb rfl rfl rfl (by assumption) hp ?_; intro r4 n4 hr4) | (refine wpList_fop rfl .quo _ _ _ _ rfl .f64 _ _ rfl rfl rfl (by assumption) hi ?_; intro r3 n3 hr3) | (refine wpList_fop rfl .sub _ _ _ _ rfl .f64 _ _ rfl rfl rfl h1 (by assumption) ?_; intro r5 n5 hr5))
        go_roundw
        case rel => exact ⟨6, _, by omega, by rfl, rfl, by assumption, _, rfl⟩
        case measure => simp [intOf]
      · go_wp2_with (first | (refine wpList_fconv rfl _ _ _ rfl .f64 .f64 _ rfl (by rw [Try.underlying25]; rfl) Try.underlying25 (by assumption) (.inl rfl) ?_; intro rc nc hrc) | (refine wpList_fop rfl .mul _ _ _ _ rfl .f64 _ pb rfl rfl rfl (by assumption) hp ?_; intro r4 n4 hr4) | (refine wpList_fop rfl .quo _ _ _ _ rfl .f64 _ _ rfl rfl rfl (by assumption) hi ?_; intro r3 n3 hr3) | (refine wpList_fop rfl .sub _ _ _ _ rfl .f64 _ _ rfl rfl rfl h1 (by assumption) ?_; intro r5 n5 hr5))
        go_roundw
        case rel => exact ⟨7, _, by omega, by rfl, rfl, by assumption, _, rfl⟩
        case measure => simp [intOf]
      · go_wp2_with (first | (refine wpList_fconv rfl _ _ _ rfl .f64 .f64 _ rfl (by rw [Try.underlying25]; rfl) Try.underlying25 (by assumption) (.inl rfl) ?_; intro rc nc hrc) | (refine wpList_fop rfl .mul _ _ _ _ rfl .f64 _ pb rfl rfl rfl (by assumption) hp ?_; intro r4 n4 hr4) | (refine wpList_fop rfl .quo _ _ _ _ rfl .f64 _ _ rfl rfl rfl (by assumption) hi ?_; intro r3 n3 hr3) | (refine wpList_fop rfl .sub _ _ _ _ rfl .f64 _ _ rfl rfl rfl h1 (by assumption) ?_; intro r5 n5 hr5))
        go_roundw
        case rel => exact ⟨8, _, by omega, by rfl, rfl, by assumption, _, rfl⟩
        case measure => simp [intOf]
    · obtain rfl : j = 8 := by omega
      go_wp2_with (first | (refine wpList_fconv rfl _ _ _ rfl .f64 .f64 _ rfl (by rw [Try.underlying25]; rfl) Try.underlying25 (by assumption) (.inl rfl) ?_; intro rc nc hrc) | (refine wpList_fop rfl .mul _ _ _ _ rfl .f64 _ pb rfl rfl rfl hz hp ?_; intro r3 n3 hr3) | (refine wpList_fneg rfl _ _ rfl .f64 _ rfl (by assumption) ?_; intro r9 hr9))
      go_ret
      exact ⟨_, rfl, by rw [HF.out]; assumption, _, rfl⟩
set_option maxHeartbeats 2000000 in
theorem sineWideTFF {b : Nat} {n : Int} (w : World) (hb : Is .f64 b (some b)) (hn : floatToIntVal .f64 b .i64 = some n) (h : fcmp .neq .f64 (fop .sub .f64 (some b) (some b)) (some 0) = false) (g1 : fcmp .geq .f64 (some b) big = false) (g2 : fcmp .leq .f64 (some b) lowBig = false)
    (hs : fcmp .lss .f64 (partF b n) (some 0) = true) (h2 : fcmp .geq .f64 (turnF true (partF b n)) (some 4602678819172646912) = false) (h3 : fcmp .gtr .f64 (lowF false (turnF true (partF b n))) (some 4598175219545276416) = false) :
    Calls Try.prog 49 #[.float .f64 b] w fun e w' => ∃ r, e = .returned (.float .f64 r) ∧ Is .f64 r (sineF b n) ∧ ∃ n, w' = w.drewN n := by
  have h1 := is_one64
  have h0 := is_zero64
  have hc := is_circle
  have hh := is_half
  have hq := is_quarter
  have hB := is_big
  have hL := is_lowBig
  have hcv := conv_int b n hn
  have hi := is_int n
  clear hn
  obtain ⟨f, hf⟩ : ∃ f, f = turnF true (partF b n) := ⟨_, rfl⟩
  obtain ⟨Z, hZ⟩ : ∃ Z, Z = fop .mul .f64 (foldF false (lowF false f)) circle := ⟨_, rfl⟩
  have HF : Hid (sineF b n = sinR false (sinT Z)) := by
    show _ = _
    unfold sineF sinF
    rw [hs, h2, h3, hZ, hf]
  rw [← hf] at h2 h3
  have HFF := Lib.hid hf.symm
  have HZ1 := Lib.hid hZ.symm
  have H3 := Lib.hid h3
  have HS1 := Lib.hid hs
  clear hf hZ h3 hs
  go_enter Try.func49, Try.ntmps49
  go_wp2_with (first | (refine wpList_fop rfl .sub _ _ _ _ rfl .f64 b b rfl rfl rfl hb hb ?_; intro r m hr) | (refine wpList_fcmp rfl .neq _ _ _ _ rfl .f64 _ 0 rfl rfl rfl hr h0 ?_; rw [h]) | (refine wpList_fcmp rfl .geq _ _ _ _ rfl .f64 b 4841369599423283200 rfl rfl rfl hb hB ?_; rw [g1]) | (refine wpList_fcmp rfl .leq _ _ _ _ rfl .f64 b _ rfl rfl rfl hb hL ?_; rw [g2]) | (refine wpList_fop rfl .sub _ _ _ _ rfl .f64 b _ rfl rfl rfl hb hi ?_; intro fb mf hfb) | (refine wpList_fcmp rfl .lss _ _ _ _ rfl .f64 _ 0 rfl rfl rfl hfb h0 ?_; erw [HS1.out]) | (refine wpList_fop rfl .add _ _ _ _ rfl .f64 _ 4607182418800017408 rfl rfl rfl hfb h1 ?_; intro f2b m2 hf2; have hF : Is .f64 f2b f := (by rw [← HFF.out]; exact hf2)) | (refine wpList_fcmp rfl .geq _ _ _ _ rfl .f64 _ 4602678819172646912 rfl rfl rfl hF hh ?_; rw [h2]) | (refine wpList_fcmp rfl .gtr _ _ _ _ rfl .f64 _ 4598175219545276416 rfl rfl rfl hF hq ?_; erw [H3.out]) | (refine wpList_fop rfl .mul _ _ _ _ rfl .f64 _ 4618760256179416344 rfl rfl rfl hF hc ?_; intro zb nz hz0; have hz : Is .f64 zb Z := (by rw [← HZ1.out]; exact hz0); clear hz0) | (refine wpList_fop rfl .mul _ _ _ _ rfl .f64 _ _ rfl rfl rfl hz hz ?_; intro ub nu hu))
  go_loopw [7, 8] (fun p i wr => ∃ (j pb : Nat), j ≤ 8 ∧ i = .int .i64 (8 - (j : Int)) ∧ p = .float .f64 pb ∧ Is .f64 pb (sinP (fop .mul .f64 Z Z) j) ∧ ∃ n, wr = w.drewN n) (fun _ i _ => (intOf i).toNat)
  case atStart => exact ⟨0, _, by omega, rfl, rfl, h1, _, rfl⟩
  case round =>
    obtain ⟨j, pb, hj, rfl, rfl, hp, nj, rfl⟩ := hrel
    by_cases hlt : j < 8
    · have hi := is_int ((kk j : Nat) : Int)
      have hcase : j = 0 ∨ j = 1 ∨ j = 2 ∨ j = 3 ∨ j = 4 ∨ j = 5 ∨ j = 6 ∨ j = 7 := by omega
      clear hlt hj
      rcases hcase with rfl | rfl | rfl | rfl | rfl | rfl | rfl | rfl
      · go_wp2_with (first | (refine wpList_fconv rfl _ _ _ rfl .f64 .f64 _ rfl (by rw [Try.underlying25]; rfl) Try.underlying25 (by assumption) (.inl rfl) ?_; intro rc nc hrc) | (refine wpList_fop rfl .mul _ _ _ _ rfl .f64 _ pb rfl rfl rfl (by assumption) hp ?_; intro r4 n4 hr4) | (refine wpList_fop rfl .quo _ _ _ _ rfl .f64 _ _ rfl rfl rfl (by assumption) hi ?_; intro r3 n3 hr3) | (refine wpList_fop rfl .sub _ _ _ _ rfl .f64 _ _ rfl rfl rfl h1 (by assumption) ?_; intro r5 n5 hr5))
        go_roundw
        case rel => exact ⟨1, _, by omega, by rfl, rfl, by assumption, _, rfl⟩
        case measure => simp [intOf]
      · go_wp2_with (first | (refine wpList_fconv rfl _ _ _ rfl .f64 .f64 _ rfl (by rw [Try.underlying25]; rfl) Try.underlying25 (by assumption) (.inl rfl) ?_; intro rc nc hrc) | (refine wpList_fop rfl .mul _ _ _ _ rfl .f64 _ pb rfl rfl rfl (by assumption) hp ?_; intro r4 n4 hr4) | (refine wpList_fop rfl .quo _ _ _ _ rfl .f64 _ _ rfl rfl rfl (by assumption) hi ?_; intro r3 n3 hr3) | (refine wpList_fop rfl .sub _ _ _ _ rfl .f64 _ _ rfl rfl rfl h1 (by assumption) ?_; intro r5 n5 hr5))
        go_roundw
        case rel => exact ⟨2, _, by omega, by rfl, rfl, by assumption, _, rfl⟩
        case measure => simp [intOf]
      · go_wp2_with (first | (refine wpList_fconv rfl _ _ _ rfl .f64 .f64 _ rfl (by rw [Try.underlying25]; rfl) Try.underlying25 (by assumption) (.inl rfl) ?_; intro rc nc hrc) | (refine wpList_fop rfl .mul _ _ _ _ rfl .f64 _ pb rfl rfl rfl (by assumption) hp ?_; intro r4 n4 hr4) | (refine wpList_fop rfl .quo _ _ _ _ rfl .f64 _ _ rfl rfl rfl (by assumption) hi ?_; intro r3 n3 hr3) | (refine wpList_fop rfl .sub _ _ _ _ rfl .f64 _ _ rfl rfl rfl h1 (by assumption) ?_; intro r5 n5 hr5))
        go_roundw
        case rel => exact ⟨3, _, by omega, by rfl, rfl, by assumption, _, rfl⟩
        case measure => simp [intOf]
      · go_wp2_with (first | (refine wpList_fconv rfl _ _ _ rfl .f64 .f64 _ rfl (by rw [Try.underlying25]; rfl) Try.underlying25 (by assumption) (.inl rfl) ?_; intro rc nc hrc) | (refine wpList_fop rfl .mul _ _ _ _ rfl .f64 _ pb rfl rfl rfl (by assumption) hp ?_; intro r4 n4 hr4) | (refine wpList_fop rfl .quo _ _ _ _ rfl .f64 _ _ rfl rfl rfl (by assumption) hi ?_; intro r3 n3 hr3) | (refine wpList_fop rfl .sub _ _ _ _ rfl .f64 _ _ rfl rfl rfl h1 (by assumption) ?_; intro r5 n5 hr5))
        go_roundw
        case rel => exact ⟨4, _, by omega, by rfl, rfl, by assumption, _, rfl⟩
        case measure => simp [intOf]
      · go_wp2_with (first | (refine wpList_fconv rfl _ _ _ rfl .f64 .f64 _ rfl (by rw [Try.underlying25]; rfl) Try.underlying25 (by assumption) (.inl rfl) ?_; intro rc nc hrc) | (refine wpList_fop rfl .mul _ _ _ _ rfl .f64 _ pb rfl rfl rfl (by assumption) hp ?_; intro r4 n4 hr4) | (refine wpList_fop rfl .quo _ _ _ _ rfl .f64 _ _ rfl rfl rfl (by assumption) hi ?_; intro r3 n3 hr3) | (refine wpList_fop rfl .sub _ _ _ _ rfl .f64 _ _ rfl rfl rfl h1 (by assumption) ?_; intro r5 n5 hr5))
        go_roundw
        case rel => exact ⟨5, _, by omega, by rfl, rfl, by assumption, _, rfl⟩
        case measure => simp [intOf]
      · go_wp2_with (first | (refine wpList_fconv rfl _ _ _ rfl .f64 .f64 _ rfl (by rw [Try.underlying25]; rfl) Try.underlying25 (by assumption) (.inl rfl) ?_; intro rc nc hrc) | (refine wpList_fop rfl .mul _ _ _ _ rfl .f64 _ pb rfl rfl rfl (by assumption) hp ?_; intro r4 n4 hr4) | (refine wpList_fop rfl .quo _ _ _ _ rfl .f64 _ _ rfl rfl rfl (by assumption) hi ?_; intro r3 n3 hr3) | (refine wpList_fop rfl .sub _ _ _ _ rfl .f64 _ _ rfl rfl rfl h1 (by assumption) ?_; intro r5 n5 hr5))
        go_roundw
        case rel => exact ⟨6, _, by omega, by rfl, rfl, by assumption, _, rfl⟩
        case measure => simp [intOf]
      · go_wp2_with (first | (refine wpList_fconv rfl _ _ _ rfl .f64 .f64 _ rfl (by rw [Try.underlying25]; rfl) Try.underlying25 (by assumption) (.inl rfl) ?_; intro rc nc hrc) | (refine wpList_fop rfl .mul _ _ _ _ rfl .f64 _ pb rfl rfl rfl (by assumption) hp ?_; intro r4 n4 hr4) | (refine wpList_fop rfl .quo _ _ _ _ rfl .f64 _ _ rfl rfl rfl (by assumption) hi ?_; intro r3 n3 hr3) | (refine wpList_fop rfl .sub _ _ _ _ rfl .f64 _ _ rfl rfl rfl h1 (by assumption) ?_; intro r5 n5 hr5))
        go_roundw
        case rel => exact ⟨7, _, by omega, by rfl, rfl, by assumption, _, rfl⟩
        case measure => simp [intOf]
      · go_wp2_with (first | (refine wpList_fconv rfl _ _ _ rfl .f64 .f64 _ rfl (by rw [Try.underlying25]; rfl) Try.underlying25 (by assumption) (.inl rfl) ?_; intro rc nc hrc) | (refine wpList_fop rfl .mul _ _ _ _ rfl .f64 _ pb rfl rfl rfl (by assumption) hp ?_; intro r4 n4 hr4) | (refine wpList_fop rfl .quo _ _ _ _ rfl .f64 _ _ rfl rfl rfl (by assumption) hi ?_; intro r3 n3 hr3) | (refine wpList_fop rfl .sub _ _ _ _ rfl .f64 _ _ rfl rfl rfl h1 (by assumption) ?_; intro r5 n5 hr5))
        go_roundw
        case rel => exact ⟨8, _, by omega, by rfl, rfl, by assumption, _, rfl⟩
        case measure => simp [intOf]
    · obtain rfl : j = 8 := by omega
      go_wp2_with (first | (refine wpList_fconv rfl _ _ _ rfl .f64 .f64 _ rfl (by rw [Try.underlying25]; rfl) Try.underlying25 (by assumption) (.inl rfl) ?_; intro rc nc hrc) | (refine wpList_fop rfl .mul _ _ _ _ rfl .f64 _ pb rfl rfl rfl hz hp ?_; intro r3 n3 hr3) | (refine wpList_fneg rfl _ _ rfl .f64 _ rfl (by assumption) ?_; intro r9 hr9))
      go_ret
      exact ⟨_, rfl, by rw [HF.out]; assumption, _, rfl⟩
set_option maxHeartbeats 2000000 in
theorem sineWideTFT {b : Nat} {n : Int} (w : World) (hb : Is .f64 b (some b)) (hn : floatToIntVal .f64 b .i64 = some n) (h : fcmp .neq .f64 (fop .sub .f64 (some b) (some b)) (some 0) = false) (g1 : fcmp .geq .f64 (some b) big = false) (g2 : fcmp .leq .f64 (some b) lowBig = false)
    (hs : fcmp .lss .f64 (partF b n) (some 0) = true) (h2 : fcmp .geq .f64 (turnF true (partF b n)) (some 4602678819172646912) = false) (h3 : fcmp .gtr .f64 (lowF false (turnF true (partF b n))) (some 4598175219545276416) = true) :
    Calls Try.prog 49 #[.float .f64 b] w fun e w' => ∃ r, e = .returned (.float .f64 r) ∧ Is .f64 r (sineF b n) ∧ ∃ n, w' = w.drewN n := by
  have h1 := is_one64
  have h0 := is_zero64
  have hc := is_circle
  have hh := is_half
  have hq := is_quarter
  have hB := is_big
  have hL := is_lowBig
  have hcv := conv_int b n hn
  have hi := is_int n
  clear hn
  obtain ⟨f, hf⟩ : ∃ f, f = turnF true (partF b n) := ⟨_, rfl⟩
  obtain ⟨Z, hZ⟩ : ∃ Z, Z = fop .mul .f64 (foldF true (lowF false f)) circle := ⟨_, rfl⟩
  have HF : Hid (sineF b n = sinR false (sinT Z)) := by
    show _ = _
    unfold sineF sinF
    rw [hs, h2, h3, hZ, hf]
  rw [← hf] at h2 h3
  have HFF := Lib.hid hf.symm
  have HZ1 := Lib.hid hZ.symm
  have H3 := Lib.hid h3
  have HS1 := Lib.hid hs
  clear hf hZ h3 hs
  go_enter Try.func49, Try.ntmps49
  go_wp2_with (first | (refine wpList_fop rfl .sub _ _ _ _ rfl .f64 b b rfl rfl rfl hb hb ?_; intro r m hr) | (refine wpList_fcmp rfl .neq _ _ _ _ rfl .f64 _ 0 rfl rfl rfl hr h0 ?_; rw [h]) | (refine wpList_fcmp rfl .geq _ _ _ _ rfl .f64 b 4841369599423283200 rfl rfl rfl hb hB ?_; rw [g1]) | (refine wpList_fcmp rfl .leq _ _ _ _ rfl .f64 b _ rfl rfl rfl hb hL ?_; rw [g2]) | (refine wpList_fop rfl .sub _ _ _ _ rfl .f64 b _ rfl rfl rfl hb hi ?_; intro fb mf hfb) | (refine wpList_fcmp rfl .lss _ _ _ _ rfl .f64 _ 0 rfl rfl rfl hfb h0 ?_; erw [HS1.out]) | (refine wpList_fop rfl .add _ _ _ _ rfl .f64 _ 4607182418800017408 rfl rfl rfl hfb h1 ?_; intro f2b m2 hf2; have hF : Is .f64 f2b f := (by rw [← HFF.out]; exact hf2)) | (refine wpList_fcmp rfl .geq _ _ _ _ rfl .f64 _ 4602678819172646912 rfl rfl rfl hF hh ?_; rw [h2]) | (refine wpList_fcmp rfl .gtr _ _ _ _ rfl .f64 _ 4598175219545276416 rfl rfl rfl hF hq ?_; erw [H3.out]) | (refine wpList_fop rfl .sub _ _ _ _ rfl .f64 4602678819172646912 _ rfl rfl rfl hh hF ?_; intro rm nm hrm) | (refine wpList_fop rfl .mul _ _ _ _ rfl .f64 _ 4618760256179416344 rfl rfl rfl hrm hc ?_; intro zb nz hz0; have hz : Is .f64 zb Z := (by rw [← HZ1.out]; exact hz0); clear hz0) | (refine wpList_fop rfl .mul _ _ _ _ rfl .f64 _ _ rfl rfl rfl hz hz ?_; intro ub nu hu))
  go_loopw [7, 8] (fun p i wr => ∃ (j pb : Nat), j ≤ 8 ∧ i = .int .i64 (8 - (j : Int)) ∧ p = .float .f64 pb ∧ Is .f64 pb (sinP (fop .mul .f64 Z Z) j) ∧ ∃ n, wr = w.drewN n) (fun _ i _ => (intOf i).toNat)
  case atStart => exact ⟨0, _, by omega, rfl, rfl, h1, _, rfl⟩
  case round =>
    obtain ⟨j, pb, hj, rfl, rfl, hp, nj, rfl⟩ := hrel
    by_cases hlt : j < 8
    · have hi := is_int ((kk j : Nat) : Int)
      have hcase : j = 0 ∨ j = 1 ∨ j = 2 ∨ j = 3 ∨ j = 4 ∨ j = 5 ∨ j = 6 ∨ j = 7 := by omega
      clear hlt hj
      rcases hcase with rfl | rfl | rfl | rfl | rfl | rfl | rfl | rfl
      · go_wp2_with (first | (refine wpList_fconv rfl _ _ _ rfl .f64 .f64 _ rfl (by rw [Try.underlying25]; rfl) Try.underlying25 (by assumption) (.inl rfl) ?_; intro rc nc hrc) | (refine wpList_fop rfl .mul _ _ _ _ rfl .f64 _ pb rfl rfl rfl (by assumption) hp ?_; intro r4 n4 hr4) | (refine wpList_fop rfl .quo _ _ _ _ rfl .f64 _ _ rfl rfl rfl (by assumption) hi ?_; intro r3 n3 hr3) | (refine wpList_fop rfl .sub _ _ _ _ rfl .f64 _ _ rfl rfl rfl h1 (by assumption) ?_; intro r5 n5 hr5))
        go_roundw
        case rel => exact ⟨1, _, by omega, by rfl, rfl, by assumption, _, rfl⟩
        case measure => simp [intOf]
      · go_wp2_with (first | (refine wpList_fconv rfl _ _ _ rfl .f64 .f64 _ rfl (by rw [Try.underlying25]; rfl) Try.underlying25 (by assumption) (.inl rfl) ?_; intro rc nc hrc) | (refine wpList_fop rfl .mul _ _ _ _ rfl .f64 _ pb rfl rfl rfl (by assumption) hp ?_; intro r4 n4 hr4) | (refine wpList_fop rfl .quo _ _ _ _ rfl .f64 _ _ rfl rfl rfl (by assumption) hi ?_; intro r3 n3 hr3) | (refine wpList_fop rfl .sub _ _ _ _ rfl .f64 _ _ rfl rfl rfl h1 (by assumption) ?_; intro r5 n5 hr5))
        go_roundw
        case rel => exact ⟨2, _, by omega, by rfl, rfl, by assumption, _, rfl⟩
        case measure => simp [intOf]
      · go_wp2_with (first | (refine wpList_fconv rfl _ _ _ rfl .f64 .f64 _ rfl (by rw [Try.underlying25]; rfl) Try.underlying25 (by assumption) (.inl rfl) ?_; intro rc nc hrc) | (refine wpList_fop rfl .mul _ _ _ _ rfl .f64 _ pb rfl rfl rfl (by assumption) hp ?_; intro r4 n4 hr4) | (refine wpList_fop rfl .quo _ _ _ _ rfl .f64 _ _ rfl rfl rfl (by assumption) hi ?_; intro r3 n3 hr3) | (refine wpList_fop rfl .sub _ _ _ _ rfl .f64 _ _ rfl rfl rfl h1 (by assumption) ?_; intro r5 n5 hr5))
        go_roundw
        case rel => exact ⟨3, _, by omega, by rfl, rfl, by assumption, _, rfl⟩
        case measure => simp [intOf]
      · go_wp2_with (first | (refine wpList_fconv rfl _ _ _ rfl .f64 .f64 _ rfl (by rw [Try.underlying25]; rfl) Try.underlying25 (by assumption) (.inl rfl) ?_; intro rc nc hrc) | (refine wpList_fop rfl .mul _ _ _ _ rfl .f64 _ pb rfl rfl rfl (by assumption) hp ?_; intro r4 n4 hr4) | (refine wpList_fop rfl .quo _ _ _ _ rfl .f64 _ _ rfl rfl rfl (by assumption) hi ?_; intro r3 n3 hr3) | (refine wpList_fop rfl .sub _ _ _ _ rfl .f64 _ _ rfl rfl rfl h1 (by assumption) ?_; intro r5 n5 hr5))
        go_roundw
        case rel => exact ⟨4, _, by omega, by rfl, rfl, by assumption, _, rfl⟩
        case measure => simp [intOf]
      · go_wp2_with (first | (refine wpList_fconv rfl _ _ _ rfl .f64 .f64 _ rfl (by rw [Try.underlying25]; rfl) Try.underlying25 (by assumption) (.inl rfl) ?_; intro rc nc hrc) | (refine wpList_fop rfl .mul _ _ _ _ rfl .f64 _ pb rfl rfl rfl (by assumption) hp ?_; intro r4 n4 hr4) | (refine wpList_fop rfl .quo _ _ _ _ rfl .f64 _ _ rfl rfl rfl (by assumption) hi ?_; intro r3 n3 hr3) | (refine wpList_fop rfl .sub _ _ _ _ rfl .f64 _ _ rfl rfl rfl h1 (by assumption) ?_; intro r5 n5 hr5))
        go_roundw
        case rel => exact ⟨5, _, by omega, by rfl, rfl, by assumption, _, rfl⟩
        case measure => simp [intOf]
      · go_wp2_with (first | (refine wpList_fconv rfl _ _ _ rfl .f64 .f64 _ rfl (by rw [Try.underlying25]; rfl) Try.underlying25 (by assumption) (.inl rfl) ?_; intro rc nc hrc) | (refine wpList_fop rfl .mul _ _ _ _ rfl .f64 _ pb rfl rfl rfl (by assumption) hp ?_; intro r4 n4 hr4) | (refine wpList_fop rfl .quo _ _ _ _ rfl .f64 _ _ rfl rfl rfl (by assumption) hi ?_; intro r3 n3 hr3) | (refine wpList_fop rfl .sub _ _ _ _ rfl .f64 _ _ rfl rfl rfl h1 (by assumption) ?_; intro r5 n5 hr5))
        go_roundw
        case rel => exact ⟨6, _, by omega, by rfl, rfl, by assumption, _, rfl⟩
        case measure => simp [intOf]
      · go_wp2_with (first | (refine wpList_fconv rfl _ _ _ rfl .f64 .f64 _ rfl (by rw [Try.underlying25]; rfl) Try.underlying25 (by assumption) (.inl rfl) ?_; intro rc nc hrc) | (refine wpList_fop rfl .mul _ _ _ _ rfl .f64 _ pb rfl rfl rfl (by assumption) hp ?_; intro r4 n4 hr4) | (refine wpList_fop rfl .quo _ _ _ _ rfl .f64 _ _ rfl rfl rfl (by assumption) hi ?_; intro r3 n3 hr3) | (refine wpList_fop rfl .sub _ _ _ _ rfl .f64 _ _ rfl rfl rfl h1 (by assumption) ?_; intro r5 n5 hr5))
        go_roundw
        case rel => exact ⟨7, _, by omega, by rfl, rfl, by assumption, _, rfl⟩
        case measure => simp [intOf]
      · go_wp2_with (first | (refine wpList_fconv rfl _ _ _ rfl .f64 .f64 _ rfl (by rw [Try.underlying25]; rfl) Try.underlying25 (by assumption) (.inl rfl) ?_; intro rc nc hrc) | (refine wpList_fop rfl .mul _ _ _ _ rfl .f64 _ pb rfl rfl rfl (by assumption) hp ?_; intro r4 n4 hr4) | (refine wpList_fop rfl .quo _ _ _ _ rfl .f64 _ _ rfl rfl rfl (by assumption) hi ?_; intro r3 n3 hr3) | (refine wpList_fop rfl .sub _ _ _ _ rfl .f64 _ _ rfl rfl rfl h1 (by assumption) ?_; intro r5 n5 hr5))
        go_roundw
        case rel => exact ⟨8, _, by omega, by rfl, rfl, by assumption, _, rfl⟩
        case measure => simp [intOf]
    · obtain rfl : j = 8 := by omega
      go_wp2_with (first | (refine wpList_fconv rfl _ _ _ rfl .f64 .f64 _ rfl (by rw [Try.underlying25]; rfl) Try.underlying25 (by assumption) (.inl rfl) ?_; intro rc nc hrc) | (refine wpList_fop rfl .mul _ _ _ _ rfl .f64 _ pb rfl rfl rfl hz hp ?_; intro r3 n3 hr3) | (refine wpList_fneg rfl _ _ rfl .f64 _ rfl (by assumption) ?_; intro r9 hr9))
      go_ret
      exact ⟨_, rfl, by rw [HF.out]; assumption, _, rfl⟩
set_option maxHeartbeats 2000000 in
theorem sineWideTTF {b : Nat} {n : Int} (w : World) (hb : Is .f64 b (some b)) (hn : floatToIntVal .f64 b .i64 = some n) (h : fcmp .neq .f64 (fop .sub .f64 (some b) (some b)) (some 0) = false) (g1 : fcmp .geq .f64 (some b) big = false) (g2 : fcmp .leq .f64 (some b) lowBig = false)
    (hs : fcmp .lss .f64 (partF b n) (some 0) = true) (h2 : fcmp .geq .f64 (turnF true (partF b n)) (some 4602678819172646912) = true) (h3 : fcmp .gtr .f64 (lowF true (turnF true (partF b n))) (some 4598175219545276416) = false) :
    Calls Try.prog 49 #[.float .f64 b] w fun e w' => ∃ r, e = .returned (.float .f64 r) ∧ Is .f64 r (sineF b n) ∧ ∃ n, w' = w.drewN n := by
  have h1 := is_one64
  have h0 := is_zero64
  have hc := is_circle
  have hh := is_half
  have hq := is_quarter
  have hB := is_big
  have hL := is_lowBig
  have hcv := conv_int b n hn
  have hi := is_int n
  clear hn
  obtain ⟨f, hf⟩ : ∃ f, f = turnF true (partF b n) := ⟨_, rfl⟩
  obtain ⟨Z, hZ⟩ : ∃ Z, Z = fop .mul .f64 (foldF false (lowF true f)) circle := ⟨_, rfl⟩
  have HF : Hid (sineF b n = sinR true (sinT Z)) := by
    show _ = _
    unfold sineF sinF
    rw [hs, h2, h3, hZ, hf]
  rw [← hf] at h2 h3
  have HFF := Lib.hid hf.symm
  have HZ1 := Lib.hid hZ.symm
  have H3 := Lib.hid h3
  have HS1 := Lib.hid hs
  clear hf hZ h3 hs
  go_enter Try.func49, Try.ntmps49
  go_wp2_with (first | (refine wpList_fop rfl .sub _ _ _ _ rfl .f64 b b rfl rfl rfl hb hb ?_; intro r m hr) | (refine wpList_fcmp rfl .neq _ _ _ _ rfl .f64 _ 0 rfl rfl rfl hr h0 ?_; rw [h]) | (refine wpList_fcmp rfl .geq _ _ _ _ rfl .f64 b 4841369599423283200 rfl rfl rfl hb hB ?_; rw [g1]) | (refine wpList_fcmp rfl .leq _ _ _ _ rfl .f64 b _ rfl rfl rfl hb hL ?_; rw [g2]) | (refine wpList_fop rfl .sub _ _ _ _ rfl .f64 b _ rfl rfl rfl hb hi ?_; intro fb mf hfb) | (refine wpList_fcmp rfl .lss _ _ _ _ rfl .f64 _ 0 rfl rfl rfl hfb h0 ?_; erw [HS1.out]) | (refine wpList_fop rfl .add _ _ _ _ rfl .f64 _ 4607182418800017408 rfl rfl rfl hfb h1 ?_; intro f2b m2 hf2; have hF : Is .f64 f2b f := (by rw [← HFF.out]; exact hf2)) | (refine wpList_fcmp rfl .geq _ _ _ _ rfl .f64 _ 4602678819172646912 rfl rfl rfl hF hh ?_; rw [h2]) | (refine wpList_fop rfl .sub _ _ _ _ rfl .f64 _ 4602678819172646912 rfl rfl rfl hF hh ?_; intro rl nl hrl) | (refine wpList_fcmp rfl .gtr _ _ _ _ rfl .f64 _ 4598175219545276416 rfl rfl rfl hrl hq ?_; erw [H3.out]) | (refine wpList_fop rfl .mul _ _ _ _ rfl .f64 _ 4618760256179416344 rfl rfl rfl hrl hc ?_; intro zb nz hz0; have hz : Is .f64 zb Z := (by rw [← HZ1.out]; exact hz0); clear hz0) | (refine wpList_fop rfl .mul _ _ _ _ rfl .f64 _ _ rfl rfl rfl hz hz ?_; intro ub nu hu))
  go_loopw [7, 8] (fun p i wr => ∃ (j pb : Nat), j ≤ 8 ∧ i = .int .i64 (8 - (j : Int)) ∧ p = .float .f64 pb ∧ Is .f64 pb (sinP (fop .mul .f64 Z Z) j) ∧ ∃ n, wr = w.drewN n) (fun _ i _ => (intOf i).toNat)
  case atStart => exact ⟨0, _, by omega, rfl, rfl, h1, _, rfl⟩
  case round =>
    obtain ⟨j, pb, hj, rfl, rfl, hp, nj, rfl⟩ := hrel
    by_cases hlt : j < 8
    · have hi := is_int ((kk j : Nat) : Int)
      have hcase : j = 0 ∨ j = 1 ∨ j = 2 ∨ j = 3 ∨ j = 4 ∨ j = 5 ∨ j = 6 ∨ j = 7 := by omega
      clear hlt hj
      rcases hcase with rfl | rfl | rfl | rfl | rfl | rfl | rfl | rfl
      · go_wp2_with (first | (refine wpList_fconv rfl _ _ _ rfl .f64 .f64 _ rfl (by rw [Try.underlying25]; rfl) Try.underlying25 (by assumption) (.inl rfl) ?_; intro rc nc hrc) | (refine wpList_fop rfl .mul _ _ _ _ rfl .f64 _ pb rfl rfl rfl (by assumption) hp ?_; intro r4 n4 hr4) | (refine wpList_fop rfl .quo _ _ _ _ rfl .f64 _ _ rfl rfl rfl (by assumption) hi ?_; intro r3 n3 hr3) | (refine wpList_fop rfl .sub _ _ _ _ rfl .f64 _ _ rfl rfl rfl h1 (by assumption) ?_; intro r5 n5 hr5))
        go_roundw
        case rel => exact ⟨1, _, by omega, by rfl, rfl, by assumption, _, rfl⟩
        case measure => simp [intOf]
      · go_wp2_with (first | (refine wpList_fconv rfl _ _ _ rfl .f64 .f64 _ rfl (by rw [Try.underlying25]; rfl) Try.underlying25 (by assumption) (.inl rfl) ?_; intro rc nc hrc) | (refine wpList_fop rfl .mul _ _ _ _ rfl .f64 _ pb rfl rfl rfl (by assumption) hp ?_; intro r4 n4 hr4) | (refine wpList_fop rfl .quo _ _ _ _ rfl .f64 _ _ rfl rfl rfl (by assumption) hi ?_; intro r3 n3 hr3) | (refine wpList_fop rfl .sub _ _ _ _ rfl .f64 _ _ rfl rfl rfl h1 (by assumption) ?_; intro r5 n5 hr5))
        go_roundw
        case rel => exact ⟨2, _, by omega, by rfl, rfl, by assumption, _, rfl⟩
        case measure => simp [intOf]
      · go_wp2_with (first | (refine wpList_fconv rfl _ _ _ rfl .f64 .f64 _ rfl (by rw [Try.underlying25]; rfl) Try.underlying25 (by assumption) (.inl rfl) ?_; intro rc nc hrc) | (refine wpList_fop rfl .mul _ _ _ _ rfl .f64 _ pb rfl rfl rfl (by assumption) hp ?_; intro r4 n4 hr4) | (refine wpList_fop rfl .quo _ _ _ _ rfl .f64 _ _ rfl rfl rfl (by assumption) hi ?_; intro r3 n3 hr3) | (refine wpList_fop rfl .sub _ _ _ _ rfl .f64 _ _ rfl rfl rfl h1 (by assumption) ?_; intro r5 n5 hr5))
        go_roundw
        case rel => exact ⟨3, _, by omega, by rfl, rfl, by assumption, _, rfl⟩
        case measure => simp [intOf]
      · go_wp2_with (first | (refine wpList_fconv rfl _ _ _ rfl .f64 .f64 _ rfl (by rw [Try.underlying25]; rfl) Try.underlying25 (by assumption) (.inl rfl) ?_; intro rc nc hrc) | (refine wpList_fop rfl .mul _ _ _ _ rfl .f64 _ pb rfl rfl rfl (by assumption) hp ?_; intro r4 n4 hr4) | (refine wpList_fop rfl .quo _ _ _ _ rfl .f64 _ _ rfl rfl rfl (by assumption) hi ?_; intro r3 n3 hr3) | (refine wpList_fop rfl .sub _ _ _ _ rfl .f64 _ _ rfl rfl rfl h1 (by assumption) ?_; intro r5 n5 hr5))
        go_roundw
        case rel => exact ⟨4, _, by omega, by rfl, rfl, by assumption, _, rfl⟩
        case measure => simp [intOf]
      · go_wp2_with (first | (refine wpList_fconv rfl _ _ _ rfl .f64 .f64 _ rfl (by rw [Try.underlying25]; rfl) Try.underlying25 (by assumption) (.inl rfl) ?_; intro rc nc hrc) | (refine wpList_fop rfl .mul _ _ _ _ rfl .f64 _ pb rfl rfl rfl (by assumption) hp ?_; intro r4 n4 hr4) | (refine wpList_fop rfl .quo _ _ _ _ rfl .f64 _ _ rfl rfl rfl (by assumption) hi ?_; intro r3 n3 hr3) | (refine wpList_fop rfl .sub _ _ _ _ rfl .f64 _ _ rfl rfl rfl h1 (by assumption) ?_; intro r5 n5 hr5))
        go_roundw
        case rel => exact ⟨5, _, by omega, by rfl, rfl, by assumption, _, rfl⟩
        case measure => simp [intOf]
      · go_wp2_with (first | (refine wpList_fconv rfl _ _ _ rfl .f64 .f64 _ rfl (by rw [Try.underlying25]; rfl) Try.underlying25 (by assumption) (.inl rfl) ?_; intro rc nc hrc) | (refine wpList_fop rfl .mul _ _ _ _ rfl .f64 _ pb rfl rfl rfl (by assumption) hp ?_; intro r4 n4 hr4) | (refine wpList_fop rfl .quo _ _ _ _ rfl .f64 _ _ rfl rfl rfl (by assumption) hi ?_; intro r3 n3 hr3) | (refine wpList_fop rfl .sub _ _ _ _ rfl .f64 _ _ rfl rfl rfl h1 (by assumption) ?_; intro r5 n5 hr5))
        go_roundw
        case rel => exact ⟨6, _, by omega, by rfl, rfl, by assumption, _, rfl⟩
        case measure => simp [intOf]
      · go_wp2_with (first | (refine wpList_fconv rfl _ _ _ rfl .f64 .f64 _ rfl (by rw [Try.underlying25]; rfl) Try.underlying25 (by assumption) (.inl rfl) ?_; intro rc nc hrc) | (refine wpList_fop rfl .mul _ _ _ _ rfl .f64 _ pb rfl rfl rfl (by assumption) hp ?_; intro r4 n4 hr4) | (refine wpList_fop rfl .quo _ _ _ _ rfl .f64 _ _ rfl rfl rfl (by assumption) hi ?_; intro r3 n3 hr3) | (refine wpList_fop rfl .sub _ _ _ _ rfl .f64 _ _ rfl rfl rfl h1 (by assumption) ?_; intro r5 n5 hr5))
        go_roundw
        case rel => exact ⟨7, _, by omega, by rfl, rfl, by assumption, _, rfl⟩
        case measure => simp [intOf]
      · go_wp2_with (first | (refine wpList_fconv rfl _ _ _ rfl .f64 .f64 _ rfl (by rw [Try.underlying25]; rfl) Try.underlying25 (by assumption) (.inl rfl) ?_; intro rc nc hrc) | (refine wpList_fop rfl .mul _ _ _ _ rfl .f64 _ pb rfl rfl rfl (by assumption) hp ?_; intro r4 n4 hr4) | (refine wpList_fop rfl .quo _ _ _ _ rfl .f64 _ _ rfl rfl rfl (by assumption) hi ?_; intro r3 n3 hr3) | (refine wpList_fop rfl .sub _ _ _ _ rfl .f64 _ _ rfl rfl rfl h1 (by assumption) ?_; intro r5 n5 hr5))
        go_roundw
        case rel => exact ⟨8, _, by omega, by rfl, rfl, by assumption, _, rfl⟩
        case measure => simp [intOf]
    · obtain rfl : j = 8 := by omega
      go_wp2_with (first | (refine wpList_fconv rfl _ _ _ rfl .f64 .f64 _ rfl (by rw [Try.underlying25]; rfl) Try.underlying25 (by assumption) (.inl rfl) ?_; intro rc nc hrc) | (refine wpList_fop rfl .mul _ _ _ _ rfl .f64 _ pb rfl rfl rfl hz hp ?_; intro r3 n3 hr3) | (refine wpList_fneg rfl _ _ rfl .f64 _ rfl (by assumption) ?_; intro r9 hr9))
      go_ret
      exact ⟨_, rfl, by rw [HF.out]; assumption, _, rfl⟩
set_option maxHeartbeats 2000000 in
theorem sineWideTTT {b : Nat} {n : Int} (w : World) (hb : Is .f64 b (some b)) (hn : floatToIntVal .f64 b .i64 = some n) (h : fcmp .neq .f64 (fop .sub .f64 (some b) (some b)) (some 0) = false) (g1 : fcmp .geq .f64 (some b) big = false) (g2 : fcmp .leq .f64 (some b) lowBig = false)
    (hs : fcmp .lss .f64 (partF b n) (some 0) = true) (h2 : fcmp .geq .f64 (turnF true (partF b n)) (some 4602678819172646912) = true) (h3 : fcmp .gtr .f64 (lowF true (turnF true (partF b n))) (some 4598175219545276416) = true) :
    Calls Try.prog 49 #[.float .f64 b] w fun e w' => ∃ r, e = .returned (.float .f64 r) ∧ Is .f64 r (sineF b n) ∧ ∃ n, w' = w.drewN n := by
  have h1 := is_one64
  have h0 := is_zero64
  have hc := is_circle
  have hh := is_half
  have hq := is_quarter
  have hB := is_big
  have hL := is_lowBig
  have hcv := conv_int b n hn
  have hi := is_int n
  clear hn
  obtain ⟨f, hf⟩ : ∃ f, f = turnF true (partF b n) := ⟨_, rfl⟩
  obtain ⟨Z, hZ⟩ : ∃ Z, Z = fop .mul .f64 (foldF true (lowF true f)) circle := ⟨_, rfl⟩
  have HF : Hid (sineF b n = sinR true (sinT Z)) := by
    show _ = _
    unfold sineF sinF
    rw [hs, h2, h3, hZ, hf]
  rw [← hf] at h2 h3
  have HFF := Lib.hid hf.symm
  have HZ1 := Lib.hid hZ.symm
  have H3 := Lib.hid h3
  have HS1 := Lib.hid hs
  clear hf hZ h3 hs
  go_enter Try.func49, Try.ntmps49
  go_wp2_with (first | (refine wpList_fop rfl .sub _ _ _ _ rfl .f64 b b rfl rfl rfl hb hb ?_; intro r m hr) | (refine wpList_fcmp rfl .neq _ _ _ _ rfl .f64 _ 0 rfl rfl rfl hr h0 ?_; rw [h]) | (refine wpList_fcmp rfl .geq _ _ _ _ rfl .f64 b 4841369599423283200 rfl rfl rfl hb hB ?_; rw [g1]) | (refine wpList_fcmp rfl .leq _ _ _ _ rfl .f64 b _ rfl rfl rfl hb hL ?_; rw [g2]) | (refine wpList_fop rfl .sub _ _ _ _ rfl .f64 b _ rfl rfl rfl hb hi ?_; intro fb mf hfb) | (refine wpList_fcmp rfl .lss _ _ _ _ rfl .f64 _ 0 rfl rfl rfl hfb h0 ?_; erw [HS1.out]) | (refine wpList_fop rfl .add _ _ _ _ rfl .f64 _ 4607182418800017408 rfl rfl rfl hfb h1 ?_; intro f2b m2 hf2; have hF : Is .f64 f2b f := (by rw [← HFF.out]; exact hf2)) | (refine wpList_fcmp rfl .geq _ _ _ _ rfl .f64 _ 4602678819172646912 rfl rfl rfl hF hh ?_; rw [h2]) | (refine wpList_fop rfl .sub _ _ _ _ rfl .f64 _ 4602678819172646912 rfl rfl rfl hF hh ?_; intro rl nl hrl) | (refine wpList_fcmp rfl .gtr _ _ _ _ rfl .f64 _ 4598175219545276416 rfl rfl rfl hrl hq ?_; erw [H3.out]) | (refine wpList_fop rfl .sub _ _ _ _ rfl .f64 4602678819172646912 _ rfl rfl rfl hh hrl ?_; intro rm nm hrm) | (refine wpList_fop rfl .mul _ _ _ _ rfl .f64 _ 4618760256179416344 rfl rfl rfl hrm hc ?_; intro zb nz hz0; have hz : Is .f64 zb Z := (by rw [← HZ1.out]; exact hz0); clear hz0) | (refine wpList_fop rfl .mul _ _ _ _ rfl .f64 _ _ rfl rfl rfl hz hz ?_; intro ub nu hu))
  go_loopw [7, 8] (fun p i wr => ∃ (j pb : Nat), j ≤ 8 ∧ i = .int .i64 (8 - (j : Int)) ∧ p = .float .f64 pb ∧ Is .f64 pb (sinP (fop .mul .f64 Z Z) j) ∧ ∃ n, wr = w.drewN n) (fun _ i _ => (intOf i).toNat)
  case atStart => exact ⟨0, _, by omega, rfl, rfl, h1, _, rfl⟩
  case round =>
    obtain ⟨j, pb, hj, rfl, rfl, hp, nj, rfl⟩ := hrel
    by_cases hlt : j < 8
    · have hi := is_int ((kk j : Nat) : Int)
      have hcase : j = 0 ∨ j = 1 ∨ j = 2 ∨ j = 3 ∨ j = 4 ∨ j = 5 ∨ j = 6 ∨ j = 7 := by omega
      clear hlt hj
      rcases hcase with rfl | rfl | rfl | rfl | rfl | rfl | rfl | rfl
      · go_wp2_with (first | (refine wpList_fconv rfl _ _ _ rfl .f64 .f64 _ rfl (by rw [Try.underlying25]; rfl) Try.underlying25 (by assumption) (.inl rfl) ?_; intro rc nc hrc) | (refine wpList_fop rfl .mul _ _ _ _ rfl .f64 _ pb rfl rfl rfl (by assumption) hp ?_; intro r4 n4 hr4) | (refine wpList_fop rfl .quo _ _ _ _ rfl .f64 _ _ rfl rfl rfl (by assumption) hi ?_; intro r3 n3 hr3) | (refine wpList_fop rfl .sub _ _ _ _ rfl .f64 _ _ rfl rfl rfl h1 (by assumption) ?_; intro r5 n5 hr5))
        go_roundw
        case rel => exact ⟨1, _, by omega, by rfl, rfl, by assumption, _, rfl⟩
        case measure => simp [intOf]
      · go_wp2_with (first | (refine wpList_fconv rfl _ _ _ rfl .f64 .f64 _ rfl (by rw [Try.underlying25]; rfl) Try.underlying25 (by assumption) (.inl rfl) ?_; intro rc nc hrc) | (refine wpList_fop rfl .mul _ _ _ _ rfl .f64 _ pb rfl rfl rfl (by assumption) hp ?_; intro r4 n4 hr4) | (refine wpList_fop rfl .quo _ _ _ _ rfl .f64 _ _ rfl rfl rfl (by assumption) hi ?_; intro r3 n3 hr3) | (refine wpList_fop rfl .sub _ _ _ _ rfl .f64 _ _ rfl rfl rfl h1 (by assumption) ?_; intro r5 n5 hr5))
        go_roundw
        case rel => exact ⟨2, _, by omega, by rfl, rfl, by assumption, _, rfl⟩
        case measure => simp [intOf]
      · go_wp2_with (first | (refine wpList_fconv rfl _ _ _ rfl .f64 .f64 _ rfl (by rw [Try.underlying25]; rfl) Try.underlying25 (by assumption) (.inl rfl) ?_; intro rc nc hrc) | (refine wpList_fop rfl .mul _ _ _ _ rfl .f64 _ pb rfl rfl rfl (by assumption) hp ?_; intro r4 n4 hr4) | (refine wpList_fop rfl .quo _ _ _ _ rfl .f64 _ _ rfl rfl rfl (by assumption) hi ?_; intro r3 n3 hr3) | (refine wpList_fop rfl .sub _ _ _ _ rfl .f64 _ _ rfl rfl rfl h1 (by assumption) ?_; intro r5 n5 hr5))
        go_roundw
        case rel => exact ⟨3, _, by omega, by rfl, rfl, by assumption, _, rfl⟩
        case measure => simp [intOf]
      · go_wp2_with (first | (refine wpList_fconv rfl _ _ _ rfl .f64 .f64 _ rfl (by rw [Try.underlying25]; rfl) Try.underlying25 (by assumption) (.inl rfl) ?_; intro rc nc hrc) | (refine wpList_fop rfl .mul _ _ _ _ rfl .f64 _ pb rfl rfl rfl (by assumption) hp ?_; intro r4 n4 hr4) | (refine wpList_fop rfl .quo _ _ _ _ rfl .f64 _ _ rfl rfl rfl (by assumption) hi ?_; intro r3 n3 hr3) | (refine wpList_fop rfl .sub _ _ _ _ rfl .f64 _ _ rfl rfl rfl h1 (by assumption) ?_; intro r5 n5 hr5))
        go_roundw
        case rel => exact ⟨4, _, by omega, by rfl, rfl, by assumption, _, rfl⟩
        case measure => simp [intOf]
      · go_wp2_with (first | (refine wpList_fconv rfl _ _ _ rfl .f64 .f64 _ rfl (by rw [Try.underlying25]; rfl) Try.underlying25 (by assumption) (.inl rfl) ?_; intro rc nc hrc) | (refine wpList_fop rfl .mul _ _ _ _ rfl .f64 _ pb rfl rfl rfl (by assumption) hp ?_; intro r4 n4 hr4) | (refine wpList_fop rfl .quo _ _ _ _ rfl .f64 _ _ rfl rfl rfl (by assumption) hi ?_; intro r3 n3 hr3) | (refine wpList_fop rfl .sub _ _ _ _ rfl .f64 _ _ rfl rfl rfl h1 (by assumption) ?_; intro r5 n5 hr5))
        go_roundw
        case rel => exact ⟨5, _, by omega, by rfl, rfl, by assumption, _, rfl⟩
        case measure => simp [intOf]
      · go_wp2_with (first | (refine wpList_fconv rfl _ _ _ rfl .f64 .f64 _ rfl (by rw [Try.underlying25]; rfl) Try.underlying25 (by assumption) (.inl rfl) ?_; intro rc nc hrc) | (refine wpList_fop rfl .mul _ _ _ _ rfl .f64 _ pb rfl rfl rfl (by assumption) hp ?_; intro r4 n4 hr4) | (refine wpList_fop rfl .quo _ _ _ _ rfl .f64 _ _ rfl rfl rfl (by assumption) hi ?_; intro r3 n3 hr3) | (refine wpList_fop rfl .sub _ _ _ _ rfl .f64 _ _ rfl rfl rfl h1 (by assumption) ?_; intro r5 n5 hr5))
        go_roundw
        case rel => exact ⟨6, _, by omega, by rfl, rfl, by assumption, _, rfl⟩
        case measure => simp [intOf]
      · go_wp2_with (first | (refine wpList_fconv rfl _ _ _ rfl .f64 .f64 _ rfl (by rw [Try.underlying25]; rfl) Try.underlying25 (by assumption) (.inl rfl) ?_; intro rc nc hrc) | (refine wpList_fop rfl .mul _ _ _ _ rfl .f64 _ pb rfl rfl rfl (by assumption) hp ?_; intro r4 n4 hr4) | (refine wpList_fop rfl .quo _ _ _ _ rfl .f64 _ _ rfl rfl rfl (by assumption) hi ?_; intro r3 n3 hr3) | (refine wpList_fop rfl .sub _ _ _ _ rfl .f64 _ _ rfl rfl rfl h1 (by assumption) ?_; intro r5 n5 hr5))
        go_roundw
        case rel => exact ⟨7, _, by omega, by rfl, rfl, by assumption, _, rfl⟩
        case measure => simp [intOf]
      · go_wp2_with (first | (refine wpList_fconv rfl _ _ _ rfl .f64 .f64 _ rfl (by rw [Try.underlying25]; rfl) Try.underlying25 (by assumption) (.inl rfl) ?_; intro rc nc hrc) | (refine wpList_fop rfl .mul _ _ _ _ rfl .f64 _ pb rfl rfl rfl (by assumption) hp ?_; intro r4 n4 hr4) | (refine wpList_fop rfl .quo _ _ _ _ rfl .f64 _ _ rfl rfl rfl (by assumption) hi ?_; intro r3 n3 hr3) | (refine wpList_fop rfl .sub _ _ _ _ rfl .f64 _ _ rfl rfl rfl h1 (by assumption) ?_; intro r5 n5 hr5))
        go_roundw
        case rel => exact ⟨8, _, by omega, by rfl, rfl, by assumption, _, rfl⟩
        case measure => simp [intOf]
    · obtain rfl : j = 8 := by omega
      go_wp2_with (first | (refine wpList_fconv rfl _ _ _ rfl .f64 .f64 _ rfl (by rw [Try.underlying25]; rfl) Try.underlying25 (by assumption) (.inl rfl) ?_; intro rc nc hrc) | (refine wpList_fop rfl .mul _ _ _ _ rfl .f64 _ pb rfl rfl rfl hz hp ?_; intro r3 n3 hr3) | (refine wpList_fneg rfl _ _ rfl .f64 _ rfl (by assumption) ?_; intro r9 hr9))
      go_ret
      exact ⟨_, rfl, by rw [HF.out]; assumption, _, rfl⟩
theorem sineWide {b : Nat} {n : Int} (w : World) (hb : Is .f64 b (some b)) (hn : floatToIntVal .f64 b .i64 = some n) (h : fcmp .neq .f64 (fop .sub .f64 (some b) (some b)) (some 0) = false) (g1 : fcmp .geq .f64 (some b) big = false) (g2 : fcmp .leq .f64 (some b) lowBig = false) :
    Calls Try.prog 49 #[.float .f64 b] w fun e w' => ∃ r, e = .returned (.float .f64 r) ∧ Is .f64 r (sineF b n) ∧ ∃ n, w' = w.drewN n := by
  cases hs : fcmp .lss .f64 (partF b n) (some 0)
  · cases h2 : fcmp .geq .f64 (turnF false (partF b n)) (some 4602678819172646912)
    · cases h3 : fcmp .gtr .f64 (lowF false (turnF false (partF b n))) (some 4598175219545276416)
      · exact sineWideFFF w hb hn h g1 g2 hs h2 h3
      · exact sineWideFFT w hb hn h g1 g2 hs h2 h3
    · cases h3 : fcmp .gtr .f64 (lowF true (turnF false (partF b n))) (some 4598175219545276416)
      · exact sineWideFTF w hb hn h g1 g2 hs h2 h3
      · exact sineWideFTT w hb hn h g1 g2 hs h2 h3
  · cases h2 : fcmp .geq .f64 (turnF true (partF b n)) (some 4602678819172646912)
    · cases h3 : fcmp .gtr .f64 (lowF false (turnF true (partF b n))) (some 4598175219545276416)
      · exact sineWideTFF w hb hn h g1 g2 hs h2 h3
      · exact sineWideTFT w hb hn h g1 g2 hs h2 h3
    · cases h3 : fcmp .gtr .f64 (lowF true (turnF true (partF b n))) (some 4598175219545276416)
      · exact sineWideTTF w hb hn h g1 g2 hs h2 h3
      · exact sineWideTTT w hb hn h g1 g2 hs h2 h3
end Go.Proofs.Ytnkcaiifohplaad.Fl
