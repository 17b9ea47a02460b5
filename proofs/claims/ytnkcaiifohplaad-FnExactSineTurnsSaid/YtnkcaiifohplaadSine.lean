/- impl.partOfTurn and impl.wideSine compute the sine of some turns. -/
import Derived.Test.YtnkcaiifohplaadRows
import Derived.Test.YtnkcaiifohplaadLit
import Derived.Test.YtnkcaiifohplaadSn
import Derived.Lib.Hide
namespace Go.Proofs.Ytnkcaiifohplaad.Fl
open Go Go.RowKit
theorem conv_int (b : Nat) (n : Int) (hn : floatToIntVal .f64 b .i64 = some n) (w : World) : (convert 25 2 (.float .f64 b)).run Try.prog w = .ok (.int .i64 n) w :=
  run_convert_float_int w 25 2 .f64 .i64 b n (by rw [Try.underlying25]; rfl) Try.underlying2 hn
set_option maxHeartbeats 400000 in
theorem partOfTurn {b : Nat} {n : Int} (w : World) (hb : Is .f64 b (some b)) (hn : floatToIntVal .f64 b .i64 = some n) :
    Calls Try.prog 50 #[.float .f64 b] w fun e w' => ∃ r, e = .returned (.float .f64 r) ∧ Is .f64 r (turnF (fcmp .lss .f64 (partF b n) (some 0)) (partF b n)) ∧ ∃ n, w' = w.drewN n := by
  have hc := conv_int b n hn
  have h1 := is_one64
  have h0 := is_zero64
  have hi := is_int n
  clear hn
  cases hs : fcmp .lss .f64 (partF b n) (some 0)
  all_goals
    go_enter Try.func50, Try.ntmps50
    go_wp2_with (first | (refine wpList_fop rfl .sub _ _ _ _ rfl .f64 b _ rfl rfl rfl hb hi ?_; intro r m hr) | (refine wpList_fcmp rfl .lss _ _ _ _ rfl .f64 _ 0 rfl rfl rfl (by assumption) h0 ?_; first | rw [hs] | (rw [show fcmp .lss .f64 (fop .sub .f64 (some b) (some (floatOfInt .f64 n))) (some 0) = _ from hs])) | (refine wpList_fop rfl .add _ _ _ _ rfl .f64 _ _ rfl rfl rfl (by assumption) h1 ?_; intro r2 m2 hr2))
    go_ret
    exact ⟨_, rfl, by assumption, _, rfl⟩
set_option maxHeartbeats 2000000 in
theorem wideSine {b : Nat} {n : Int} (w : World) (hb : Is .f64 b (some b)) (hn : floatToIntVal .f64 b .i64 = some n) :
    Calls Try.prog 34 #[.float .f64 b] w fun e w' => ∃ r, e = .returned (.float .f64 r) ∧ Is .f64 r (sineF b n) ∧ ∃ n, w' = w.drewN n := by
  have h1 := is_one64
  have hc := is_circle
  have hh := is_half
  have hq := is_quarter
  obtain ⟨f, hf⟩ : ∃ f, f = turnF (fcmp .lss .f64 (partF b n) (some 0)) (partF b n) := ⟨_, rfl⟩
  have HP : Hid (∀ w, Calls Try.prog 50 #[.float .f64 b] w fun e w' => ∃ r, e = .returned (.float .f64 r) ∧ Is .f64 r f ∧ ∃ n, w' = w.drewN n) := by
    show ∀ w, _
    rw [hf]; exact fun w => partOfTurn w hb hn
  have HS : Hid (sineF b n = sinF f) := by show _ = _; rw [hf]; rfl
  clear hf hn hb
  obtain ⟨Z, hZ⟩ : ∃ Z, Z = fop .mul .f64 (foldF (fcmp .gtr .f64 (lowF (fcmp .geq .f64 f (some 4602678819172646912)) f) (some 4598175219545276416)) (lowF (fcmp .geq .f64 f (some 4602678819172646912)) f)) circle := ⟨_, rfl⟩
  have HZ := Lib.hid hZ
  have HF0 : Hid (sinF f = sinR (fcmp .geq .f64 f (some 4602678819172646912)) (sinT Z)) := by show _ = _; rw [hZ]; rfl
  clear hZ
  cases h2 : fcmp .geq .f64 f (some 4602678819172646912) <;> cases h3 : fcmp .gtr .f64 (lowF (fcmp .geq .f64 f (some 4602678819172646912)) f) (some 4598175219545276416)
  all_goals
    have HF := Lib.hid (HS.out.trans HF0.out)
    have HZ1 := Lib.hid HZ.out.symm
    rw [h2] at h3
    rw [h2, h3] at HZ1
    rw [h2] at HF
    clear HZ HF0 HS
    have H3 := Lib.hid h3
    clear h3
    go_enter Try.func34, Try.ntmps34
    go_wp2_with (first | (go_at_call 50; refine (HP.out _).mono ?_; rintro e w' ⟨fb, rfl, hfb, nf, rfl⟩) | (refine wpList_fcmp rfl .geq _ _ _ _ rfl .f64 _ 4602678819172646912 rfl rfl rfl (by assumption) hh ?_; rw [h2]) | (refine wpList_fop rfl .sub _ _ _ _ rfl .f64 _ 4602678819172646912 rfl rfl rfl (by assumption) hh ?_; intro rl nl hrl) | (refine wpList_fcmp rfl .gtr _ _ _ _ rfl .f64 _ 4598175219545276416 rfl rfl rfl (by assumption) hq ?_; erw [H3.out]) | (refine wpList_fop rfl .sub _ _ _ _ rfl .f64 4602678819172646912 _ rfl rfl rfl hh (by assumption) ?_; intro rm nm hrm) | (refine wpList_fop rfl .mul _ _ _ _ rfl .f64 _ 4618760256179416344 rfl rfl rfl (by assumption) hc ?_; intro zb nz hz0; have hz : Is .f64 zb Z := (by rw [← HZ1.out]; exact hz0); clear hz0) | (refine wpList_fop rfl .mul _ _ _ _ rfl .f64 _ _ rfl rfl rfl (by assumption) (by assumption) ?_; intro ub nu hu))
    go_loopw [7, 8] (fun p i wr => ∃ (j pb : Nat), j ≤ 8 ∧ i = .int .i64 (8 - (j : Int)) ∧ p = .float .f64 pb ∧ Is .f64 pb (sinP (fop .mul .f64 Z Z) j) ∧ ∃ n, wr = w.drewN n) (fun _ i _ => (intOf i).toNat)
    case atStart => exact ⟨0, _, by omega, rfl, rfl, h1, _, rfl⟩
    case round =>
      obtain ⟨j, pb, hj, rfl, rfl, hp, nj, rfl⟩ := hrel
      by_cases hlt : j < 8
      · have hi := is_int ((kk j : Nat) : Int)
        have hcase : j = 0 ∨ j = 1 ∨ j = 2 ∨ j = 3 ∨ j = 4 ∨ j = 5 ∨ j = 6 ∨ j = 7 := by omega
        clear hlt hj
        rcases hcase with rfl | rfl | rfl | rfl | rfl | rfl | rfl | rfl
        · go_wp2_with (first | (refine wpList_fconv rfl _ _ _ rfl .f64 .f64 _ rfl (by rw [Try.underlying25]; rfl) Try.underlying25 (by assumption) (.inl rfl) ?_; intro rc nc hrc) | (refine wpList_fop rfl .mul _ _ _ _ rfl .f64 _ pb rfl rfl rfl (by assumption) hp ?_; intro r4 n4 hr4) | (refine wpList_fop rfl .quo _ _ _ _ rfl .f64 _ _ rfl rfl rfl (by assumption) hi ?_; intro r3 n3 hr3) | (refine wpList_fop rfl .sub _ _ _ _ rfl .f64 _ _ rfl rfl rfl h1 (by assumption) ?_; intro r5 n5 hr5))
          go_roundw
          case rel => exact ⟨1, _, by omega, by rfl, rfl, by assumption, _, rfl⟩
          case measure => simp [intOf]
        · go_wp2_with (first | (refine wpList_fconv rfl _ _ _ rfl .f64 .f64 _ rfl (by rw [Try.underlying25]; rfl) Try.underlying25 (by assumption) (.inl rfl) ?_; intro rc nc hrc) | (refine wpList_fop rfl .mul _ _ _ _ rfl .f64 _ pb rfl rfl rfl (by assumption) hp ?_; intro r4 n4 hr4) | (refine wpList_fop rfl .quo _ _ _ _ rfl .f64 _ _ rfl rfl rfl (by assumption) hi ?_; intro r3 n3 hr3) | (refine wpList_fop rfl .sub _ _ _ _ rfl .f64 _ _ rfl rfl rfl h1 (by assumption) ?_; intro r5 n5 hr5))
          go_roundw
          case rel => exact ⟨2, _, by omega, by rfl, rfl, by assumption, _, rfl⟩
          case measure => simp [intOf]
        · go_wp2_with (first | (refine wpList_fconv rfl _ _ _ rfl .f64 .f64 _ rfl (by rw [Try.underlying25]; rfl) Try.underlying25 (by assumption) (.inl rfl) ?_; intro rc nc hrc) | (refine wpList_fop rfl .mul _ _ _ _ rfl .f64 _ pb rfl rfl rfl (by assumption) hp ?_; intro r4 n4 hr4) | (refine wpList_fop rfl .quo _ _ _ _ rfl .f64 _ _ rfl rfl rfl (by assumption) hi ?_; intro r3 n3 hr3) | (refine wpList_fop rfl .sub _ _ _ _ rfl .f64 _ _ rfl rfl rfl h1 (by assumption) ?_; intro r5 n5 hr5))
          go_roundw
          case rel => exact ⟨3, _, by omega, by rfl, rfl, by assumption, _, rfl⟩
          case measure => simp [intOf]
        · go_wp2_with (first | (refine wpList_fconv rfl _ _ _ rfl .f64 .f64 _ rfl (by rw [Try.underlying25]; rfl) Try.underlying25 (by assumption) (.inl rfl) ?_; intro rc nc hrc) | (refine wpList_fop rfl .mul _ _ _ _ rfl .f64 _ pb rfl rfl rfl (by assumption) hp ?_; intro r4 n4 hr4) | (refine wpList_fop rfl .quo _ _ _ _ rfl .f64 _ _ rfl rfl rfl (by assumption) hi ?_; intro r3 n3 hr3) | (refine wpList_fop rfl .sub _ _ _ _ rfl .f64 _ _ rfl rfl rfl h1 (by assumption) ?_; intro r5 n5 hr5))
          go_roundw
          case rel => exact ⟨4, _, by omega, by rfl, rfl, by assumption, _, rfl⟩
          case measure => simp [intOf]
        · go_wp2_with (first | (refine wpList_fconv rfl _ _ _ rfl .f64 .f64 _ rfl (by rw [Try.underlying25]; rfl) Try.underlying25 (by assumption) (.inl rfl) ?_; intro rc nc hrc) | (refine wpList_fop rfl .mul _ _ _ _ rfl .f64 _ pb rfl rfl rfl (by assumption) hp ?_; intro r4 n4 hr4) | (refine wpList_fop rfl .quo _ _ _ _ rfl .f64 _ _ rfl rfl rfl (by assumption) hi ?_; intro r3 n3 hr3) | (refine wpList_fop rfl .sub _ _ _ _ rfl .f64 _ _ rfl rfl rfl h1 (by assumption) ?_; intro r5 n5 hr5))
          go_roundw
          case rel => exact ⟨5, _, by omega, by rfl, rfl, by assumption, _, rfl⟩
          case measure => simp [intOf]
        · go_wp2_with (first | (refine wpList_fconv rfl _ _ _ rfl .f64 .f64 _ rfl (by rw [Try.underlying25]; rfl) Try.underlying25 (by assumption) (.inl rfl) ?_; intro rc nc hrc) | (refine wpList_fop rfl .mul _ _ _ _ rfl .f64 _ pb rfl rfl rfl (by assumption) hp ?_; intro r4 n4 hr4) | (refine wpList_fop rfl .quo _ _ _ _ rfl .f64 _ _ rfl rfl rfl (by assumption) hi ?_; intro r3 n3 hr3) | (refine wpList_fop rfl .sub _ _ _ _ rfl .f64 _ _ rfl rfl rfl h1 (by assumption) ?_; intro r5 n5 hr5))
          go_roundw
          case rel => exact ⟨6, _, by omega, by rfl, rfl, by assumption, _, rfl⟩
          case measure => simp [intOf]
        · go_wp2_with (first | (refine wpList_fconv rfl _ _ _ rfl .f64 .f64 _ rfl (by rw [Try.underlying25]; rfl) Try.underlying25 (by assumption) (.inl rfl) ?_; intro rc nc hrc) | (refine wpList_fop rfl .mul _ _ _ _ rfl .f64 _ pb rfl rfl rfl (by assumption) hp ?_; intro r4 n4 hr4) | (refine wpList_fop rfl .quo _ _ _ _ rfl .f64 _ _ rfl rfl rfl (by assumption) hi ?_; intro r3 n3 hr3) | (refine wpList_fop rfl .sub _ _ _ _ rfl .f64 _ _ rfl rfl rfl h1 (by assumption) ?_; intro r5 n5 hr5))
          go_roundw
          case rel => exact ⟨7, _, by omega, by rfl, rfl, by assumption, _, rfl⟩
          case measure => simp [intOf]
        · go_wp2_with (first | (refine wpList_fconv rfl _ _ _ rfl .f64 .f64 _ rfl (by rw [Try.underlying25]; rfl) Try.underlying25 (by assumption) (.inl rfl) ?_; intro rc nc hrc) | (refine wpList_fop rfl .mul _ _ _ _ rfl .f64 _ pb rfl rfl rfl (by assumption) hp ?_; intro r4 n4 hr4) | (refine wpList_fop rfl .quo _ _ _ _ rfl .f64 _ _ rfl rfl rfl (by assumption) hi ?_; intro r3 n3 hr3) | (refine wpList_fop rfl .sub _ _ _ _ rfl .f64 _ _ rfl rfl rfl h1 (by assumption) ?_; intro r5 n5 hr5))
          go_roundw
          case rel => exact ⟨8, _, by omega, by rfl, rfl, by assumption, _, rfl⟩
          case measure => simp [intOf]
      · obtain rfl : j = 8 := by omega
        go_wp2_with (first | (refine wpList_fconv rfl _ _ _ rfl .f64 .f64 _ rfl (by rw [Try.underlying25]; rfl) Try.underlying25 (by assumption) (.inl rfl) ?_; intro rc nc hrc) | (refine wpList_fop rfl .mul _ _ _ _ rfl .f64 _ pb rfl rfl rfl hz hp ?_; intro r3 n3 hr3) | (refine wpList_fneg rfl _ _ rfl .f64 _ rfl (by assumption) ?_; intro r9 hr9))
        go_ret
        exact ⟨_, rfl, by rw [HF.out]; assumption, _, rfl⟩
end Go.Proofs.Ytnkcaiifohplaad.Fl
