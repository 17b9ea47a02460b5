/- impl.wideLog computes the logarithm of a positive number, and comes to an end. -/
import Derived.Test.YtnkcaiifohplaabRows
import Derived.Test.YtnkcaiifohplaabLit
import Derived.Test.YtnkcaiifohplaabLg
import Derived.Lib.Hide
namespace Go.Proofs.Ytnkcaiifohplaab.Fl
open Go Go.RowKit
theorem is_two : Is .f64 4611686018427387904 two64 := ⟨by decide, by decide⟩
theorem is_ln : Is .f64 4604418534313441775 (some 4604418534313441775) := ⟨by decide, by decide⟩
theorem is_top : Is .f64 4609434218613702656 (some 4609434218613702656) := ⟨by decide, by decide⟩
theorem is_bottom : Is .f64 4604930618986332160 (some 4604930618986332160) := ⟨by decide, by decide⟩
set_option maxHeartbeats 2000000 in
theorem wideLog {b0 : Nat} (w : World) (hb : Is .f64 b0 (some b0)) (hst : Start b0) :
    Calls Try.prog 26 #[.float .f64 b0] w fun e w' => ∃ (r b : Nat) (k : Int), e = .returned (.float .f64 r) ∧ RedEnd b0 b k ∧ Is .f64 r (logF b k) ∧ ∃ n, w' = w.drewN n := by
  have h1 := is_one64
  have h0 := is_zero64
  have h2 := is_two
  have hln := is_ln
  have htop := is_top
  have hbot := is_bottom
  have HS := Lib.hid hst
  clear hst
  go_enter Try.func26, Try.ntmps26
  go_wp2
  go_loopw [0, 3] (fun x e wr => ∃ (b : Nat) (k : Int), x = .float .f64 b ∧ e = .int .i64 k ∧ Is .f64 b (some b) ∧ Red b0 b k ∧ -200 ≤ k ∧ k ≤ 200 ∧ ∃ n, wr = w.drewN n) (fun x _ _ => fbits x)
  case atStart => exact ⟨b0, 0, rfl, rfl, hb, Red.start HS.out, by omega, by omega, 0, rfl⟩
  case round =>
    obtain ⟨b, k, rfl, rfl, hbb, hred, hk1, hk2, nk, rfl⟩ := hrel
    cases hge : fcmp .geq .f64 (some b) (some 4609434218613702656)
    · have HT := Lib.hid (top_of hred hge)
      go_wp2_with (refine wpList_fcmp rfl .geq _ _ _ _ rfl .f64 b _ rfl rfl rfl hbb htop ?_; rw [hge])
      clear hge
      simp only [Act.put, List.setIfInBounds_toArray, List.set_cons_succ, List.set_cons_zero]
      go_loopw [0, 3] (fun x e wr => ∃ (b : Nat) (k : Int), x = .float .f64 b ∧ e = .int .i64 k ∧ Is .f64 b (some b) ∧ Red b0 b k ∧ topB b ∧ -200 ≤ k ∧ k ≤ 200 ∧ ∃ n, wr = w.drewN n) (fun x _ _ => room x)
      case atStart => exact ⟨b, k, rfl, rfl, hbb, hred, HT.out, by omega, by omega, _, rfl⟩
      case round =>
        clear hred hbb HT hk1 hk2
        obtain ⟨c, j, rfl, rfl, hcc, hrd, htb, hj1, hj2, nj, rfl⟩ := hrel
        cases hlt : fcmp .lss .f64 (some c) (some 4604930618986332160)
        · have hend := end_of hrd htb hlt
          have HE := Lib.hid hend
          clear hend hrd htb
          have hij := is_int j
          obtain ⟨S, hS⟩ : ∃ S, S = logS c := ⟨_, rfl⟩
          have HSS := Lib.hid hS.symm
          have HF : Hid (logF c j = logT S j) := by show _ = _; rw [hS]; rfl
          clear hS
          go_wp2_with (first | (refine wpList_fcmp rfl .lss _ _ _ _ rfl .f64 c _ rfl rfl rfl hcc hbot ?_; rw [hlt]) | (refine wpList_fconv rfl _ _ _ rfl .f64 .f64 _ rfl (by rw [Try.underlying22]; rfl) Try.underlying22 (by assumption) (.inl rfl) ?_; intro rc nc hrc) | (refine wpList_fop rfl .sub _ _ _ _ rfl .f64 c _ rfl rfl rfl hcc h1 ?_; intro r1 n1 hr1) | (refine wpList_fop rfl .add _ _ _ _ rfl .f64 c _ rfl rfl rfl hcc h1 ?_; intro r2 n2 hr2) | (refine wpList_fop rfl .quo _ _ _ _ rfl .f64 _ _ rfl rfl rfl (by assumption) (by assumption) ?_; intro sb ns hs0; have hs : Is .f64 sb S := (by rw [← HSS.out]; exact hs0); clear hs0) | (refine wpList_fop rfl .mul _ _ _ _ rfl .f64 _ _ rfl rfl rfl hs hs ?_; intro ub nu hu))
          clear hlt
          go_loopw [6, 7] (fun p i wr => ∃ (i' pb : Nat), i' ≤ 13 ∧ i = .int .i64 (25 - 2 * (i' : Int)) ∧ p = .float .f64 pb ∧ Is .f64 pb (qA (fop .mul .f64 S S) i') ∧ ∃ n, wr = w.drewN n) (fun _ i _ => (intOf i).toNat)
          case atStart => exact ⟨0, _, by omega, rfl, rfl, h0, _, rfl⟩
          case round =>
            obtain ⟨i', pb, hi', rfl, rfl, hp, ni, rfl⟩ := hrel
            by_cases hlt : i' < 13
            · have hi := is_int (25 - 2 * (i' : Int))
              go_wp2_with (first | (refine wpList_fconv rfl _ _ _ rfl .f64 .f64 _ rfl (by rw [Try.underlying22]; rfl) Try.underlying22 (by assumption) (.inl rfl) ?_; intro rc nc hrc) | (refine wpList_fop rfl .quo _ _ _ _ rfl .f64 _ _ rfl rfl rfl h1 hi ?_; intro r3 n3 hr3) | (refine wpList_fop rfl .mul _ _ _ _ rfl .f64 _ pb rfl rfl rfl (by assumption) hp ?_; intro r4 n4 hr4) | (refine wpList_fop rfl .add _ _ _ _ rfl .f64 _ _ rfl rfl rfl (by assumption) (by assumption) ?_; intro r5 n5 hr5))
              go_roundw
              case rel => exact ⟨i' + 1, _, by omega, by first | rfl | (congr 1; omega), rfl, by assumption, _, rfl⟩
              case measure => simp [intOf]; omega
            · obtain rfl : i' = 13 := by omega
              go_wp2_with (first | (refine wpList_fconv rfl _ _ _ rfl .f64 .f64 _ rfl (by rw [Try.underlying22]; rfl) Try.underlying22 (by assumption) (.inl rfl) ?_; intro rc nc hrc) | (refine wpList_fop rfl .mul _ _ _ _ rfl .f64 _ pb rfl rfl rfl hs hp ?_; intro r3 n3 hr3) | (refine wpList_fop rfl .mul _ _ _ _ rfl .f64 4611686018427387904 _ rfl rfl rfl h2 (by assumption) ?_; intro r4 n4 hr4) | (refine wpList_fop rfl .mul _ _ _ _ rfl .f64 _ 4604418534313441775 rfl rfl rfl hij hln ?_; intro r5 n5 hr5) | (refine wpList_fop rfl .add _ _ _ _ rfl .f64 _ _ rfl rfl rfl (by assumption) (by assumption) ?_; intro r6 n6 hr6))
              go_ret
              exact ⟨_, c, j, rfl, HE.out, by rw [HF.out]; assumption, _, rfl⟩
        · have hstep := fun r hr => double_step (r := r) hr hrd HS.out hlt
          have HST := Lib.hid hstep
          clear hstep hrd htb
          go_wp2_with (first | (refine wpList_fcmp rfl .lss _ _ _ _ rfl .f64 c _ rfl rfl rfl hcc hbot ?_; rw [hlt]) | (refine wpList_fop rfl .mul _ _ _ _ rfl .f64 c _ rfl rfl rfl hcc h2 ?_; intro r n hr0; have HR := Lib.hid (HST.out _ hr0); clear hr0))
          go_roundw
          case rel => exact ⟨_, j - 1, rfl, rfl, HR.out.1, HR.out.2.1, HR.out.2.2.1, HR.out.2.1.bd.1, HR.out.2.1.bd.2, _, rfl⟩
          case measure => exact HR.out.2.2.2
    · have hstep := fun r hr => halve_step (r := r) hr hred HS.out hge
      have HST := Lib.hid hstep
      clear hstep hred
      go_wp2_with (first | (refine wpList_fcmp rfl .geq _ _ _ _ rfl .f64 b _ rfl rfl rfl hbb htop ?_; rw [hge]) | (refine wpList_fop rfl .quo _ _ _ _ rfl .f64 b _ rfl rfl rfl hbb h2 ?_; intro r n hr0; have HR := Lib.hid (HST.out _ hr0); clear hr0))
      go_roundw
      case rel => exact ⟨_, k + 1, rfl, rfl, HR.out.1, HR.out.2.1, HR.out.2.1.bd.1, HR.out.2.1.bd.2, _, rfl⟩
      case measure => exact HR.out.2.2
end Go.Proofs.Ytnkcaiifohplaab.Fl
