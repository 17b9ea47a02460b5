/- impl.steepAngle computes the angle of a point in the first quarter. -/
import Derived.Test.YtnkcaiifohplaadRows
import Derived.Test.YtnkcaiifohplaadSqrt
import Derived.Test.YtnkcaiifohplaadLit
import Derived.Lib.Hide
namespace Go.Proofs.Ytnkcaiifohplaad.Fl
open Go Go.RowKit
set_option maxHeartbeats 1000000 in
theorem steep {a b : Nat} {va vb : Option Nat} (over : Bool) (w : World) (ha : Is .f64 a va) (hb : Is .f64 b vb) (ho : fcmp .gtr .f64 va vb = over) :
    Calls Try.prog 36 #[.float .f64 a, .float .f64 b] w fun e w' => ∃ r, e = .returned (.float .f64 r) ∧ Is .f64 r (steepF over va vb) ∧ ∃ n, w' = w.drewN n := by
  have h1 := is_one64
  have h0 := is_zero64
  have hc := is_circle
  have h8 := is_eight
  have hq := is_quarter
  obtain ⟨T0, hT0⟩ : ∃ T0, T0 = (match over with | true => fop .quo .f64 vb va | false => fop .quo .f64 va vb) := ⟨_, rfl⟩
  have HT := Lib.hid hT0
  clear hT0
  cases over
  · have HT1 := Lib.hid HT.out.symm
    clear HT
    go_enter Try.func36, Try.ntmps36
    go_wp2_with (first | (refine wpList_fop rfl .quo _ _ _ _ rfl .f64 a b rfl rfl rfl ha hb ?_; intro r n hr) | (refine wpList_fop rfl .quo _ _ _ _ rfl .f64 b a rfl rfl rfl hb ha ?_; intro r2 n2 hr2) | (refine wpList_fcmp rfl .gtr _ _ _ _ rfl .f64 a b rfl rfl rfl ha hb ?_; rw [ho]))
    go_loopw [5, 19] (fun t i wr => ∃ (k tb : Nat), k ≤ 3 ∧ i = .int .i64 k ∧ t = .float .f64 tb ∧ Is .f64 tb (tsteps T0 k) ∧ ∃ n, wr = w.drewN n) (fun _ i _ => 3 - (intOf i).toNat)
    case atStart => exact ⟨0, _, by omega, rfl, rfl, by show Is _ _ T0; rw [← HT1.out]; assumption, _, rfl⟩
    case round =>
      obtain ⟨k, tb, hk, rfl, rfl, ht, nk, rfl⟩ := hrel
      by_cases hlt : k < 3
      · go_wp2_with (first | (refine wpList_fop rfl .mul _ _ _ _ rfl .f64 tb tb rfl rfl rfl ht ht ?_; intro r3 n3 hr3) | (refine wpList_fop rfl .add _ _ _ _ rfl .f64 _ _ rfl rfl rfl h1 (by assumption) ?_; intro r4 n4 hr4) | (go_at_call 52; refine (mathSqrt _ (by assumption)).mono ?_; rintro e w' ⟨s, rfl, hs, m, rfl⟩) | (refine wpList_fop rfl .quo _ _ _ _ rfl .f64 tb _ rfl rfl rfl ht (by assumption) ?_; intro r5 n5 hr5))
        go_roundw
        case rel => exact ⟨k + 1, _, by omega, by go_num, rfl, by assumption, _, rfl⟩
        case measure => simp [intOf]; omega
      · obtain rfl : k = 3 := by omega
        have HF : Hid (steepF false va vb = angle0 (tsteps T0 3)) := by show _ = _; rw [← HT1.out]; rfl
        generalize tsteps T0 3 = T at ht HF
        go_wp2_with (refine wpList_fop rfl .mul _ _ _ _ rfl .f64 tb tb rfl rfl rfl ht ht ?_; intro u n3 hu)
        go_loopw [7, 8] (fun p i wr => ∃ (j pb : Nat), j ≤ 8 ∧ i = .int .i64 (15 - 2 * (j : Int)) ∧ p = .float .f64 pb ∧ Is .f64 pb (pA (fop .mul .f64 T T) j) ∧ ∃ n, wr = w.drewN n) (fun _ i _ => (intOf i).toNat)
        case atStart => exact ⟨0, _, by omega, rfl, rfl, h0, _, rfl⟩
        case round =>
          obtain ⟨j, pb, hj, rfl, rfl, hp, nj, rfl⟩ := hrel
          by_cases hlt : j < 8
          · have hi := is_int (15 - 2 * (j : Int))
            go_wp2_with (first | (refine wpList_fop rfl .quo _ _ _ _ rfl .f64 _ _ rfl rfl rfl h1 hi ?_; intro r3 n3 hr3) | (refine wpList_fop rfl .mul _ _ _ _ rfl .f64 u pb rfl rfl rfl hu hp ?_; intro r4 n4 hr4) | (refine wpList_fop rfl .sub _ _ _ _ rfl .f64 _ _ rfl rfl rfl (by assumption) (by assumption) ?_; intro r5 n5 hr5))
            go_roundw
            case rel => exact ⟨j + 1, _, by omega, by first | rfl | (congr 1; omega), rfl, by assumption, _, rfl⟩
            case measure => simp [intOf]; omega
          · obtain rfl : j = 8 := by omega
            go_wp2_with (first | (refine wpList_fop rfl .mul _ _ _ _ rfl .f64 tb pb rfl rfl rfl ht hp ?_; intro r3 n3 hr3) | (refine wpList_fop rfl .mul _ _ _ _ rfl .f64 _ _ rfl rfl rfl h8 (by assumption) ?_; intro r4 n4 hr4) | (refine wpList_fop rfl .quo _ _ _ _ rfl .f64 _ _ rfl rfl rfl (by assumption) hc ?_; intro r5 n5 hr5) | (refine wpList_fcmp rfl .gtr _ _ _ _ rfl .f64 a b rfl rfl rfl ha hb ?_; rw [ho]) | (refine wpList_fop rfl .sub _ _ _ _ rfl .f64 _ _ rfl rfl rfl hq (by assumption) ?_; intro r6 n6 hr6))
            go_ret
            exact ⟨_, rfl, by rw [HF.out]; assumption, _, rfl⟩
  · have HT1 := Lib.hid HT.out.symm
    clear HT
    go_enter Try.func36, Try.ntmps36
    go_wp2_with (first | (refine wpList_fop rfl .quo _ _ _ _ rfl .f64 a b rfl rfl rfl ha hb ?_; intro r n hr) | (refine wpList_fop rfl .quo _ _ _ _ rfl .f64 b a rfl rfl rfl hb ha ?_; intro r2 n2 hr2) | (refine wpList_fcmp rfl .gtr _ _ _ _ rfl .f64 a b rfl rfl rfl ha hb ?_; rw [ho]))
    go_loopw [5, 19] (fun t i wr => ∃ (k tb : Nat), k ≤ 3 ∧ i = .int .i64 k ∧ t = .float .f64 tb ∧ Is .f64 tb (tsteps T0 k) ∧ ∃ n, wr = w.drewN n) (fun _ i _ => 3 - (intOf i).toNat)
    case atStart => exact ⟨0, _, by omega, rfl, rfl, by show Is _ _ T0; rw [← HT1.out]; assumption, _, rfl⟩
    case round =>
      obtain ⟨k, tb, hk, rfl, rfl, ht, nk, rfl⟩ := hrel
      by_cases hlt : k < 3
      · go_wp2_with (first | (refine wpList_fop rfl .mul _ _ _ _ rfl .f64 tb tb rfl rfl rfl ht ht ?_; intro r3 n3 hr3) | (refine wpList_fop rfl .add _ _ _ _ rfl .f64 _ _ rfl rfl rfl h1 (by assumption) ?_; intro r4 n4 hr4) | (go_at_call 52; refine (mathSqrt _ (by assumption)).mono ?_; rintro e w' ⟨s, rfl, hs, m, rfl⟩) | (refine wpList_fop rfl .quo _ _ _ _ rfl .f64 tb _ rfl rfl rfl ht (by assumption) ?_; intro r5 n5 hr5))
        go_roundw
        case rel => exact ⟨k + 1, _, by omega, by go_num, rfl, by assumption, _, rfl⟩
        case measure => simp [intOf]; omega
      · obtain rfl : k = 3 := by omega
        have HF : Hid (steepF true va vb = fop .sub .f64 (some 4598175219545276416) (angle0 (tsteps T0 3))) := by show _ = _; rw [← HT1.out]; rfl
        generalize tsteps T0 3 = T at ht HF
        go_wp2_with (refine wpList_fop rfl .mul _ _ _ _ rfl .f64 tb tb rfl rfl rfl ht ht ?_; intro u n3 hu)
        go_loopw [7, 8] (fun p i wr => ∃ (j pb : Nat), j ≤ 8 ∧ i = .int .i64 (15 - 2 * (j : Int)) ∧ p = .float .f64 pb ∧ Is .f64 pb (pA (fop .mul .f64 T T) j) ∧ ∃ n, wr = w.drewN n) (fun _ i _ => (intOf i).toNat)
        case atStart => exact ⟨0, _, by omega, rfl, rfl, h0, _, rfl⟩
        case round =>
          obtain ⟨j, pb, hj, rfl, rfl, hp, nj, rfl⟩ := hrel
          by_cases hlt : j < 8
          · have hi := is_int (15 - 2 * (j : Int))
            go_wp2_with (first | (refine wpList_fop rfl .quo _ _ _ _ rfl .f64 _ _ rfl rfl rfl h1 hi ?_; intro r3 n3 hr3) | (refine wpList_fop rfl .mul _ _ _ _ rfl .f64 u pb rfl rfl rfl hu hp ?_; intro r4 n4 hr4) | (refine wpList_fop rfl .sub _ _ _ _ rfl .f64 _ _ rfl rfl rfl (by assumption) (by assumption) ?_; intro r5 n5 hr5))
            go_roundw
            case rel => exact ⟨j + 1, _, by omega, by first | rfl | (congr 1; omega), rfl, by assumption, _, rfl⟩
            case measure => simp [intOf]; omega
          · obtain rfl : j = 8 := by omega
            go_wp2_with (first | (refine wpList_fop rfl .mul _ _ _ _ rfl .f64 tb pb rfl rfl rfl ht hp ?_; intro r3 n3 hr3) | (refine wpList_fop rfl .mul _ _ _ _ rfl .f64 _ _ rfl rfl rfl h8 (by assumption) ?_; intro r4 n4 hr4) | (refine wpList_fop rfl .quo _ _ _ _ rfl .f64 _ _ rfl rfl rfl (by assumption) hc ?_; intro r5 n5 hr5) | (refine wpList_fcmp rfl .gtr _ _ _ _ rfl .f64 a b rfl rfl rfl ha hb ?_; rw [ho]) | (refine wpList_fop rfl .sub _ _ _ _ rfl .f64 _ _ rfl rfl rfl hq (by assumption) ?_; intro r6 n6 hr6))
            go_ret
            exact ⟨_, rfl, by rw [HF.out]; assumption, _, rfl⟩
end Go.Proofs.Ytnkcaiifohplaad.Fl
