/- DrawField of both sides. -/
import Derived.Test.YtlecpilgimiaaaaFNew
import Derived.Test.YtlecpilgimiaaaaShr
namespace Go.Proofs.Ytlecpilgimiaaaa.Drf
open Go.RowKit Go.Proofs.Ytlecpilgimiaaaa.Rd Go.Proofs.Ytlecpilgimiaaaa.Help Go.Proofs.Ytlecpilgimiaaaa.Ring Go.Proofs.Ytlecpilgimiaaaa.Small Go.Proofs.Ytlecpilgimiaaaa.FVal Go.Proofs.Ytlecpilgimiaaaa.Keep Go.Proofs.Ytlecpilgimiaaaa.Rule Go.Proofs.Ytlecpilgimiaaaa.FNew Go.Proofs.Ytlecpilgimiaaaa.Fl
set_option linter.unusedVariables false
set_option linter.unusedSimpArgs false

def nxt (s : Int) : Int := (1664525 * s + 1013904223) % 4294967296
def seedAt (s : Int) : Nat → Int
  | 0 => s
  | k + 1 => nxt (seedAt s k)
theorem nxt_bd (s : Int) : 0 ≤ nxt s ∧ nxt s ≤ 4294967295 := by unfold nxt; omega
theorem seedAt_bd {s : Int} (h : 0 ≤ s ∧ s ≤ 4294967295) (k : Nat) : 0 ≤ seedAt s k ∧ seedAt s k ≤ 4294967295 := by
  cases k with
  | zero => exact h
  | succ k => exact nxt_bd _
/-- The share of a seed. -/
def shV (s : Int) : Option Nat := fop .quo .f32 (some (floatOfInt .f32 ((s / 256).toNat : Int))) (some 1266679808)
def sbit (x : Option Nat) (sd : Int) (k : Nat) : Int := if fcmp .lss .f32 (shV (seedAt sd (k + 1))) x = true then 1 else 0
def sbits (x : Option Nat) (sd : Int) (k : Nat) : List Int := (List.range k).map (sbit x sd)
def shareB (x : Option Nat) : Bool := fcmp .geq .f32 x (some 0) && fcmp .leq .f32 x (some 1065353216)
def seedB (s : Int) : Bool := decide (0 ≤ s ∧ s ≤ 4294967295)
theorem sbits_length (x : Option Nat) (sd : Int) (k : Nat) : (sbits x sd k).length = k := by simp [sbits]
theorem sbits_set (x : Option Nat) (sd : Int) {n k : Nat} (h : k < n) : (sbits x sd k ++ List.replicate (n - k) 0).set k (sbit x sd k) = sbits x sd (k + 1) ++ List.replicate (n - (k + 1)) 0 := by
  have e : n - k = (n - (k + 1)) + 1 := by omega
  rw [e, List.replicate_succ, List.set_append_right _ _ (by rw [sbits_length]; omega), sbits_length, Nat.sub_self, List.set_cons_zero]
  simp [sbits, List.range_succ]
theorem sbits_zero (x : Option Nat) (sd : Int) {n k : Nat} (h : k < n) (h0 : sbit x sd k = 0) : sbits x sd k ++ List.replicate (n - k) 0 = sbits x sd (k + 1) ++ List.replicate (n - (k + 1)) 0 := by
  have e : n - k = (n - (k + 1)) + 1 := by omega
  rw [e, List.replicate_succ]
  simp [sbits, List.range_succ, h0]
theorem zero_is : Is .f32 0 (some 0) := ⟨by decide, by decide⟩
theorem one_is : Is .f32 1065353216 (some 1065353216) := ⟨by decide, by decide⟩
theorem big_is : Is .f32 1266679808 (some 1266679808) := ⟨by decide, by decide⟩
theorem tiny_is : Is .f32 864026624 (some 864026624) := ⟨by decide, by decide⟩
theorem int_is (n : Nat) : Is .f32 (floatOfInt .f32 (n : Int)) (some (floatOfInt .f32 (n : Int))) := by
  have e : floatOfInt .f32 (n : Int) = FloatKind.f32.format.write (.number (decide ((n : Int) < 0)) (n : Int).natAbs 0) := rfl
  rw [e]
  exact Is_some (write_nan .f32 _ rfl) (FloatKind.f32.format.write_lt _)
/-- The next seed, as it is reckoned. -/
theorem seed_step {s : Int} (h : 0 ≤ s ∧ s ≤ 4294967295) : (IntKind.i64.wrap (IntKind.i64.wrap (1664525 * s) + 1013904223)).tmod 4294967296 = nxt s := by
  have e1 : IntKind.i64.wrap (1664525 * s) = 1664525 * s := by rw [IntKind.wrap_i64]; omega
  rw [e1]
  have e2 : IntKind.i64.wrap (1664525 * s + 1013904223) = 1664525 * s + 1013904223 := by rw [IntKind.wrap_i64]; omega
  rw [e2, Int.tmod_eq_emod_of_nonneg (by omega)]
  rfl
theorem specShare {X : Nat} {x : Option Nat} {w : World} (hx : Is .f32 X x) :
    Calls Try.prog 10 #[.float .f32 X] w fun e w' => e = .returned (.bool (shareB x)) ∧ w = w' := by
  have zero_is := zero_is
  have one_is := one_is
  unfold shareB
  cases hg : fcmp .geq .f32 x (some 0) <;> cases hl : fcmp .leq .f32 x (some 1065353216)
  all_goals
    go_enter Try.func10, Try.ntmps10
    go_wp2_with (first | (refine wpList_fcmp rfl .geq _ _ _ _ rfl _ _ _ rfl rfl rfl hx zero_is ?_; rw [hg]) | (refine wpList_fcmp rfl .leq _ _ _ _ rfl _ _ _ rfl rfl rfl hx one_is ?_; rw [hl]))
    go_ret
    exact ⟨rfl, rfl⟩

theorem implShare {X : Nat} {x : Option Nat} {w : World} (hx : Is .f32 X x) :
    Calls Try.prog 14 #[.float .f32 X] w fun e w' => e = .returned (.bool (shareB x)) ∧ w = w' := by
  have zero_is := zero_is
  have one_is := one_is
  unfold shareB
  cases hg : fcmp .geq .f32 x (some 0) <;> cases hl : fcmp .leq .f32 x (some 1065353216)
  all_goals
    go_enter Try.func14, Try.ntmps14
    go_wp2_with (first | (refine wpList_fcmp rfl .geq _ _ _ _ rfl _ _ _ rfl rfl rfl hx zero_is ?_; rw [hg]) | (refine wpList_fcmp rfl .leq _ _ _ _ rfl _ _ _ rfl rfl rfl hx one_is ?_; rw [hl]))
    go_ret
    exact ⟨rfl, rfl⟩

theorem nextSeed {s : Int} {w : World} (h : 0 ≤ s ∧ s ≤ 4294967295) :
    Calls Try.prog 17 #[.int .i64 s] w fun e w' => e = .returned (.int .i64 (nxt s)) ∧ w = w' := by
  have hs := seed_step h
  have e1 : IntKind.i64.wrap (1664525 * s) = 1664525 * s := by rw [IntKind.wrap_i64]; omega
  have e2 : IntKind.i64.wrap (1664525 * s + 1013904223) = 1664525 * s + 1013904223 := by rw [IntKind.wrap_i64]; omega
  rw [e1, e2] at hs
  have HS := hid hs
  clear hs h
  go_enter Try.func17, Try.ntmps17
  go_wp2
  go_ret
  exact ⟨by rw [← HS.out]; rfl, rfl⟩
theorem isSeed {s : Int} {w : World} :
    Calls Try.prog 15 #[.int .i64 s] w fun e w' => e = .returned (.bool (seedB s)) ∧ w = w' := by
  by_cases h1 : 0 ≤ s
  · by_cases h2 : s ≤ 4294967295
    · have e : seedB s = true := decide_eq_true ⟨h1, h2⟩
      rw [e]
      go_enter Try.func15, Try.ntmps15
      go_wp2
      go_ret
      exact ⟨rfl, rfl⟩
    · have e : seedB s = false := decide_eq_false (fun h => h2 h.2)
      have hd : decide (s ≤ 4294967295) = false := decide_eq_false h2
      rw [e]
      clear h2 e
      go_enter Try.func15, Try.ntmps15
      go_wp2
      go_ret
      exact ⟨rfl, rfl⟩
  · have e : seedB s = false := decide_eq_false (fun h => h1 h.1)
    have hd : decide (0 ≤ s) = false := decide_eq_false h1
    rw [e]
    clear h1 e
    go_enter Try.func15, Try.ntmps15
    go_wp2
    go_ret
    exact ⟨rfl, rfl⟩
theorem shareOfSeed {s : Int} {w : World} (h : 0 ≤ s ∧ s ≤ 4294967295) :
    Calls Try.prog 18 #[.int .i64 s] w fun e w' => ∃ r n, e = .returned (.float .f32 r) ∧ Is .f32 r (shV s) ∧ w' = w.drewN n := by
  obtain ⟨m, hm⟩ : ∃ m : Nat, (m : Int) = s / 256 := ⟨(s / 256).toNat, by omega⟩
  have ht : s.tdiv 256 = (m : Int) := by rw [Int.tdiv_eq_ediv_of_nonneg h.1, hm]
  have hv : shV s = fop .mul .f32 (some (floatOfInt .f32 (m : Int))) (some 864026624) := by
    unfold shV
    rw [← hm, Int.toNat_natCast]
    exact share_eq (by omega)
  rw [hv]
  have hwm : wrap64 (m : Int) = (m : Int) := wrap_id (by omega) (by omega)
  have HI := int_is m
  have HT := tiny_is
  have hs3 : (Try.prog.underlying 2).isSome = true := by kernel_rfl
  have hd3 := Try.underlying22
  clear hm hv h
  go_enter Try.func18, Try.ntmps18
  go_wp2_with (refine wpList_fop rfl .mul _ _ _ _ rfl _ _ _ rfl rfl rfl HI HT ?_; intro r m1 h1)
  go_ret
  exact ⟨_, _, rfl, h1, rfl⟩

end Go.Proofs.Ytlecpilgimiaaaa.Drf
