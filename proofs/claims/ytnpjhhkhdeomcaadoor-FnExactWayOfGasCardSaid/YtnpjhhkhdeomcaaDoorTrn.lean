/- Particles that turn: l06Turned and waysTurned. -/
import Derived.Test.YtnpjhhkhdeomcaaDoorGVal
import Derived.Test.YtnpjhhkhdeomcaaDoorRound
import Derived.Laws.BitsAllLaws
namespace Go.Proofs.YtnpjhhkhdeomcaaDoor.Trn
open Go.RowKit Go.Proofs.YtnpjhhkhdeomcaaDoor.Rd Go.Proofs.YtnpjhhkhdeomcaaDoor.Help Go.Proofs.YtnpjhhkhdeomcaaDoor.Keep Go.Proofs.YtnpjhhkhdeomcaaDoor.Rule Go.Proofs.YtnpjhhkhdeomcaaDoor.GVal
set_option linter.unusedVariables false
set_option linter.unusedSimpArgs false

/-- A binary digit. -/
def bitN (c k : Nat) : Nat := c / 2 ^ k % 2
/-- Where the way k comes. -/
def pos (g : Nat) (b : Int) (k : Nat) : Nat := (((k : Int) + b) % (g : Int)).toNat
/-- The particles of the first ways, turned. -/
def trn (c g : Nat) (b : Int) : Nat → Nat
  | 0 => 0
  | k + 1 => trn c g b k ||| (bitN c k * 2 ^ pos g b k)
theorem bit_le (c k : Nat) : bitN c k = 0 ∨ bitN c k = 1 := by unfold bitN; omega
theorem pos_lt (g : Nat) (b : Int) (k : Nat) (hg : 1 ≤ g) : pos g b k < g := by
  unfold pos
  have h1 := Int.emod_nonneg ((k : Int) + b) (show (g : Int) ≠ 0 by omega)
  have h2 := Int.emod_lt_of_pos ((k : Int) + b) (show (0 : Int) < g by omega)
  omega
theorem bp_lt (c g : Nat) (b : Int) (k : Nat) (hg : 1 ≤ g) : bitN c k * 2 ^ pos g b k < 2 ^ g := by
  rcases bit_le c k with h | h
  · rw [h, Nat.zero_mul]; exact Nat.two_pow_pos g
  · rw [h, Nat.one_mul]; exact Nat.pow_lt_pow_right (by omega) (pos_lt g b k hg)
theorem trn_lt (c g : Nat) (b : Int) (hg : 1 ≤ g) : ∀ k, trn c g b k < 2 ^ g
  | 0 => Nat.two_pow_pos g
  | k + 1 => Nat.or_lt_two_pow (trn_lt c g b hg k) (bp_lt c g b k hg)
theorem i64_or_nat (a b : Nat) (ha : a < 9223372036854775808) (hb : b < 9223372036854775808) : bits .or .i64 (a : Int) (b : Int) = ((a ||| b : Nat) : Int) := by
  have hx : a ||| b < 2 ^ 63 := Nat.or_lt_two_pow (by omega) (by omega)
  show IntKind.i64.wrap ((BitVec.ofInt 64 (a : Int) ||| BitVec.ofInt 64 (b : Int)).toNat : Int) = _
  rw [BitVec.toNat_or, ofInt_u64 a (by omega), ofInt_u64 b (by omega), IntKind.wrap_i64]
  omega
theorem i64_and_nat (a b : Nat) (ha : a < 9223372036854775808) (hb : b < 9223372036854775808) : bits .and .i64 (a : Int) (b : Int) = ((a &&& b : Nat) : Int) := by
  have hx : a &&& b < 2 ^ 63 := Nat.and_lt_two_pow _ (by omega)
  show IntKind.i64.wrap ((BitVec.ofInt 64 (a : Int) &&& BitVec.ofInt 64 (b : Int)).toNat : Int) = _
  rw [BitVec.toNat_and, ofInt_u64 a (by omega), ofInt_u64 b (by omega), IntKind.wrap_i64]
  omega
theorem and1_all (c : Nat) (hc : c < 64) (k : Nat) (hk : k < 6) : bits .and .i64 ((c : Int) / 2 ^ k) 1 = (bitN c k : Int) := by
  have h1 : ((c : Int) / 2 ^ k) = ((c / 2 ^ k : Nat) : Int) := by simp
  have h2 : c / 2 ^ k ≤ c := Nat.div_le_self _ _
  have h3 := i64_and_nat (c / 2 ^ k) 1 (by omega) (by omega)
  rw [h1]
  show bits .and .i64 ((c / 2 ^ k : Nat) : Int) ((1 : Nat) : Int) = _
  rw [h3, Nat.and_one_is_mod]
  rfl
theorem or_all (a : Nat) (ha : a < 64) (b : Nat) (hb : b < 64) : bits .or .i64 (a : Int) (b : Int) = ((a ||| b : Nat) : Int) := i64_or_nat a b (by omega) (by omega)
theorem pow_all : ∀ n : Nat, n < 6 → wrap64 (2 ^ n) = ((2 ^ n : Nat) : Int) := by decide +kernel
theorem pow2_all : ∀ x : Nat, x < 2 → ∀ n : Nat, n < 6 → wrap64 ((x : Int) * 2 ^ n) = ((x * 2 ^ n : Nat) : Int) := by decide +kernel
theorem two_le {g : Nat} (hg : g ≤ 6) : 2 ^ g ≤ 64 := by
  calc 2 ^ g ≤ 2 ^ 6 := Nat.pow_le_pow_right (by omega) hg
    _ = 64 := by decide

set_option maxHeartbeats 1000000 in
theorem specTurned4 {w : World} {c : Nat} {b : Int} (hc : c < 64) (hb : 0 ≤ b ∧ b ≤ 5) :
    Calls Tryd.prog 68 #[.int .i64 c, .int .i64 4, .int .i64 b] w fun e w' => e = .returned (.int .i64 (trn c 4 b 4)) ∧ w = w' := by
  have HC := hid hc
  obtain ⟨hb1, hb2⟩ := hb
  go_enter Tryd.func68, Tryd.ntmps68
  go_wp2
  go_loop [7, 8] (fun t i => ∃ k : Nat, k ≤ 4 ∧ i = .int .i64 k ∧ t = .int .i64 (trn c 4 b k)) (fun _ i => 4 - (intOf i).toNat)
  case atStart => exact ⟨0, Nat.zero_le _, rfl, rfl⟩
  case round =>
    obtain ⟨k, hk, rfl, rfl⟩ := hrel
    by_cases hlt : k < 4
    · have hki : (k : Int) < 4 := by omega
      have HTL := hid (Nat.lt_of_lt_of_le (trn_lt c 4 b (by omega) k) (two_le (by omega)))
      have HPB := hid (Nat.lt_of_lt_of_le (bp_lt c 4 b k (by omega)) (two_le (by omega)))
      have HPL := hid (pos_lt 4 b k (by omega))
      rcases bit_le c k with h0 | h0
      · have hand : bits .and .i64 ((c : Int) / 2 ^ k) 1 = 0 := by rw [and1_all c hc k (by omega), h0]; rfl
        have HT : Hid (trn c 4 b (k + 1) = trn c 4 b k) := by simp only [Hid, trn, h0, Nat.zero_mul, Nat.or_zero]
        clear h0
        go_wp2
        go_round
        case rel => exact ⟨k + 1, by omega, by go_num, by rw [HT.out]⟩
        case measure => simp [intOf]; omega
      · have hand : bits .and .i64 ((c : Int) / 2 ^ k) 1 = 1 := by rw [and1_all c hc k (by omega), h0]; rfl
        have HT : Hid (trn c 4 b (k + 1) = trn c 4 b k ||| 2 ^ pos 4 b k) := by simp only [Hid, trn, h0, Nat.one_mul]
        have HB0 := hid h0
        clear h0
        go_wp2
        go_round
        case rel =>
          refine ⟨k + 1, by omega, by go_num, ?_⟩
          have e1 : (((k : Int) + b) % 4).toNat = pos 4 b k := rfl
          rw [e1, HT.out, pow_all _ (by have := HPL.out; omega), or_all _ HTL.out _ (by have := HPB.out; rw [HB0.out, Nat.one_mul] at this; exact this)]
        case measure => simp [intOf]; omega
    · have hkn : k = 4 := by omega
      subst hkn
      go_wp2
      go_ret
      exact ⟨rfl, rfl⟩

set_option maxHeartbeats 2000000 in
theorem implTurned4 {w : World} {c : Nat} {b : Int} (hc : c < 64) (hb : -1 ≤ b ∧ b ≤ 5) :
    Calls Tryd.prog 72 #[.int .i64 c, .int .i64 4, .int .i64 b] w fun e w' => e = .returned (.int .i64 (trn c 4 b 4)) ∧ Below w.heap.size w w' := by
  have HC := hid hc
  obtain ⟨hb1, hb2⟩ := hb
  go_enter Tryd.func72, Tryd.ntmps72
  go_wp2
  go_loopw [7, 8, 10] (fun t j i wr => ∃ k : Nat, k ≤ 4 ∧ i = .int .i64 k ∧ t = .int .i64 (trn c 4 b k) ∧ Below w.heap.size w wr) (fun _ _ i _ => 4 - (intOf i).toNat)
  case atStart => exact ⟨0, Nat.zero_le _, rfl, rfl, Below.refl _ _⟩
  case round =>
    obtain ⟨k, hk, rfl, rfl, hbel⟩ := hrel
    have HBW := hid hbel
    clear hbel
    by_cases hlt : k < 4
    · have hki : (k : Int) < 4 := by omega
      have HTL := hid (Nat.lt_of_lt_of_le (trn_lt c 4 b (by omega) k) (two_le (by omega)))
      have HPB := hid (Nat.lt_of_lt_of_le (bp_lt c 4 b k (by omega)) (two_le (by omega)))
      have HPL := hid (pos_lt 4 b k (by omega))
      have hand : bits .and .i64 ((c : Int) / 2 ^ k) 1 = (bitN c k : Int) := and1_all c hc k (by omega)
      have hwk : IntKind.i64.wrap ((k : Int) + b) = (k : Int) + b := by rw [IntKind.wrap_i64]; omega
      have HPE : Hid (((k : Int) + b) % 4 = (pos 4 b k : Int)) := by
        unfold pos; simp only [Hid]
        have := Int.emod_nonneg ((k : Int) + b) (show (4 : Int) ≠ 0 by omega)
        omega
      have hfin : Hid (bits .or .i64 (trn c 4 b k : Int) (IntKind.i64.wrap ((bitN c k : Int) * 2 ^ min (pos 4 b k) 64)) = ((trn c 4 b (k + 1) : Nat) : Int)) := by
        obtain ⟨X, hX⟩ : ∃ X, X = bitN c k * 2 ^ pos 4 b k := ⟨_, rfl⟩
        have e : ((bitN c k : Int) * 2 ^ pos 4 b k) = (X : Int) := by rw [hX]; simp
        have hX2 : X < 64 := by rw [hX]; exact HPB.out
        have e2 : IntKind.i64.wrap (X : Int) = (X : Int) := by rw [IntKind.wrap_i64]; omega
        simp only [Hid]
        rw [Nat.min_eq_left (by have := HPL.out; omega), e, e2, or_all _ HTL.out _ hX2, hX]
        rfl
      go_wp2_with fail
      refine wp_region_held_drew (S := (fun ww => Below w.heap.size w ww)) (by kernel_rfl) ?_ (fun hHeld => ?_)
      · ((try dsimp only); exact HBW.out.drew)
      generalize hD : wr.drew = wD at hHeld ⊢
      clear hD
      (refine wpAnyH_take (i := 0) (v := ?_) rfl ?_ ?_ ?_ (fun _ _ _ h => h) (Or.inl ⟨?_, ?_⟩) ?_ ?_; rotate_left 1; (focus decide +kernel); (focus decide +kernel); (focus decide +kernel); (focus rfl); (focus (intro w hSw; (try dsimp only at hSw); go_simp; (try (with_reducible rfl)); done)); (focus assumption); (try simp only [Act.put, List.setIfInBounds_toArray, List.set_cons_zero, List.set_cons_succ, List.getElem_toArray, List.getElem_cons_succ, List.getElem_cons_zero]))
      (refine wpAnyH_take (i := 1) (v := ?_) rfl ?_ ?_ ?_ (fun _ _ _ h => h) (Or.inl ⟨?_, ?_⟩) ?_ ?_; rotate_left 1; (focus decide +kernel); (focus decide +kernel); (focus decide +kernel); (focus rfl); (focus (intro w hSw; (try dsimp only at hSw); go_simp; (try (with_reducible rfl)); done)); (focus assumption); (try simp only [Act.put, List.setIfInBounds_toArray, List.set_cons_zero, List.set_cons_succ, List.getElem_toArray, List.getElem_cons_succ, List.getElem_cons_zero]))
      (refine wpAnyH_take (i := 2) (v := ?_) rfl ?_ ?_ ?_ (fun _ _ _ h => h) (Or.inl ⟨?_, ?_⟩) ?_ ?_; rotate_left 1; (focus decide +kernel); (focus decide +kernel); (focus decide +kernel); (focus rfl); (focus (intro w hSw; (try dsimp only at hSw); go_simp; (try (with_reducible rfl)); done)); (focus assumption); (try simp only [Act.put, List.setIfInBounds_toArray, List.set_cons_zero, List.set_cons_succ, List.getElem_toArray, List.getElem_cons_succ, List.getElem_cons_zero]))
      (refine wpAnyH_take (i := 3) (v := ?_) rfl ?_ ?_ ?_ (fun _ _ _ h => h) (Or.inl ⟨?_, ?_⟩) ?_ ?_; rotate_left 1; (focus decide +kernel); (focus decide +kernel); (focus decide +kernel); (focus rfl); (focus (intro w hSw; (try dsimp only at hSw); go_simp; (try (with_reducible rfl)); done)); (focus assumption); (try simp only [Act.put, List.setIfInBounds_toArray, List.set_cons_zero, List.set_cons_succ, List.getElem_toArray, List.getElem_cons_succ, List.getElem_cons_zero]))
      (refine wpAnyH_take (i := 4) (v := ?_) rfl ?_ ?_ ?_ (fun _ _ _ h => h) (Or.inl ⟨?_, ?_⟩) ?_ ?_; rotate_left 1; (focus decide +kernel); (focus decide +kernel); (focus decide +kernel); (focus rfl); (focus (intro w hSw; (try dsimp only at hSw); go_simp; (try (with_reducible rfl)); done)); (focus assumption); (try simp only [Act.put, List.setIfInBounds_toArray, List.set_cons_zero, List.set_cons_succ, List.getElem_toArray, List.getElem_cons_succ, List.getElem_cons_zero]))
      (refine wpAnyH_take (i := 5) (v := ?_) rfl ?_ ?_ ?_ (fun _ _ _ h => h) (Or.inl ⟨?_, ?_⟩) ?_ ?_; rotate_left 1; (focus decide +kernel); (focus decide +kernel); (focus decide +kernel); (focus rfl); (focus (intro w hSw; (try dsimp only at hSw); go_simp; (try (with_reducible rfl)); done)); (focus assumption); (try simp only [Act.put, List.setIfInBounds_toArray, List.set_cons_zero, List.set_cons_succ, List.getElem_toArray, List.getElem_cons_succ, List.getElem_cons_zero]))
      (refine wpAnyH_take (i := 6) (v := ?_) rfl ?_ ?_ ?_ (fun _ _ _ h => h) (Or.inl ⟨?_, ?_⟩) ?_ ?_; rotate_left 1; (focus decide +kernel); (focus decide +kernel); (focus decide +kernel); (focus rfl); (focus (intro w hSw; (try dsimp only at hSw); go_simp; (try (with_reducible rfl)); done)); (focus assumption); (try simp only [Act.put, List.setIfInBounds_toArray, List.set_cons_zero, List.set_cons_succ, List.getElem_toArray, List.getElem_cons_succ, List.getElem_cons_zero]))
      (refine wpAnyH_take (i := 7) (v := ?_) rfl ?_ ?_ ?_ (fun _ _ _ h => h) (Or.inl ⟨?_, ?_⟩) ?_ ?_; rotate_left 1; (focus decide +kernel); (focus decide +kernel); (focus decide +kernel); (focus rfl); (focus (intro w hSw; (try dsimp only at hSw); go_simp; (try (with_reducible rfl)); done)); (focus assumption); (try simp only [Act.put, List.setIfInBounds_toArray, List.set_cons_zero, List.set_cons_succ, List.getElem_toArray, List.getElem_cons_succ, List.getElem_cons_zero]))
      (refine wpAnyH_take (i := 8) (v := ?_) rfl ?_ ?_ ?_ (fun _ _ _ h => h) (Or.inl ⟨?_, ?_⟩) ?_ ?_; rotate_left 1; (focus decide +kernel); (focus decide +kernel); (focus decide +kernel); (focus rfl); (focus (intro w hSw; (try dsimp only at hSw); go_simp; (try (with_reducible rfl)); done)); (focus assumption); (try simp only [Act.put, List.setIfInBounds_toArray, List.set_cons_zero, List.set_cons_succ, List.getElem_toArray, List.getElem_cons_succ, List.getElem_cons_zero]))
      refine wpAnyH_ready (rs := [9]) ?_ (by simp) ?_
      · decide +kernel
      refine AllReadyH.cons rfl (fun K hK => ?_) AllReadyH.nil
      go_simp
      go_at_call 75
      refine (Round.onRoundI (f := (k : Int) + b) (m := 4) (by omega) (by omega)).mono ?_
      rw [HPE.out]
      rintro e w' ⟨rfl, rfl⟩
      refine hK.out _ _ ?_ (fun hHeld2 => ?_)
      · (try dsimp only); exact hHeld
      clear hK K hHeld2
      (try simp only [Act.put, List.setIfInBounds_toArray, List.set_cons_zero, List.set_cons_succ, List.getElem_toArray, List.getElem_cons_succ, List.getElem_cons_zero])
      (refine wpAnyH_take (i := 10) (v := ?_) rfl ?_ ?_ ?_ (fun _ _ _ h => h) (Or.inl ⟨?_, ?_⟩) ?_ ?_; rotate_left 1; (focus decide +kernel); (focus decide +kernel); (focus decide +kernel); (focus rfl); (focus (intro w hSw; (try dsimp only at hSw); go_simp; (try (with_reducible rfl)); done)); (focus assumption); (try simp only [Act.put, List.setIfInBounds_toArray, List.set_cons_zero, List.set_cons_succ, List.getElem_toArray, List.getElem_cons_succ, List.getElem_cons_zero]))
      (refine wpAnyH_take (i := 11) (v := ?_) rfl ?_ ?_ ?_ (fun _ _ _ h => h) (Or.inl ⟨?_, ?_⟩) ?_ ?_; rotate_left 1; (focus decide +kernel); (focus decide +kernel); (focus decide +kernel); (focus rfl); (focus (intro w hSw; (try dsimp only at hSw); go_simp; (try (with_reducible rfl)); done)); (focus assumption); (try simp only [Act.put, List.setIfInBounds_toArray, List.set_cons_zero, List.set_cons_succ, List.getElem_toArray, List.getElem_cons_succ, List.getElem_cons_zero]))
      (refine wpAnyH_take (i := 12) (v := ?_) rfl ?_ ?_ ?_ (fun _ _ _ h => h) (Or.inl ⟨?_, ?_⟩) ?_ ?_; rotate_left 1; (focus decide +kernel); (focus decide +kernel); (focus decide +kernel); (focus rfl); (focus (intro w hSw; (try dsimp only at hSw); go_simp; (try (with_reducible rfl)); done)); (focus assumption); (try simp only [Act.put, List.setIfInBounds_toArray, List.set_cons_zero, List.set_cons_succ, List.getElem_toArray, List.getElem_cons_succ, List.getElem_cons_zero]))
      refine wpAnyH_done (by kernel_rfl) ?_ _
      have HBD := hid hHeld
      clear hHeld
      go_wp2
      go_roundw
      case rel => exact ⟨k + 1, by omega, by go_num, by rw [hfin.out], HBD.out⟩
      case measure => simp [intOf]; omega
    · have hkn : k = 4 := by omega
      subst hkn
      go_wp2
      go_ret
      exact ⟨rfl, HBW.out⟩

set_option maxHeartbeats 1000000 in
theorem specTurned6 {w : World} {c : Nat} {b : Int} (hc : c < 64) (hb : 0 ≤ b ∧ b ≤ 5) :
    Calls Tryd.prog 68 #[.int .i64 c, .int .i64 6, .int .i64 b] w fun e w' => e = .returned (.int .i64 (trn c 6 b 6)) ∧ w = w' := by
  have HC := hid hc
  obtain ⟨hb1, hb2⟩ := hb
  go_enter Tryd.func68, Tryd.ntmps68
  go_wp2
  go_loop [7, 8] (fun t i => ∃ k : Nat, k ≤ 6 ∧ i = .int .i64 k ∧ t = .int .i64 (trn c 6 b k)) (fun _ i => 6 - (intOf i).toNat)
  case atStart => exact ⟨0, Nat.zero_le _, rfl, rfl⟩
  case round =>
    obtain ⟨k, hk, rfl, rfl⟩ := hrel
    by_cases hlt : k < 6
    · have hki : (k : Int) < 6 := by omega
      have HTL := hid (Nat.lt_of_lt_of_le (trn_lt c 6 b (by omega) k) (two_le (by omega)))
      have HPB := hid (Nat.lt_of_lt_of_le (bp_lt c 6 b k (by omega)) (two_le (by omega)))
      have HPL := hid (pos_lt 6 b k (by omega))
      rcases bit_le c k with h0 | h0
      · have hand : bits .and .i64 ((c : Int) / 2 ^ k) 1 = 0 := by rw [and1_all c hc k (by omega), h0]; rfl
        have HT : Hid (trn c 6 b (k + 1) = trn c 6 b k) := by simp only [Hid, trn, h0, Nat.zero_mul, Nat.or_zero]
        clear h0
        go_wp2
        go_round
        case rel => exact ⟨k + 1, by omega, by go_num, by rw [HT.out]⟩
        case measure => simp [intOf]; omega
      · have hand : bits .and .i64 ((c : Int) / 2 ^ k) 1 = 1 := by rw [and1_all c hc k (by omega), h0]; rfl
        have HT : Hid (trn c 6 b (k + 1) = trn c 6 b k ||| 2 ^ pos 6 b k) := by simp only [Hid, trn, h0, Nat.one_mul]
        have HB0 := hid h0
        clear h0
        go_wp2
        go_round
        case rel =>
          refine ⟨k + 1, by omega, by go_num, ?_⟩
          have e1 : (((k : Int) + b) % 6).toNat = pos 6 b k := rfl
          rw [e1, HT.out, pow_all _ (by have := HPL.out; omega), or_all _ HTL.out _ (by have := HPB.out; rw [HB0.out, Nat.one_mul] at this; exact this)]
        case measure => simp [intOf]; omega
    · have hkn : k = 6 := by omega
      subst hkn
      go_wp2
      go_ret
      exact ⟨rfl, rfl⟩

set_option maxHeartbeats 2000000 in
theorem implTurned6 {w : World} {c : Nat} {b : Int} (hc : c < 64) (hb : -1 ≤ b ∧ b ≤ 5) :
    Calls Tryd.prog 72 #[.int .i64 c, .int .i64 6, .int .i64 b] w fun e w' => e = .returned (.int .i64 (trn c 6 b 6)) ∧ Below w.heap.size w w' := by
  have HC := hid hc
  obtain ⟨hb1, hb2⟩ := hb
  go_enter Tryd.func72, Tryd.ntmps72
  go_wp2
  go_loopw [7, 8, 10] (fun t j i wr => ∃ k : Nat, k ≤ 6 ∧ i = .int .i64 k ∧ t = .int .i64 (trn c 6 b k) ∧ Below w.heap.size w wr) (fun _ _ i _ => 6 - (intOf i).toNat)
  case atStart => exact ⟨0, Nat.zero_le _, rfl, rfl, Below.refl _ _⟩
  case round =>
    obtain ⟨k, hk, rfl, rfl, hbel⟩ := hrel
    have HBW := hid hbel
    clear hbel
    by_cases hlt : k < 6
    · have hki : (k : Int) < 6 := by omega
      have HTL := hid (Nat.lt_of_lt_of_le (trn_lt c 6 b (by omega) k) (two_le (by omega)))
      have HPB := hid (Nat.lt_of_lt_of_le (bp_lt c 6 b k (by omega)) (two_le (by omega)))
      have HPL := hid (pos_lt 6 b k (by omega))
      have hand : bits .and .i64 ((c : Int) / 2 ^ k) 1 = (bitN c k : Int) := and1_all c hc k (by omega)
      have hwk : IntKind.i64.wrap ((k : Int) + b) = (k : Int) + b := by rw [IntKind.wrap_i64]; omega
      have HPE : Hid (((k : Int) + b) % 6 = (pos 6 b k : Int)) := by
        unfold pos; simp only [Hid]
        have := Int.emod_nonneg ((k : Int) + b) (show (6 : Int) ≠ 0 by omega)
        omega
      have hfin : Hid (bits .or .i64 (trn c 6 b k : Int) (IntKind.i64.wrap ((bitN c k : Int) * 2 ^ min (pos 6 b k) 64)) = ((trn c 6 b (k + 1) : Nat) : Int)) := by
        obtain ⟨X, hX⟩ : ∃ X, X = bitN c k * 2 ^ pos 6 b k := ⟨_, rfl⟩
        have e : ((bitN c k : Int) * 2 ^ pos 6 b k) = (X : Int) := by rw [hX]; simp
        have hX2 : X < 64 := by rw [hX]; exact HPB.out
        have e2 : IntKind.i64.wrap (X : Int) = (X : Int) := by rw [IntKind.wrap_i64]; omega
        simp only [Hid]
        rw [Nat.min_eq_left (by have := HPL.out; omega), e, e2, or_all _ HTL.out _ hX2, hX]
        rfl
      go_wp2_with fail
      refine wp_region_held_drew (S := (fun ww => Below w.heap.size w ww)) (by kernel_rfl) ?_ (fun hHeld => ?_)
      · ((try dsimp only); exact HBW.out.drew)
      generalize hD : wr.drew = wD at hHeld ⊢
      clear hD
      (refine wpAnyH_take (i := 0) (v := ?_) rfl ?_ ?_ ?_ (fun _ _ _ h => h) (Or.inl ⟨?_, ?_⟩) ?_ ?_; rotate_left 1; (focus decide +kernel); (focus decide +kernel); (focus decide +kernel); (focus rfl); (focus (intro w hSw; (try dsimp only at hSw); go_simp; (try (with_reducible rfl)); done)); (focus assumption); (try simp only [Act.put, List.setIfInBounds_toArray, List.set_cons_zero, List.set_cons_succ, List.getElem_toArray, List.getElem_cons_succ, List.getElem_cons_zero]))
      (refine wpAnyH_take (i := 1) (v := ?_) rfl ?_ ?_ ?_ (fun _ _ _ h => h) (Or.inl ⟨?_, ?_⟩) ?_ ?_; rotate_left 1; (focus decide +kernel); (focus decide +kernel); (focus decide +kernel); (focus rfl); (focus (intro w hSw; (try dsimp only at hSw); go_simp; (try (with_reducible rfl)); done)); (focus assumption); (try simp only [Act.put, List.setIfInBounds_toArray, List.set_cons_zero, List.set_cons_succ, List.getElem_toArray, List.getElem_cons_succ, List.getElem_cons_zero]))
      (refine wpAnyH_take (i := 2) (v := ?_) rfl ?_ ?_ ?_ (fun _ _ _ h => h) (Or.inl ⟨?_, ?_⟩) ?_ ?_; rotate_left 1; (focus decide +kernel); (focus decide +kernel); (focus decide +kernel); (focus rfl); (focus (intro w hSw; (try dsimp only at hSw); go_simp; (try (with_reducible rfl)); done)); (focus assumption); (try simp only [Act.put, List.setIfInBounds_toArray, List.set_cons_zero, List.set_cons_succ, List.getElem_toArray, List.getElem_cons_succ, List.getElem_cons_zero]))
      (refine wpAnyH_take (i := 3) (v := ?_) rfl ?_ ?_ ?_ (fun _ _ _ h => h) (Or.inl ⟨?_, ?_⟩) ?_ ?_; rotate_left 1; (focus decide +kernel); (focus decide +kernel); (focus decide +kernel); (focus rfl); (focus (intro w hSw; (try dsimp only at hSw); go_simp; (try (with_reducible rfl)); done)); (focus assumption); (try simp only [Act.put, List.setIfInBounds_toArray, List.set_cons_zero, List.set_cons_succ, List.getElem_toArray, List.getElem_cons_succ, List.getElem_cons_zero]))
      (refine wpAnyH_take (i := 4) (v := ?_) rfl ?_ ?_ ?_ (fun _ _ _ h => h) (Or.inl ⟨?_, ?_⟩) ?_ ?_; rotate_left 1; (focus decide +kernel); (focus decide +kernel); (focus decide +kernel); (focus rfl); (focus (intro w hSw; (try dsimp only at hSw); go_simp; (try (with_reducible rfl)); done)); (focus assumption); (try simp only [Act.put, List.setIfInBounds_toArray, List.set_cons_zero, List.set_cons_succ, List.getElem_toArray, List.getElem_cons_succ, List.getElem_cons_zero]))
      (refine wpAnyH_take (i := 5) (v := ?_) rfl ?_ ?_ ?_ (fun _ _ _ h => h) (Or.inl ⟨?_, ?_⟩) ?_ ?_; rotate_left 1; (focus decide +kernel); (focus decide +kernel); (focus decide +kernel); (focus rfl); (focus (intro w hSw; (try dsimp only at hSw); go_simp; (try (with_reducible rfl)); done)); (focus assumption); (try simp only [Act.put, List.setIfInBounds_toArray, List.set_cons_zero, List.set_cons_succ, List.getElem_toArray, List.getElem_cons_succ, List.getElem_cons_zero]))
      (refine wpAnyH_take (i := 6) (v := ?_) rfl ?_ ?_ ?_ (fun _ _ _ h => h) (Or.inl ⟨?_, ?_⟩) ?_ ?_; rotate_left 1; (focus decide +kernel); (focus decide +kernel); (focus decide +kernel); (focus rfl); (focus (intro w hSw; (try dsimp only at hSw); go_simp; (try (with_reducible rfl)); done)); (focus assumption); (try simp only [Act.put, List.setIfInBounds_toArray, List.set_cons_zero, List.set_cons_succ, List.getElem_toArray, List.getElem_cons_succ, List.getElem_cons_zero]))
      (refine wpAnyH_take (i := 7) (v := ?_) rfl ?_ ?_ ?_ (fun _ _ _ h => h) (Or.inl ⟨?_, ?_⟩) ?_ ?_; rotate_left 1; (focus decide +kernel); (focus decide +kernel); (focus decide +kernel); (focus rfl); (focus (intro w hSw; (try dsimp only at hSw); go_simp; (try (with_reducible rfl)); done)); (focus assumption); (try simp only [Act.put, List.setIfInBounds_toArray, List.set_cons_zero, List.set_cons_succ, List.getElem_toArray, List.getElem_cons_succ, List.getElem_cons_zero]))
      (refine wpAnyH_take (i := 8) (v := ?_) rfl ?_ ?_ ?_ (fun _ _ _ h => h) (Or.inl ⟨?_, ?_⟩) ?_ ?_; rotate_left 1; (focus decide +kernel); (focus decide +kernel); (focus decide +kernel); (focus rfl); (focus (intro w hSw; (try dsimp only at hSw); go_simp; (try (with_reducible rfl)); done)); (focus assumption); (try simp only [Act.put, List.setIfInBounds_toArray, List.set_cons_zero, List.set_cons_succ, List.getElem_toArray, List.getElem_cons_succ, List.getElem_cons_zero]))
      refine wpAnyH_ready (rs := [9]) ?_ (by simp) ?_
      · decide +kernel
      refine AllReadyH.cons rfl (fun K hK => ?_) AllReadyH.nil
      go_simp
      go_at_call 75
      refine (Round.onRoundI (f := (k : Int) + b) (m := 6) (by omega) (by omega)).mono ?_
      rw [HPE.out]
      rintro e w' ⟨rfl, rfl⟩
      refine hK.out _ _ ?_ (fun hHeld2 => ?_)
      · (try dsimp only); exact hHeld
      clear hK K hHeld2
      (try simp only [Act.put, List.setIfInBounds_toArray, List.set_cons_zero, List.set_cons_succ, List.getElem_toArray, List.getElem_cons_succ, List.getElem_cons_zero])
      (refine wpAnyH_take (i := 10) (v := ?_) rfl ?_ ?_ ?_ (fun _ _ _ h => h) (Or.inl ⟨?_, ?_⟩) ?_ ?_; rotate_left 1; (focus decide +kernel); (focus decide +kernel); (focus decide +kernel); (focus rfl); (focus (intro w hSw; (try dsimp only at hSw); go_simp; (try (with_reducible rfl)); done)); (focus assumption); (try simp only [Act.put, List.setIfInBounds_toArray, List.set_cons_zero, List.set_cons_succ, List.getElem_toArray, List.getElem_cons_succ, List.getElem_cons_zero]))
      (refine wpAnyH_take (i := 11) (v := ?_) rfl ?_ ?_ ?_ (fun _ _ _ h => h) (Or.inl ⟨?_, ?_⟩) ?_ ?_; rotate_left 1; (focus decide +kernel); (focus decide +kernel); (focus decide +kernel); (focus rfl); (focus (intro w hSw; (try dsimp only at hSw); go_simp; (try (with_reducible rfl)); done)); (focus assumption); (try simp only [Act.put, List.setIfInBounds_toArray, List.set_cons_zero, List.set_cons_succ, List.getElem_toArray, List.getElem_cons_succ, List.getElem_cons_zero]))
      (refine wpAnyH_take (i := 12) (v := ?_) rfl ?_ ?_ ?_ (fun _ _ _ h => h) (Or.inl ⟨?_, ?_⟩) ?_ ?_; rotate_left 1; (focus decide +kernel); (focus decide +kernel); (focus decide +kernel); (focus rfl); (focus (intro w hSw; (try dsimp only at hSw); go_simp; (try (with_reducible rfl)); done)); (focus assumption); (try simp only [Act.put, List.setIfInBounds_toArray, List.set_cons_zero, List.set_cons_succ, List.getElem_toArray, List.getElem_cons_succ, List.getElem_cons_zero]))
      refine wpAnyH_done (by kernel_rfl) ?_ _
      have HBD := hid hHeld
      clear hHeld
      go_wp2
      go_roundw
      case rel => exact ⟨k + 1, by omega, by go_num, by rw [hfin.out], HBD.out⟩
      case measure => simp [intOf]; omega
    · have hkn : k = 6 := by omega
      subst hkn
      go_wp2
      go_ret
      exact ⟨rfl, HBW.out⟩

end Go.Proofs.YtnpjhhkhdeomcaaDoor.Trn
