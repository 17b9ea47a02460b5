/- Sums of 32-bit floats: SumNumbers and DotNumbers of both sides. -/
import Derived.Test.YtejchjjkehmgaaaHelpF
namespace Go.Proofs.Ytejchjjkehmgaaa.Fsm
open Go.RowKit Go.Proofs.Ytejchjjkehmgaaa.Rd Go.Proofs.Ytejchjjkehmgaaa.Rdf Go.Proofs.Ytejchjjkehmgaaa.Fl Go.Proofs.Ytejchjjkehmgaaa.Help Go.Proofs.Ytejchjjkehmgaaa.Keep
set_option linter.unusedVariables false
set_option linter.unusedSimpArgs false

/-- What k numbers come to, from left to right. -/
def accF (g : Nat → Option Nat) : Nat → Option Nat
  | 0 => some 0
  | k + 1 => fop .add .f32 (accF g k) (g k)
def sumG (zs : List Nat) (k : Nat) : Option Nat := cn .f32 (zs.getD k 0)
def dotG (xs ys : List Nat) (k : Nat) : Option Nat := fop .mul .f32 (cn .f32 (xs.getD k 0)) (cn .f32 (ys.getD k 0))
def sumB (zs : List Nat) : Bool := decide (zs.length ≤ 256)
def sumV (zs : List Nat) : Option Nat := if zs.length ≤ 256 then accF (sumG zs) zs.length else some 0
def dotB (xs ys : List Nat) : Bool := decide (xs.length = ys.length ∧ xs.length ≤ 256)
def dotV (xs ys : List Nat) : Option Nat := if xs.length = ys.length ∧ xs.length ≤ 256 then accF (dotG xs ys) xs.length else some 0
theorem is_zero : Is .f32 0 (some 0) := ⟨by decide, by decide⟩
theorem is_word {x : Nat} (h : x < 2 ^ 32) : Is .f32 x (cn .f32 x) := ⟨rfl, h⟩
theorem below_n (B : Nat) (w : World) (n : Nat) : Below B w (w.drewN n) := ⟨rfl, rfl, rfl, Nat.le_refl _, fun _ _ => rfl⟩

set_option maxHeartbeats 1000000 in
theorem l01Sum {w : World} {b : Nat} {v : Value} {zs : List Nat} (h : RdF w b v zs) :
    Calls Try.prog 63 #[v] w fun e w' => ∃ r, e = .returned (.float .f32 r) ∧ Is .f32 r (accF (sumG zs) zs.length) ∧ ∃ m, w' = w.drewN m := by
  obtain ⟨ao, cap, rfl, hc, hm, h4⟩ := h
  have HW := hid hm.2
  obtain ⟨n, hn⟩ : ∃ n, n = zs.length := ⟨_, rfl⟩
  rw [← hn] at hc h4 ⊢
  have Hn := hid hn
  have hm1 := hm.1
  have hsz : n ≤ 9223372036854775807 := by unfold maxLen at hm1; omega
  clear hn hc hm hm1
  go_enter Try.func63, Try.ntmps63
  go_wp2
  go_loopw [3, 4] (fun x i wr => ∃ k : Nat, k ≤ n ∧ i = .int .i64 k ∧ (∃ X : Nat, x = .float .f32 X ∧ Is .f32 X (accF (sumG zs) k)) ∧ ∃ m, wr = w.drewN m) (fun _ i _ => n - (intOf i).toNat)
  case atStart => exact ⟨0, Nat.zero_le _, rfl, ⟨0, rfl, is_zero⟩, 0, rfl⟩
  case round =>
    obtain ⟨k, hk, rfl, ⟨x, rfl, HA⟩, m, rfl⟩ := hrel
    by_cases hlt : k < n
    · obtain ⟨off, rfl, hb, hcell⟩ := h4 (by omega)
      obtain ⟨z, hz⟩ : ∃ z, z = zs.getD k 0 := ⟨_, rfl⟩
      have hcx : (w.drewN m).cell? ⟨b, off + k, none⟩ = some (.float .f32 z) := by rw [hz]; exact hcell k hlt
      have HY : Is .f32 z (sumG zs k) := by rw [hz]; exact is_word (HW.out k)
      have hki : (k : Int) < (n : Int) := by omega
      clear hz hcell
      go_wp2_with (refine wpList_fop rfl _ _ _ _ _ rfl _ _ _ rfl rfl rfl HA HY ?_; intro r m2 hr)
      go_roundw
      case rel => exact ⟨k + 1, by omega, by go_num, ⟨_, rfl, hr⟩, _, rfl⟩
      case measure => simp [intOf]; omega
    · have hkn : k = n := by omega
      subst hkn
      go_wp2
      go_ret
      exact ⟨_, rfl, HA, _, rfl⟩

set_option maxHeartbeats 1000000 in
theorem implSumOk {w : World} {b : Nat} {v : Value} {zs : List Nat} (h : RdF w b v zs) (hl : zs.length ≤ 256) :
    Calls Try.prog 17 #[v] w fun e w' => ∃ r, e = .returned (.tuple #[.float .f32 r, .bool true]) ∧ Is .f32 r (accF (sumG zs) zs.length) ∧ ∃ m, w' = w.drewN m := by
  obtain ⟨ao, cap, rfl, hc, hm, h4⟩ := h
  have HW := hid hm.2
  obtain ⟨n, hn⟩ : ∃ n, n = zs.length := ⟨_, rfl⟩
  rw [← hn] at hc h4 hl ⊢
  have Hn := hid hn
  have hm1 := hm.1
  have hsz : n ≤ 9223372036854775807 := by unfold maxLen at hm1; omega
  clear hn hc hm hm1
  have hdec : decide ((256 : Int) < (n : Int)) = false := by simp; omega
  go_enter Try.func17, Try.ntmps17
  go_wp2
  go_loopw [4, 6, 12] (fun x y i wr => ∃ k : Nat, k ≤ n ∧ i = .int .i64 k ∧ (∃ X : Nat, x = .float .f32 X ∧ Is .f32 X (accF (sumG zs) k)) ∧ ∃ m, wr = w.drewN m) (fun _ _ i _ => n - (intOf i).toNat)
  case atStart => exact ⟨0, Nat.zero_le _, rfl, ⟨0, rfl, is_zero⟩, 0, rfl⟩
  case round =>
    obtain ⟨k, hk, rfl, ⟨x, rfl, HA⟩, m, rfl⟩ := hrel
    by_cases hlt : k < n
    · obtain ⟨off, rfl, hb, hcell⟩ := h4 (by omega)
      obtain ⟨z, hz⟩ : ∃ z, z = zs.getD k 0 := ⟨_, rfl⟩
      have hcx : (w.drewN m).cell? ⟨b, off + k, none⟩ = some (.float .f32 z) := by rw [hz]; exact hcell k hlt
      have HY : Is .f32 z (sumG zs k) := by rw [hz]; exact is_word (HW.out k)
      have hki : (k : Int) < (n : Int) := by omega
      clear hz hcell
      go_wp2_with (refine wpList_fop rfl _ _ _ _ _ rfl _ _ _ rfl rfl rfl HA HY ?_; intro r m2 hr)
      go_roundw
      case rel => exact ⟨k + 1, by omega, by go_num, ⟨_, rfl, hr⟩, _, rfl⟩
      case measure => simp [intOf]; omega
    · have hkn : k = n := by omega
      subst hkn
      go_wp2
      go_ret2
      exact ⟨_, rfl, HA, _, rfl⟩

theorem l01Few {w : World} {ao : Option Addr} {n cap : Nat} (hn : n ≤ 9223372036854775807) :
    Calls Try.prog 62 #[.slice ao n cap] w fun e w' => e = .returned (.bool (decide (n ≤ 256))) ∧ w = w' := by
  have h : decide ((n : Int) ≤ 256) = decide (n ≤ 256) := decide_eq_decide.2 (by omega)
  go_enter Try.func62, Try.ntmps62
  go_wp2
  go_ret
  exact ⟨by simp [h], rfl⟩

theorem len_le {w : World} {b : Nat} {v : Value} {zs : List Nat} (h : RdF w b v zs) : zs.length ≤ 9223372036854775807 := by
  obtain ⟨ao, cap, rfl, hc, hm, h4⟩ := h
  have hm1 := hm.1
  unfold maxLen at hm1
  omega
set_option maxHeartbeats 1000000 in
theorem spec {w : World} {b : Nat} {v : Value} {zs : List Nat} (h : RdF w b v zs) :
    Calls Try.prog 15 #[v] w fun e w' => ∃ r, e = .returned (.tuple #[.float .f32 r, .bool (sumB zs)]) ∧ Is .f32 r (sumV zs) ∧ Below w.heap.size w w' := by
  have hsz := len_le h
  have H := hid h
  obtain ⟨ao, cap, rfl, _⟩ := h
  by_cases hl : zs.length ≤ 256
  · have HB : Hid (sumB zs = true) := by show decide _ = _; simpa using hl
    have HV : Hid (sumV zs = accF (sumG zs) zs.length) := by show (if _ then _ else _) = _; rw [if_pos hl]
    have HD : Hid (decide (zs.length ≤ 256) = true) := by show _ = _; simpa using hl
    clear hl
    rw [HB.out, HV.out]
    go_enter Try.func15, Try.ntmps15
    go_wp2_with (first | (go_at_call 62; refine (l01Few hsz).mono ?_; rw [HD.out]; rintro e w' ⟨rfl, rfl⟩) | (go_at_call 63; refine (l01Sum H.out).mono ?_; rintro e w' ⟨r, rfl, hr, m, rfl⟩))
    go_ret2
    exact ⟨_, rfl, hr, below_n _ _ _⟩
  · have HB : Hid (sumB zs = false) := by show decide _ = _; simpa using hl
    have HV : Hid (sumV zs = some 0) := by show (if _ then _ else _) = _; rw [if_neg hl]
    have HD : Hid (decide (zs.length ≤ 256) = false) := by show _ = _; simpa using hl
    clear hl
    rw [HB.out, HV.out]
    go_enter Try.func15, Try.ntmps15
    go_wp2_with (first | (go_at_call 62; refine (l01Few hsz).mono ?_; rw [HD.out]; rintro e w' ⟨rfl, rfl⟩))
    go_ret2
    exact ⟨_, rfl, is_zero, Below.refl _ _⟩

set_option maxHeartbeats 1000000 in
theorem impl {w : World} {b : Nat} {v : Value} {zs : List Nat} (h : RdF w b v zs) :
    Calls Try.prog 17 #[v] w fun e w' => ∃ r, e = .returned (.tuple #[.float .f32 r, .bool (sumB zs)]) ∧ Is .f32 r (sumV zs) ∧ Below w.heap.size w w' := by
  by_cases hl : zs.length ≤ 256
  · have HB : sumB zs = true := by simpa [sumB] using hl
    have HV : sumV zs = accF (sumG zs) zs.length := by rw [sumV, if_pos hl]
    rw [HB, HV]
    exact (implSumOk h hl).mono fun e w' ⟨r, he, hr, m, hw⟩ => ⟨r, he, hr, by rw [hw]; exact below_n _ _ _⟩
  · have HB : sumB zs = false := by simpa [sumB] using hl
    have HV : sumV zs = some 0 := by rw [sumV, if_neg hl]
    rw [HB, HV]
    have hsz := len_le h
    obtain ⟨ao, cap, rfl, _⟩ := h
    have hd : decide ((256 : Int) < (zs.length : Int)) = true := by simp; omega
    clear hl HB HV
    go_enter Try.func17, Try.ntmps17
    go_wp2
    go_ret2
    exact ⟨_, rfl, is_zero, Below.refl _ _⟩

set_option maxHeartbeats 1000000 in
set_option maxRecDepth 100000 in
theorem l01Dot {w : World} {b d : Nat} {v u : Value} {xs ys : List Nat} (h : RdF w b v xs) (g : RdF w d u ys) (hxy : xs.length = ys.length) :
    Calls Try.prog 64 #[v, u] w fun e w' => ∃ r, e = .returned (.float .f32 r) ∧ Is .f32 r (accF (dotG xs ys) xs.length) ∧ Below w.heap.size w w' := by
  obtain ⟨ao, cap, rfl, hc, hm, h4⟩ := h
  obtain ⟨ao2, cap2, rfl, hc2, hm2, h42⟩ := g
  have HW := hid hm.2
  have HW2 := hid hm2.2
  obtain ⟨n, hn⟩ : ∃ n, n = xs.length := ⟨_, rfl⟩
  rw [← hxy, ← hn] at hc2 h42 ⊢
  rw [← hn] at hc h4
  have Hn := hid hn
  have hm1 := hm.1
  have hsz : n ≤ 9223372036854775807 := by unfold maxLen at hm1; omega
  clear hn hc hm hm1 hc2 hm2 hxy
  go_enter Try.func64, Try.ntmps64
  go_wp2
  go_loopw [5, 6] (fun x i wr => ∃ k : Nat, k ≤ n ∧ i = .int .i64 k ∧ (∃ X : Nat, x = .float .f32 X ∧ Is .f32 X (accF (dotG xs ys) k)) ∧ Below w.heap.size w wr) (fun _ i _ => n - (intOf i).toNat)
  case atStart => exact ⟨0, Nat.zero_le _, rfl, ⟨0, rfl, is_zero⟩, Below.refl _ _⟩
  case round =>
    obtain ⟨k, hk, rfl, ⟨X, rfl, HA⟩, bel⟩ := hrel
    by_cases hlt : k < n
    · obtain ⟨off, rfl, hb, hcell⟩ := h4 (by omega)
      obtain ⟨off2, rfl, hb2, hcell2⟩ := h42 (by omega)
      obtain ⟨z, hz⟩ : ∃ z, z = xs.getD k 0 := ⟨_, rfl⟩
      obtain ⟨y, hy⟩ : ∃ y, y = ys.getD k 0 := ⟨_, rfl⟩
      have hs0 : Below w.heap.size w wr ∧ wr.cell? ⟨b, off + k, none⟩ = some (.float .f32 z) ∧ wr.cell? ⟨d, off2 + k, none⟩ = some (.float .f32 y) ∧ w.heap.size ≤ wr.heap.size := ⟨bel, by rw [hz]; exact (bel.cell hb).trans (hcell k hlt), by rw [hy]; exact (bel.cell hb2).trans (hcell2 k hlt), bel.size⟩
      have HX : Is .f32 z (cn .f32 (xs.getD k 0)) := by rw [hz]; exact is_word (HW.out k)
      have HY : Is .f32 y (cn .f32 (ys.getD k 0)) := by rw [hy]; exact is_word (HW2.out k)
      have hki : (k : Int) < (n : Int) := by omega
      clear hz hy hcell hcell2 bel
      go_wp2_with fail
      refine wp_region_held_drew (S := (fun ww => Below w.heap.size w ww ∧ ww.cell? ⟨b, off + k, none⟩ = some (.float .f32 z) ∧ ww.cell? ⟨d, off2 + k, none⟩ = some (.float .f32 y) ∧ w.heap.size ≤ ww.heap.size)) (by kernel_rfl) ?_ (fun hHeld => ?_)
      · ((try dsimp only); exact drew2_0 hs0)
      (refine wpAnyH_take (i := 0) (v := ?_) rfl ?_ ?_ ?_ (fun _ _ _ h => h) (Or.inl ⟨?_, ?_⟩) ?_ ?_; rotate_left 1; (focus decide +kernel); (focus decide +kernel); (focus decide +kernel); (focus rfl); (focus (intro w hSw; (try dsimp only at hSw); go_simp; (try (with_reducible rfl)); done)); (focus assumption); (try simp only [Act.put, List.setIfInBounds_toArray, List.set_cons_zero, List.set_cons_succ, List.getElem_toArray, List.getElem_cons_succ, List.getElem_cons_zero]))
      (refine wpAnyH_take (i := 1) (v := ?_) rfl ?_ ?_ ?_ (fun _ _ _ h => h) (Or.inl ⟨?_, ?_⟩) ?_ ?_; rotate_left 1; (focus decide +kernel); (focus decide +kernel); (focus decide +kernel); (focus rfl); (focus (intro w hSw; (try dsimp only at hSw); go_simp; (try (with_reducible rfl)); done)); (focus assumption); (try simp only [Act.put, List.setIfInBounds_toArray, List.set_cons_zero, List.set_cons_succ, List.getElem_toArray, List.getElem_cons_succ, List.getElem_cons_zero]))
      (refine wpAnyH_take (i := 2) (v := ?_) rfl ?_ ?_ ?_ (fun _ _ _ h => h) (Or.inl ⟨?_, ?_⟩) ?_ ?_; rotate_left 1; (focus decide +kernel); (focus decide +kernel); (focus decide +kernel); (focus rfl); (focus (intro w hSw; (try dsimp only at hSw); go_simp; (try (with_reducible rfl)); done)); (focus assumption); (try simp only [Act.put, List.setIfInBounds_toArray, List.set_cons_zero, List.set_cons_succ, List.getElem_toArray, List.getElem_cons_succ, List.getElem_cons_zero]))
      (refine wpAnyH_take (i := 3) (v := ?_) rfl ?_ ?_ ?_ (fun _ _ _ h => h) (Or.inl ⟨?_, ?_⟩) ?_ ?_; rotate_left 1; (focus decide +kernel); (focus decide +kernel); (focus decide +kernel); (focus rfl); (focus (intro w hSw; (try dsimp only at hSw); go_simp; (try (with_reducible rfl)); done)); (focus assumption); (try simp only [Act.put, List.setIfInBounds_toArray, List.set_cons_zero, List.set_cons_succ, List.getElem_toArray, List.getElem_cons_succ, List.getElem_cons_zero]))
      (refine wpAnyH_take (i := 4) (v := ?_) rfl ?_ ?_ ?_ (fun _ _ _ h => h) (Or.inl ⟨?_, ?_⟩) ?_ ?_; rotate_left 1; (focus decide +kernel); (focus decide +kernel); (focus decide +kernel); (focus rfl); (focus (intro w hSw; (try dsimp only at hSw); go_simp; (try (with_reducible rfl)); done)); (focus assumption); (try simp only [Act.put, List.setIfInBounds_toArray, List.set_cons_zero, List.set_cons_succ, List.getElem_toArray, List.getElem_cons_succ, List.getElem_cons_zero]))
      (refine wpAnyH_take (i := 5) (v := ?_) rfl ?_ ?_ ?_ (fun _ _ _ h => h) (Or.inl ⟨?_, ?_⟩) ?_ ?_; rotate_left 1; (focus decide +kernel); (focus decide +kernel); (focus decide +kernel); (focus rfl); (focus (intro w hSw; (try dsimp only at hSw); go_simp; (try (with_reducible rfl)); done)); (focus assumption); (try simp only [Act.put, List.setIfInBounds_toArray, List.set_cons_zero, List.set_cons_succ, List.getElem_toArray, List.getElem_cons_succ, List.getElem_cons_zero]))
      (refine wpAnyH_take (i := 6) (v := ?_) rfl ?_ ?_ ?_ (fun _ _ _ h => h) (Or.inl ⟨?_, ?_⟩) ?_ ?_; rotate_left 1; (focus decide +kernel); (focus decide +kernel); (focus decide +kernel); (focus rfl); (focus (intro w hSw; (try dsimp only at hSw); go_simp; (try (with_reducible rfl)); done)); (focus assumption); (try simp only [Act.put, List.setIfInBounds_toArray, List.set_cons_zero, List.set_cons_succ, List.getElem_toArray, List.getElem_cons_succ, List.getElem_cons_zero]))
      (refine wpAnyH_take (i := 7) (v := ?_) rfl ?_ ?_ ?_ (fun _ _ _ h => h) (Or.inl ⟨?_, ?_⟩) ?_ ?_; rotate_left 1; (focus decide +kernel); (focus decide +kernel); (focus decide +kernel); (focus rfl); (focus (intro w hSw; (try dsimp only at hSw); go_simp; (try (with_reducible rfl)); done)); (focus assumption); (try simp only [Act.put, List.setIfInBounds_toArray, List.set_cons_zero, List.set_cons_succ, List.getElem_toArray, List.getElem_cons_succ, List.getElem_cons_zero]))
      (refine wpAnyH_take (i := 8) (v := ?_) rfl ?_ ?_ ?_ (fun _ _ _ h => h) (Or.inl ⟨?_, ?_⟩) ?_ ?_; rotate_left 1; (focus decide +kernel); (focus decide +kernel); (focus decide +kernel); (focus rfl); (focus (intro w hSw; (try dsimp only at hSw); go_simp; (try (with_reducible rfl)); done)); (focus assumption); (try simp only [Act.put, List.setIfInBounds_toArray, List.set_cons_zero, List.set_cons_succ, List.getElem_toArray, List.getElem_cons_succ, List.getElem_cons_zero]))
      refine wpAnyH_ready (rs := [9]) ?_ (by simp) ?_
      · decide +kernel
      refine AllReadyH.cons rfl (fun K hK => ?_) AllReadyH.nil
      go_simp
      obtain ⟨rP, mP, hP, iP⟩ := run_fop (P := Try.prog) (wr.drew) .mul (by simp) 23 .f32 z y
      rw [hP]
      simp only [Result.andThen]
      rw [Oper.upon_value]
      obtain ⟨wP, hW⟩ : ∃ x, x = (wr.drew).drewN mP := ⟨_, rfl⟩
      have hN := nextn mP hHeld
      rw [← hW] at hN ⊢
      clear hW hHeld
      replace iP : Is .f32 rP (dotG xs ys k) := by rw [HX.1, HY.1] at iP; exact iP
      refine hK.out _ _ ?_ (fun hHeld => ?_)
      · (try dsimp only); exact hN
      clear hK K hN
      (try simp only [Act.put, List.setIfInBounds_toArray, List.set_cons_zero, List.set_cons_succ, List.getElem_toArray, List.getElem_cons_succ, List.getElem_cons_zero])
      refine wpAnyH_ready (rs := [10]) ?_ (by simp) ?_
      · decide +kernel
      refine AllReadyH.cons rfl (fun K hK => ?_) AllReadyH.nil
      go_simp
      obtain ⟨rS, mS, hS, iS⟩ := run_fop (P := Try.prog) (wP) .add (by simp) 23 .f32 X rP
      rw [hS]
      simp only [Result.andThen]
      rw [Oper.upon_value]
      obtain ⟨wS, hW⟩ : ∃ x, x = (wP).drewN mS := ⟨_, rfl⟩
      have hN := nextn mS hHeld
      rw [← hW] at hN ⊢
      clear hW hHeld
      replace iS : Is .f32 rS (accF (dotG xs ys) (k + 1)) := by rw [HA.1, iP.1] at iS; exact iS
      refine hK.out _ _ ?_ (fun hHeld => ?_)
      · (try dsimp only); exact hN
      clear hK K hN
      (try simp only [Act.put, List.setIfInBounds_toArray, List.set_cons_zero, List.set_cons_succ, List.getElem_toArray, List.getElem_cons_succ, List.getElem_cons_zero])
      (refine wpAnyH_take (i := 11) (v := ?_) rfl ?_ ?_ ?_ (fun _ _ _ h => h) (Or.inl ⟨?_, ?_⟩) ?_ ?_; rotate_left 1; (focus decide +kernel); (focus decide +kernel); (focus decide +kernel); (focus rfl); (focus (intro w hSw; (try dsimp only at hSw); go_simp; (try (with_reducible rfl)); done)); (focus assumption); (try simp only [Act.put, List.setIfInBounds_toArray, List.set_cons_zero, List.set_cons_succ, List.getElem_toArray, List.getElem_cons_succ, List.getElem_cons_zero]))
      refine wpAnyH_done (by kernel_rfl) ?_ _
      go_wp2
      go_roundw
      case rel => exact ⟨k + 1, by omega, by go_num, ⟨_, rfl, iS⟩, hHeld.1⟩
      case measure => simp [intOf]; omega
    · have hkn : k = n := by omega
      subst hkn
      go_wp2
      go_ret
      exact ⟨_, rfl, HA, bel⟩

set_option maxHeartbeats 1000000 in
theorem implDotOk {w : World} {b d : Nat} {v u : Value} {xs ys : List Nat} (h : RdF w b v xs) (g : RdF w d u ys) (hxy : xs.length = ys.length) (hl : xs.length ≤ 256) :
    Calls Try.prog 21 #[v, u] w fun e w' => ∃ r, e = .returned (.tuple #[.float .f32 r, .bool true]) ∧ Is .f32 r (accF (dotG xs ys) xs.length) ∧ ∃ m, w' = w.drewN m := by
  obtain ⟨ao, cap, rfl, hc, hm, h4⟩ := h
  obtain ⟨ao2, cap2, rfl, hc2, hm2, h42⟩ := g
  have HW := hid hm.2
  have HW2 := hid hm2.2
  obtain ⟨n, hn⟩ : ∃ n, n = xs.length := ⟨_, rfl⟩
  rw [← hxy, ← hn] at hc2 h42 ⊢
  rw [← hn] at hc h4 hl
  have Hn := hid hn
  have hm1 := hm.1
  have hsz : n ≤ 9223372036854775807 := by unfold maxLen at hm1; omega
  clear hn hc hm hm1 hc2 hm2 hxy
  have hdec : decide ((256 : Int) < (n : Int)) = false := by simp; omega
  go_enter Try.func21, Try.ntmps21
  go_wp2
  go_loopw [6, 7, 8, 21] (fun x j y i wr => ∃ k : Nat, k ≤ n ∧ i = .int .i64 k ∧ (∃ X : Nat, x = .float .f32 X ∧ Is .f32 X (accF (dotG xs ys) k)) ∧ ∃ m, wr = w.drewN m) (fun _ _ _ i _ => n - (intOf i).toNat)
  case atStart => exact ⟨0, Nat.zero_le _, rfl, ⟨0, rfl, is_zero⟩, 0, rfl⟩
  case round =>
    obtain ⟨k, hk, rfl, ⟨x, rfl, HA⟩, m, rfl⟩ := hrel
    by_cases hlt : k < n
    · obtain ⟨off, rfl, hb, hcell⟩ := h4 (by omega)
      obtain ⟨off2, rfl, hb2, hcell2⟩ := h42 (by omega)
      obtain ⟨z, hz⟩ : ∃ z, z = xs.getD k 0 := ⟨_, rfl⟩
      obtain ⟨y, hy⟩ : ∃ y, y = ys.getD k 0 := ⟨_, rfl⟩
      have hcx : (w.drewN m).cell? ⟨b, off + k, none⟩ = some (.float .f32 z) := by rw [hz]; exact hcell k hlt
      have hcy : (w.drewN m).cell? ⟨d, off2 + k, none⟩ = some (.float .f32 y) := by rw [hy]; exact hcell2 k hlt
      have HX : Is .f32 z (cn .f32 (xs.getD k 0)) := by rw [hz]; exact is_word (HW.out k)
      have HY : Is .f32 y (cn .f32 (ys.getD k 0)) := by rw [hy]; exact is_word (HW2.out k)
      have hki : (k : Int) < (n : Int) := by omega
      clear hz hy hcell hcell2
      go_wp2_with (first | (refine wpList_fop rfl .mul _ _ _ _ rfl _ _ _ rfl rfl rfl HX HY ?_; intro p m2 hp) | (refine wpList_fconv rfl _ _ _ rfl _ _ _ rfl (by rw [Try.underlying23]; rfl) Try.underlying23 hp (.inl rfl) ?_; intro p2 m4 hp2) | (refine wpList_fop rfl .add _ _ _ _ rfl _ _ _ rfl rfl rfl HA hp2 ?_; intro r m3 hr) | (refine wpList_fop rfl .add _ _ _ _ rfl _ _ _ rfl rfl rfl HA hp ?_; intro r m3 hr))
      go_roundw
      case rel => exact ⟨k + 1, by omega, by go_num, ⟨_, rfl, hr⟩, _, rfl⟩
      case measure => simp [intOf]; omega
    · have hkn : k = n := by omega
      subst hkn
      go_wp2
      go_ret2
      exact ⟨_, rfl, HA, _, rfl⟩

set_option maxHeartbeats 1000000 in
theorem specNo {w : World} {b d : Nat} {v u : Value} {xs ys : List Nat} (h : RdF w b v xs) (g : RdF w d u ys) (hb : ¬ (xs.length = ys.length ∧ xs.length ≤ 256)) :
    Calls Try.prog 20 #[v, u] w fun e w' => e = .returned (.tuple #[.float .f32 0, .bool false]) ∧ w = w' := by
  have hsz := len_le h
  have hsz2 := len_le g
  obtain ⟨ao, cap, rfl, _⟩ := h
  obtain ⟨ao2, cap2, rfl, _⟩ := g
  by_cases hl : xs.length ≤ 256
  · have hne : ¬ (xs.length : Int) = (ys.length : Int) := fun e => hb ⟨by omega, hl⟩
    have hneb : ((xs.length : Int) != (ys.length : Int)) = true := by simpa using hne
    have hd : decide ((256 : Int) < (xs.length : Int)) = false := by simp; omega
    have HD : Hid (decide (xs.length ≤ 256) = true) := by show _ = _; simpa using hl
    clear hl hb
    go_enter Try.func20, Try.ntmps20
    go_wp2_with (go_at_call 62; refine (l01Few hsz).mono ?_; rw [HD.out]; rintro e w' ⟨rfl, rfl⟩)
    go_ret2
    exact ⟨rfl, rfl⟩
  · have hd : decide ((256 : Int) < (xs.length : Int)) = true := by simp; omega
    have HD : Hid (decide (xs.length ≤ 256) = false) := by show _ = _; simpa using hl
    clear hl hb
    by_cases hne : ((xs.length : Int) != (ys.length : Int)) = true
    · go_enter Try.func20, Try.ntmps20
      go_wp2_with (go_at_call 62; refine (l01Few hsz).mono ?_; rw [HD.out]; rintro e w' ⟨rfl, rfl⟩)
      go_ret2
      exact ⟨rfl, rfl⟩
    · have hne' : ((xs.length : Int) != (ys.length : Int)) = false := by simpa using hne
      clear hne
      go_enter Try.func20, Try.ntmps20
      go_wp2_with (go_at_call 62; refine (l01Few hsz).mono ?_; rw [HD.out]; rintro e w' ⟨rfl, rfl⟩)
      go_ret2
      exact ⟨rfl, rfl⟩

set_option maxHeartbeats 1000000 in
theorem implNo {w : World} {b d : Nat} {v u : Value} {xs ys : List Nat} (h : RdF w b v xs) (g : RdF w d u ys) (hb : ¬ (xs.length = ys.length ∧ xs.length ≤ 256)) :
    Calls Try.prog 21 #[v, u] w fun e w' => e = .returned (.tuple #[.float .f32 0, .bool false]) ∧ w = w' := by
  have hsz := len_le h
  have hsz2 := len_le g
  obtain ⟨ao, cap, rfl, _⟩ := h
  obtain ⟨ao2, cap2, rfl, _⟩ := g
  by_cases hl : xs.length ≤ 256
  · have hne : ¬ (xs.length : Int) = (ys.length : Int) := fun e => hb ⟨by omega, hl⟩
    have hneb : ((xs.length : Int) != (ys.length : Int)) = true := by simpa using hne
    have hd : decide ((256 : Int) < (xs.length : Int)) = false := by simp; omega
    have HD : Hid (decide (xs.length ≤ 256) = true) := by show _ = _; simpa using hl
    clear hl hb
    go_enter Try.func21, Try.ntmps21
    go_wp2
    go_ret2
    exact ⟨rfl, rfl⟩
  · have hd : decide ((256 : Int) < (xs.length : Int)) = true := by simp; omega
    have HD : Hid (decide (xs.length ≤ 256) = false) := by show _ = _; simpa using hl
    clear hl hb
    by_cases hne : ((xs.length : Int) != (ys.length : Int)) = true
    · go_enter Try.func21, Try.ntmps21
      go_wp2
      go_ret2
      exact ⟨rfl, rfl⟩
    · have hne' : ((xs.length : Int) != (ys.length : Int)) = false := by simpa using hne
      clear hne
      go_enter Try.func21, Try.ntmps21
      go_wp2
      go_ret2
      exact ⟨rfl, rfl⟩

set_option maxHeartbeats 1000000 in
theorem specDotOk {w : World} {b d : Nat} {v u : Value} {xs ys : List Nat} (h : RdF w b v xs) (g : RdF w d u ys) (hxy : xs.length = ys.length) (hl : xs.length ≤ 256) :
    Calls Try.prog 20 #[v, u] w fun e w' => ∃ r, e = .returned (.tuple #[.float .f32 r, .bool true]) ∧ Is .f32 r (accF (dotG xs ys) xs.length) ∧ Below w.heap.size w w' := by
  have hsz := len_le h
  have hsz2 := len_le g
  have H := hid h
  have G := hid g
  have HXY := hid hxy
  obtain ⟨ao, cap, rfl, _⟩ := h
  obtain ⟨ao2, cap2, rfl, _⟩ := g
  have hneb : ((xs.length : Int) != (ys.length : Int)) = false := by simp; omega
  have HD : Hid (decide (xs.length ≤ 256) = true) := by show _ = _; simpa using hl
  clear hl hxy
  go_enter Try.func20, Try.ntmps20
  go_wp2_with (first | (go_at_call 62; refine (l01Few hsz).mono ?_; rw [HD.out]; rintro e w' ⟨rfl, rfl⟩) | (go_at_call 64; refine (l01Dot H.out G.out HXY.out).mono ?_; rintro e w' ⟨r, rfl, hr, bel⟩))
  go_ret2
  exact ⟨_, rfl, hr, bel⟩

theorem specDotOk' {w : World} {b d : Nat} {v u : Value} {xs ys : List Nat} (h : RdF w b v xs) (g : RdF w d u ys) (hxy : xs.length = ys.length) (hl : xs.length ≤ 256) :
    Calls Try.prog 20 #[v, u] w fun e w' => ∃ r, e = .returned (.tuple #[.float .f32 r, .bool true]) ∧ Is .f32 r (accF (dotG xs ys) xs.length) ∧ Below w.heap.size w w' := specDotOk h g hxy hl
theorem implDotOk' {w : World} {b d : Nat} {v u : Value} {xs ys : List Nat} (h : RdF w b v xs) (g : RdF w d u ys) (hxy : xs.length = ys.length) (hl : xs.length ≤ 256) :
    Calls Try.prog 21 #[v, u] w fun e w' => ∃ r, e = .returned (.tuple #[.float .f32 r, .bool true]) ∧ Is .f32 r (accF (dotG xs ys) xs.length) ∧ Below w.heap.size w w' :=
  (implDotOk h g hxy hl).mono fun e w' ⟨r, he, hr, m, hw⟩ => ⟨r, he, hr, by rw [hw]; exact below_n _ _ _⟩
theorem specD {w : World} {b d : Nat} {v u : Value} {xs ys : List Nat} (h : RdF w b v xs) (g : RdF w d u ys) :
    Calls Try.prog 20 #[v, u] w fun e w' => ∃ r, e = .returned (.tuple #[.float .f32 r, .bool (dotB xs ys)]) ∧ Is .f32 r (dotV xs ys) ∧ Below w.heap.size w w' := by
  by_cases hb : xs.length = ys.length ∧ xs.length ≤ 256
  · rw [show dotB xs ys = true by simpa [dotB] using hb, show dotV xs ys = accF (dotG xs ys) xs.length by rw [dotV, if_pos hb]]
    exact specDotOk' h g hb.1 hb.2
  · rw [show dotB xs ys = false by rw [dotB]; exact decide_eq_false hb, show dotV xs ys = some 0 by rw [dotV, if_neg hb]]
    exact (specNo h g hb).mono fun e w' ⟨he, hw⟩ => ⟨0, he, is_zero, by rw [← hw]; exact Below.refl _ _⟩

theorem implD {w : World} {b d : Nat} {v u : Value} {xs ys : List Nat} (h : RdF w b v xs) (g : RdF w d u ys) :
    Calls Try.prog 21 #[v, u] w fun e w' => ∃ r, e = .returned (.tuple #[.float .f32 r, .bool (dotB xs ys)]) ∧ Is .f32 r (dotV xs ys) ∧ Below w.heap.size w w' := by
  by_cases hb : xs.length = ys.length ∧ xs.length ≤ 256
  · rw [show dotB xs ys = true by simpa [dotB] using hb, show dotV xs ys = accF (dotG xs ys) xs.length by rw [dotV, if_pos hb]]
    exact implDotOk' h g hb.1 hb.2
  · rw [show dotB xs ys = false by rw [dotB]; exact decide_eq_false hb, show dotV xs ys = some 0 by rw [dotV, if_neg hb]]
    exact (implNo h g hb).mono fun e w' ⟨he, hw⟩ => ⟨0, he, is_zero, by rw [← hw]; exact Below.refl _ _⟩

end Go.Proofs.Ytejchjjkehmgaaa.Fsm
