/- spec.l03Terms: what a rule tells where a cell alone is 1, and whether it is the rule of these sums. -/
import Derived.Test.YtonghkooncmjgaaSum
import Derived.Test.YtonghkooncmjgaaAl
import Derived.Test.YtonghkooncmjgaaSame2
import Derived.Test.YtonghkooncmjgaaApp
import Derived.Test.YtonghkooncmjgaaIsSum
import Derived.Test.YtonghkooncmjgaaSpec
import Derived.StillTailTactics
import Derived.BigQuiet
namespace Go.Proofs.Ytonghkooncmjgaa.Terms
open Go.RowKit Go.Proofs.Ytonghkooncmjgaa.Rd Go.Proofs.Ytonghkooncmjgaa.Help Go.Proofs.Ytonghkooncmjgaa.App Go.Proofs.Ytonghkooncmjgaa.Ring Go.Proofs.Ytonghkooncmjgaa.Small Go.Proofs.Ytonghkooncmjgaa.Num Go.Proofs.Ytonghkooncmjgaa.Keep Go.Proofs.Ytonghkooncmjgaa.Rule Go.Proofs.Ytonghkooncmjgaa.Dig Go.Proofs.Ytonghkooncmjgaa.DigP Go.Proofs.Ytonghkooncmjgaa.Tell Go.Proofs.Ytonghkooncmjgaa.Sum Go.Proofs.Ytonghkooncmjgaa.Al Go.Proofs.Ytonghkooncmjgaa.IsSum
set_option linter.unusedVariables false
set_option linter.unusedSimpArgs false

theorem dotK_comm (a b : List Int) : ∀ k, dotK a b k = dotK b a k := by
  intro k
  induction k with
  | zero => rfl
  | succ k ih => simp only [dotK, ih, Int.mul_comm]

set_option maxHeartbeats 400000 in
theorem power3 {w : World} {st : Int} {k : Nat} (hst : 2 ≤ st ∧ st ≤ 3) (hk : k ≤ 5) :
    Calls Try.prog 166 #[.int .i64 st, .int .i64 k] w fun e w' => e = .returned (.int .i64 (st ^ k)) ∧ w = w' := by
  have HB : Hid (∀ j, j ≤ 5 → 1 ≤ st ^ j ∧ st ^ j ≤ 243) := fun j hj => pow_bd hst hj
  go_enter Try.func166, Try.ntmps166
  go_wp2
  go_loop [1, 5] (fun t p => ∃ j : Nat, j ≤ k ∧ t = .int .i64 ((k : Int) - j) ∧ p = .int .i64 (st ^ j)) (fun t _ => (intOf t).toNat)
  case atStart => exact ⟨0, Nat.zero_le _, by simp, by simp⟩
  case round =>
    obtain ⟨j, hj, rfl, rfl⟩ := hrel
    by_cases hlt : j < k
    · have b2 := HB.out (j + 1) (by omega)
      obtain ⟨P, hP⟩ : ∃ P, P = st ^ j := ⟨_, rfl⟩
      obtain ⟨P2, hP2⟩ : ∃ P2, P2 = st ^ (j + 1) := ⟨_, rfl⟩
      have he : P * st = P2 := by rw [hP, hP2, Int.pow_succ]
      rw [← hP2] at b2
      obtain ⟨b3, b4⟩ := b2
      rw [← hP]
      have H2 : Hid (P2 = st ^ (j + 1)) := hP2
      have hki : (0 : Int) < (k : Int) - j := by omega
      clear hP hP2
      go_wp2
      go_round
      case rel => exact ⟨j + 1, by omega, by go_num, by rw [H2.out]⟩
      case measure => simp [intOf]; omega
    · have hkn : k = j := by omega
      subst hkn
      obtain ⟨P, hP⟩ : ∃ P, P = st ^ k := ⟨_, rfl⟩
      have HPk : Hid (P = st ^ k) := hP
      rw [← hP]
      clear hP
      go_wp2
      go_ret
      exact ⟨by rw [← HPk.out]; rfl, rfl⟩

theorem wide3 {w : World} {g : Nat} {r : Int} (c1 : w.cell? ⟨g, 1, none⟩ = some (.int .i64 r)) (hr : 0 ≤ r ∧ r ≤ 2) :
    Calls Try.prog 112 #[.pointer (some ⟨g, 0, none⟩)] w fun e w' => e = .returned (.int .i64 (2 * r + 1)) ∧ w = w' := by
  obtain ⟨r1, r2⟩ := hr
  go_enter Try.func112, Try.ntmps112
  go_wp2
  go_ret
  exact ⟨rfl, rfl⟩

theorem isSum_iff {s r : Int} {tbl : List Int} {L : Nat} (hL : L = (2 * r + 1).toNat) : isSumB s r tbl = true ↔ ∀ i, i < tbl.length → tbl.getD i 0 = dotK (dig s i L) (alo tbl s L) L % s := by
  subst hL
  unfold isSumB Same.sameB
  simp only [sumT]
  constructor
  · intro h i hi
    simp only [Bool.and_eq_true, decide_eq_true_eq, Same.eqLB] at h
    obtain ⟨_, _, h⟩ := h
    have : tbl.getD i 0 = (tab (fun k => dotK (alo tbl s (2 * r + 1).toNat) (dig s (k : Int) (2 * r + 1).toNat) (2 * r + 1).toNat % s) tbl.length).getD i 0 := by rw [← h]
    rw [this, tab_get _ _ _ hi, dotK_comm]
  · intro h
    simp only [Bool.and_eq_true, decide_eq_true_eq, true_and]
    apply Same.eq_all (by rw [tab_length])
    intro i hi
    rw [tab_get _ _ _ hi, h i hi, dotK_comm]

set_option maxHeartbeats 8000000 in
theorem termsX {w : World} {g : Nat} {s r : Int} {b : Nat} {v : Value} {tbl : List Int} {qb : Bool} {rs : List Int} (hqb : qb = isSumB s r tbl) (hrs : rs = if isSumB s r tbl = true then alo tbl s (2 * r + 1).toNat else []) (h : Rd w b v tbl) (c0 : w.cell? ⟨g, 0, none⟩ = some (.int .i64 s)) (c1 : w.cell? ⟨g, 1, none⟩ = some (.int .i64 r)) (c2 : w.cell? ⟨g, 2, none⟩ = some v) (hv : validB s r tbl = true) :
    Calls Try.prog 114 #[.pointer (some ⟨g, 0, none⟩)] w fun e w' => ∃ v' b', e = .returned (.tuple #[v', .bool qb]) ∧
      Own 2 w' b' v' rs ∧ w.heap.size ≤ b' ∧ Below w.heap.size w w' := by
  obtain ⟨hs, hr, hl, ha⟩ := valid_parts hv
  obtain ⟨L, hL⟩ : ∃ L, L = (2 * r + 1).toNat := ⟨_, rfl⟩
  have HIff := hid (isSum_iff (s := s) (tbl := tbl) hL)
  rw [← hL] at hl hrs
  have HQB := hid hqb
  have HRS := hid hrs
  clear hqb hrs
  have hLr : 2 * r + 1 = (L : Int) := by omega
  have HS := hid hs
  have HR := hid hr
  have HA := hid ha
  have HLr := hid hLr
  have HLen := hid hl
  have HAL : Hid (allB (alo tbl s L) s = true) := alo_all hs ha hl L (Nat.le_refl _)
  have HPB : Hid (∀ k, k < L → 1 ≤ s ^ k ∧ s ^ k < (tbl.length : Int) ∧ s ^ k ≤ 243) := by
    intro k hk
    have p1 := pow_pos' hs k
    have p2 := pow_le' hs (show k + 1 ≤ L by omega)
    have p3 : s ^ k < s ^ (k + 1) := by
      rw [Int.pow_succ]
      rcases (show s = 2 ∨ s = 3 by omega) with rfl | rfl <;> omega
    have p4 := (pow_bd hs (show k ≤ 5 by omega)).2
    omega
  have HRd := hid h
  obtain ⟨ao, cap, rfl, hc, hm, h4⟩ := h
  obtain ⟨off, rfl, hb, hcell⟩ := h4 (by have := pow_pos' hs L; omega)
  obtain ⟨n, hn⟩ : ∃ n, n = tbl.length := ⟨_, rfl⟩
  have Hn := hid hn
  have hn243 : n ≤ 243 := by have := (pow_bd hs (show L ≤ 5 by omega)).2; omega
  rw [← hn] at HRd HPB hcell c2 HLen
  have HC := hid hcell
  have HBt := hid hb
  have hL5 : L ≤ 5 := by omega
  have ST : Hid (Below w.heap.size w w ∧ w.cell? ⟨g, 0, none⟩ = some (.int .i64 s) ∧ w.cell? ⟨g, 1, none⟩ = some (.int .i64 r) ∧ w.cell? ⟨g, 2, none⟩ = some (Value.slice (some ⟨b, off, none⟩) n cap) ∧ Rd w b (Value.slice (some ⟨b, off, none⟩) n cap) tbl ∧ w.heap.size ≤ w.heap.size) := ⟨Below.refl _ _, c0, c1, c2, HRd.out, Nat.le_refl _⟩
  obtain ⟨s1, s2⟩ := hs
  clear h4 hcell hb ha hc hm hv hl hL hn c0 c2 hLr hr
  go_enter Try.func114, Try.ntmps114
  go_wp2_with fail
  go_at_call 112
  refine (wide3 c1 HR.out).mono ?_
  rw [HLr.out]
  rintro e w' ⟨rfl, rfl⟩
  go_wp2
  go_loopw [5, 6] (fun v5 i wr => ∃ k : Nat, k ≤ L ∧ i = .int .i64 k ∧ wr.ownsRow w.heap.size 2 1 v5 ((alo tbl s L).take k).length (((alo tbl s L).take k).map (Value.int .i64)) ∧ Below w.heap.size w wr) (fun _ i _ => L - (intOf i).toNat)
  case atStart => exact ⟨0, Nat.zero_le _, rfl, by simpa using World.ownsRow_lit (base := w.heap.size) (e := 2) (size := 1) w #[] 0 (Nat.le_refl _) (by simp) (by simp), (Below.refl _ _).alloc (Nat.le_refl _) _⟩
  case round =>
    obtain ⟨k, hk, rfl, hown, hbel⟩ := hrel
    by_cases hlt : k < L
    · obtain ⟨j, hj⟩ : ∃ j : Nat, (L : Int) - 1 - k = j := ⟨L - 1 - k, by omega⟩
      have hj2 : L - 1 - k = j := by omega
      have hjl : j < L := by omega
      obtain ⟨p1, p2, p3⟩ := HPB.out j hjl
      obtain ⟨P, hP⟩ : ∃ P : Nat, s ^ j = P := ⟨(s ^ j).toNat, by omega⟩
      rw [hP] at p1 p2 p3
      obtain ⟨x, hx⟩ : ∃ x, x = tbl.getD P 0 := ⟨_, rfl⟩
      have HX : Hid ((alo tbl s L).take (k + 1) = (alo tbl s L).take k ++ [x]) := by
        simp only [Hid]
        rw [List.take_succ_eq_append_getElem (by rw [alo_length]; exact hlt)]
        have e := alo_get tbl s L k hlt
        rw [hj2, hP, Int.toNat_natCast, ← hx] at e
        rw [← e]
        simp [List.getD, alo_length, hlt]
      have s2 := next3_1 hbel ST.out
      have r0 := s2.2.1
      have r1 := s2.2.2.1
      have r2 := s2.2.2.2.1
      have hcx : wr.cell? ⟨b, off + P, none⟩ = some (.int .i64 x) := by
        rw [hx]
        exact (hbel.cell (p := ⟨b, off + P, none⟩) HBt.out).trans (HC.out P (by omega))
      have hwr1 : IntKind.i64.wrap ((L : Int) - 1) = (L : Int) - 1 := by rw [IntKind.wrap_i64]; omega
      have hwr2 : IntKind.i64.wrap ((L : Int) - 1 - k) = j := by rw [IntKind.wrap_i64]; omega
      have HP := hid hP
      have c4 : w.cell? ⟨b, off + P, none⟩ = some (.int .i64 x) := by rw [hx]; exact HC.out P (by omega)
      have s0 := ST.out
      have ST4 : Hid (Below w.heap.size w w ∧ w.cell? ⟨g, 0, none⟩ = some (.int .i64 s) ∧ w.cell? ⟨g, 1, none⟩ = some (.int .i64 r) ∧ w.cell? ⟨g, 2, none⟩ = some (Value.slice (some ⟨b, off, none⟩) n cap) ∧ w.cell? ⟨b, off + P, none⟩ = some (.int .i64 x) ∧ Rd w b (Value.slice (some ⟨b, off, none⟩) n cap) tbl ∧ w.heap.size ≤ w.heap.size) := ⟨s0.1, s0.2.1, s0.2.2.1, s0.2.2.2.1, c4, s0.2.2.2.2.1, s0.2.2.2.2.2⟩
      have st4 := next4_1 hbel ST4.out
      clear s0 c4
      have HO := hid hown
      have HB := hid hbel
      clear hown hbel s2 hP hx hj hj2 r0 r1 r2 hcx
      go_wp2_with fail
      refine wp_region_held_drew (S := (fun ww => Below w.heap.size w ww ∧ ww.cell? ⟨g, 0, none⟩ = some (.int .i64 s) ∧ ww.cell? ⟨g, 1, none⟩ = some (.int .i64 r) ∧ ww.cell? ⟨g, 2, none⟩ = some (Value.slice (some ⟨b, off, none⟩) n cap) ∧ ww.cell? ⟨b, off + P, none⟩ = some (.int .i64 x) ∧ Rd ww b (Value.slice (some ⟨b, off, none⟩) n cap) tbl ∧ w.heap.size ≤ ww.heap.size)) (by kernel_rfl) ?_ (fun hHeld => ?_)
      · ((try dsimp only); exact drew4_1 st4)
      generalize hD : wr.drew = wD at hHeld ⊢
      have HOD : Hid (wD.ownsRow w.heap.size 2 1 u5 ((alo tbl s L).take k).length (((alo tbl s L).take k).map (Value.int .i64))) := by rw [← hD]; exact HO.out
      clear hD st4
      first | (refine wpAnyH_take (i := 0) (v := ?_) rfl ?_ ?_ ?_ (fun _ _ _ h => h) (Or.inl ⟨?_, ?_⟩) ?_ ?_; rotate_left 1; (focus decide +kernel); (focus decide +kernel); (focus decide +kernel); (focus rfl); (focus (intro w hSw; (try dsimp only at hSw); go_simp; (try (with_reducible rfl)); done)); (focus assumption); (try simp only [Act.put, List.setIfInBounds_toArray, List.set_cons_zero, List.set_cons_succ, List.getElem_toArray, List.getElem_cons_succ, List.getElem_cons_zero])) | (refine wpAnyH_take (i := 0) (v := undef) rfl ?_ ?_ ?_ (fun _ _ _ h => h) (Or.inr ⟨?_, rfl⟩) ?_ ?_; (focus decide +kernel); (focus decide +kernel); (focus decide +kernel); (focus rfl); (focus assumption); (try simp only [Act.put, List.setIfInBounds_toArray, List.set_cons_zero, List.set_cons_succ, List.getElem_toArray, List.getElem_cons_succ, List.getElem_cons_zero]))
      first | (refine wpAnyH_take (i := 1) (v := ?_) rfl ?_ ?_ ?_ (fun _ _ _ h => h) (Or.inl ⟨?_, ?_⟩) ?_ ?_; rotate_left 1; (focus decide +kernel); (focus decide +kernel); (focus decide +kernel); (focus rfl); (focus (intro w hSw; (try dsimp only at hSw); go_simp; (try (with_reducible rfl)); done)); (focus assumption); (try simp only [Act.put, List.setIfInBounds_toArray, List.set_cons_zero, List.set_cons_succ, List.getElem_toArray, List.getElem_cons_succ, List.getElem_cons_zero])) | (refine wpAnyH_take (i := 1) (v := undef) rfl ?_ ?_ ?_ (fun _ _ _ h => h) (Or.inr ⟨?_, rfl⟩) ?_ ?_; (focus decide +kernel); (focus decide +kernel); (focus decide +kernel); (focus rfl); (focus assumption); (try simp only [Act.put, List.setIfInBounds_toArray, List.set_cons_zero, List.set_cons_succ, List.getElem_toArray, List.getElem_cons_succ, List.getElem_cons_zero]))
      first | (refine wpAnyH_take (i := 2) (v := ?_) rfl ?_ ?_ ?_ (fun _ _ _ h => h) (Or.inl ⟨?_, ?_⟩) ?_ ?_; rotate_left 1; (focus decide +kernel); (focus decide +kernel); (focus decide +kernel); (focus rfl); (focus (intro w hSw; (try dsimp only at hSw); go_simp; (try (with_reducible rfl)); done)); (focus assumption); (try simp only [Act.put, List.setIfInBounds_toArray, List.set_cons_zero, List.set_cons_succ, List.getElem_toArray, List.getElem_cons_succ, List.getElem_cons_zero])) | (refine wpAnyH_take (i := 2) (v := undef) rfl ?_ ?_ ?_ (fun _ _ _ h => h) (Or.inr ⟨?_, rfl⟩) ?_ ?_; (focus decide +kernel); (focus decide +kernel); (focus decide +kernel); (focus rfl); (focus assumption); (try simp only [Act.put, List.setIfInBounds_toArray, List.set_cons_zero, List.set_cons_succ, List.getElem_toArray, List.getElem_cons_succ, List.getElem_cons_zero]))
      first | (refine wpAnyH_take (i := 3) (v := ?_) rfl ?_ ?_ ?_ (fun _ _ _ h => h) (Or.inl ⟨?_, ?_⟩) ?_ ?_; rotate_left 1; (focus decide +kernel); (focus decide +kernel); (focus decide +kernel); (focus rfl); (focus (intro w hSw; (try dsimp only at hSw); go_simp; (try (with_reducible rfl)); done)); (focus assumption); (try simp only [Act.put, List.setIfInBounds_toArray, List.set_cons_zero, List.set_cons_succ, List.getElem_toArray, List.getElem_cons_succ, List.getElem_cons_zero])) | (refine wpAnyH_take (i := 3) (v := undef) rfl ?_ ?_ ?_ (fun _ _ _ h => h) (Or.inr ⟨?_, rfl⟩) ?_ ?_; (focus decide +kernel); (focus decide +kernel); (focus decide +kernel); (focus rfl); (focus assumption); (try simp only [Act.put, List.setIfInBounds_toArray, List.set_cons_zero, List.set_cons_succ, List.getElem_toArray, List.getElem_cons_succ, List.getElem_cons_zero]))
      first | (refine wpAnyH_take (i := 4) (v := ?_) rfl ?_ ?_ ?_ (fun _ _ _ h => h) (Or.inl ⟨?_, ?_⟩) ?_ ?_; rotate_left 1; (focus decide +kernel); (focus decide +kernel); (focus decide +kernel); (focus rfl); (focus (intro w hSw; (try dsimp only at hSw); go_simp; (try (with_reducible rfl)); done)); (focus assumption); (try simp only [Act.put, List.setIfInBounds_toArray, List.set_cons_zero, List.set_cons_succ, List.getElem_toArray, List.getElem_cons_succ, List.getElem_cons_zero])) | (refine wpAnyH_take (i := 4) (v := undef) rfl ?_ ?_ ?_ (fun _ _ _ h => h) (Or.inr ⟨?_, rfl⟩) ?_ ?_; (focus decide +kernel); (focus decide +kernel); (focus decide +kernel); (focus rfl); (focus assumption); (try simp only [Act.put, List.setIfInBounds_toArray, List.set_cons_zero, List.set_cons_succ, List.getElem_toArray, List.getElem_cons_succ, List.getElem_cons_zero]))
      first | (refine wpAnyH_take (i := 5) (v := ?_) rfl ?_ ?_ ?_ (fun _ _ _ h => h) (Or.inl ⟨?_, ?_⟩) ?_ ?_; rotate_left 1; (focus decide +kernel); (focus decide +kernel); (focus decide +kernel); (focus rfl); (focus (intro w hSw; (try dsimp only at hSw); go_simp; (try (with_reducible rfl)); done)); (focus assumption); (try simp only [Act.put, List.setIfInBounds_toArray, List.set_cons_zero, List.set_cons_succ, List.getElem_toArray, List.getElem_cons_succ, List.getElem_cons_zero])) | (refine wpAnyH_take (i := 5) (v := undef) rfl ?_ ?_ ?_ (fun _ _ _ h => h) (Or.inr ⟨?_, rfl⟩) ?_ ?_; (focus decide +kernel); (focus decide +kernel); (focus decide +kernel); (focus rfl); (focus assumption); (try simp only [Act.put, List.setIfInBounds_toArray, List.set_cons_zero, List.set_cons_succ, List.getElem_toArray, List.getElem_cons_succ, List.getElem_cons_zero]))
      first | (refine wpAnyH_take (i := 6) (v := ?_) rfl ?_ ?_ ?_ (fun _ _ _ h => h) (Or.inl ⟨?_, ?_⟩) ?_ ?_; rotate_left 1; (focus decide +kernel); (focus decide +kernel); (focus decide +kernel); (focus rfl); (focus (intro w hSw; (try dsimp only at hSw); go_simp; (try (with_reducible rfl)); done)); (focus assumption); (try simp only [Act.put, List.setIfInBounds_toArray, List.set_cons_zero, List.set_cons_succ, List.getElem_toArray, List.getElem_cons_succ, List.getElem_cons_zero])) | (refine wpAnyH_take (i := 6) (v := undef) rfl ?_ ?_ ?_ (fun _ _ _ h => h) (Or.inr ⟨?_, rfl⟩) ?_ ?_; (focus decide +kernel); (focus decide +kernel); (focus decide +kernel); (focus rfl); (focus assumption); (try simp only [Act.put, List.setIfInBounds_toArray, List.set_cons_zero, List.set_cons_succ, List.getElem_toArray, List.getElem_cons_succ, List.getElem_cons_zero]))
      first | (refine wpAnyH_take (i := 7) (v := ?_) rfl ?_ ?_ ?_ (fun _ _ _ h => h) (Or.inl ⟨?_, ?_⟩) ?_ ?_; rotate_left 1; (focus decide +kernel); (focus decide +kernel); (focus decide +kernel); (focus rfl); (focus (intro w hSw; (try dsimp only at hSw); go_simp; (try (with_reducible rfl)); done)); (focus assumption); (try simp only [Act.put, List.setIfInBounds_toArray, List.set_cons_zero, List.set_cons_succ, List.getElem_toArray, List.getElem_cons_succ, List.getElem_cons_zero])) | (refine wpAnyH_take (i := 7) (v := undef) rfl ?_ ?_ ?_ (fun _ _ _ h => h) (Or.inr ⟨?_, rfl⟩) ?_ ?_; (focus decide +kernel); (focus decide +kernel); (focus decide +kernel); (focus rfl); (focus assumption); (try simp only [Act.put, List.setIfInBounds_toArray, List.set_cons_zero, List.set_cons_succ, List.getElem_toArray, List.getElem_cons_succ, List.getElem_cons_zero]))
      first | (refine wpAnyH_take (i := 8) (v := ?_) rfl ?_ ?_ ?_ (fun _ _ _ h => h) (Or.inl ⟨?_, ?_⟩) ?_ ?_; rotate_left 1; (focus decide +kernel); (focus decide +kernel); (focus decide +kernel); (focus rfl); (focus (intro w hSw; (try dsimp only at hSw); go_simp; (try (with_reducible rfl)); done)); (focus assumption); (try simp only [Act.put, List.setIfInBounds_toArray, List.set_cons_zero, List.set_cons_succ, List.getElem_toArray, List.getElem_cons_succ, List.getElem_cons_zero])) | (refine wpAnyH_take (i := 8) (v := undef) rfl ?_ ?_ ?_ (fun _ _ _ h => h) (Or.inr ⟨?_, rfl⟩) ?_ ?_; (focus decide +kernel); (focus decide +kernel); (focus decide +kernel); (focus rfl); (focus assumption); (try simp only [Act.put, List.setIfInBounds_toArray, List.set_cons_zero, List.set_cons_succ, List.getElem_toArray, List.getElem_cons_succ, List.getElem_cons_zero]))
      first | (refine wpAnyH_take (i := 9) (v := ?_) rfl ?_ ?_ ?_ (fun _ _ _ h => h) (Or.inl ⟨?_, ?_⟩) ?_ ?_; rotate_left 1; (focus decide +kernel); (focus decide +kernel); (focus decide +kernel); (focus rfl); (focus (intro w hSw; (try dsimp only at hSw); go_simp; (try (with_reducible rfl)); done)); (focus assumption); (try simp only [Act.put, List.setIfInBounds_toArray, List.set_cons_zero, List.set_cons_succ, List.getElem_toArray, List.getElem_cons_succ, List.getElem_cons_zero])) | (refine wpAnyH_take (i := 9) (v := undef) rfl ?_ ?_ ?_ (fun _ _ _ h => h) (Or.inr ⟨?_, rfl⟩) ?_ ?_; (focus decide +kernel); (focus decide +kernel); (focus decide +kernel); (focus rfl); (focus assumption); (try simp only [Act.put, List.setIfInBounds_toArray, List.set_cons_zero, List.set_cons_succ, List.getElem_toArray, List.getElem_cons_succ, List.getElem_cons_zero]))
      first | (refine wpAnyH_take (i := 10) (v := ?_) rfl ?_ ?_ ?_ (fun _ _ _ h => h) (Or.inl ⟨?_, ?_⟩) ?_ ?_; rotate_left 1; (focus decide +kernel); (focus decide +kernel); (focus decide +kernel); (focus rfl); (focus (intro w hSw; (try dsimp only at hSw); go_simp; (try (with_reducible rfl)); done)); (focus assumption); (try simp only [Act.put, List.setIfInBounds_toArray, List.set_cons_zero, List.set_cons_succ, List.getElem_toArray, List.getElem_cons_succ, List.getElem_cons_zero])) | (refine wpAnyH_take (i := 10) (v := undef) rfl ?_ ?_ ?_ (fun _ _ _ h => h) (Or.inr ⟨?_, rfl⟩) ?_ ?_; (focus decide +kernel); (focus decide +kernel); (focus decide +kernel); (focus rfl); (focus assumption); (try simp only [Act.put, List.setIfInBounds_toArray, List.set_cons_zero, List.set_cons_succ, List.getElem_toArray, List.getElem_cons_succ, List.getElem_cons_zero]))
      first | (refine wpAnyH_take (i := 11) (v := ?_) rfl ?_ ?_ ?_ (fun _ _ _ h => h) (Or.inl ⟨?_, ?_⟩) ?_ ?_; rotate_left 1; (focus decide +kernel); (focus decide +kernel); (focus decide +kernel); (focus rfl); (focus (intro w hSw; (try dsimp only at hSw); go_simp; (try (with_reducible rfl)); done)); (focus assumption); (try simp only [Act.put, List.setIfInBounds_toArray, List.set_cons_zero, List.set_cons_succ, List.getElem_toArray, List.getElem_cons_succ, List.getElem_cons_zero])) | (refine wpAnyH_take (i := 11) (v := undef) rfl ?_ ?_ ?_ (fun _ _ _ h => h) (Or.inr ⟨?_, rfl⟩) ?_ ?_; (focus decide +kernel); (focus decide +kernel); (focus decide +kernel); (focus rfl); (focus assumption); (try simp only [Act.put, List.setIfInBounds_toArray, List.set_cons_zero, List.set_cons_succ, List.getElem_toArray, List.getElem_cons_succ, List.getElem_cons_zero]))
      first | (refine wpAnyH_take (i := 12) (v := ?_) rfl ?_ ?_ ?_ (fun _ _ _ h => h) (Or.inl ⟨?_, ?_⟩) ?_ ?_; rotate_left 1; (focus decide +kernel); (focus decide +kernel); (focus decide +kernel); (focus rfl); (focus (intro w hSw; (try dsimp only at hSw); go_simp; (try (with_reducible rfl)); done)); (focus assumption); (try simp only [Act.put, List.setIfInBounds_toArray, List.set_cons_zero, List.set_cons_succ, List.getElem_toArray, List.getElem_cons_succ, List.getElem_cons_zero])) | (refine wpAnyH_take (i := 12) (v := undef) rfl ?_ ?_ ?_ (fun _ _ _ h => h) (Or.inr ⟨?_, rfl⟩) ?_ ?_; (focus decide +kernel); (focus decide +kernel); (focus decide +kernel); (focus rfl); (focus assumption); (try simp only [Act.put, List.setIfInBounds_toArray, List.set_cons_zero, List.set_cons_succ, List.getElem_toArray, List.getElem_cons_succ, List.getElem_cons_zero]))
      refine wpAnyH_ready (rs := [13]) ?_ (by simp) ?_
      · decide +kernel
      refine AllReadyH.cons rfl (fun K hK => ?_) AllReadyH.nil
      go_simp
      have hp := (power3 (w := wD) (st := s) (k := j) HS.out (by omega)).mono (R' := fun e w' => e = .returned (.int .i64 P) ∧ wD = w') (by rintro e w' ⟨rfl, rfl⟩; exact ⟨by rw [HP.out], rfl⟩)
      go_at_call 166
      refine hp.mono ?_
      clear hp
      rintro e w' ⟨rfl, hw'⟩
      subst hw'
      refine hK.out _ _ ?_ (fun hHeld => ?_)
      · ((try dsimp only); exact hHeld)
      clear hK K
      (try simp only [Act.put, List.setIfInBounds_toArray, List.set_cons_zero, List.set_cons_succ, List.getElem_toArray, List.getElem_cons_succ, List.getElem_cons_zero])
      first | (refine wpAnyH_take (i := 14) (v := ?_) rfl ?_ ?_ ?_ (fun _ _ _ h => h) (Or.inl ⟨?_, ?_⟩) ?_ ?_; rotate_left 1; (focus decide +kernel); (focus decide +kernel); (focus decide +kernel); (focus rfl); (focus (intro w hSw; (try dsimp only at hSw); go_simp; (try (with_reducible rfl)); done)); (focus assumption); (try simp only [Act.put, List.setIfInBounds_toArray, List.set_cons_zero, List.set_cons_succ, List.getElem_toArray, List.getElem_cons_succ, List.getElem_cons_zero])) | (refine wpAnyH_take (i := 14) (v := undef) rfl ?_ ?_ ?_ (fun _ _ _ h => h) (Or.inr ⟨?_, rfl⟩) ?_ ?_; (focus decide +kernel); (focus decide +kernel); (focus decide +kernel); (focus rfl); (focus assumption); (try simp only [Act.put, List.setIfInBounds_toArray, List.set_cons_zero, List.set_cons_succ, List.getElem_toArray, List.getElem_cons_succ, List.getElem_cons_zero]))
      first | (refine wpAnyH_take (i := 15) (v := ?_) rfl ?_ ?_ ?_ (fun _ _ _ h => h) (Or.inl ⟨?_, ?_⟩) ?_ ?_; rotate_left 1; (focus decide +kernel); (focus decide +kernel); (focus decide +kernel); (focus rfl); (focus (intro w hSw; (try dsimp only at hSw); go_simp; (try (with_reducible rfl)); done)); (focus assumption); (try simp only [Act.put, List.setIfInBounds_toArray, List.set_cons_zero, List.set_cons_succ, List.getElem_toArray, List.getElem_cons_succ, List.getElem_cons_zero])) | (refine wpAnyH_take (i := 15) (v := undef) rfl ?_ ?_ ?_ (fun _ _ _ h => h) (Or.inr ⟨?_, rfl⟩) ?_ ?_; (focus decide +kernel); (focus decide +kernel); (focus decide +kernel); (focus rfl); (focus assumption); (try simp only [Act.put, List.setIfInBounds_toArray, List.set_cons_zero, List.set_cons_succ, List.getElem_toArray, List.getElem_cons_succ, List.getElem_cons_zero]))
      refine wpAnyH_ready (rs := [16]) ?_ (by simp) ?_
      · decide +kernel
      refine AllReadyH.cons rfl (fun K hK => ?_) AllReadyH.nil
      go_simp
      refine hK.out _ _ ?_ (fun hHeld2 => ?_)
      · (try dsimp only); exact next4_1 (below1 _ _) hHeld
      clear hK K
      refine wpAnyH_ready (rs := [17]) ?_ (by simp) ?_
      · decide +kernel
      refine AllReadyH.cons rfl (fun K hK => ?_) AllReadyH.nil
      refine op_append1 rfl _ _ rfl w.heap.size _ _ rfl HOD.out x rfl ?c1 ?c2 ?_
      case c1 => rw [List.length_take]; omega
      case c2 => exact (And.left hHeld).size
      intro v' w5 hown5 hbel5 _
      have hbw : Below w.heap.size w w5 := (And.left hHeld).trans hbel5
      refine hK.out _ _ ?_ (fun hHeld3 => ?_)
      · (try dsimp only); exact next4_1 hbw (ST4.out)
      clear hK K
      have HO5 := hid hown5
      have HB5 := hid hbw
      clear hown5 hbel5 hbw hHeld hHeld2
      first | (refine wpAnyH_take (i := 18) (v := ?_) rfl ?_ ?_ ?_ (fun _ _ _ h => h) (Or.inl ⟨?_, ?_⟩) ?_ ?_; rotate_left 1; (focus decide +kernel); (focus decide +kernel); (focus decide +kernel); (focus rfl); (focus (intro w hSw; (try dsimp only at hSw); go_simp; (try (with_reducible rfl)); done)); (focus assumption); (try simp only [Act.put, List.setIfInBounds_toArray, List.set_cons_zero, List.set_cons_succ, List.getElem_toArray, List.getElem_cons_succ, List.getElem_cons_zero])) | (refine wpAnyH_take (i := 18) (v := undef) rfl ?_ ?_ ?_ (fun _ _ _ h => h) (Or.inr ⟨?_, rfl⟩) ?_ ?_; (focus decide +kernel); (focus decide +kernel); (focus decide +kernel); (focus rfl); (focus assumption); (try simp only [Act.put, List.setIfInBounds_toArray, List.set_cons_zero, List.set_cons_succ, List.getElem_toArray, List.getElem_cons_succ, List.getElem_cons_zero]))
      refine wpAnyH_done (by kernel_rfl) ?_ _
      clear hHeld3
      go_wp2
      go_roundw
      case rel =>
        refine ⟨k + 1, by omega, by go_num, ?_, HB5.out⟩
        rw [HX.out]
        exact HO5.out
      case measure => simp [intOf]; omega
    · have hkn : k = L := by omega
      subst hkn
      have htk : (alo tbl s k).take k = alo tbl s k := by rw [List.take_of_length_le]; rw [alo_length]; exact Nat.le_refl _
      rw [htk] at hown
      have STr : Hid (Below w.heap.size w wr ∧ wr.cell? ⟨g, 0, none⟩ = some (.int .i64 s) ∧ wr.cell? ⟨g, 1, none⟩ = some (.int .i64 r) ∧ wr.cell? ⟨g, 2, none⟩ = some (Value.slice (some ⟨b, off, none⟩) n cap) ∧ Rd wr b (Value.slice (some ⟨b, off, none⟩) n cap) tbl ∧ w.heap.size ≤ wr.heap.size) := next3_1 hbel ST.out
      have HCr : Hid (∀ i, i < n → wr.cell? ⟨b, off + i, none⟩ = some (.int .i64 (tbl.getD i 0))) := fun i hi => (hbel.cell (p := ⟨b, off + i, none⟩) HBt.out).trans (HC.out i hi)
      have HBr : Hid (b < wr.heap.size) := Nat.lt_of_lt_of_le HBt.out hbel.size
      obtain ⟨bt, hbt, hot⟩ := Own.of hown
      rcases hot.form with ⟨_, he⟩ | ⟨capt, rfl, hct, hcm, hbl⟩
      · have := alo_length tbl s k
        rw [he] at this
        have := HLr.out
        have := HR.out
        simp at *
        omega
      rw [alo_length] at hct hot ⊢
      have HOT := hid hot
      have HBT := hid hbt
      have HBL := hid hbl
      have HB1 := hid hbel
      clear hown hbt hot hbl hct hcm hbel htk
      obtain ⟨W2, hW2⟩ : ∃ W2, W2 = wr := ⟨_, rfl⟩
      rw [← hW2] at STr HCr HBr HOT HBL HB1 ⊢
      clear hW2
      have d0 := STr.out.2.1
      have d1 := STr.out.2.2.1
      have d2 := STr.out.2.2.2.1
      go_wp2
      go_loopw [42] (fun t wr => ∃ m : Nat, m ≤ n ∧ t = .int .i64 m ∧ Hid (∀ i, i < m → tbl.getD i 0 = dotK (dig s i k) (alo tbl s k) k % s) ∧ Below W2.heap.size W2 wr) (fun t _ => n - (intOf t).toNat)
      case atStart => exact ⟨0, Nat.zero_le _, rfl, fun i hi => absurd hi (by omega), Below.refl _ _⟩
      case round =>
        obtain ⟨m, hm, rfl, hall, hb2⟩ := hrel
        have s3 := next3_1 hb2 (⟨Below.refl _ _, STr.out.2.1, STr.out.2.2.1, STr.out.2.2.2.1, STr.out.2.2.2.2.1, Nat.le_refl _⟩ : Below W2.heap.size W2 W2 ∧ W2.cell? ⟨g, 0, none⟩ = some (.int .i64 s) ∧ W2.cell? ⟨g, 1, none⟩ = some (.int .i64 r) ∧ W2.cell? ⟨g, 2, none⟩ = some (Value.slice (some ⟨b, off, none⟩) n cap) ∧ Rd W2 b (Value.slice (some ⟨b, off, none⟩) n cap) tbl ∧ W2.heap.size ≤ W2.heap.size)
        have r0 := s3.2.1
        have r2 := s3.2.2.2.1
        have HALL := hid hall
        have HB2 := hid hb2
        by_cases hlt2 : m < n
        · have hmi : (m : Int) < (n : Int) := by omega
          clear hall hb2
          go_wp2_with fail
          go_at_call 167
          refine (specCells HS.out (by omega) (by omega)).mono ?_
          rw [dig_length, Int.toNat_natCast]
          rintro e w4 ⟨bd, rfl, od, lo, bel⟩
          have ot := (HOT.out.keep HB2.out).keep bel
          have s4 := next3_1 bel s3
          have HOD := hid od
          have HOT4 := hid ot
          have HS4 := hid s4
          have HDB : Hid (∀ q, q ≤ k → 0 ≤ dotK (dig s m k) (alo tbl s k) q ∧ dotK (dig s m k) (alo tbl s k) q ≤ 4 * q) := fun q hq => dotK_bd HS.out (dig_all HS.out _ _) HAL.out q (by rw [dig_length]; exact hq) (by rw [alo_length]; exact hq)
          have HD1 : Hid (∀ q, q < k → 0 ≤ (dig s m k).getD q 0 ∧ (dig s m k).getD q 0 ≤ s - 1) := fun q hq => all_get (dig_all HS.out _ _) (by rw [dig_length]; exact hq)
          have HD2 : Hid (∀ q, q < k → 0 ≤ (alo tbl s k).getD q 0 ∧ (alo tbl s k).getD q 0 ≤ s - 1) := fun q hq => all_get HAL.out (by rw [alo_length]; exact hq)
          clear ot s4 od bel lo s3 r0 r2
          go_wp2
          go_loopw [9, 10, 54] (fun x j t wx => ∃ q : Nat, q ≤ k ∧ t = .int .i64 q ∧ x = .int .i64 (dotK (dig s m k) (alo tbl s k) q) ∧ ∃ dn, wx = w4.drewN dn) (fun _ _ t _ => k - (intOf t).toNat)
          case atStart => exact ⟨0, Nat.zero_le _, rfl, rfl, 0, rfl⟩
          case round =>
            obtain ⟨q, hq, rfl, rfl, dn, hdn⟩ := hrel
            have HDn := hid hdn
            by_cases hlt3 : q < k
            · have hqi : (q : Int) < (k : Int) := by omega
              obtain ⟨x1, x2⟩ := HDB.out q hq
              obtain ⟨y1, y2⟩ := HD1.out q hlt3
              obtain ⟨z1, z2⟩ := HD2.out q hlt3
              have hcx : wr.cell? ⟨bd, q, none⟩ = some (.int .i64 ((dig s m k).getD q 0)) := by rw [hdn]; exact HOD.out.cell (by rw [dig_length]; exact hlt3)
              have hcy : wr.cell? ⟨bt, q, none⟩ = some (.int .i64 ((alo tbl s k).getD q 0)) := by rw [hdn]; exact HOT4.out.cell (by rw [alo_length]; exact hlt3)
              have hnx : dotK (dig s m k) (alo tbl s k) (q + 1) = dotK (dig s m k) (alo tbl s k) q + (dig s m k).getD q 0 * (alo tbl s k).getD q 0 := rfl
              obtain ⟨X, hX⟩ : ∃ X, X = dotK (dig s m k) (alo tbl s k) q := ⟨_, rfl⟩
              obtain ⟨Y, hY⟩ : ∃ Y, Y = (dig s m k).getD q 0 := ⟨_, rfl⟩
              obtain ⟨Z, hZ⟩ : ∃ Z, Z = (alo tbl s k).getD q 0 := ⟨_, rfl⟩
              rw [← hX] at x1 x2 hnx ⊢
              rw [← hY] at y1 y2 hcx hnx
              rw [← hZ] at z1 z2 hcy hnx
              obtain ⟨V, hV⟩ : ∃ V, Y * Z = V := ⟨_, rfl⟩
              have b7 : 0 ≤ V ∧ V ≤ 4 := by
                have p1 : 0 ≤ Y * Z := Int.mul_nonneg y1 z1
                have p2 : Y * Z ≤ 2 * 2 := Int.mul_le_mul (by omega) (by omega) z1 (by omega)
                omega
              obtain ⟨b8, b9⟩ := b7
              have HNX : Hid (dotK (dig s m k) (alo tbl s k) (q + 1) = X + V) := by rw [hV] at hnx; exact hnx
              clear hX hY hZ hnx hdn
              go_wp2_with fail
              go_quiet (fail)
              go_wp2
              go_roundw
              case rel => exact ⟨q + 1, by omega, by go_num, by rw [HNX.out], dn + nq, by rw [HDn.out, World.drewN_drewN]⟩
              case measure => simp [intOf]; omega
            · have hqk : q = k := by omega
              subst hqk
              obtain ⟨x1, x2⟩ := HDB.out q (by omega)
              obtain ⟨X, hX⟩ : ∃ X, X = dotK (dig s m q) (alo tbl s q) q := ⟨_, rfl⟩
              rw [← hX] at x1 x2 ⊢
              have HX := hid hX
              have t1 : X.tmod s = X % s := tmod_of x1
              obtain ⟨y, hy⟩ : ∃ y, y = tbl.getD m 0 := ⟨_, rfl⟩
              have HY := hid hy
              have r0 : wr.cell? ⟨g, 0, none⟩ = some (.int .i64 s) := by rw [hdn]; exact HS4.out.2.1
              have r2 : wr.cell? ⟨g, 2, none⟩ = some (Value.slice (some ⟨b, off, none⟩) n cap) := by rw [hdn]; exact HS4.out.2.2.2.1
              have hcx : wr.cell? ⟨b, off + m, none⟩ = some (.int .i64 y) := by
                rw [hdn, hy]
                exact (HS4.out.1.cell (p := ⟨b, off + m, none⟩) HBr.out).trans (HCr.out m hlt2)
              have hbw : Below W2.heap.size W2 wr := by rw [hdn]; exact HS4.out.1.trans (Go.Proofs.Ytonghkooncmjgaa.Help.below_drewN _ _ _)
              have HBW := hid hbw
              clear hX hdn hy hbw
              by_cases he : X % s = y
              · have hne : (X % s != y) = false := by rw [he]; simp
                have HE := hid he
                clear he
                go_wp2_with fail
                go_quiet (fail)
                go_wp2
                go_roundw
                case rel =>
                  refine ⟨m + 1, by omega, by go_num, ?_, HBW.out.trans (Go.Proofs.Ytonghkooncmjgaa.Help.below_drewN _ _ _)⟩
                  intro i hi
                  by_cases him : i = m
                  · subst him; rw [← HY.out, ← HX.out, HE.out]
                  · exact HALL.out i (by omega)
                case measure => simp [intOf]; omega
              · have hne : (X % s != y) = true := by simpa using he
                have HF : Hid (isSumB s r tbl = false) := by
                  simp only [Hid]
                  cases hb : isSumB s r tbl with
                  | false => rfl
                  | true =>
                    have := HIff.out.1 hb m (by have := Hn.out; omega)
                    exact absurd (by rw [HX.out, ← this, HY.out]) he
                clear he
                go_wp2_with fail
                go_quiet (fail)
                go_wp2
                go_ret2
                exact ⟨_, w.heap.size, by rw [HQB.out, HF.out]; rfl, by rw [HRS.out, if_neg (by rw [HF.out]; simp)]; exact Own.nil _ _ _, Nat.le_refl _, HB1.out.trans ((HBW.out.trans (Go.Proofs.Ytonghkooncmjgaa.Help.below_drewN _ _ _)).mono HB1.out.size)⟩
        · have hmn : m = n := by omega
          subst hmn
          have HT : Hid (isSumB s r tbl = true) := by
            simp only [Hid]
            exact HIff.out.2 (fun i hi => hall i (by have := Hn.out; omega))
          clear hall hb2
          go_wp2
          go_ret2
          exact ⟨_, bt, by rw [HQB.out, HT.out]; rfl, by rw [HRS.out, if_pos HT.out]; exact HOT.out.keep HB2.out, HBT.out, HB1.out.trans (HB2.out.mono HB1.out.size)⟩

end Go.Proofs.Ytonghkooncmjgaa.Terms
