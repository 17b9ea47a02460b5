/- For every two fields, the program's CellsApart answers as its model, writes into no argument, and shares no memory. -/
import Derived.Test.YtcdbbbifdidpdaaRows
import Derived.Test.YtcdbbbifdidpdaaFldKit
import Derived.Test.YtcdbbbifdidpdaaKeep12
import Derived.Test.YtcdbbbifdidpdaaApart
import Derived.WalkKit
import Derived.WalkLawsBesides
import Derived.ProofKit
import Derived.OpenShut
import Derived.ShutString
import Derived.ChangeOld
import Derived.Below
import Derived.IntWalk
import Derived.Lib.SmallJoins
namespace Go.Proofs.Ytcdbbbifdidpdaa.lawCellsApart
open Go.ChangeShapes Go.WideShapes Go.ChangeAt Go.RowKit Go.Joins Go.Proofs.Ytcdbbbifdidpdaa.Rd Go.Proofs.Ytcdbbbifdidpdaa.Help Go.Proofs.Ytcdbbbifdidpdaa.Keep
set_option linter.unusedVariables false
set_option linter.unusedSimpArgs false
theorem own : ownKnob Try.prog.godebug = none := by kernel_rfl
theorem laidOut : laidOutB Try.prog = true := by kernel_rfl
theorem agree (s r : Int) (xs : List Int) (s' r' : Int) (ys : List Int) (hx : xs.length ≤ 1048576) (hy : ys.length ≤ 1048576) : ∃ (q0 : Int) (q1 : Bool),
    (∀ (w : World) (b : Nat) (v : Value), Rd w b v xs → ∀ (b1 : Nat) (v1 : Value), Rd w b1 v1 ys → Calls Try.prog 28 #[Rule.ruleV s r v, Rule.ruleV s' r' v1] w fun e w' => e = .returned (.tuple #[.int .i64 q0, .bool q1]) ∧ Below w.heap.size w w') ∧
    (∀ (w : World) (b : Nat) (v : Value), Rd w b v xs → ∀ (b1 : Nat) (v1 : Value), Rd w b1 v1 ys → Calls Try.prog 29 #[Rule.ruleV s r v, Rule.ruleV s' r' v1] w fun e w' => e = .returned (.tuple #[.int .i64 q0, .bool q1]) ∧ Below w.heap.size w w') := Apart.agree s r xs s' r' ys

set_option maxHeartbeats 16000000 in
theorem walk {w : World} {s0 r0 : Int} (fs0 : (Lit.int .i64 s0).wf = true) (fr0 : (Lit.int .i64 r0).wf = true) {b0 : Nat} {v0 : Value} {z0 : List Int} (h0 : Rd w b0 v0 z0) {s1 r1 : Int} (fs1 : (Lit.int .i64 s1).wf = true) (fr1 : (Lit.int .i64 r1).wf = true) {b1 : Nat} {v1 : Value} {z1 : List Int} (h1 : Rd w b1 v1 z1) :
    Calls Try.prog 7 #[Rule.ruleV s0 r0 v0, Rule.ruleV s1 r1 v1] w fun e w' => e = .returned (.bool true) ∧ Below w.heap.size w w' := by
  obtain ⟨ao0, cap0, e0, kc0, mc0, _⟩ := id h0
  have H0 : Hid (Rd w b0 v0 z0) := h0
  subst e0; clear h0
  have nb0 : z0.length ≤ 9223372036854775807 := by unfold maxLen at mc0; omega
  clear kc0 mc0
  obtain ⟨ao1, cap1, e1, kc1, mc1, _⟩ := id h1
  have H1 : Hid (Rd w b1 v1 z1) := h1
  subst e1; clear h1
  have nb1 : z1.length ≤ 9223372036854775807 := by unfold maxLen at mc1; omega
  clear kc1 mc1
  rcases Nat.lt_or_ge 1048576 z0.length with hx0 | hl0
  · have HE : Hid ((if (z0.length : Int) ≤ 1048576 then 1048576 - (z0.length : Int) else -1) = -1) := if_neg (by omega)
    go_enter Try.func7, Try.ntmps7
    go_wp2_with fail
    obtain ⟨w1, hW⟩ : ∃ w1, w1 = (w.alloc (Obj.cells #[.int .i64 s0, .int .i64 r0, (Value.slice ao0 z0.length cap0)] 24)).alloc (Obj.cells #[.int .i64 s1, .int .i64 r1, (Value.slice ao1 z1.length cap1)] 24) := ⟨_, rfl⟩
    obtain ⟨NA, hN⟩ : ∃ NA, NA = w.heap.size := ⟨_, rfl⟩
    obtain ⟨NB, hM⟩ : ∃ NB, NB = NA + 1 := ⟨_, rfl⟩
    have st : Below w.heap.size w w1 ∧ w1.cell? ⟨NA, 0, none⟩ = some (.int .i64 s0) ∧ w1.cell? ⟨NA, 1, none⟩ = some (.int .i64 r0) ∧ w1.cell? ⟨NA, 2, none⟩ = some ((Value.slice ao0 z0.length cap0)) ∧ w1.cell? ⟨NB, 0, none⟩ = some (.int .i64 s1) ∧ w1.cell? ⟨NB, 1, none⟩ = some (.int .i64 r1) ∧ w1.cell? ⟨NB, 2, none⟩ = some ((Value.slice ao1 z1.length cap1)) ∧ Rd w1 b0 (Value.slice ao0 z0.length cap0) z0 ∧ Rd w1 b1 (Value.slice ao1 z1.length cap1) z1 ∧ w.heap.size ≤ w1.heap.size := by
      rw [hW, hM, hN]
      exact ⟨Go.Joins.below_alloc2 _ _ _, by simp, by simp, by simp, by simp, by simp, by simp, H0.out.keep (Go.Joins.below_alloc2 _ _ _) (Nat.le_refl _), H1.out.keep (Go.Joins.below_alloc2 _ _ _) (Nat.le_refl _), by simp; omega⟩
    simp only [← hW, ← hN, ← hM]
    clear hW hN hM
    go_at_call 15
    refine (szR nb0 (by omega) (by omega)).mono ?_
    rw [HE.out]
    rintro e w2 ⟨rfl, bel⟩
    replace st := next6_2 bel st
    go_wp2
    go_ret
    exact ⟨rfl, st.1⟩
  have hi0 : (z0.length : Int) ≤ 1048576 := by omega
  have HE : Hid ((if (z0.length : Int) ≤ 1048576 then 1048576 - (z0.length : Int) else -1) = 1048576 - (z0.length : Int)) := if_pos hi0
  rcases Nat.lt_or_ge (1048576 - z0.length) z1.length with hx1 | hl1'
  · have HE1 : Hid ((if (z1.length : Int) ≤ 1048576 - (z0.length : Int) then 1048576 - (z0.length : Int) - (z1.length : Int) else -1) = -1) := if_neg (by omega)
    go_enter Try.func7, Try.ntmps7
    go_wp2_with fail
    obtain ⟨w1, hW⟩ : ∃ w1, w1 = (w.alloc (Obj.cells #[.int .i64 s0, .int .i64 r0, (Value.slice ao0 z0.length cap0)] 24)).alloc (Obj.cells #[.int .i64 s1, .int .i64 r1, (Value.slice ao1 z1.length cap1)] 24) := ⟨_, rfl⟩
    obtain ⟨NA, hN⟩ : ∃ NA, NA = w.heap.size := ⟨_, rfl⟩
    obtain ⟨NB, hM⟩ : ∃ NB, NB = NA + 1 := ⟨_, rfl⟩
    have st : Below w.heap.size w w1 ∧ w1.cell? ⟨NA, 0, none⟩ = some (.int .i64 s0) ∧ w1.cell? ⟨NA, 1, none⟩ = some (.int .i64 r0) ∧ w1.cell? ⟨NA, 2, none⟩ = some ((Value.slice ao0 z0.length cap0)) ∧ w1.cell? ⟨NB, 0, none⟩ = some (.int .i64 s1) ∧ w1.cell? ⟨NB, 1, none⟩ = some (.int .i64 r1) ∧ w1.cell? ⟨NB, 2, none⟩ = some ((Value.slice ao1 z1.length cap1)) ∧ Rd w1 b0 (Value.slice ao0 z0.length cap0) z0 ∧ Rd w1 b1 (Value.slice ao1 z1.length cap1) z1 ∧ w.heap.size ≤ w1.heap.size := by
      rw [hW, hM, hN]
      exact ⟨Go.Joins.below_alloc2 _ _ _, by simp, by simp, by simp, by simp, by simp, by simp, H0.out.keep (Go.Joins.below_alloc2 _ _ _) (Nat.le_refl _), H1.out.keep (Go.Joins.below_alloc2 _ _ _) (Nat.le_refl _), by simp; omega⟩
    simp only [← hW, ← hN, ← hM]
    clear hW hN hM
    go_at_call 15
    refine (szR nb0 (by omega) (by omega)).mono ?_
    rw [HE.out]
    rintro e w2 ⟨rfl, bel⟩
    replace st := next6_2 bel st
    clear bel
    go_wp2_with fail
    go_at_call 15
    refine (szR nb1 (by omega) (by omega)).mono ?_
    rw [HE1.out]
    rintro e w3 ⟨rfl, bel⟩
    replace st := next6_2 bel st
    go_wp2
    go_ret
    exact ⟨rfl, st.1⟩
  have hl1 : z1.length ≤ 1048576 := by omega
  have hi1 : (z1.length : Int) ≤ 1048576 - (z0.length : Int) := by omega
  have HE1 : Hid ((if (z1.length : Int) ≤ 1048576 - (z0.length : Int) then 1048576 - (z0.length : Int) - (z1.length : Int) else -1) = 1048576 - (z0.length : Int) - (z1.length : Int)) := if_pos hi1
  have HL0 : Hid (z0.length ≤ 1048576) := hl0
  have HL1 : Hid (z1.length ≤ 1048576) := hl1
  obtain ⟨q0, q1, hspec, himpl⟩ := agree s0 r0 z0 s1 r1 z1 hl0 hl1
  have HSp := hid @hspec
  have HIm := hid @himpl
  clear hspec himpl hl0 hl1
  go_enter Try.func7, Try.ntmps7
  go_wp2_with fail
  obtain ⟨w1, hW⟩ : ∃ w1, w1 = (w.alloc (Obj.cells #[.int .i64 s0, .int .i64 r0, (Value.slice ao0 z0.length cap0)] 24)).alloc (Obj.cells #[.int .i64 s1, .int .i64 r1, (Value.slice ao1 z1.length cap1)] 24) := ⟨_, rfl⟩
  obtain ⟨NA, hN⟩ : ∃ NA, NA = w.heap.size := ⟨_, rfl⟩
  obtain ⟨NB, hM⟩ : ∃ NB, NB = NA + 1 := ⟨_, rfl⟩
  have st : Below w.heap.size w w1 ∧ w1.cell? ⟨NA, 0, none⟩ = some (.int .i64 s0) ∧ w1.cell? ⟨NA, 1, none⟩ = some (.int .i64 r0) ∧ w1.cell? ⟨NA, 2, none⟩ = some ((Value.slice ao0 z0.length cap0)) ∧ w1.cell? ⟨NB, 0, none⟩ = some (.int .i64 s1) ∧ w1.cell? ⟨NB, 1, none⟩ = some (.int .i64 r1) ∧ w1.cell? ⟨NB, 2, none⟩ = some ((Value.slice ao1 z1.length cap1)) ∧ Rd w1 b0 (Value.slice ao0 z0.length cap0) z0 ∧ Rd w1 b1 (Value.slice ao1 z1.length cap1) z1 ∧ w.heap.size ≤ w1.heap.size := by
    rw [hW, hM, hN]
    exact ⟨Go.Joins.below_alloc2 _ _ _, by simp, by simp, by simp, by simp, by simp, by simp, H0.out.keep (Go.Joins.below_alloc2 _ _ _) (Nat.le_refl _), H1.out.keep (Go.Joins.below_alloc2 _ _ _) (Nat.le_refl _), by simp; omega⟩
  simp only [← hW, ← hN, ← hM]
  clear hW hN hM
  go_wp2_with fail
  go_at_call 15
  refine (szR nb0 (by omega) (by omega)).mono ?_
  rw [HE.out]
  rintro e w2 ⟨rfl, bel⟩
  replace st := next6_2 bel st
  clear bel
  go_wp2_with fail
  go_at_call 15
  refine (szR nb1 (by omega) (by omega)).mono ?_
  rw [HE1.out]
  rintro e w3 ⟨rfl, bel⟩
  replace st := next6_2 bel st
  clear bel
  go_wp2_with fail
  refine wp_region_held_drew (S := (fun ww => Below w.heap.size w ww ∧ ww.cell? ⟨NA, 0, none⟩ = some (.int .i64 s0) ∧ ww.cell? ⟨NA, 1, none⟩ = some (.int .i64 r0) ∧ ww.cell? ⟨NA, 2, none⟩ = some ((Value.slice ao0 z0.length cap0)) ∧ ww.cell? ⟨NB, 0, none⟩ = some (.int .i64 s1) ∧ ww.cell? ⟨NB, 1, none⟩ = some (.int .i64 r1) ∧ ww.cell? ⟨NB, 2, none⟩ = some ((Value.slice ao1 z1.length cap1)) ∧ Rd ww b0 (Value.slice ao0 z0.length cap0) z0 ∧ Rd ww b1 (Value.slice ao1 z1.length cap1) z1 ∧ w.heap.size ≤ ww.heap.size)) (by kernel_rfl) ?_ (fun hHeld => ?_)
  · ((try dsimp only); exact drew6_2 st)
  first | (refine wpAnyH_take (i := 0) (v := ?_) rfl ?_ ?_ ?_ (fun _ _ _ h => h) (Or.inl ⟨?_, ?_⟩) ?_ ?_; rotate_left 1; (focus decide +kernel); (focus decide +kernel); (focus decide +kernel); (focus rfl); (focus (intro w hSw; (try dsimp only at hSw); go_simp; (try (with_reducible rfl)); done)); (focus assumption); (try simp only [Act.put, List.setIfInBounds_toArray, List.set_cons_zero, List.set_cons_succ, List.getElem_toArray, List.getElem_cons_succ, List.getElem_cons_zero])) | (refine wpAnyH_take (i := 0) (v := undef) rfl ?_ ?_ ?_ (fun _ _ _ h => h) (Or.inr ⟨?_, rfl⟩) ?_ ?_; (focus decide +kernel); (focus decide +kernel); (focus decide +kernel); (focus rfl); (focus assumption); (try simp only [Act.put, List.setIfInBounds_toArray, List.set_cons_zero, List.set_cons_succ, List.getElem_toArray, List.getElem_cons_succ, List.getElem_cons_zero])) | skip
  first | (refine wpAnyH_take (i := 2) (v := ?_) rfl ?_ ?_ ?_ (fun _ _ _ h => h) (Or.inl ⟨?_, ?_⟩) ?_ ?_; rotate_left 1; (focus decide +kernel); (focus decide +kernel); (focus decide +kernel); (focus rfl); (focus (intro w hSw; (try dsimp only at hSw); go_simp; (try (with_reducible rfl)); done)); (focus assumption); (try simp only [Act.put, List.setIfInBounds_toArray, List.set_cons_zero, List.set_cons_succ, List.getElem_toArray, List.getElem_cons_succ, List.getElem_cons_zero])) | (refine wpAnyH_take (i := 2) (v := undef) rfl ?_ ?_ ?_ (fun _ _ _ h => h) (Or.inr ⟨?_, rfl⟩) ?_ ?_; (focus decide +kernel); (focus decide +kernel); (focus decide +kernel); (focus rfl); (focus assumption); (try simp only [Act.put, List.setIfInBounds_toArray, List.set_cons_zero, List.set_cons_succ, List.getElem_toArray, List.getElem_cons_succ, List.getElem_cons_zero])) | skip
  first | (refine wpAnyH_take (i := 5) (v := ?_) rfl ?_ ?_ ?_ (fun _ _ _ h => h) (Or.inl ⟨?_, ?_⟩) ?_ ?_; rotate_left 1; (focus decide +kernel); (focus decide +kernel); (focus decide +kernel); (focus rfl); (focus (intro w hSw; (try dsimp only at hSw); go_simp; (try (with_reducible rfl)); done)); (focus assumption); (try simp only [Act.put, List.setIfInBounds_toArray, List.set_cons_zero, List.set_cons_succ, List.getElem_toArray, List.getElem_cons_succ, List.getElem_cons_zero])) | (refine wpAnyH_take (i := 5) (v := undef) rfl ?_ ?_ ?_ (fun _ _ _ h => h) (Or.inr ⟨?_, rfl⟩) ?_ ?_; (focus decide +kernel); (focus decide +kernel); (focus decide +kernel); (focus rfl); (focus assumption); (try simp only [Act.put, List.setIfInBounds_toArray, List.set_cons_zero, List.set_cons_succ, List.getElem_toArray, List.getElem_cons_succ, List.getElem_cons_zero])) | skip
  first | (refine wpAnyH_take (i := 6) (v := ?_) rfl ?_ ?_ ?_ (fun _ _ _ h => h) (Or.inl ⟨?_, ?_⟩) ?_ ?_; rotate_left 1; (focus decide +kernel); (focus decide +kernel); (focus decide +kernel); (focus rfl); (focus (intro w hSw; (try dsimp only at hSw); go_simp; (try (with_reducible rfl)); done)); (focus assumption); (try simp only [Act.put, List.setIfInBounds_toArray, List.set_cons_zero, List.set_cons_succ, List.getElem_toArray, List.getElem_cons_succ, List.getElem_cons_zero])) | (refine wpAnyH_take (i := 6) (v := undef) rfl ?_ ?_ ?_ (fun _ _ _ h => h) (Or.inr ⟨?_, rfl⟩) ?_ ?_; (focus decide +kernel); (focus decide +kernel); (focus decide +kernel); (focus rfl); (focus assumption); (try simp only [Act.put, List.setIfInBounds_toArray, List.set_cons_zero, List.set_cons_succ, List.getElem_toArray, List.getElem_cons_succ, List.getElem_cons_zero])) | skip
  first | (refine wpAnyH_take (i := 7) (v := ?_) rfl ?_ ?_ ?_ (fun _ _ _ h => h) (Or.inl ⟨?_, ?_⟩) ?_ ?_; rotate_left 1; (focus decide +kernel); (focus decide +kernel); (focus decide +kernel); (focus rfl); (focus (intro w hSw; (try dsimp only at hSw); go_simp; (try (with_reducible rfl)); done)); (focus assumption); (try simp only [Act.put, List.setIfInBounds_toArray, List.set_cons_zero, List.set_cons_succ, List.getElem_toArray, List.getElem_cons_succ, List.getElem_cons_zero])) | (refine wpAnyH_take (i := 7) (v := undef) rfl ?_ ?_ ?_ (fun _ _ _ h => h) (Or.inr ⟨?_, rfl⟩) ?_ ?_; (focus decide +kernel); (focus decide +kernel); (focus decide +kernel); (focus rfl); (focus assumption); (try simp only [Act.put, List.setIfInBounds_toArray, List.set_cons_zero, List.set_cons_succ, List.getElem_toArray, List.getElem_cons_succ, List.getElem_cons_zero])) | skip
  first | (refine wpAnyH_take (i := 8) (v := ?_) rfl ?_ ?_ ?_ (fun _ _ _ h => h) (Or.inl ⟨?_, ?_⟩) ?_ ?_; rotate_left 1; (focus decide +kernel); (focus decide +kernel); (focus decide +kernel); (focus rfl); (focus (intro w hSw; (try dsimp only at hSw); go_simp; (try (with_reducible rfl)); done)); (focus assumption); (try simp only [Act.put, List.setIfInBounds_toArray, List.set_cons_zero, List.set_cons_succ, List.getElem_toArray, List.getElem_cons_succ, List.getElem_cons_zero])) | (refine wpAnyH_take (i := 8) (v := undef) rfl ?_ ?_ ?_ (fun _ _ _ h => h) (Or.inr ⟨?_, rfl⟩) ?_ ?_; (focus decide +kernel); (focus decide +kernel); (focus decide +kernel); (focus rfl); (focus assumption); (try simp only [Act.put, List.setIfInBounds_toArray, List.set_cons_zero, List.set_cons_succ, List.getElem_toArray, List.getElem_cons_succ, List.getElem_cons_zero])) | skip
  first | (refine wpAnyH_take (i := 9) (v := ?_) rfl ?_ ?_ ?_ (fun _ _ _ h => h) (Or.inl ⟨?_, ?_⟩) ?_ ?_; rotate_left 1; (focus decide +kernel); (focus decide +kernel); (focus decide +kernel); (focus rfl); (focus (intro w hSw; (try dsimp only at hSw); go_simp; (try (with_reducible rfl)); done)); (focus assumption); (try simp only [Act.put, List.setIfInBounds_toArray, List.set_cons_zero, List.set_cons_succ, List.getElem_toArray, List.getElem_cons_succ, List.getElem_cons_zero])) | (refine wpAnyH_take (i := 9) (v := undef) rfl ?_ ?_ ?_ (fun _ _ _ h => h) (Or.inr ⟨?_, rfl⟩) ?_ ?_; (focus decide +kernel); (focus decide +kernel); (focus decide +kernel); (focus rfl); (focus assumption); (try simp only [Act.put, List.setIfInBounds_toArray, List.set_cons_zero, List.set_cons_succ, List.getElem_toArray, List.getElem_cons_succ, List.getElem_cons_zero])) | skip
  first | (refine wpAnyH_take (i := 1) (v := undef) rfl ?_ ?_ ?_ (fun _ _ _ h => h) (Or.inr ⟨?_, rfl⟩) ?_ ?_; (focus decide +kernel); (focus decide +kernel); (focus decide +kernel); (focus rfl); (focus assumption); (try simp only [Act.put, List.setIfInBounds_toArray, List.set_cons_zero, List.set_cons_succ, List.getElem_toArray, List.getElem_cons_succ, List.getElem_cons_zero])) | (refine wpAnyH_ready (rs := [1]) ?_ (by simp) ?_; (focus decide +kernel); refine AllReadyH.cons rfl (fun K hK => ?_) AllReadyH.nil; go_simp; (go_at_call 17; refine (toR (rd6_2_0 hHeld) HL0.out).mono ?_; rintro e w4 ⟨bp0, rfl, op0, lo, bel⟩; clear lo); refine hK.out _ _ ?_ (fun hHeld => ?_); ((try dsimp only); exact next6_2 bel hHeld); clear hK K; (try simp only [Act.put, List.setIfInBounds_toArray, List.set_cons_zero, List.set_cons_succ, List.getElem_toArray, List.getElem_cons_succ, List.getElem_cons_zero]))
  first | (refine wpAnyH_take (i := 2) (v := ?_) rfl ?_ ?_ ?_ (fun _ _ _ h => h) (Or.inl ⟨?_, ?_⟩) ?_ ?_; rotate_left 1; (focus decide +kernel); (focus decide +kernel); (focus decide +kernel); (focus rfl); (focus (intro w hSw; (try dsimp only at hSw); go_simp; (try (with_reducible rfl)); done)); (focus assumption); (try simp only [Act.put, List.setIfInBounds_toArray, List.set_cons_zero, List.set_cons_succ, List.getElem_toArray, List.getElem_cons_succ, List.getElem_cons_zero])) | (refine wpAnyH_take (i := 2) (v := undef) rfl ?_ ?_ ?_ (fun _ _ _ h => h) (Or.inr ⟨?_, rfl⟩) ?_ ?_; (focus decide +kernel); (focus decide +kernel); (focus decide +kernel); (focus rfl); (focus assumption); (try simp only [Act.put, List.setIfInBounds_toArray, List.set_cons_zero, List.set_cons_succ, List.getElem_toArray, List.getElem_cons_succ, List.getElem_cons_zero])) | skip
  first | (refine wpAnyH_take (i := 5) (v := ?_) rfl ?_ ?_ ?_ (fun _ _ _ h => h) (Or.inl ⟨?_, ?_⟩) ?_ ?_; rotate_left 1; (focus decide +kernel); (focus decide +kernel); (focus decide +kernel); (focus rfl); (focus (intro w hSw; (try dsimp only at hSw); go_simp; (try (with_reducible rfl)); done)); (focus assumption); (try simp only [Act.put, List.setIfInBounds_toArray, List.set_cons_zero, List.set_cons_succ, List.getElem_toArray, List.getElem_cons_succ, List.getElem_cons_zero])) | (refine wpAnyH_take (i := 5) (v := undef) rfl ?_ ?_ ?_ (fun _ _ _ h => h) (Or.inr ⟨?_, rfl⟩) ?_ ?_; (focus decide +kernel); (focus decide +kernel); (focus decide +kernel); (focus rfl); (focus assumption); (try simp only [Act.put, List.setIfInBounds_toArray, List.set_cons_zero, List.set_cons_succ, List.getElem_toArray, List.getElem_cons_succ, List.getElem_cons_zero])) | skip
  first | (refine wpAnyH_take (i := 6) (v := ?_) rfl ?_ ?_ ?_ (fun _ _ _ h => h) (Or.inl ⟨?_, ?_⟩) ?_ ?_; rotate_left 1; (focus decide +kernel); (focus decide +kernel); (focus decide +kernel); (focus rfl); (focus (intro w hSw; (try dsimp only at hSw); go_simp; (try (with_reducible rfl)); done)); (focus assumption); (try simp only [Act.put, List.setIfInBounds_toArray, List.set_cons_zero, List.set_cons_succ, List.getElem_toArray, List.getElem_cons_succ, List.getElem_cons_zero])) | (refine wpAnyH_take (i := 6) (v := undef) rfl ?_ ?_ ?_ (fun _ _ _ h => h) (Or.inr ⟨?_, rfl⟩) ?_ ?_; (focus decide +kernel); (focus decide +kernel); (focus decide +kernel); (focus rfl); (focus assumption); (try simp only [Act.put, List.setIfInBounds_toArray, List.set_cons_zero, List.set_cons_succ, List.getElem_toArray, List.getElem_cons_succ, List.getElem_cons_zero])) | skip
  first | (refine wpAnyH_take (i := 7) (v := ?_) rfl ?_ ?_ ?_ (fun _ _ _ h => h) (Or.inl ⟨?_, ?_⟩) ?_ ?_; rotate_left 1; (focus decide +kernel); (focus decide +kernel); (focus decide +kernel); (focus rfl); (focus (intro w hSw; (try dsimp only at hSw); go_simp; (try (with_reducible rfl)); done)); (focus assumption); (try simp only [Act.put, List.setIfInBounds_toArray, List.set_cons_zero, List.set_cons_succ, List.getElem_toArray, List.getElem_cons_succ, List.getElem_cons_zero])) | (refine wpAnyH_take (i := 7) (v := undef) rfl ?_ ?_ ?_ (fun _ _ _ h => h) (Or.inr ⟨?_, rfl⟩) ?_ ?_; (focus decide +kernel); (focus decide +kernel); (focus decide +kernel); (focus rfl); (focus assumption); (try simp only [Act.put, List.setIfInBounds_toArray, List.set_cons_zero, List.set_cons_succ, List.getElem_toArray, List.getElem_cons_succ, List.getElem_cons_zero])) | skip
  first | (refine wpAnyH_take (i := 8) (v := ?_) rfl ?_ ?_ ?_ (fun _ _ _ h => h) (Or.inl ⟨?_, ?_⟩) ?_ ?_; rotate_left 1; (focus decide +kernel); (focus decide +kernel); (focus decide +kernel); (focus rfl); (focus (intro w hSw; (try dsimp only at hSw); go_simp; (try (with_reducible rfl)); done)); (focus assumption); (try simp only [Act.put, List.setIfInBounds_toArray, List.set_cons_zero, List.set_cons_succ, List.getElem_toArray, List.getElem_cons_succ, List.getElem_cons_zero])) | (refine wpAnyH_take (i := 8) (v := undef) rfl ?_ ?_ ?_ (fun _ _ _ h => h) (Or.inr ⟨?_, rfl⟩) ?_ ?_; (focus decide +kernel); (focus decide +kernel); (focus decide +kernel); (focus rfl); (focus assumption); (try simp only [Act.put, List.setIfInBounds_toArray, List.set_cons_zero, List.set_cons_succ, List.getElem_toArray, List.getElem_cons_succ, List.getElem_cons_zero])) | skip
  first | (refine wpAnyH_take (i := 9) (v := ?_) rfl ?_ ?_ ?_ (fun _ _ _ h => h) (Or.inl ⟨?_, ?_⟩) ?_ ?_; rotate_left 1; (focus decide +kernel); (focus decide +kernel); (focus decide +kernel); (focus rfl); (focus (intro w hSw; (try dsimp only at hSw); go_simp; (try (with_reducible rfl)); done)); (focus assumption); (try simp only [Act.put, List.setIfInBounds_toArray, List.set_cons_zero, List.set_cons_succ, List.getElem_toArray, List.getElem_cons_succ, List.getElem_cons_zero])) | (refine wpAnyH_take (i := 9) (v := undef) rfl ?_ ?_ ?_ (fun _ _ _ h => h) (Or.inr ⟨?_, rfl⟩) ?_ ?_; (focus decide +kernel); (focus decide +kernel); (focus decide +kernel); (focus rfl); (focus assumption); (try simp only [Act.put, List.setIfInBounds_toArray, List.set_cons_zero, List.set_cons_succ, List.getElem_toArray, List.getElem_cons_succ, List.getElem_cons_zero])) | skip
  first | (refine wpAnyH_take (i := 3) (v := undef) rfl ?_ ?_ ?_ (fun _ _ _ h => h) (Or.inr ⟨?_, rfl⟩) ?_ ?_; (focus decide +kernel); (focus decide +kernel); (focus decide +kernel); (focus rfl); (focus assumption); (try simp only [Act.put, List.setIfInBounds_toArray, List.set_cons_zero, List.set_cons_succ, List.getElem_toArray, List.getElem_cons_succ, List.getElem_cons_zero])) | (refine wpAnyH_ready (rs := [3]) ?_ (by simp) ?_; (focus decide +kernel); refine AllReadyH.cons rfl (fun K hK => ?_) AllReadyH.nil; go_simp; (go_at_call 17; refine (toR (rd6_2_1 hHeld) HL1.out).mono ?_; rintro e w5 ⟨bp1, rfl, op1, lo, bel⟩; clear lo; replace op0 := op0.keep bel); refine hK.out _ _ ?_ (fun hHeld => ?_); ((try dsimp only); exact next6_2 bel hHeld); clear hK K; (try simp only [Act.put, List.setIfInBounds_toArray, List.set_cons_zero, List.set_cons_succ, List.getElem_toArray, List.getElem_cons_succ, List.getElem_cons_zero]))
  first | (refine wpAnyH_take (i := 5) (v := ?_) rfl ?_ ?_ ?_ (fun _ _ _ h => h) (Or.inl ⟨?_, ?_⟩) ?_ ?_; rotate_left 1; (focus decide +kernel); (focus decide +kernel); (focus decide +kernel); (focus rfl); (focus (intro w hSw; (try dsimp only at hSw); go_simp; (try (with_reducible rfl)); done)); (focus assumption); (try simp only [Act.put, List.setIfInBounds_toArray, List.set_cons_zero, List.set_cons_succ, List.getElem_toArray, List.getElem_cons_succ, List.getElem_cons_zero])) | (refine wpAnyH_take (i := 5) (v := undef) rfl ?_ ?_ ?_ (fun _ _ _ h => h) (Or.inr ⟨?_, rfl⟩) ?_ ?_; (focus decide +kernel); (focus decide +kernel); (focus decide +kernel); (focus rfl); (focus assumption); (try simp only [Act.put, List.setIfInBounds_toArray, List.set_cons_zero, List.set_cons_succ, List.getElem_toArray, List.getElem_cons_succ, List.getElem_cons_zero])) | skip
  first | (refine wpAnyH_take (i := 6) (v := ?_) rfl ?_ ?_ ?_ (fun _ _ _ h => h) (Or.inl ⟨?_, ?_⟩) ?_ ?_; rotate_left 1; (focus decide +kernel); (focus decide +kernel); (focus decide +kernel); (focus rfl); (focus (intro w hSw; (try dsimp only at hSw); go_simp; (try (with_reducible rfl)); done)); (focus assumption); (try simp only [Act.put, List.setIfInBounds_toArray, List.set_cons_zero, List.set_cons_succ, List.getElem_toArray, List.getElem_cons_succ, List.getElem_cons_zero])) | (refine wpAnyH_take (i := 6) (v := undef) rfl ?_ ?_ ?_ (fun _ _ _ h => h) (Or.inr ⟨?_, rfl⟩) ?_ ?_; (focus decide +kernel); (focus decide +kernel); (focus decide +kernel); (focus rfl); (focus assumption); (try simp only [Act.put, List.setIfInBounds_toArray, List.set_cons_zero, List.set_cons_succ, List.getElem_toArray, List.getElem_cons_succ, List.getElem_cons_zero])) | skip
  first | (refine wpAnyH_take (i := 7) (v := ?_) rfl ?_ ?_ ?_ (fun _ _ _ h => h) (Or.inl ⟨?_, ?_⟩) ?_ ?_; rotate_left 1; (focus decide +kernel); (focus decide +kernel); (focus decide +kernel); (focus rfl); (focus (intro w hSw; (try dsimp only at hSw); go_simp; (try (with_reducible rfl)); done)); (focus assumption); (try simp only [Act.put, List.setIfInBounds_toArray, List.set_cons_zero, List.set_cons_succ, List.getElem_toArray, List.getElem_cons_succ, List.getElem_cons_zero])) | (refine wpAnyH_take (i := 7) (v := undef) rfl ?_ ?_ ?_ (fun _ _ _ h => h) (Or.inr ⟨?_, rfl⟩) ?_ ?_; (focus decide +kernel); (focus decide +kernel); (focus decide +kernel); (focus rfl); (focus assumption); (try simp only [Act.put, List.setIfInBounds_toArray, List.set_cons_zero, List.set_cons_succ, List.getElem_toArray, List.getElem_cons_succ, List.getElem_cons_zero])) | skip
  first | (refine wpAnyH_take (i := 8) (v := ?_) rfl ?_ ?_ ?_ (fun _ _ _ h => h) (Or.inl ⟨?_, ?_⟩) ?_ ?_; rotate_left 1; (focus decide +kernel); (focus decide +kernel); (focus decide +kernel); (focus rfl); (focus (intro w hSw; (try dsimp only at hSw); go_simp; (try (with_reducible rfl)); done)); (focus assumption); (try simp only [Act.put, List.setIfInBounds_toArray, List.set_cons_zero, List.set_cons_succ, List.getElem_toArray, List.getElem_cons_succ, List.getElem_cons_zero])) | (refine wpAnyH_take (i := 8) (v := undef) rfl ?_ ?_ ?_ (fun _ _ _ h => h) (Or.inr ⟨?_, rfl⟩) ?_ ?_; (focus decide +kernel); (focus decide +kernel); (focus decide +kernel); (focus rfl); (focus assumption); (try simp only [Act.put, List.setIfInBounds_toArray, List.set_cons_zero, List.set_cons_succ, List.getElem_toArray, List.getElem_cons_succ, List.getElem_cons_zero])) | skip
  first | (refine wpAnyH_take (i := 9) (v := ?_) rfl ?_ ?_ ?_ (fun _ _ _ h => h) (Or.inl ⟨?_, ?_⟩) ?_ ?_; rotate_left 1; (focus decide +kernel); (focus decide +kernel); (focus decide +kernel); (focus rfl); (focus (intro w hSw; (try dsimp only at hSw); go_simp; (try (with_reducible rfl)); done)); (focus assumption); (try simp only [Act.put, List.setIfInBounds_toArray, List.set_cons_zero, List.set_cons_succ, List.getElem_toArray, List.getElem_cons_succ, List.getElem_cons_zero])) | (refine wpAnyH_take (i := 9) (v := undef) rfl ?_ ?_ ?_ (fun _ _ _ h => h) (Or.inr ⟨?_, rfl⟩) ?_ ?_; (focus decide +kernel); (focus decide +kernel); (focus decide +kernel); (focus rfl); (focus assumption); (try simp only [Act.put, List.setIfInBounds_toArray, List.set_cons_zero, List.set_cons_succ, List.getElem_toArray, List.getElem_cons_succ, List.getElem_cons_zero])) | skip
  first | (refine wpAnyH_take (i := 4) (v := undef) rfl ?_ ?_ ?_ (fun _ _ _ h => h) (Or.inr ⟨?_, rfl⟩) ?_ ?_; (focus decide +kernel); (focus decide +kernel); (focus decide +kernel); (focus rfl); (focus assumption); (try simp only [Act.put, List.setIfInBounds_toArray, List.set_cons_zero, List.set_cons_succ, List.getElem_toArray, List.getElem_cons_succ, List.getElem_cons_zero])) | (refine wpAnyH_ready (rs := [4]) ?_ (by simp) ?_; (focus decide +kernel); refine AllReadyH.cons rfl (fun K hK => ?_) AllReadyH.nil; go_simp; (go_at_call 28; refine (HSp.out _ _ _ op0.rd _ _ op1.rd).mono ?_; rintro e w6 ⟨rfl, bel⟩; clear op0 op1); refine hK.out _ _ ?_ (fun hHeld => ?_); ((try dsimp only); exact next6_2 bel hHeld); clear hK K; (try simp only [Act.put, List.setIfInBounds_toArray, List.set_cons_zero, List.set_cons_succ, List.getElem_toArray, List.getElem_cons_succ, List.getElem_cons_zero]))
  first | (refine wpAnyH_take (i := 5) (v := ?_) rfl ?_ ?_ ?_ (fun _ _ _ h => h) (Or.inl ⟨?_, ?_⟩) ?_ ?_; rotate_left 1; (focus decide +kernel); (focus decide +kernel); (focus decide +kernel); (focus rfl); (focus (intro w hSw; (try dsimp only at hSw); go_simp; (try (with_reducible rfl)); done)); (focus assumption); (try simp only [Act.put, List.setIfInBounds_toArray, List.set_cons_zero, List.set_cons_succ, List.getElem_toArray, List.getElem_cons_succ, List.getElem_cons_zero])) | (refine wpAnyH_take (i := 5) (v := undef) rfl ?_ ?_ ?_ (fun _ _ _ h => h) (Or.inr ⟨?_, rfl⟩) ?_ ?_; (focus decide +kernel); (focus decide +kernel); (focus decide +kernel); (focus rfl); (focus assumption); (try simp only [Act.put, List.setIfInBounds_toArray, List.set_cons_zero, List.set_cons_succ, List.getElem_toArray, List.getElem_cons_succ, List.getElem_cons_zero])) | skip
  first | (refine wpAnyH_take (i := 6) (v := ?_) rfl ?_ ?_ ?_ (fun _ _ _ h => h) (Or.inl ⟨?_, ?_⟩) ?_ ?_; rotate_left 1; (focus decide +kernel); (focus decide +kernel); (focus decide +kernel); (focus rfl); (focus (intro w hSw; (try dsimp only at hSw); go_simp; (try (with_reducible rfl)); done)); (focus assumption); (try simp only [Act.put, List.setIfInBounds_toArray, List.set_cons_zero, List.set_cons_succ, List.getElem_toArray, List.getElem_cons_succ, List.getElem_cons_zero])) | (refine wpAnyH_take (i := 6) (v := undef) rfl ?_ ?_ ?_ (fun _ _ _ h => h) (Or.inr ⟨?_, rfl⟩) ?_ ?_; (focus decide +kernel); (focus decide +kernel); (focus decide +kernel); (focus rfl); (focus assumption); (try simp only [Act.put, List.setIfInBounds_toArray, List.set_cons_zero, List.set_cons_succ, List.getElem_toArray, List.getElem_cons_succ, List.getElem_cons_zero])) | skip
  first | (refine wpAnyH_take (i := 7) (v := ?_) rfl ?_ ?_ ?_ (fun _ _ _ h => h) (Or.inl ⟨?_, ?_⟩) ?_ ?_; rotate_left 1; (focus decide +kernel); (focus decide +kernel); (focus decide +kernel); (focus rfl); (focus (intro w hSw; (try dsimp only at hSw); go_simp; (try (with_reducible rfl)); done)); (focus assumption); (try simp only [Act.put, List.setIfInBounds_toArray, List.set_cons_zero, List.set_cons_succ, List.getElem_toArray, List.getElem_cons_succ, List.getElem_cons_zero])) | (refine wpAnyH_take (i := 7) (v := undef) rfl ?_ ?_ ?_ (fun _ _ _ h => h) (Or.inr ⟨?_, rfl⟩) ?_ ?_; (focus decide +kernel); (focus decide +kernel); (focus decide +kernel); (focus rfl); (focus assumption); (try simp only [Act.put, List.setIfInBounds_toArray, List.set_cons_zero, List.set_cons_succ, List.getElem_toArray, List.getElem_cons_succ, List.getElem_cons_zero])) | skip
  first | (refine wpAnyH_take (i := 8) (v := ?_) rfl ?_ ?_ ?_ (fun _ _ _ h => h) (Or.inl ⟨?_, ?_⟩) ?_ ?_; rotate_left 1; (focus decide +kernel); (focus decide +kernel); (focus decide +kernel); (focus rfl); (focus (intro w hSw; (try dsimp only at hSw); go_simp; (try (with_reducible rfl)); done)); (focus assumption); (try simp only [Act.put, List.setIfInBounds_toArray, List.set_cons_zero, List.set_cons_succ, List.getElem_toArray, List.getElem_cons_succ, List.getElem_cons_zero])) | (refine wpAnyH_take (i := 8) (v := undef) rfl ?_ ?_ ?_ (fun _ _ _ h => h) (Or.inr ⟨?_, rfl⟩) ?_ ?_; (focus decide +kernel); (focus decide +kernel); (focus decide +kernel); (focus rfl); (focus assumption); (try simp only [Act.put, List.setIfInBounds_toArray, List.set_cons_zero, List.set_cons_succ, List.getElem_toArray, List.getElem_cons_succ, List.getElem_cons_zero])) | skip
  first | (refine wpAnyH_take (i := 9) (v := ?_) rfl ?_ ?_ ?_ (fun _ _ _ h => h) (Or.inl ⟨?_, ?_⟩) ?_ ?_; rotate_left 1; (focus decide +kernel); (focus decide +kernel); (focus decide +kernel); (focus rfl); (focus (intro w hSw; (try dsimp only at hSw); go_simp; (try (with_reducible rfl)); done)); (focus assumption); (try simp only [Act.put, List.setIfInBounds_toArray, List.set_cons_zero, List.set_cons_succ, List.getElem_toArray, List.getElem_cons_succ, List.getElem_cons_zero])) | (refine wpAnyH_take (i := 9) (v := undef) rfl ?_ ?_ ?_ (fun _ _ _ h => h) (Or.inr ⟨?_, rfl⟩) ?_ ?_; (focus decide +kernel); (focus decide +kernel); (focus decide +kernel); (focus rfl); (focus assumption); (try simp only [Act.put, List.setIfInBounds_toArray, List.set_cons_zero, List.set_cons_succ, List.getElem_toArray, List.getElem_cons_succ, List.getElem_cons_zero])) | skip
  refine wpAnyH_done (by kernel_rfl) ?_ _
  clear st; have st := hHeld; clear hHeld
  go_wp2_with fail
  go_at_call 17
  refine (toR (rd6_2_0 st) HL0.out).mono ?_
  rintro e w7 ⟨bx0, rfl, ox0, lo, bel⟩
  have cbx0 : w.heap.size ≤ bx0 := Nat.le_trans (And.left st).size lo
  have nax0 : NA < bx0 := Nat.lt_of_lt_of_le (World.block_lt_of_cell? _ _ st.2.1) lo
  replace st := next6_2 bel st
  clear bel
  clear lo
  obtain ⟨w9, hW⟩ : ∃ w9, w9 = w7.alloc (Obj.cells #[.int .i64 s0, .int .i64 r0, (Value.slice (some ⟨bx0, 0, none⟩) z0.length z0.length)] 27) := ⟨_, rfl⟩
  obtain ⟨NX0, hN⟩ : ∃ NX0, NX0 = w7.heap.size := ⟨_, rfl⟩
  have bel : Below w7.heap.size w7 w9 := by rw [hW]; exact Rule.below1 _ _
  have st' : Below w.heap.size w w9 ∧ w9.cell? ⟨NA, 0, none⟩ = some (.int .i64 s0) ∧ w9.cell? ⟨NA, 1, none⟩ = some (.int .i64 r0) ∧ w9.cell? ⟨NA, 2, none⟩ = some ((Value.slice ao0 z0.length cap0)) ∧ w9.cell? ⟨NB, 0, none⟩ = some (.int .i64 s1) ∧ w9.cell? ⟨NB, 1, none⟩ = some (.int .i64 r1) ∧ w9.cell? ⟨NB, 2, none⟩ = some ((Value.slice ao1 z1.length cap1)) ∧ w9.cell? ⟨NX0, 0, none⟩ = some (.int .i64 s0) ∧ w9.cell? ⟨NX0, 1, none⟩ = some (.int .i64 r0) ∧ w9.cell? ⟨NX0, 2, none⟩ = some ((Value.slice (some ⟨bx0, 0, none⟩) z0.length z0.length)) ∧ Rd w9 b0 (Value.slice ao0 z0.length cap0) z0 ∧ Rd w9 b1 (Value.slice ao1 z1.length cap1) z1 ∧ w.heap.size ≤ w9.heap.size := by
    obtain ⟨t0, c0, c1, c2, c3, c4, c5, d0, d1, tz⟩ := next6_2 bel st
    exact ⟨t0, c0, c1, c2, c3, c4, c5, by rw [hW, hN]; simp, by rw [hW, hN]; simp, by rw [hW, hN]; simp, d0, d1, tz⟩
  replace ox0 := ox0.keep bel
  clear st bel; have st := st'; clear st'
  have stp := st
  rw [hW, hN] at stp
  go_wp2_with fail
  clear stp
  simp only [← hW, ← hN]
  clear hW hN
  go_at_call 17
  refine (toR (rd9_2_1 st) HL1.out).mono ?_
  rintro e w8 ⟨bx1, rfl, ox1, lo, bel⟩
  have nex0x1 := (lim ox0).imp id (fun hx => (by omega : bx0 ≠ bx1))
  have cbx1 : w.heap.size ≤ bx1 := Nat.le_trans (And.left st).size lo
  have nax1 : NA < bx1 := Nat.lt_of_lt_of_le (World.block_lt_of_cell? _ _ st.2.1) lo
  replace st := next9_2 bel st
  replace ox0 := ox0.keep bel
  clear bel
  clear lo
  obtain ⟨w11, hW⟩ : ∃ w11, w11 = w8.alloc (Obj.cells #[.int .i64 s1, .int .i64 r1, (Value.slice (some ⟨bx1, 0, none⟩) z1.length z1.length)] 27) := ⟨_, rfl⟩
  obtain ⟨NX1, hN⟩ : ∃ NX1, NX1 = w8.heap.size := ⟨_, rfl⟩
  have bel : Below w8.heap.size w8 w11 := by rw [hW]; exact Rule.below1 _ _
  have st' : Below w.heap.size w w11 ∧ w11.cell? ⟨NA, 0, none⟩ = some (.int .i64 s0) ∧ w11.cell? ⟨NA, 1, none⟩ = some (.int .i64 r0) ∧ w11.cell? ⟨NA, 2, none⟩ = some ((Value.slice ao0 z0.length cap0)) ∧ w11.cell? ⟨NB, 0, none⟩ = some (.int .i64 s1) ∧ w11.cell? ⟨NB, 1, none⟩ = some (.int .i64 r1) ∧ w11.cell? ⟨NB, 2, none⟩ = some ((Value.slice ao1 z1.length cap1)) ∧ w11.cell? ⟨NX0, 0, none⟩ = some (.int .i64 s0) ∧ w11.cell? ⟨NX0, 1, none⟩ = some (.int .i64 r0) ∧ w11.cell? ⟨NX0, 2, none⟩ = some ((Value.slice (some ⟨bx0, 0, none⟩) z0.length z0.length)) ∧ w11.cell? ⟨NX1, 0, none⟩ = some (.int .i64 s1) ∧ w11.cell? ⟨NX1, 1, none⟩ = some (.int .i64 r1) ∧ w11.cell? ⟨NX1, 2, none⟩ = some ((Value.slice (some ⟨bx1, 0, none⟩) z1.length z1.length)) ∧ Rd w11 b0 (Value.slice ao0 z0.length cap0) z0 ∧ Rd w11 b1 (Value.slice ao1 z1.length cap1) z1 ∧ w.heap.size ≤ w11.heap.size := by
    obtain ⟨t0, c0, c1, c2, c3, c4, c5, c6, c7, c8, d0, d1, tz⟩ := next9_2 bel st
    exact ⟨t0, c0, c1, c2, c3, c4, c5, c6, c7, c8, by rw [hW, hN]; simp, by rw [hW, hN]; simp, by rw [hW, hN]; simp, d0, d1, tz⟩
  replace ox0 := ox0.keep bel
  replace ox1 := ox1.keep bel
  clear st bel; have st := st'; clear st'
  have stp := st
  rw [hW, hN] at stp
  go_wp2_with fail
  clear stp
  simp only [← hW, ← hN]
  clear hW hN
  go_at_call 29
  refine (HIm.out _ _ _ ox0.rd _ _ ox1.rd).mono ?_
  rintro e w10 ⟨rfl, bel⟩
  replace st := next12_2 bel st
  replace ox0 := ox0.keep bel
  replace ox1 := ox1.keep bel
  clear bel
  go_wp2_with fail
  refine wp_region_held_drew (S := (fun ww => Below w.heap.size w ww ∧ ww.cell? ⟨NA, 0, none⟩ = some (.int .i64 s0) ∧ ww.cell? ⟨NA, 1, none⟩ = some (.int .i64 r0) ∧ ww.cell? ⟨NA, 2, none⟩ = some ((Value.slice ao0 z0.length cap0)) ∧ ww.cell? ⟨NB, 0, none⟩ = some (.int .i64 s1) ∧ ww.cell? ⟨NB, 1, none⟩ = some (.int .i64 r1) ∧ ww.cell? ⟨NB, 2, none⟩ = some ((Value.slice ao1 z1.length cap1)) ∧ ww.cell? ⟨NX0, 0, none⟩ = some (.int .i64 s0) ∧ ww.cell? ⟨NX0, 1, none⟩ = some (.int .i64 r0) ∧ ww.cell? ⟨NX0, 2, none⟩ = some ((Value.slice (some ⟨bx0, 0, none⟩) z0.length z0.length)) ∧ ww.cell? ⟨NX1, 0, none⟩ = some (.int .i64 s1) ∧ ww.cell? ⟨NX1, 1, none⟩ = some (.int .i64 r1) ∧ ww.cell? ⟨NX1, 2, none⟩ = some ((Value.slice (some ⟨bx1, 0, none⟩) z1.length z1.length)) ∧ Rd ww b0 (Value.slice ao0 z0.length cap0) z0 ∧ Rd ww b1 (Value.slice ao1 z1.length cap1) z1 ∧ w.heap.size ≤ ww.heap.size)) (by kernel_rfl) ?_ (fun hHeld => ?_)
  · ((try dsimp only); exact drew12_2 st)
  first | (refine wpAnyH_take (i := 0) (v := ?_) rfl ?_ ?_ ?_ (fun _ _ _ h => h) (Or.inl ⟨?_, ?_⟩) ?_ ?_; rotate_left 1; (focus decide +kernel); (focus decide +kernel); (focus decide +kernel); (focus rfl); (focus (intro w hSw; (try dsimp only at hSw); go_simp; (try (with_reducible rfl)); done)); (focus assumption); (try simp only [Act.put, List.setIfInBounds_toArray, List.set_cons_zero, List.set_cons_succ, List.getElem_toArray, List.getElem_cons_succ, List.getElem_cons_zero])) | (refine wpAnyH_take (i := 0) (v := undef) rfl ?_ ?_ ?_ (fun _ _ _ h => h) (Or.inr ⟨?_, rfl⟩) ?_ ?_; (focus decide +kernel); (focus decide +kernel); (focus decide +kernel); (focus rfl); (focus assumption); (try simp only [Act.put, List.setIfInBounds_toArray, List.set_cons_zero, List.set_cons_succ, List.getElem_toArray, List.getElem_cons_succ, List.getElem_cons_zero])) | skip
  first | (refine wpAnyH_take (i := 1) (v := ?_) rfl ?_ ?_ ?_ (fun _ _ _ h => h) (Or.inl ⟨?_, ?_⟩) ?_ ?_; rotate_left 1; (focus decide +kernel); (focus decide +kernel); (focus decide +kernel); (focus rfl); (focus (intro w hSw; (try dsimp only at hSw); go_simp; (try (with_reducible rfl)); done)); (focus assumption); (try simp only [Act.put, List.setIfInBounds_toArray, List.set_cons_zero, List.set_cons_succ, List.getElem_toArray, List.getElem_cons_succ, List.getElem_cons_zero])) | (refine wpAnyH_take (i := 1) (v := undef) rfl ?_ ?_ ?_ (fun _ _ _ h => h) (Or.inr ⟨?_, rfl⟩) ?_ ?_; (focus decide +kernel); (focus decide +kernel); (focus decide +kernel); (focus rfl); (focus assumption); (try simp only [Act.put, List.setIfInBounds_toArray, List.set_cons_zero, List.set_cons_succ, List.getElem_toArray, List.getElem_cons_succ, List.getElem_cons_zero])) | skip
  first | (refine wpAnyH_take (i := 4) (v := ?_) rfl ?_ ?_ ?_ (fun _ _ _ h => h) (Or.inl ⟨?_, ?_⟩) ?_ ?_; rotate_left 1; (focus decide +kernel); (focus decide +kernel); (focus decide +kernel); (focus rfl); (focus (intro w hSw; (try dsimp only at hSw); go_simp; (try (with_reducible rfl)); done)); (focus assumption); (try simp only [Act.put, List.setIfInBounds_toArray, List.set_cons_zero, List.set_cons_succ, List.getElem_toArray, List.getElem_cons_succ, List.getElem_cons_zero])) | (refine wpAnyH_take (i := 4) (v := undef) rfl ?_ ?_ ?_ (fun _ _ _ h => h) (Or.inr ⟨?_, rfl⟩) ?_ ?_; (focus decide +kernel); (focus decide +kernel); (focus decide +kernel); (focus rfl); (focus assumption); (try simp only [Act.put, List.setIfInBounds_toArray, List.set_cons_zero, List.set_cons_succ, List.getElem_toArray, List.getElem_cons_succ, List.getElem_cons_zero])) | skip
  first | (refine wpAnyH_take (i := 2) (v := undef) rfl ?_ ?_ ?_ (fun _ _ _ h => h) (Or.inr ⟨?_, rfl⟩) ?_ ?_; (focus decide +kernel); (focus decide +kernel); (focus decide +kernel); (focus rfl); (focus assumption); (try simp only [Act.put, List.setIfInBounds_toArray, List.set_cons_zero, List.set_cons_succ, List.getElem_toArray, List.getElem_cons_succ, List.getElem_cons_zero])) | (refine wpAnyH_ready (rs := [2]) ?_ (by simp) ?_; (focus decide +kernel); refine AllReadyH.cons rfl (fun K hK => ?_) AllReadyH.nil; go_simp; (go_at_call 17; refine (toR (rd12_2_0 hHeld) HL0.out).mono ?_; rintro e w12 ⟨by', rfl, oy, lo, bel⟩; replace ox0 : Own 2 w10.drew bx0 (Value.slice (some ⟨bx0, 0, none⟩) z0.length z0.length) z0 := ox0; replace ox1 : Own 2 w10.drew bx1 (Value.slice (some ⟨bx1, 0, none⟩) z1.length z1.length) z1 := ox1; replace ox0 := ox0.keep bel; replace ox1 := ox1.keep bel; have bel1 := bel; clear lo); refine hK.out _ _ ?_ (fun hHeld => ?_); ((try dsimp only); exact next12_2 bel hHeld); clear hK K; (try simp only [Act.put, List.setIfInBounds_toArray, List.set_cons_zero, List.set_cons_succ, List.getElem_toArray, List.getElem_cons_succ, List.getElem_cons_zero]))
  first | (refine wpAnyH_take (i := 4) (v := ?_) rfl ?_ ?_ ?_ (fun _ _ _ h => h) (Or.inl ⟨?_, ?_⟩) ?_ ?_; rotate_left 1; (focus decide +kernel); (focus decide +kernel); (focus decide +kernel); (focus rfl); (focus (intro w hSw; (try dsimp only at hSw); go_simp; (try (with_reducible rfl)); done)); (focus assumption); (try simp only [Act.put, List.setIfInBounds_toArray, List.set_cons_zero, List.set_cons_succ, List.getElem_toArray, List.getElem_cons_succ, List.getElem_cons_zero])) | (refine wpAnyH_take (i := 4) (v := undef) rfl ?_ ?_ ?_ (fun _ _ _ h => h) (Or.inr ⟨?_, rfl⟩) ?_ ?_; (focus decide +kernel); (focus decide +kernel); (focus decide +kernel); (focus rfl); (focus assumption); (try simp only [Act.put, List.setIfInBounds_toArray, List.set_cons_zero, List.set_cons_succ, List.getElem_toArray, List.getElem_cons_succ, List.getElem_cons_zero])) | skip
  first | (refine wpAnyH_take (i := 3) (v := undef) rfl ?_ ?_ ?_ (fun _ _ _ h => h) (Or.inr ⟨?_, rfl⟩) ?_ ?_; (focus decide +kernel); (focus decide +kernel); (focus decide +kernel); (focus rfl); (focus assumption); (try simp only [Act.put, List.setIfInBounds_toArray, List.set_cons_zero, List.set_cons_succ, List.getElem_toArray, List.getElem_cons_succ, List.getElem_cons_zero])) | (refine wpAnyH_ready (rs := [3]) ?_ (by simp) ?_; (focus decide +kernel); refine AllReadyH.cons rfl (fun K hK => ?_) AllReadyH.nil; go_simp; (go_at_call 19; refine (eqR ox0.rd oy.rd).mono ?_; rintro e w13 ⟨rfl, bel⟩; replace ox0 := ox0.keep bel; replace ox1 := ox1.keep bel; clear oy); refine hK.out _ _ ?_ (fun hHeld => ?_); ((try dsimp only); exact next12_2 bel hHeld); clear hK K; (try simp only [Act.put, List.setIfInBounds_toArray, List.set_cons_zero, List.set_cons_succ, List.getElem_toArray, List.getElem_cons_succ, List.getElem_cons_zero]))
  first | (refine wpAnyH_take (i := 4) (v := ?_) rfl ?_ ?_ ?_ (fun _ _ _ h => h) (Or.inl ⟨?_, ?_⟩) ?_ ?_; rotate_left 1; (focus decide +kernel); (focus decide +kernel); (focus decide +kernel); (focus rfl); (focus (intro w hSw; (try dsimp only at hSw); go_simp; (try (with_reducible rfl)); done)); (focus assumption); (try simp only [Act.put, List.setIfInBounds_toArray, List.set_cons_zero, List.set_cons_succ, List.getElem_toArray, List.getElem_cons_succ, List.getElem_cons_zero])) | (refine wpAnyH_take (i := 4) (v := undef) rfl ?_ ?_ ?_ (fun _ _ _ h => h) (Or.inr ⟨?_, rfl⟩) ?_ ?_; (focus decide +kernel); (focus decide +kernel); (focus decide +kernel); (focus rfl); (focus assumption); (try simp only [Act.put, List.setIfInBounds_toArray, List.set_cons_zero, List.set_cons_succ, List.getElem_toArray, List.getElem_cons_succ, List.getElem_cons_zero])) | skip
  refine wpAnyH_done (by kernel_rfl) ?_ _
  clear st; have st := hHeld; clear hHeld
  go_wp2_with fail
  refine wp_region_held_drew (S := (fun ww => Below w.heap.size w ww ∧ ww.cell? ⟨NA, 0, none⟩ = some (.int .i64 s0) ∧ ww.cell? ⟨NA, 1, none⟩ = some (.int .i64 r0) ∧ ww.cell? ⟨NA, 2, none⟩ = some ((Value.slice ao0 z0.length cap0)) ∧ ww.cell? ⟨NB, 0, none⟩ = some (.int .i64 s1) ∧ ww.cell? ⟨NB, 1, none⟩ = some (.int .i64 r1) ∧ ww.cell? ⟨NB, 2, none⟩ = some ((Value.slice ao1 z1.length cap1)) ∧ ww.cell? ⟨NX0, 0, none⟩ = some (.int .i64 s0) ∧ ww.cell? ⟨NX0, 1, none⟩ = some (.int .i64 r0) ∧ ww.cell? ⟨NX0, 2, none⟩ = some ((Value.slice (some ⟨bx0, 0, none⟩) z0.length z0.length)) ∧ ww.cell? ⟨NX1, 0, none⟩ = some (.int .i64 s1) ∧ ww.cell? ⟨NX1, 1, none⟩ = some (.int .i64 r1) ∧ ww.cell? ⟨NX1, 2, none⟩ = some ((Value.slice (some ⟨bx1, 0, none⟩) z1.length z1.length)) ∧ Rd ww b0 (Value.slice ao0 z0.length cap0) z0 ∧ Rd ww b1 (Value.slice ao1 z1.length cap1) z1 ∧ w.heap.size ≤ ww.heap.size)) (by kernel_rfl) ?_ (fun hHeld => ?_)
  · ((try dsimp only); exact drew12_2 st)
  first | (refine wpAnyH_take (i := 0) (v := ?_) rfl ?_ ?_ ?_ (fun _ _ _ h => h) (Or.inl ⟨?_, ?_⟩) ?_ ?_; rotate_left 1; (focus decide +kernel); (focus decide +kernel); (focus decide +kernel); (focus rfl); (focus (intro w hSw; (try dsimp only at hSw); go_simp; (try (with_reducible rfl)); done)); (focus assumption); (try simp only [Act.put, List.setIfInBounds_toArray, List.set_cons_zero, List.set_cons_succ, List.getElem_toArray, List.getElem_cons_succ, List.getElem_cons_zero])) | (refine wpAnyH_take (i := 0) (v := undef) rfl ?_ ?_ ?_ (fun _ _ _ h => h) (Or.inr ⟨?_, rfl⟩) ?_ ?_; (focus decide +kernel); (focus decide +kernel); (focus decide +kernel); (focus rfl); (focus assumption); (try simp only [Act.put, List.setIfInBounds_toArray, List.set_cons_zero, List.set_cons_succ, List.getElem_toArray, List.getElem_cons_succ, List.getElem_cons_zero])) | skip
  first | (refine wpAnyH_take (i := 1) (v := ?_) rfl ?_ ?_ ?_ (fun _ _ _ h => h) (Or.inl ⟨?_, ?_⟩) ?_ ?_; rotate_left 1; (focus decide +kernel); (focus decide +kernel); (focus decide +kernel); (focus rfl); (focus (intro w hSw; (try dsimp only at hSw); go_simp; (try (with_reducible rfl)); done)); (focus assumption); (try simp only [Act.put, List.setIfInBounds_toArray, List.set_cons_zero, List.set_cons_succ, List.getElem_toArray, List.getElem_cons_succ, List.getElem_cons_zero])) | (refine wpAnyH_take (i := 1) (v := undef) rfl ?_ ?_ ?_ (fun _ _ _ h => h) (Or.inr ⟨?_, rfl⟩) ?_ ?_; (focus decide +kernel); (focus decide +kernel); (focus decide +kernel); (focus rfl); (focus assumption); (try simp only [Act.put, List.setIfInBounds_toArray, List.set_cons_zero, List.set_cons_succ, List.getElem_toArray, List.getElem_cons_succ, List.getElem_cons_zero])) | skip
  first | (refine wpAnyH_take (i := 4) (v := ?_) rfl ?_ ?_ ?_ (fun _ _ _ h => h) (Or.inl ⟨?_, ?_⟩) ?_ ?_; rotate_left 1; (focus decide +kernel); (focus decide +kernel); (focus decide +kernel); (focus rfl); (focus (intro w hSw; (try dsimp only at hSw); go_simp; (try (with_reducible rfl)); done)); (focus assumption); (try simp only [Act.put, List.setIfInBounds_toArray, List.set_cons_zero, List.set_cons_succ, List.getElem_toArray, List.getElem_cons_succ, List.getElem_cons_zero])) | (refine wpAnyH_take (i := 4) (v := undef) rfl ?_ ?_ ?_ (fun _ _ _ h => h) (Or.inr ⟨?_, rfl⟩) ?_ ?_; (focus decide +kernel); (focus decide +kernel); (focus decide +kernel); (focus rfl); (focus assumption); (try simp only [Act.put, List.setIfInBounds_toArray, List.set_cons_zero, List.set_cons_succ, List.getElem_toArray, List.getElem_cons_succ, List.getElem_cons_zero])) | skip
  first | (refine wpAnyH_take (i := 2) (v := undef) rfl ?_ ?_ ?_ (fun _ _ _ h => h) (Or.inr ⟨?_, rfl⟩) ?_ ?_; (focus decide +kernel); (focus decide +kernel); (focus decide +kernel); (focus rfl); (focus assumption); (try simp only [Act.put, List.setIfInBounds_toArray, List.set_cons_zero, List.set_cons_succ, List.getElem_toArray, List.getElem_cons_succ, List.getElem_cons_zero])) | (refine wpAnyH_ready (rs := [2]) ?_ (by simp) ?_; (focus decide +kernel); refine AllReadyH.cons rfl (fun K hK => ?_) AllReadyH.nil; go_simp; (go_at_call 17; refine (toR (rd12_2_1 hHeld) HL1.out).mono ?_; rintro e w14 ⟨by', rfl, oy, lo, bel⟩; replace ox0 : Own 2 w13.drew bx0 (Value.slice (some ⟨bx0, 0, none⟩) z0.length z0.length) z0 := ox0; replace ox1 : Own 2 w13.drew bx1 (Value.slice (some ⟨bx1, 0, none⟩) z1.length z1.length) z1 := ox1; replace ox0 := ox0.keep bel; replace ox1 := ox1.keep bel; have bel1 := bel; clear lo); refine hK.out _ _ ?_ (fun hHeld => ?_); ((try dsimp only); exact next12_2 bel hHeld); clear hK K; (try simp only [Act.put, List.setIfInBounds_toArray, List.set_cons_zero, List.set_cons_succ, List.getElem_toArray, List.getElem_cons_succ, List.getElem_cons_zero]))
  first | (refine wpAnyH_take (i := 4) (v := ?_) rfl ?_ ?_ ?_ (fun _ _ _ h => h) (Or.inl ⟨?_, ?_⟩) ?_ ?_; rotate_left 1; (focus decide +kernel); (focus decide +kernel); (focus decide +kernel); (focus rfl); (focus (intro w hSw; (try dsimp only at hSw); go_simp; (try (with_reducible rfl)); done)); (focus assumption); (try simp only [Act.put, List.setIfInBounds_toArray, List.set_cons_zero, List.set_cons_succ, List.getElem_toArray, List.getElem_cons_succ, List.getElem_cons_zero])) | (refine wpAnyH_take (i := 4) (v := undef) rfl ?_ ?_ ?_ (fun _ _ _ h => h) (Or.inr ⟨?_, rfl⟩) ?_ ?_; (focus decide +kernel); (focus decide +kernel); (focus decide +kernel); (focus rfl); (focus assumption); (try simp only [Act.put, List.setIfInBounds_toArray, List.set_cons_zero, List.set_cons_succ, List.getElem_toArray, List.getElem_cons_succ, List.getElem_cons_zero])) | skip
  first | (refine wpAnyH_take (i := 3) (v := undef) rfl ?_ ?_ ?_ (fun _ _ _ h => h) (Or.inr ⟨?_, rfl⟩) ?_ ?_; (focus decide +kernel); (focus decide +kernel); (focus decide +kernel); (focus rfl); (focus assumption); (try simp only [Act.put, List.setIfInBounds_toArray, List.set_cons_zero, List.set_cons_succ, List.getElem_toArray, List.getElem_cons_succ, List.getElem_cons_zero])) | (refine wpAnyH_ready (rs := [3]) ?_ (by simp) ?_; (focus decide +kernel); refine AllReadyH.cons rfl (fun K hK => ?_) AllReadyH.nil; go_simp; (go_at_call 19; refine (eqR ox1.rd oy.rd).mono ?_; rintro e w15 ⟨rfl, bel⟩; replace ox0 := ox0.keep bel; replace ox1 := ox1.keep bel; clear oy); refine hK.out _ _ ?_ (fun hHeld => ?_); ((try dsimp only); exact next12_2 bel hHeld); clear hK K; (try simp only [Act.put, List.setIfInBounds_toArray, List.set_cons_zero, List.set_cons_succ, List.getElem_toArray, List.getElem_cons_succ, List.getElem_cons_zero]))
  first | (refine wpAnyH_take (i := 4) (v := ?_) rfl ?_ ?_ ?_ (fun _ _ _ h => h) (Or.inl ⟨?_, ?_⟩) ?_ ?_; rotate_left 1; (focus decide +kernel); (focus decide +kernel); (focus decide +kernel); (focus rfl); (focus (intro w hSw; (try dsimp only at hSw); go_simp; (try (with_reducible rfl)); done)); (focus assumption); (try simp only [Act.put, List.setIfInBounds_toArray, List.set_cons_zero, List.set_cons_succ, List.getElem_toArray, List.getElem_cons_succ, List.getElem_cons_zero])) | (refine wpAnyH_take (i := 4) (v := undef) rfl ?_ ?_ ?_ (fun _ _ _ h => h) (Or.inr ⟨?_, rfl⟩) ?_ ?_; (focus decide +kernel); (focus decide +kernel); (focus decide +kernel); (focus rfl); (focus assumption); (try simp only [Act.put, List.setIfInBounds_toArray, List.set_cons_zero, List.set_cons_succ, List.getElem_toArray, List.getElem_cons_succ, List.getElem_cons_zero])) | skip
  refine wpAnyH_done (by kernel_rfl) ?_ _
  clear st; have st := hHeld; clear hHeld
  go_wp2
  go_ret
  exact ⟨rfl, And.left st⟩

set_option maxRecDepth 100000 in
theorem lifted (os : Os) (started : os.Started) (H : Type) (enc : TypeId × Value → H) :
    ReturnsInHanded {} Try.checked os 7 .any (Rows.fnExactCellsApartSpec.pre6 enc Try.prog Try.f7 Rows.fnExactCellsApartRow.domain false) (Rows.fnExactCellsApartSpec.post enc Try.prog Try.f7 false true false false) := by
  refine returnsInHanded_of_change (C := Try.checked) own started (by kernel_rfl) Try.func7
    (ChangeSpec.witness6 (enc := enc) (C := Try.checked) false ⟨#[], #[.agg #[.int .i64 0, .int .i64 0, .slice none 0 0], .agg #[.int .i64 0, .int .i64 0, .slice none 0 0]], []⟩ 8 (by kernel_rfl) (by kernel_rfl) (by kernel_rfl) (by kernel_rfl)) ?_
  intro W base args ds gs before hval0 hW hcnd hreach
  have hval : ∀ (j : Nat) t v, Try.f7.params[j]? = some t → args[j]? = some v → Value.okWide Try.prog W .any base t v := hval0
  have hW' := hW
  obtain ⟨p, q, hA0, hV, rfl, hfz, hnd⟩ := hW
  have hA : DataW.TrodAll enc Try.prog W 0 (fun _ => true) true Try.f7.params.toList args.toList ds p := hA0
  rw [Try.params7] at hA hval
  obtain ⟨v0, vs0, d0, ds0, p0, q0, hargs, rfl, rfl, h0, r0⟩ := trodAll_cons hA
  obtain ⟨v1, vs1, d1, ds1, p1, q1, rfl, rfl, rfl, h1, r1⟩ := trodAll_cons r0
  obtain ⟨rfl, rfl, rfl⟩ := trodAll_nil r1
  obtain rfl : args = #[v0, v1] := by cases args; simp_all
  obtain ⟨rfl, rfl⟩ := trodVars_none hV
  have k0 := h0
  have lt0 : ∀ x ∈ p0, x.block < W.heap.size := by obtain ⟨m, hm⟩ := k0; exact DataW.trod_lt m _ _ _ hm
  obtain ⟨c00, c01, c02, y00, y01, y02, m0, rfl, hd0, hp0, t00, t01, t02⟩ := open_agg3 Try.underlying24 (by kernel_rfl) (by kernel_rfl) (hval 0 24 v0 rfl rfl) h0
  obtain ⟨a00, e00, _, w00⟩ := DataW.trod_int Try.underlying2 t00
  simp at e00
  subst e00
  obtain ⟨a01, e01, _, w01⟩ := DataW.trod_int Try.underlying2 t01
  simp at e01
  subst e01
  obtain ⟨a0, len0, cap0, e0⟩ := slice_form Try.underlying22 t02
  simp at e0
  subst e0
  obtain ⟨b0, z0, _, w0⟩ : ∃ b zs, zs.length = len0 ∧ Rd W b (.slice a0 len0 cap0) zs := rd_open Try.underlying22 Try.underlying2 (by kernel_rfl) t02
  have k1 := h1
  have lt1 : ∀ x ∈ p1, x.block < W.heap.size := by obtain ⟨m, hm⟩ := k1; exact DataW.trod_lt m _ _ _ hm
  obtain ⟨c10, c11, c12, y10, y11, y12, m1, rfl, hd1, hp1, t10, t11, t12⟩ := open_agg3 Try.underlying24 (by kernel_rfl) (by kernel_rfl) (hval 1 24 v1 rfl rfl) h1
  obtain ⟨a10, e10, _, w10⟩ := DataW.trod_int Try.underlying2 t10
  simp at e10
  subst e10
  obtain ⟨a11, e11, _, w11⟩ := DataW.trod_int Try.underlying2 t11
  simp at e11
  subst e11
  obtain ⟨a1, len1, cap1, e1⟩ := slice_form Try.underlying22 t12
  simp at e1
  subst e1
  obtain ⟨b1, z1, _, w1⟩ : ∃ b zs, zs.length = len1 ∧ Rd W b (.slice a1 len1 cap1) zs := rd_open Try.underlying22 Try.underlying2 (by kernel_rfl) t12
  clear hA0 hval0
  refine (walk w00 w01 w0 w10 w11 w1).mono fun e W' ⟨he, bel⟩ => ?_
  subst he
  exact ⟨_, rfl, _, _, _, [], _, [], hW', trodAll_mk1 (shut_bool Try.underlying4 _), (trodAll_cons_mk (Below.trod laidOut (by kernel_rfl) (of_decide_eq_true (by kernel_rfl)) k0 bel lt0) (trodAll_cons_mk (Below.trod laidOut (by kernel_rfl) (of_decide_eq_true (by kernel_rfl)) k1 bel lt1) (trodAll_mk0))), rfl, bel.frame _, fun h => by cases h⟩

theorem over : Rows.fnExactCellsApartRow.holds Try.pinned (OpenSpec.ofChange Rows.fnExactCellsApartSpec) :=
  OpenClaim.holds_of_wide 7 Try.f7 rfl rfl rfl rfl rfl rfl rfl ⟨rfl, rfl, rfl, rfl, rfl⟩ rfl rfl rfl rfl rfl (by kernel_rfl) Try.func7 (by kernel_rfl)
    (of_decide_eq_true (by kernel_rfl)) (by unfold Func.isWrapper; rw [if_neg (of_decide_eq_false (by kernel_rfl))]; exact ⟨rfl, rfl⟩)
    (fun os started H enc _ => lifted os started H enc)

theorem proved : Rows.FnExactCellsApartSaid := over
end Go.Proofs.Ytcdbbbifdidpdaa.lawCellsApart
