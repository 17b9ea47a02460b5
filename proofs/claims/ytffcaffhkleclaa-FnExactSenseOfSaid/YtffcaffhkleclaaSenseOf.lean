/- For every rule, impl.SenseOf answers as the model of the document does, and changes nothing that it is given. No condition. -/
import Derived.Test.YtffcaffhkleclaaRows
import Derived.Test.YtffcaffhkleclaaMayA
import Derived.Test.YtffcaffhkleclaaMayB
import Derived.Test.YtffcaffhkleclaaMayC
import Derived.Test.YtffcaffhkleclaaRuleKit
import Derived.Test.YtffcaffhkleclaaSame
import Derived.Test.YtffcaffhkleclaaSenA
import Derived.WalkKit
import Derived.WalkLawsBesides
import Derived.ProofKit
import Derived.OpenShut
import Derived.ShutString
import Derived.ChangeOld
import Derived.Below
import Derived.IntWalk
import Derived.Lib.SmallJoins
import Derived.Deep.Cut
namespace Go.Proofs.Ytffcaffhkleclaa.lawSenseOf
open Go.ChangeShapes Go.WideShapes Go.ChangeAt Go.RowKit Go.Joins Go.Proofs.Ytffcaffhkleclaa.Rd Go.Proofs.Ytffcaffhkleclaa.Help Go.Proofs.Ytffcaffhkleclaa.Fl Go.Proofs.Ytffcaffhkleclaa.Keep
set_option linter.unusedVariables false
set_option linter.unusedSimpArgs false
theorem own : ownKnob Try.prog.godebug = none := by kernel_rfl
theorem laidOut : laidOutB Try.prog = true := by kernel_rfl
theorem agree (s r : Int) (zs : List Int) (hz : zs.length ≤ 1048576) : ∃ (q0 : Option Nat) (q1 : Bool), (∀ (w : World) (b : Nat) (v : Value), Rd w b v zs → Calls Try.prog 5 #[Rule.ruleV s r v] w fun e w' => ∃ q, e = .returned (.tuple #[.float .f32 q, .bool q1]) ∧ Is .f32 q q0 ∧ Below w.heap.size w w') ∧ (∀ (w : World) (b : Nat) (v : Value), Rd w b v zs → Calls Try.prog 7 #[Rule.ruleV s r v] w fun e w' => ∃ q, e = .returned (.tuple #[.float .f32 q, .bool q1]) ∧ Is .f32 q q0 ∧ Below w.heap.size w w') :=
  ⟨Sen.senseV s r zs, Rule.validB s r zs, fun w b v h => SenA.spec h, fun w b v h => SenA.impl h⟩

theorem szF_ok {w : World} {s r : Int} {ao : Option Addr} {n cap : Nat} {q : Int} (hn : n ≤ 9223372036854775807) (h0 : 0 ≤ q) (hq : q ≤ 1048576) (h : (n : Int) ≤ q) : Calls Try.prog 4 #[Rule.ruleV s r (.slice ao n cap), .int .i64 q] w fun e w' => e = .returned (.int .i64 (q - n)) ∧ Below w.heap.size w w' := by
  refine (szR hn h0 hq).mono ?_
  rw [if_pos h]
  exact fun e w' h => h
theorem szF_no {w : World} {s r : Int} {ao : Option Addr} {n cap : Nat} {q : Int} (hn : n ≤ 9223372036854775807) (h0 : 0 ≤ q) (hq : q ≤ 1048576) (h : ¬ (n : Int) ≤ q) : Calls Try.prog 4 #[Rule.ruleV s r (.slice ao n cap), .int .i64 q] w fun e w' => e = .returned (.int .i64 (-1)) ∧ Below w.heap.size w w' := by
  refine (szR hn h0 hq).mono ?_
  rw [if_neg h]
  exact fun e w' h => h
theorem nx3_I {N : Nat} {w0 w w' : World} {p0 p1 p2 : Addr} {c0 c1 c2 : Value} {b0 : Nat} {v0 : Value} {z0 : List Int} (bel : Below w.heap.size w w') (h : Below N w0 w ∧ w.cell? p0 = some c0 ∧ w.cell? p1 = some c1 ∧ w.cell? p2 = some c2 ∧ Rd w b0 v0 z0 ∧ N ≤ w.heap.size) : Below N w0 w' ∧ w'.cell? p0 = some c0 ∧ w'.cell? p1 = some c1 ∧ w'.cell? p2 = some c2 ∧ Rd w' b0 v0 z0 ∧ N ≤ w'.heap.size := by obtain ⟨h0, x0, x1, x2, y0, h5⟩ := h; exact ⟨h0.trans (bel.mono h5), cell_keep bel x0, cell_keep bel x1, cell_keep bel x2, y0.keep bel (Nat.le_refl _), Nat.le_trans h5 bel.size⟩
theorem drw3_I {N : Nat} {w0 w : World} {p0 p1 p2 : Addr} {c0 c1 c2 : Value} {b0 : Nat} {v0 : Value} {z0 : List Int} (h : Below N w0 w ∧ w.cell? p0 = some c0 ∧ w.cell? p1 = some c1 ∧ w.cell? p2 = some c2 ∧ Rd w b0 v0 z0 ∧ N ≤ w.heap.size) : Below N w0 w.drew ∧ w.drew.cell? p0 = some c0 ∧ w.drew.cell? p1 = some c1 ∧ w.drew.cell? p2 = some c2 ∧ Rd w.drew b0 v0 z0 ∧ N ≤ w.drew.heap.size := by obtain ⟨h0, x0, x1, x2, y0, h5⟩ := h; exact ⟨h0.drew, x0, x1, x2, y0, h5⟩
theorem rdx3_I_0 {N : Nat} {w0 w : World} {p0 p1 p2 : Addr} {c0 c1 c2 : Value} {b0 : Nat} {v0 : Value} {z0 : List Int} (h : Below N w0 w ∧ w.cell? p0 = some c0 ∧ w.cell? p1 = some c1 ∧ w.cell? p2 = some c2 ∧ Rd w b0 v0 z0 ∧ N ≤ w.heap.size) : Rd w b0 v0 z0 := by obtain ⟨h0, x0, x1, x2, y0, h5⟩ := h; exact y0
theorem nx6_I {N : Nat} {w0 w w' : World} {p0 p1 p2 p3 p4 p5 : Addr} {c0 c1 c2 c3 c4 c5 : Value} {b0 : Nat} {v0 : Value} {z0 : List Int} (bel : Below w.heap.size w w') (h : Below N w0 w ∧ w.cell? p0 = some c0 ∧ w.cell? p1 = some c1 ∧ w.cell? p2 = some c2 ∧ w.cell? p3 = some c3 ∧ w.cell? p4 = some c4 ∧ w.cell? p5 = some c5 ∧ Rd w b0 v0 z0 ∧ N ≤ w.heap.size) : Below N w0 w' ∧ w'.cell? p0 = some c0 ∧ w'.cell? p1 = some c1 ∧ w'.cell? p2 = some c2 ∧ w'.cell? p3 = some c3 ∧ w'.cell? p4 = some c4 ∧ w'.cell? p5 = some c5 ∧ Rd w' b0 v0 z0 ∧ N ≤ w'.heap.size := by obtain ⟨h0, x0, x1, x2, x3, x4, x5, y0, h5⟩ := h; exact ⟨h0.trans (bel.mono h5), cell_keep bel x0, cell_keep bel x1, cell_keep bel x2, cell_keep bel x3, cell_keep bel x4, cell_keep bel x5, y0.keep bel (Nat.le_refl _), Nat.le_trans h5 bel.size⟩
theorem drw6_I {N : Nat} {w0 w : World} {p0 p1 p2 p3 p4 p5 : Addr} {c0 c1 c2 c3 c4 c5 : Value} {b0 : Nat} {v0 : Value} {z0 : List Int} (h : Below N w0 w ∧ w.cell? p0 = some c0 ∧ w.cell? p1 = some c1 ∧ w.cell? p2 = some c2 ∧ w.cell? p3 = some c3 ∧ w.cell? p4 = some c4 ∧ w.cell? p5 = some c5 ∧ Rd w b0 v0 z0 ∧ N ≤ w.heap.size) : Below N w0 w.drew ∧ w.drew.cell? p0 = some c0 ∧ w.drew.cell? p1 = some c1 ∧ w.drew.cell? p2 = some c2 ∧ w.drew.cell? p3 = some c3 ∧ w.drew.cell? p4 = some c4 ∧ w.drew.cell? p5 = some c5 ∧ Rd w.drew b0 v0 z0 ∧ N ≤ w.drew.heap.size := by obtain ⟨h0, x0, x1, x2, x3, x4, x5, y0, h5⟩ := h; exact ⟨h0.drew, x0, x1, x2, x3, x4, x5, y0, h5⟩
theorem rdx6_I_0 {N : Nat} {w0 w : World} {p0 p1 p2 p3 p4 p5 : Addr} {c0 c1 c2 c3 c4 c5 : Value} {b0 : Nat} {v0 : Value} {z0 : List Int} (h : Below N w0 w ∧ w.cell? p0 = some c0 ∧ w.cell? p1 = some c1 ∧ w.cell? p2 = some c2 ∧ w.cell? p3 = some c3 ∧ w.cell? p4 = some c4 ∧ w.cell? p5 = some c5 ∧ Rd w b0 v0 z0 ∧ N ≤ w.heap.size) : Rd w b0 v0 z0 := by obtain ⟨h0, x0, x1, x2, x3, x4, x5, y0, h5⟩ := h; exact y0

set_option maxHeartbeats 16000000 in
theorem walk {w : World} {s0 : Int} (fs0 : (Lit.int .i64 s0).wf = true) {r0 : Int} (fr0 : (Lit.int .i64 r0).wf = true) {b0x : Nat} {v0x : Value} {z0x : List Int} (h0x : Rd w b0x v0x z0x) :
    Calls Try.prog 3 #[Rule.ruleV s0 r0 v0x] w fun e w' => e = .returned (.bool true) ∧ Below w.heap.size w w' := by
  obtain ⟨ao0x, cap0x, e0x, kc0x, mc0x, _⟩ := id h0x
  have H0x : Hid (Rd w b0x v0x z0x) := h0x
  subst e0x; clear h0x
  have nb0x : z0x.length ≤ 9223372036854775807 := by unfold maxLen at mc0x; omega
  clear kc0x mc0x
  by_cases hs0 : (z0x.length : Int) ≤ 1048576
  rotate_left 1
  · go_enter Try.func3, Try.ntmps3
    go_wp2_with fail
    obtain ⟨w1, hW⟩ : ∃ w1, w1 = (w.alloc (Obj.cells #[.int .i64 s0, .int .i64 r0, (Value.slice ao0x z0x.length cap0x)] 24)) := ⟨_, rfl⟩
    obtain ⟨N0, hN0⟩ : ∃ N0, N0 = w.heap.size := ⟨_, rfl⟩
    have st : Below w.heap.size w w1 ∧ w1.cell? ⟨N0, 0, none⟩ = some (.int .i64 s0) ∧ w1.cell? ⟨N0, 1, none⟩ = some (.int .i64 r0) ∧ w1.cell? ⟨N0, 2, none⟩ = some ((Value.slice ao0x z0x.length cap0x)) ∧ Rd w1 b0x (Value.slice ao0x z0x.length cap0x) z0x ∧ w.heap.size ≤ w1.heap.size := by
      rw [hW, hN0]
      exact ⟨Rule.below1 _ _, by simp, by simp, by simp, H0x.out.keep (Rule.below1 _ _) (Nat.le_refl _), by simp <;> omega⟩
    simp only [← hW, ← hN0]
    clear hW hN0
    go_at_call 4
    refine (szF_no nb0x (q := 1048576) (by omega) (by omega) (by omega)).mono ?_
    rintro e w2 ⟨rfl, bel⟩
    replace st := nx3_I bel st
    clear bel
    go_wp2
    go_ret
    exact ⟨rfl, st.1⟩
  have hl0x : z0x.length ≤ 1048576 := by omega
  have HL0x : Hid (z0x.length ≤ 1048576) := hl0x
  obtain ⟨q0, q1, hspec, himpl⟩ := agree s0 r0 z0x hl0x
  have HSp := hid @hspec
  have HIm := hid @himpl
  clear hspec himpl hl0x
  go_enter Try.func3, Try.ntmps3
  go_wp2_with fail
  obtain ⟨w1, hW⟩ : ∃ w1, w1 = (w.alloc (Obj.cells #[.int .i64 s0, .int .i64 r0, (Value.slice ao0x z0x.length cap0x)] 24)) := ⟨_, rfl⟩
  obtain ⟨N0, hN0⟩ : ∃ N0, N0 = w.heap.size := ⟨_, rfl⟩
  have st : Below w.heap.size w w1 ∧ w1.cell? ⟨N0, 0, none⟩ = some (.int .i64 s0) ∧ w1.cell? ⟨N0, 1, none⟩ = some (.int .i64 r0) ∧ w1.cell? ⟨N0, 2, none⟩ = some ((Value.slice ao0x z0x.length cap0x)) ∧ Rd w1 b0x (Value.slice ao0x z0x.length cap0x) z0x ∧ w.heap.size ≤ w1.heap.size := by
    rw [hW, hN0]
    exact ⟨Rule.below1 _ _, by simp, by simp, by simp, H0x.out.keep (Rule.below1 _ _) (Nat.le_refl _), by simp <;> omega⟩
  simp only [← hW, ← hN0]
  clear hW hN0
  go_at_call 4
  refine (szF_ok nb0x (q := 1048576) (by omega) (by omega) (by omega)).mono ?_
  rintro e w2 ⟨rfl, bel⟩
  replace st := nx3_I bel st
  clear bel
  go_wp2_with fail
  go_at_call 6
  refine (toR (rdx3_I_0 st) HL0x.out).mono ?_
  rintro e w3 ⟨bp0x, rfl, op0x, lo, bel⟩
  replace st := nx3_I bel st
  clear bel
  clear lo
  go_wp2_with fail
  go_at_call 5
  refine (HSp.out _ _ _ op0x.rd).mono ?_
  rintro e w4 ⟨fW0, rfl, hW0, bel⟩
  replace st := nx3_I bel st
  replace op0x := op0x.keep bel
  clear bel
  clear op0x
  go_wp2_with fail
  go_at_call 6
  refine (toR (rdx3_I_0 st) HL0x.out).mono ?_
  rintro e w5 ⟨bx0x, rfl, ox0x, lo, bel⟩
  replace st := nx3_I bel st
  clear bel
  clear lo
  obtain ⟨w7, hW⟩ : ∃ w7, w7 = w5.alloc (Obj.cells #[.int .i64 s0, .int .i64 r0, (Value.slice (some ⟨bx0x, 0, none⟩) z0x.length z0x.length)] 29) := ⟨_, rfl⟩
  obtain ⟨NX0, hN⟩ : ∃ NX0, NX0 = w5.heap.size := ⟨_, rfl⟩
  have bel : Below w5.heap.size w5 w7 := by rw [hW]; exact Rule.below1 _ _
  have st' : Below w.heap.size w w7 ∧ w7.cell? ⟨N0, 0, none⟩ = some (.int .i64 s0) ∧ w7.cell? ⟨N0, 1, none⟩ = some (.int .i64 r0) ∧ w7.cell? ⟨N0, 2, none⟩ = some ((Value.slice ao0x z0x.length cap0x)) ∧ w7.cell? ⟨NX0, 0, none⟩ = some (.int .i64 s0) ∧ w7.cell? ⟨NX0, 1, none⟩ = some (.int .i64 r0) ∧ w7.cell? ⟨NX0, 2, none⟩ = some ((Value.slice (some ⟨bx0x, 0, none⟩) z0x.length z0x.length)) ∧ Rd w7 b0x (Value.slice ao0x z0x.length cap0x) z0x ∧ w.heap.size ≤ w7.heap.size := by
    obtain ⟨t0, c0, c1, c2, d0, tz⟩ := nx3_I bel st
    exact ⟨t0, c0, c1, c2, by rw [hW, hN]; simp, by rw [hW, hN]; simp, by rw [hW, hN]; simp, d0, tz⟩
  replace ox0x := ox0x.keep bel
  clear st bel; have st := st'; clear st'
  have stp := st
  rw [hW, hN] at stp
  go_wp2_with fail
  clear stp
  simp only [← hW, ← hN]
  clear hW hN
  go_at_call 7
  refine (HIm.out _ _ _ ox0x.rd).mono ?_
  rintro e w6 ⟨fG0, rfl, hG0, bel⟩
  replace st := nx6_I bel st
  replace ox0x := ox0x.keep bel
  clear bel
  go_wp2_with (first | (refine wpList_fconv rfl _ _ _ rfl _ _ _ rfl (by rw [Try.underlying26]; rfl) Try.underlying32 hG0 (fits_widen_is hG0) ?_; intro cG0 mG0 iG0) | (refine wpList_fconv rfl _ _ _ rfl _ _ _ rfl (by rw [Try.underlying26]; rfl) Try.underlying32 hW0 (fits_widen_is hW0) ?_; intro cW0 mW0 iW0) | (go_at_call 8; refine (sameFloat _ iG0 iW0).mono ?_; rintro e wS ⟨rfl, mS0, rfl⟩))
  have bel : Below w6.heap.size w6 (w6.drewN (mG0 + mW0 + mS0)) := ⟨rfl, rfl, rfl, Nat.le_refl _, fun _ _ => rfl⟩
  obtain ⟨w8, hW⟩ : ∃ w8, w8 = w6.drewN (mG0 + mW0 + mS0) := ⟨_, rfl⟩
  rw [← hW] at bel ⊢
  clear hW
  replace st := nx6_I bel st
  replace ox0x := ox0x.keep bel
  clear bel
  go_wp2_with fail
  refine wp_region_held_drew (S := (fun ww => Below w.heap.size w ww ∧ ww.cell? ⟨N0, 0, none⟩ = some (.int .i64 s0) ∧ ww.cell? ⟨N0, 1, none⟩ = some (.int .i64 r0) ∧ ww.cell? ⟨N0, 2, none⟩ = some ((Value.slice ao0x z0x.length cap0x)) ∧ ww.cell? ⟨NX0, 0, none⟩ = some (.int .i64 s0) ∧ ww.cell? ⟨NX0, 1, none⟩ = some (.int .i64 r0) ∧ ww.cell? ⟨NX0, 2, none⟩ = some ((Value.slice (some ⟨bx0x, 0, none⟩) z0x.length z0x.length)) ∧ Rd ww b0x (Value.slice ao0x z0x.length cap0x) z0x ∧ w.heap.size ≤ ww.heap.size)) (by kernel_rfl) ?_ (fun hHeld => ?_)
  · ((try dsimp only); exact drw6_I st)
  first | (refine wpAnyH_take (i := 0) (v := ?_) rfl ?_ ?_ ?_ (fun _ _ _ h => h) (Or.inl ⟨?_, ?_⟩) ?_ ?_; rotate_left 1; (focus decide +kernel); (focus decide +kernel); (focus decide +kernel); (focus rfl); (focus (intro w hSw; (try dsimp only at hSw); go_simp; (try (with_reducible rfl)); done)); (focus assumption); (try simp only [Act.put, List.setIfInBounds_toArray, List.set_cons_zero, List.set_cons_succ, List.getElem_toArray, List.getElem_cons_succ, List.getElem_cons_zero])) | (refine wpAnyH_take (i := 0) (v := undef) rfl ?_ ?_ ?_ (fun _ _ _ h => h) (Or.inr ⟨?_, rfl⟩) ?_ ?_; (focus decide +kernel); (focus decide +kernel); (focus decide +kernel); (focus rfl); (focus assumption); (try simp only [Act.put, List.setIfInBounds_toArray, List.set_cons_zero, List.set_cons_succ, List.getElem_toArray, List.getElem_cons_succ, List.getElem_cons_zero])) | skip
  first | (refine wpAnyH_take (i := 1) (v := ?_) rfl ?_ ?_ ?_ (fun _ _ _ h => h) (Or.inl ⟨?_, ?_⟩) ?_ ?_; rotate_left 1; (focus decide +kernel); (focus decide +kernel); (focus decide +kernel); (focus rfl); (focus (intro w hSw; (try dsimp only at hSw); go_simp; (try (with_reducible rfl)); done)); (focus assumption); (try simp only [Act.put, List.setIfInBounds_toArray, List.set_cons_zero, List.set_cons_succ, List.getElem_toArray, List.getElem_cons_succ, List.getElem_cons_zero])) | (refine wpAnyH_take (i := 1) (v := undef) rfl ?_ ?_ ?_ (fun _ _ _ h => h) (Or.inr ⟨?_, rfl⟩) ?_ ?_; (focus decide +kernel); (focus decide +kernel); (focus decide +kernel); (focus rfl); (focus assumption); (try simp only [Act.put, List.setIfInBounds_toArray, List.set_cons_zero, List.set_cons_succ, List.getElem_toArray, List.getElem_cons_succ, List.getElem_cons_zero])) | skip
  first | (refine wpAnyH_take (i := 4) (v := ?_) rfl ?_ ?_ ?_ (fun _ _ _ h => h) (Or.inl ⟨?_, ?_⟩) ?_ ?_; rotate_left 1; (focus decide +kernel); (focus decide +kernel); (focus decide +kernel); (focus rfl); (focus (intro w hSw; (try dsimp only at hSw); go_simp; (try (with_reducible rfl)); done)); (focus assumption); (try simp only [Act.put, List.setIfInBounds_toArray, List.set_cons_zero, List.set_cons_succ, List.getElem_toArray, List.getElem_cons_succ, List.getElem_cons_zero])) | (refine wpAnyH_take (i := 4) (v := undef) rfl ?_ ?_ ?_ (fun _ _ _ h => h) (Or.inr ⟨?_, rfl⟩) ?_ ?_; (focus decide +kernel); (focus decide +kernel); (focus decide +kernel); (focus rfl); (focus assumption); (try simp only [Act.put, List.setIfInBounds_toArray, List.set_cons_zero, List.set_cons_succ, List.getElem_toArray, List.getElem_cons_succ, List.getElem_cons_zero])) | skip
  first | (refine wpAnyH_take (i := 2) (v := undef) rfl ?_ ?_ ?_ (fun _ _ _ h => h) (Or.inr ⟨?_, rfl⟩) ?_ ?_; (focus decide +kernel); (focus decide +kernel); (focus decide +kernel); (focus rfl); (focus assumption); (try simp only [Act.put, List.setIfInBounds_toArray, List.set_cons_zero, List.set_cons_succ, List.getElem_toArray, List.getElem_cons_succ, List.getElem_cons_zero])) | (refine wpAnyH_ready (rs := [2]) ?_ (by simp) ?_; (focus decide +kernel); refine AllReadyH.cons rfl (fun K hK => ?_) AllReadyH.nil; go_simp; (go_at_call 6; refine (toR (rdx6_I_0 hHeld) HL0x.out).mono ?_; rintro e w9 ⟨by0x, rfl, oy0x, lo, bel⟩; replace ox0x : Own 2 w8.drew bx0x (Value.slice (some ⟨bx0x, 0, none⟩) z0x.length z0x.length) z0x := ox0x; replace ox0x := ox0x.keep bel; clear lo); refine hK.out _ _ ?_ (fun hHeld => ?_); ((try dsimp only); exact nx6_I bel hHeld); clear hK K; (try simp only [Act.put, List.setIfInBounds_toArray, List.set_cons_zero, List.set_cons_succ, List.getElem_toArray, List.getElem_cons_succ, List.getElem_cons_zero]))
  first | (refine wpAnyH_take (i := 4) (v := ?_) rfl ?_ ?_ ?_ (fun _ _ _ h => h) (Or.inl ⟨?_, ?_⟩) ?_ ?_; rotate_left 1; (focus decide +kernel); (focus decide +kernel); (focus decide +kernel); (focus rfl); (focus (intro w hSw; (try dsimp only at hSw); go_simp; (try (with_reducible rfl)); done)); (focus assumption); (try simp only [Act.put, List.setIfInBounds_toArray, List.set_cons_zero, List.set_cons_succ, List.getElem_toArray, List.getElem_cons_succ, List.getElem_cons_zero])) | (refine wpAnyH_take (i := 4) (v := undef) rfl ?_ ?_ ?_ (fun _ _ _ h => h) (Or.inr ⟨?_, rfl⟩) ?_ ?_; (focus decide +kernel); (focus decide +kernel); (focus decide +kernel); (focus rfl); (focus assumption); (try simp only [Act.put, List.setIfInBounds_toArray, List.set_cons_zero, List.set_cons_succ, List.getElem_toArray, List.getElem_cons_succ, List.getElem_cons_zero])) | skip
  first | (refine wpAnyH_take (i := 3) (v := undef) rfl ?_ ?_ ?_ (fun _ _ _ h => h) (Or.inr ⟨?_, rfl⟩) ?_ ?_; (focus decide +kernel); (focus decide +kernel); (focus decide +kernel); (focus rfl); (focus assumption); (try simp only [Act.put, List.setIfInBounds_toArray, List.set_cons_zero, List.set_cons_succ, List.getElem_toArray, List.getElem_cons_succ, List.getElem_cons_zero])) | (refine wpAnyH_ready (rs := [3]) ?_ (by simp) ?_; (focus decide +kernel); refine AllReadyH.cons rfl (fun K hK => ?_) AllReadyH.nil; go_simp; (go_at_call 9; refine (eqR ox0x.rd oy0x.rd).mono ?_; rintro e w10 ⟨rfl, bel⟩; replace ox0x := ox0x.keep bel; clear oy0x); refine hK.out _ _ ?_ (fun hHeld => ?_); ((try dsimp only); exact nx6_I bel hHeld); clear hK K; (try simp only [Act.put, List.setIfInBounds_toArray, List.set_cons_zero, List.set_cons_succ, List.getElem_toArray, List.getElem_cons_succ, List.getElem_cons_zero]))
  first | (refine wpAnyH_take (i := 4) (v := ?_) rfl ?_ ?_ ?_ (fun _ _ _ h => h) (Or.inl ⟨?_, ?_⟩) ?_ ?_; rotate_left 1; (focus decide +kernel); (focus decide +kernel); (focus decide +kernel); (focus rfl); (focus (intro w hSw; (try dsimp only at hSw); go_simp; (try (with_reducible rfl)); done)); (focus assumption); (try simp only [Act.put, List.setIfInBounds_toArray, List.set_cons_zero, List.set_cons_succ, List.getElem_toArray, List.getElem_cons_succ, List.getElem_cons_zero])) | (refine wpAnyH_take (i := 4) (v := undef) rfl ?_ ?_ ?_ (fun _ _ _ h => h) (Or.inr ⟨?_, rfl⟩) ?_ ?_; (focus decide +kernel); (focus decide +kernel); (focus decide +kernel); (focus rfl); (focus assumption); (try simp only [Act.put, List.setIfInBounds_toArray, List.set_cons_zero, List.set_cons_succ, List.getElem_toArray, List.getElem_cons_succ, List.getElem_cons_zero])) | skip
  refine wpAnyH_done (by kernel_rfl) ?_ _
  clear st; have st := hHeld; clear hHeld
  go_wp2
  go_ret
  exact ⟨rfl, And.left st⟩

set_option maxRecDepth 100000 in
theorem lifted (os : Os) (started : os.Started) (H : Type) (enc : TypeId × Value → H) :
    ReturnsInHanded {} Try.checked os 3 .any (Rows.fnExactSenseOfSpec.pre6 enc Try.prog Try.f3 Rows.fnExactSenseOfRow.domain false) (Rows.fnExactSenseOfSpec.post enc Try.prog Try.f3 false true false false) := by
  refine returnsInHanded_of_change (C := Try.checked) own started (by kernel_rfl) Try.func3
    (ChangeSpec.witness6 (enc := enc) (C := Try.checked) false ⟨#[], #[.agg #[.int .i64 0, .int .i64 0, .slice none 0 0]], []⟩ 8 (by kernel_rfl) (by kernel_rfl) (by kernel_rfl) (by kernel_rfl)) ?_
  intro W base args ds gs before hval0 hW hcnd hreach
  have hval : ∀ (j : Nat) t v, Try.f3.params[j]? = some t → args[j]? = some v → Value.okWide Try.prog W .any base t v := hval0
  have hW' := hW
  obtain ⟨p, q, hA0, hV, rfl, hfz, hnd⟩ := hW
  have hA : DataW.TrodAll enc Try.prog W 0 (fun _ => true) true Try.f3.params.toList args.toList ds p := hA0
  rw [Try.params3] at hA hval
  obtain ⟨v0, vs0, d0, ds0, p0, q0, hargs, rfl, rfl, h0, r0⟩ := trodAll_cons hA
  obtain ⟨rfl, rfl, rfl⟩ := trodAll_nil r0
  obtain rfl : args = #[v0] := by cases args; simp_all
  obtain ⟨rfl, rfl⟩ := trodVars_none hV
  have k0 := h0
  have lt0 : ∀ x ∈ p0, x.block < W.heap.size := by obtain ⟨m, hm⟩ := k0; exact DataW.trod_lt m _ _ _ hm
  obtain ⟨c00, c01, c02, y00, y01, y02, m0, rfl, hd0, hp0, t00, t01, t02⟩ := open_agg3 Try.underlying24 (by kernel_rfl) (by kernel_rfl) (hval 0 24 v0 rfl rfl) h0
  obtain ⟨a00, e00, _, w00⟩ := DataW.trod_int Try.underlying2 t00
  simp at e00
  subst e00
  obtain ⟨a01, e01, _, w01⟩ := DataW.trod_int Try.underlying2 t01
  simp at e01
  subst e01
  obtain ⟨a0, len0, cap0, e0⟩ := slice_form Try.underlying22 t02
  simp at e0
  subst e0
  obtain ⟨b0, z0, _, w0⟩ : ∃ b zs, zs.length = len0 ∧ Rd W b (.slice a0 len0 cap0) zs := rd_open Try.underlying22 Try.underlying2 (by kernel_rfl) t02
  clear hA0 hval0
  refine (walk w00 w01 w0).mono fun e W' ⟨he, bel⟩ => ?_
  subst he
  exact ⟨_, rfl, _, _, _, [], _, [], hW', trodAll_mk1 (shut_bool Try.underlying4 _), (trodAll_cons_mk (Below.trod laidOut (by kernel_rfl) (of_decide_eq_true (by kernel_rfl)) k0 bel lt0) (trodAll_mk0)), rfl, bel.frame _, fun h => by cases h⟩

theorem over : Rows.fnExactSenseOfRow.holds Try.pinned (OpenSpec.ofChange Rows.fnExactSenseOfSpec) :=
  OpenClaim.holds_of_wide 3 Try.f3 rfl rfl rfl rfl rfl rfl rfl ⟨rfl, rfl, rfl, rfl, rfl⟩ rfl rfl rfl rfl rfl (by kernel_rfl) Try.func3 (by unfold joinedFacts; rw [MayA.fact, MayB.fact, MayC.fact]; kernel_rfl)
    (of_decide_eq_true (by kernel_rfl)) (by unfold Func.isWrapper; rw [if_neg (of_decide_eq_false (by kernel_rfl))]; exact ⟨rfl, rfl⟩)
    (fun os started H enc _ => lifted os started H enc)

theorem proved : Rows.FnExactSenseOfSaid := over
end Go.Proofs.Ytffcaffhkleclaa.lawSenseOf
