/- For every rule, every word and every number of cells, impl.KeepsCount answers as the model of the document does, and changes nothing that it is given. No condition. -/
import Derived.Test.YtjeoccjemkdbiaaRows
import Derived.Test.YtjeoccjemkdbiaaMayA
import Derived.Test.YtjeoccjemkdbiaaMayB
import Derived.Test.YtjeoccjemkdbiaaMayC
import Derived.Test.YtjeoccjemkdbiaaRuleKit
import Derived.Test.YtjeoccjemkdbiaaKcR
import Derived.WalkKit
import Derived.WalkLawsBesides
import Derived.ProofKit
import Derived.OpenShut
import Derived.ShutString
import Derived.ChangeOld
import Derived.Below
import Derived.IntWalk
import Derived.Lib.SmallJoins
namespace Go.Proofs.Ytjeoccjemkdbiaa.lawKeepsCount
open Go.ChangeShapes Go.WideShapes Go.ChangeAt Go.RowKit Go.Joins Go.Proofs.Ytjeoccjemkdbiaa.Rd Go.Proofs.Ytjeoccjemkdbiaa.Help Go.Proofs.Ytjeoccjemkdbiaa.Keep
set_option linter.unusedVariables false
set_option linter.unusedSimpArgs false
theorem own : ownKnob Try.prog.godebug = none := by kernel_rfl
theorem laidOut : laidOutB Try.prog = true := by kernel_rfl
theorem agree (s r : Int) (tbl ws : List Int) (n : Int) (hz : tbl.length ≤ 1048576) (hz2 : ws.length ≤ 1048576) : ∃ (q0 q1 : Bool),
    (∀ (w : World) (b : Nat) (v : Value), Rd w b v tbl → ∀ (bw : Nat) (vw : Value), Rd w bw vw ws → Calls Try.prog 9 #[Rule.ruleV s r v, vw, .int .i64 n] w fun e w' => e = .returned (.tuple #[.bool q0, .bool q1]) ∧ Below w.heap.size w w') ∧
    (∀ (w : World) (b : Nat) (v : Value), Rd w b v tbl → ∀ (bw : Nat) (vw : Value), Rd w bw vw ws → Calls Try.prog 12 #[Rule.ruleV s r v, vw, .int .i64 n] w fun e w' => e = .returned (.tuple #[.bool q0, .bool q1]) ∧ Below w.heap.size w w') := by
  cases hv : KcS.askB s r tbl ws n with
  | false => exact ⟨false, false, fun w b v h bw vw hw => KcS.specNo h hw hv, fun w b v h bw vw hw => KcI.implNo h hw hv⟩
  | true =>
    have hn : 0 ≤ n := by
      have h1 := hv
      unfold KcS.askB at h1
      rw [Bool.and_eq_true, Bool.and_eq_true] at h1
      have h2 := of_decide_eq_true h1.2.2
      omega
    obtain ⟨m, rfl⟩ := Int.eq_ofNat_of_zero_le hn
    exact ⟨KcS.keptTo tbl s r ws m (CwP.pw s m), true, fun w b v h bw vw hw => KcS.specOk h hw hv, fun w b v h bw vw hw => KcJ.implOk h hw hv⟩

set_option maxHeartbeats 16000000 in
theorem walk {w : World} {s0 r0 : Int} (fs0 : (Lit.int .i64 s0).wf = true) (fr0 : (Lit.int .i64 r0).wf = true) {b0 : Nat} {v0 : Value} {z0 : List Int} (h0 : Rd w b0 v0 z0) {b1 : Nat} {v1 : Value} {z1 : List Int} (h1 : Rd w b1 v1 z1) {a2 : Int} (f2 : (Lit.int .i64 a2).wf = true) :
    Calls Try.prog 3 #[Rule.ruleV s0 r0 v0, v1, .int .i64 a2] w fun e w' => e = .returned (.bool true) ∧ Below w.heap.size w w' := by
  obtain ⟨ao0, cap0, e0, kc0, mc0, _⟩ := id h0
  have H0 : Hid (Rd w b0 v0 z0) := h0
  subst e0; clear h0
  have nb0 : z0.length ≤ 9223372036854775807 := by unfold maxLen at mc0; omega
  clear kc0 mc0
  obtain ⟨ao1, cap1, e1, kc1, mc1, _⟩ := id h1
  have H1 : Hid (Rd w b1 v1 z1) := h1
  subst e1; clear h1
  have nb1 : z1.length ≤ 9223372036854775807 := by unfold maxLen at mc1; omega
  clear kc1 mc1
  rcases Nat.lt_or_ge 1048576 z1.length with hx1 | hl1
  · go_enter Try.func3, Try.ntmps3
    go_wp2
    go_ret
    exact ⟨rfl, Rule.below1 _ _⟩
  have hi1 : (z1.length : Int) ≤ 1048576 := by omega
  rcases Nat.lt_or_ge 1048576 z0.length with hx0 | hl0
  · have HE : Hid ((if (z0.length : Int) ≤ 1048576 then 1048576 - (z0.length : Int) else -1) = -1) := if_neg (by omega)
    go_enter Try.func3, Try.ntmps3
    go_wp2_with fail
    go_at_call 8
    refine (szR nb0 (by omega) (by omega)).mono ?_
    rw [HE.out]
    rintro e w1 ⟨rfl, bel⟩
    go_wp2
    go_ret
    exact ⟨rfl, (Rule.below1 _ _).trans (bel.mono (Rule.below1 _ _).size)⟩
  have hi0 : (z0.length : Int) ≤ 1048576 := by omega
  have HE : Hid ((if (z0.length : Int) ≤ 1048576 then 1048576 - (z0.length : Int) else -1) = 1048576 - (z0.length : Int)) := if_pos hi0
  have HL0 : Hid (z0.length ≤ 1048576) := hl0
  have HL1 : Hid (z1.length ≤ 1048576) := hl1
  obtain ⟨q0, q1, hspec, himpl⟩ := agree s0 r0 z0 z1 a2 hl0 hl1
  have HSp := hid @hspec
  have HIm := hid @himpl
  clear hspec himpl hl0 hl1
  go_enter Try.func3, Try.ntmps3
  go_wp2_with fail
  obtain ⟨w1, hW⟩ : ∃ w1, w1 = w.alloc (Obj.cells #[.int .i64 s0, .int .i64 r0, (Value.slice ao0 z0.length cap0)] 24) := ⟨_, rfl⟩
  obtain ⟨NA, hN⟩ : ∃ NA, NA = w.heap.size := ⟨_, rfl⟩
  have st : Below w.heap.size w w1 ∧ w1.cell? ⟨NA, 0, none⟩ = some (.int .i64 s0) ∧ w1.cell? ⟨NA, 1, none⟩ = some (.int .i64 r0) ∧ w1.cell? ⟨NA, 2, none⟩ = some ((Value.slice ao0 z0.length cap0)) ∧ Rd w1 b0 (Value.slice ao0 z0.length cap0) z0 ∧ Rd w1 b1 (Value.slice ao1 z1.length cap1) z1 ∧ w.heap.size ≤ w1.heap.size := by
    rw [hW, hN]
    exact ⟨Rule.below1 _ _, by simp, by simp, by simp, H0.out.keep (Rule.below1 _ _) (Nat.le_refl _), H1.out.keep (Rule.below1 _ _) (Nat.le_refl _), by simp⟩
  simp only [← hW, ← hN]
  clear hW hN
  go_wp2_with fail
  go_at_call 8
  refine (szR nb0 (by omega) (by omega)).mono ?_
  rw [HE.out]
  rintro e w2 ⟨rfl, bel⟩
  replace st := next3_2 bel st
  clear bel
  go_wp2_with fail
  go_at_call 10
  refine (toR (rd3_2_0 st) HL0.out).mono ?_
  rintro e w3 ⟨bp0, rfl, op0, lo, bel⟩
  have cbp0 : w.heap.size ≤ bp0 := Nat.le_trans (And.left st).size lo
  have nap0 : NA < bp0 := Nat.lt_of_lt_of_le (World.block_lt_of_cell? _ _ st.2.1) lo
  replace st := next3_2 bel st
  clear bel
  clear lo
  go_wp2_with fail
  go_at_call 11
  refine (toSE (rd3_2_1 st) HL1.out).mono ?_
  rintro e w4 ⟨bp1, rfl, op1, lo, bel⟩
  have nep0p1 := (lim op0).imp id (fun hx => (by omega : bp0 ≠ bp1))
  have cbp1 : w.heap.size ≤ bp1 := Nat.le_trans (And.left st).size lo
  have nap1 : NA < bp1 := Nat.lt_of_lt_of_le (World.block_lt_of_cell? _ _ st.2.1) lo
  replace st := next3_2 bel st
  replace op0 := op0.keep bel
  clear bel
  clear lo
  go_wp2_with fail
  go_at_call 9
  refine (HSp.out _ _ _ op0.rd _ _ op1.rd).mono ?_
  rintro e w5 ⟨rfl, bel⟩
  replace st := next3_2 bel st
  replace op0 := op0.keep bel
  replace op1 := op1.keep bel
  clear bel
  clear op0
  clear op1
  go_wp2_with fail
  go_at_call 10
  refine (toR (rd3_2_0 st) HL0.out).mono ?_
  rintro e w6 ⟨bx0, rfl, ox0, lo, bel⟩
  have cbx0 : w.heap.size ≤ bx0 := Nat.le_trans (And.left st).size lo
  have nax0 : NA < bx0 := Nat.lt_of_lt_of_le (World.block_lt_of_cell? _ _ st.2.1) lo
  replace st := next3_2 bel st
  clear bel
  clear lo
  go_wp2_with fail
  obtain ⟨w8, hW⟩ : ∃ w8, w8 = w6.alloc (Obj.cells #[.int .i64 s0, .int .i64 r0, (Value.slice (some ⟨bx0, 0, none⟩) z0.length z0.length)] 28) := ⟨_, rfl⟩
  obtain ⟨NX0, hN⟩ : ∃ NX0, NX0 = w6.heap.size := ⟨_, rfl⟩
  have bel : Below w6.heap.size w6 w8 := by rw [hW]; exact Rule.below1 _ _
  have st' : Below w.heap.size w w8 ∧ w8.cell? ⟨NA, 0, none⟩ = some (.int .i64 s0) ∧ w8.cell? ⟨NA, 1, none⟩ = some (.int .i64 r0) ∧ w8.cell? ⟨NA, 2, none⟩ = some ((Value.slice ao0 z0.length cap0)) ∧ w8.cell? ⟨NX0, 0, none⟩ = some (.int .i64 s0) ∧ w8.cell? ⟨NX0, 1, none⟩ = some (.int .i64 r0) ∧ w8.cell? ⟨NX0, 2, none⟩ = some ((Value.slice (some ⟨bx0, 0, none⟩) z0.length z0.length)) ∧ Rd w8 b0 (Value.slice ao0 z0.length cap0) z0 ∧ Rd w8 b1 (Value.slice ao1 z1.length cap1) z1 ∧ w.heap.size ≤ w8.heap.size := by
    obtain ⟨t0, c0, c1, c2, d0, d1, tz⟩ := next3_2 bel st
    exact ⟨t0, c0, c1, c2, by rw [hW, hN]; simp, by rw [hW, hN]; simp, by rw [hW, hN]; simp, d0, d1, tz⟩
  replace ox0 := ox0.keep bel
  clear st bel; have st := st'; clear st'
  simp only [← hW, ← hN]
  clear hW hN
  go_at_call 11
  refine (toSE (rd6_2_1 st) HL1.out).mono ?_
  rintro e w7 ⟨bx1, rfl, ox1, lo, bel⟩
  have nex0x1 := (lim ox0).imp id (fun hx => (by omega : bx0 ≠ bx1))
  have cbx1 : w.heap.size ≤ bx1 := Nat.le_trans (And.left st).size lo
  have nax1 : NA < bx1 := Nat.lt_of_lt_of_le (World.block_lt_of_cell? _ _ st.2.1) lo
  replace st := next6_2 bel st
  replace ox0 := ox0.keep bel
  clear bel
  clear lo
  go_wp2_with fail
  go_at_call 12
  refine (HIm.out _ _ _ ox0.rd _ _ ox1.rd).mono ?_
  rintro e w9 ⟨rfl, bel⟩
  replace st := next6_2 bel st
  replace ox0 := ox0.keep bel
  replace ox1 := ox1.keep bel
  clear bel
  go_wp2_with fail
  refine wp_region_held_drew (S := (fun ww => Below w.heap.size w ww ∧ ww.cell? ⟨NA, 0, none⟩ = some (.int .i64 s0) ∧ ww.cell? ⟨NA, 1, none⟩ = some (.int .i64 r0) ∧ ww.cell? ⟨NA, 2, none⟩ = some ((Value.slice ao0 z0.length cap0)) ∧ ww.cell? ⟨NX0, 0, none⟩ = some (.int .i64 s0) ∧ ww.cell? ⟨NX0, 1, none⟩ = some (.int .i64 r0) ∧ ww.cell? ⟨NX0, 2, none⟩ = some ((Value.slice (some ⟨bx0, 0, none⟩) z0.length z0.length)) ∧ Rd ww b0 (Value.slice ao0 z0.length cap0) z0 ∧ Rd ww b1 (Value.slice ao1 z1.length cap1) z1 ∧ w.heap.size ≤ ww.heap.size)) (by kernel_rfl) ?_ (fun hHeld => ?_)
  · ((try dsimp only); exact drew6_2 st)
  first | (refine wpAnyH_take (i := 0) (v := ?_) rfl ?_ ?_ ?_ (fun _ _ _ h => h) (Or.inl ⟨?_, ?_⟩) ?_ ?_; rotate_left 1; (focus decide +kernel); (focus decide +kernel); (focus decide +kernel); (focus rfl); (focus (intro w hSw; (try dsimp only at hSw); go_simp; (try (with_reducible rfl)); done)); (focus assumption); (try simp only [Act.put, List.setIfInBounds_toArray, List.set_cons_zero, List.set_cons_succ, List.getElem_toArray, List.getElem_cons_succ, List.getElem_cons_zero])) | (refine wpAnyH_take (i := 0) (v := undef) rfl ?_ ?_ ?_ (fun _ _ _ h => h) (Or.inr ⟨?_, rfl⟩) ?_ ?_; (focus decide +kernel); (focus decide +kernel); (focus decide +kernel); (focus rfl); (focus assumption); (try simp only [Act.put, List.setIfInBounds_toArray, List.set_cons_zero, List.set_cons_succ, List.getElem_toArray, List.getElem_cons_succ, List.getElem_cons_zero])) | skip
  first | (refine wpAnyH_take (i := 1) (v := ?_) rfl ?_ ?_ ?_ (fun _ _ _ h => h) (Or.inl ⟨?_, ?_⟩) ?_ ?_; rotate_left 1; (focus decide +kernel); (focus decide +kernel); (focus decide +kernel); (focus rfl); (focus (intro w hSw; (try dsimp only at hSw); go_simp; (try (with_reducible rfl)); done)); (focus assumption); (try simp only [Act.put, List.setIfInBounds_toArray, List.set_cons_zero, List.set_cons_succ, List.getElem_toArray, List.getElem_cons_succ, List.getElem_cons_zero])) | (refine wpAnyH_take (i := 1) (v := undef) rfl ?_ ?_ ?_ (fun _ _ _ h => h) (Or.inr ⟨?_, rfl⟩) ?_ ?_; (focus decide +kernel); (focus decide +kernel); (focus decide +kernel); (focus rfl); (focus assumption); (try simp only [Act.put, List.setIfInBounds_toArray, List.set_cons_zero, List.set_cons_succ, List.getElem_toArray, List.getElem_cons_succ, List.getElem_cons_zero])) | skip
  first | (refine wpAnyH_take (i := 4) (v := ?_) rfl ?_ ?_ ?_ (fun _ _ _ h => h) (Or.inl ⟨?_, ?_⟩) ?_ ?_; rotate_left 1; (focus decide +kernel); (focus decide +kernel); (focus decide +kernel); (focus rfl); (focus (intro w hSw; (try dsimp only at hSw); go_simp; (try (with_reducible rfl)); done)); (focus assumption); (try simp only [Act.put, List.setIfInBounds_toArray, List.set_cons_zero, List.set_cons_succ, List.getElem_toArray, List.getElem_cons_succ, List.getElem_cons_zero])) | (refine wpAnyH_take (i := 4) (v := undef) rfl ?_ ?_ ?_ (fun _ _ _ h => h) (Or.inr ⟨?_, rfl⟩) ?_ ?_; (focus decide +kernel); (focus decide +kernel); (focus decide +kernel); (focus rfl); (focus assumption); (try simp only [Act.put, List.setIfInBounds_toArray, List.set_cons_zero, List.set_cons_succ, List.getElem_toArray, List.getElem_cons_succ, List.getElem_cons_zero])) | skip
  first | (refine wpAnyH_take (i := 2) (v := undef) rfl ?_ ?_ ?_ (fun _ _ _ h => h) (Or.inr ⟨?_, rfl⟩) ?_ ?_; (focus decide +kernel); (focus decide +kernel); (focus decide +kernel); (focus rfl); (focus assumption); (try simp only [Act.put, List.setIfInBounds_toArray, List.set_cons_zero, List.set_cons_succ, List.getElem_toArray, List.getElem_cons_succ, List.getElem_cons_zero])) | (refine wpAnyH_ready (rs := [2]) ?_ (by simp) ?_; (focus decide +kernel); refine AllReadyH.cons rfl (fun K hK => ?_) AllReadyH.nil; go_simp; (go_at_call 10; refine (toR (rd6_2_0 hHeld) HL0.out).mono ?_; rintro e w10 ⟨by', rfl, oy, lo, bel⟩; replace ox0 : Rd.Own 2 w9.drew bx0 (Value.slice (some ⟨bx0, 0, none⟩) z0.length z0.length) z0 := ox0; replace ox1 : Rd.Own 2 w9.drew bx1 (Value.slice (some ⟨bx1, 0, none⟩) z1.length z1.length) z1 := ox1; replace ox0 := ox0.keep bel; replace ox1 := ox1.keep bel; have bel1 := bel; clear lo); refine hK.out _ _ ?_ (fun hHeld => ?_); ((try dsimp only); exact next6_2 bel hHeld); clear hK K; (try simp only [Act.put, List.setIfInBounds_toArray, List.set_cons_zero, List.set_cons_succ, List.getElem_toArray, List.getElem_cons_succ, List.getElem_cons_zero]))
  first | (refine wpAnyH_take (i := 4) (v := ?_) rfl ?_ ?_ ?_ (fun _ _ _ h => h) (Or.inl ⟨?_, ?_⟩) ?_ ?_; rotate_left 1; (focus decide +kernel); (focus decide +kernel); (focus decide +kernel); (focus rfl); (focus (intro w hSw; (try dsimp only at hSw); go_simp; (try (with_reducible rfl)); done)); (focus assumption); (try simp only [Act.put, List.setIfInBounds_toArray, List.set_cons_zero, List.set_cons_succ, List.getElem_toArray, List.getElem_cons_succ, List.getElem_cons_zero])) | (refine wpAnyH_take (i := 4) (v := undef) rfl ?_ ?_ ?_ (fun _ _ _ h => h) (Or.inr ⟨?_, rfl⟩) ?_ ?_; (focus decide +kernel); (focus decide +kernel); (focus decide +kernel); (focus rfl); (focus assumption); (try simp only [Act.put, List.setIfInBounds_toArray, List.set_cons_zero, List.set_cons_succ, List.getElem_toArray, List.getElem_cons_succ, List.getElem_cons_zero])) | skip
  first | (refine wpAnyH_take (i := 3) (v := undef) rfl ?_ ?_ ?_ (fun _ _ _ h => h) (Or.inr ⟨?_, rfl⟩) ?_ ?_; (focus decide +kernel); (focus decide +kernel); (focus decide +kernel); (focus rfl); (focus assumption); (try simp only [Act.put, List.setIfInBounds_toArray, List.set_cons_zero, List.set_cons_succ, List.getElem_toArray, List.getElem_cons_succ, List.getElem_cons_zero])) | (refine wpAnyH_ready (rs := [3]) ?_ (by simp) ?_; (focus decide +kernel); refine AllReadyH.cons rfl (fun K hK => ?_) AllReadyH.nil; go_simp; (go_at_call 13; refine (eqR ox0.rd oy.rd).mono ?_; rintro e w11 ⟨rfl, bel⟩; replace ox0 := ox0.keep bel; replace ox1 := ox1.keep bel; clear oy); refine hK.out _ _ ?_ (fun hHeld => ?_); ((try dsimp only); exact next6_2 bel hHeld); clear hK K; (try simp only [Act.put, List.setIfInBounds_toArray, List.set_cons_zero, List.set_cons_succ, List.getElem_toArray, List.getElem_cons_succ, List.getElem_cons_zero]))
  first | (refine wpAnyH_take (i := 4) (v := ?_) rfl ?_ ?_ ?_ (fun _ _ _ h => h) (Or.inl ⟨?_, ?_⟩) ?_ ?_; rotate_left 1; (focus decide +kernel); (focus decide +kernel); (focus decide +kernel); (focus rfl); (focus (intro w hSw; (try dsimp only at hSw); go_simp; (try (with_reducible rfl)); done)); (focus assumption); (try simp only [Act.put, List.setIfInBounds_toArray, List.set_cons_zero, List.set_cons_succ, List.getElem_toArray, List.getElem_cons_succ, List.getElem_cons_zero])) | (refine wpAnyH_take (i := 4) (v := undef) rfl ?_ ?_ ?_ (fun _ _ _ h => h) (Or.inr ⟨?_, rfl⟩) ?_ ?_; (focus decide +kernel); (focus decide +kernel); (focus decide +kernel); (focus rfl); (focus assumption); (try simp only [Act.put, List.setIfInBounds_toArray, List.set_cons_zero, List.set_cons_succ, List.getElem_toArray, List.getElem_cons_succ, List.getElem_cons_zero])) | skip
  refine wpAnyH_done (by kernel_rfl) ?_ _
  clear st; have st := hHeld; clear hHeld
  go_wp2_with fail
  go_at_call 11
  refine (toSE (rd6_2_1 st) HL1.out).mono ?_
  rintro e w12 ⟨by1, rfl, oy1, lo, bel⟩
  have nex0y1 := (lim ox0).imp id (fun hx => (by omega : bx0 ≠ by1))
  have nex1y1 := (lim ox1).imp id (fun hx => (by omega : bx1 ≠ by1))
  have cby1 : w.heap.size ≤ by1 := Nat.le_trans (And.left st).size lo
  have nay1 : NA < by1 := Nat.lt_of_lt_of_le (World.block_lt_of_cell? _ _ st.2.1) lo
  replace st := next6_2 bel st
  replace ox0 := ox0.keep bel
  replace ox1 := ox1.keep bel
  clear bel
  clear lo
  go_wp2_with fail
  go_at_call 14
  refine (eqB ox1.rd oy1.rd).mono ?_
  rintro e w13 ⟨rfl, bel⟩
  replace st := next6_2 bel st
  replace ox0 := ox0.keep bel
  replace ox1 := ox1.keep bel
  replace oy1 := oy1.keep bel
  clear bel
  clear oy1
  go_wp2
  go_ret
  exact ⟨rfl, And.left st⟩

set_option maxRecDepth 100000 in
theorem lifted (os : Os) (started : os.Started) (H : Type) (enc : TypeId × Value → H) :
    ReturnsInHanded {} Try.checked os 3 .any (Rows.fnExactKeepsCountSpec.pre6 enc Try.prog Try.f3 Rows.fnExactKeepsCountRow.domain false) (Rows.fnExactKeepsCountSpec.post enc Try.prog Try.f3 false true false false) := by
  refine returnsInHanded_of_change (C := Try.checked) own started (by kernel_rfl) Try.func3
    (ChangeSpec.witness6 (enc := enc) (C := Try.checked) false ⟨#[], #[.agg #[.int .i64 0, .int .i64 0, .slice none 0 0], .slice none 0 0, .int .i64 0], []⟩ 8 (by kernel_rfl) (by kernel_rfl) (by kernel_rfl) (by kernel_rfl)) ?_
  intro W base args ds gs before hval0 hW hcnd hreach
  have hval : ∀ (j : Nat) t v, Try.f3.params[j]? = some t → args[j]? = some v → Value.okWide Try.prog W .any base t v := hval0
  have hW' := hW
  obtain ⟨p, q, hA0, hV, rfl, hfz, hnd⟩ := hW
  have hA : DataW.TrodAll enc Try.prog W 0 (fun _ => true) true Try.f3.params.toList args.toList ds p := hA0
  rw [Try.params3] at hA hval
  obtain ⟨v0, vs0, d0, ds0, p0, q0, hargs, rfl, rfl, h0, r0⟩ := trodAll_cons hA
  obtain ⟨v1, vs1, d1, ds1, p1, q1, rfl, rfl, rfl, h1, r1⟩ := trodAll_cons r0
  obtain ⟨v2, vs2, d2, ds2, p2, q2, rfl, rfl, rfl, h2, r2⟩ := trodAll_cons r1
  obtain ⟨rfl, rfl, rfl⟩ := trodAll_nil r2
  obtain rfl : args = #[v0, v1, v2] := by cases args; simp_all
  obtain ⟨rfl, rfl⟩ := trodVars_none hV
  have k0 := h0
  have lt0 : ∀ x ∈ p0, x.block < W.heap.size := by obtain ⟨m, hm⟩ := k0; exact DataW.trod_lt m _ _ _ hm
  obtain ⟨c00, c01, c02, y00, y01, y02, m0, rfl, hd0, hp0, t00, t01, t02⟩ := open_agg3 Try.underlying24 (by kernel_rfl) (by kernel_rfl) (hval 0 24 v0 rfl rfl) h0
  obtain ⟨a00, e00, _, w00⟩ := DataW.trod_int Try.underlying2 t00
  simp at e00
  subst e00
  obtain ⟨a01, e01, _, w01⟩ := DataW.trod_int Try.underlying2 t01
  simp at e01
  subst e01
  obtain ⟨a0, len0, cap0, e0⟩ := slice_form Try.underlying22 t02
  simp at e0
  subst e0
  obtain ⟨b0, z0, _, w0⟩ : ∃ b zs, zs.length = len0 ∧ Rd W b (.slice a0 len0 cap0) zs := rd_open Try.underlying22 Try.underlying2 (by kernel_rfl) t02
  have k1 := h1
  have lt1 : ∀ x ∈ p1, x.block < W.heap.size := by obtain ⟨m, hm⟩ := k1; exact DataW.trod_lt m _ _ _ hm
  obtain ⟨a1, len1, cap1, rfl⟩ := okWide_slice Try.underlying22 (hval 1 22 v1 rfl rfl)
  obtain ⟨b1, z1, _, w1⟩ : ∃ b zs, zs.length = len1 ∧ Rd W b (.slice a1 len1 cap1) zs := by
    obtain ⟨fuel, hf⟩ := h1
    exact rd_open Try.underlying22 Try.underlying2 (by kernel_rfl) (by simpa [Value.cells] using hf)
  obtain ⟨a2, rfl, rfl, rfl, w2⟩ := open_int Try.underlying2 (hval 2 2 v2 rfl rfl) h2
  clear hA0 hval0
  refine (walk w00 w01 w0 w1 w2).mono fun e W' ⟨he, bel⟩ => ?_
  subst he
  exact ⟨_, rfl, _, _, _, [], _, [], hW', trodAll_mk1 (shut_bool Try.underlying4 _), (trodAll_cons_mk (Below.trod laidOut (by kernel_rfl) (of_decide_eq_true (by kernel_rfl)) k0 bel lt0) (trodAll_cons_mk (Below.trod laidOut (by kernel_rfl) (of_decide_eq_true (by kernel_rfl)) k1 bel lt1) (trodAll_cons_mk (shut_int Try.underlying2 w2) (trodAll_mk0)))), rfl, bel.frame _, fun h => by cases h⟩

theorem over : Rows.fnExactKeepsCountRow.holds Try.pinned (OpenSpec.ofChange Rows.fnExactKeepsCountSpec) :=
  OpenClaim.holds_of_wide 3 Try.f3 rfl rfl rfl rfl rfl rfl rfl ⟨rfl, rfl, rfl, rfl, rfl⟩ rfl rfl rfl rfl rfl (by kernel_rfl) Try.func3 (by unfold joinedFacts; rw [MayA.fact, MayB.fact, MayC.fact]; kernel_rfl)
    (of_decide_eq_true (by kernel_rfl)) (by unfold Func.isWrapper; rw [if_neg (of_decide_eq_false (by kernel_rfl))]; exact ⟨rfl, rfl⟩)
    (fun os started H enc _ => lifted os started H enc)

theorem proved : Rows.FnExactKeepsCountSaid := over
end Go.Proofs.Ytjeoccjemkdbiaa.lawKeepsCount
