/- FarAhead of both sides. -/
import Derived.Test.YtonghkooncmjgaaOnc
import Derived.Test.YtonghkooncmjgaaClone
import Derived.WalkSpells
import Derived.Lib.LazyBuf
namespace Go.Proofs.Ytonghkooncmjgaa.Far
open Go.RowKit Go.Proofs.Ytonghkooncmjgaa.Rd Go.Proofs.Ytonghkooncmjgaa.Help Go.Proofs.Ytonghkooncmjgaa.App Go.Proofs.Ytonghkooncmjgaa.Ring Go.Proofs.Ytonghkooncmjgaa.Small Go.Proofs.Ytonghkooncmjgaa.Keep Go.Proofs.Ytonghkooncmjgaa.Num Go.Proofs.Ytonghkooncmjgaa.Rule Go.Proofs.Ytonghkooncmjgaa.Step Go.Proofs.Ytonghkooncmjgaa.Aro Go.Proofs.Ytonghkooncmjgaa.Onc Go.Proofs.Ytonghkooncmjgaa.IsSum
set_option linter.unusedVariables false
set_option linter.unusedSimpArgs false

/-- The ring behind so many steps, doubled again and again. -/
def farN (n : Nat) (s : Int) : Nat → Int → List Int → List Int → List Int
  | 0, _, A, _ => A
  | k + 1, T, A, B => if 0 < T then farN n s k (T / 2) (if T % 2 = 1 then aro A B n s else A) (aro B B n s) else A
theorem farN_len {n : Nat} {s : Int} (k : Nat) : ∀ (T : Int) (A B : List Int), A.length = n → B.length = n → (farN n s k T A B).length = n := by
  induction k with
  | zero => intro T A B h _; exact h
  | succ k ih =>
    intro T A B h1 h2
    simp only [farN]
    split
    · refine ih _ _ _ ?_ (aro_len _ _ _ _)
      split
      · exact aro_len _ _ _ _
      · exact h1
    · exact h1
def okF (s r : Int) (tbl zs : List Int) (M : Int) : Bool := (validB s r tbl && isSumB s r tbl) && (isRingB zs s && (decide (2 * r + 1 ≤ (zs.length : Int)) && decide (0 ≤ M ∧ M ≤ 1000000000000)))
def farL (s r : Int) (tbl zs : List Int) (M : Int) : List Int := farN zs.length s 40 M zs (onL (Al.alo tbl s (2 * r + 1).toNat) r.toNat zs.length (2 * r + 1).toNat)
theorem is_ring {zs : List Int} {s : Int} (hs : 2 ≤ s ∧ s ≤ 3) : isRingB zs s = ringB zs s := by unfold isRingB; rw [decide_eq_true hs, Bool.true_and]
theorem ring_parts {zs : List Int} {s : Int} (h : isRingB zs s = true) : allB zs s = true ∧ 1 ≤ zs.length ∧ zs.length ≤ 64 := by
  simp only [isRingB, ringB, Bool.and_eq_true, decide_eq_true_eq] at h
  exact ⟨h.2.1, h.2.2.1, h.2.2.2⟩
theorem half {T : Int} (h : 0 ≤ T) : T.tmod 2 = T % 2 ∧ T.tdiv 2 = T / 2 := ⟨Int.tmod_eq_emod_of_nonneg h, Int.tdiv_eq_ediv_of_nonneg h⟩

set_option maxHeartbeats 2000000 in
theorem specNo1 {w : World} {s r M : Int} {bt br : Nat} {vt vr : Value} {tbl zs : List Int} (ht : Rd w bt vt tbl) (hr : Rd w br vr zs) (hv : validB s r tbl = false) :
    Calls Try.prog 51 #[ruleV s r vt, vr, .int .i64 M] w fun e w' => ∃ v' b', e = .returned (.tuple #[v', .bool false]) ∧
      Own 2 w' b' v' ([]) ∧ w.heap.size ≤ b' ∧ Below w.heap.size w w' := by
  have HT := hid ht
  have HR := hid hr
  obtain ⟨aot, capt, rfl, hct, hmt, _⟩ := ht
  obtain ⟨aor, capr, rfl, hcr, hmr, _⟩ := hr
  have hlz : zs.length ≤ 9223372036854775807 := by unfold maxLen at hmr; omega
  clear hct hmt hcr hmr
  have HV := hid hv
  clear hv
  go_enter Try.func51, Try.ntmps51
  go_wp2_with fail
  obtain ⟨w1, hW⟩ : ∃ w1, w1 = w.alloc (Obj.cells #[.int .i64 s, .int .i64 r, (Value.slice aot tbl.length capt)] 33) := ⟨_, rfl⟩
  obtain ⟨N, hN⟩ : ∃ N, N = w.heap.size := ⟨_, rfl⟩
  have st : Below w.heap.size w w1 ∧ w1.cell? ⟨N, 0, none⟩ = some (.int .i64 s) ∧ w1.cell? ⟨N, 1, none⟩ = some (.int .i64 r) ∧ w1.cell? ⟨N, 2, none⟩ = some (Value.slice aot tbl.length capt) ∧ Rd w1 bt (Value.slice aot tbl.length capt) tbl ∧ Rd w1 br (Value.slice aor zs.length capr) zs ∧ w.heap.size ≤ w1.heap.size := by
    rw [hW, hN]
    exact ⟨below1 _ _, by simp, by simp, by simp, HT.out.keep (below1 _ _) (Nat.le_refl _), HR.out.keep (below1 _ _) (Nat.le_refl _), by simp⟩
  simp only [← hW, ← hN]
  clear hW hN
  go_at_call 99
  refine (Spec.is (rd3_2_0 st) st.2.1 st.2.2.1 st.2.2.2.1).mono ?_
  rw [HV.out]
  rintro e w2 ⟨rfl, m, hw2⟩
  have bel : Below w1.heap.size w1 w2 := by rw [hw2]; exact Spec.below_drewN' _ _ _
  replace st := next3_2 bel st
  clear bel hw2
  go_wp2
  go_ret2
  refine ⟨_, w.heap.size, rfl, ?_, Nat.le_refl _, st.1⟩
  exact Own.nil _ _ _

set_option maxHeartbeats 2000000 in
theorem specNo2 {w : World} {s r M : Int} {bt br : Nat} {vt vr : Value} {tbl zs : List Int} (ht : Rd w bt vt tbl) (hr : Rd w br vr zs) (hv : validB s r tbl = true) (hri : ringB zs s = false) :
    Calls Try.prog 51 #[ruleV s r vt, vr, .int .i64 M] w fun e w' => ∃ v' b', e = .returned (.tuple #[v', .bool false]) ∧
      Own 2 w' b' v' ([]) ∧ w.heap.size ≤ b' ∧ Below w.heap.size w w' := by
  have HT := hid ht
  have HR := hid hr
  obtain ⟨aot, capt, rfl, hct, hmt, _⟩ := ht
  obtain ⟨aor, capr, rfl, hcr, hmr, _⟩ := hr
  have hlz : zs.length ≤ 9223372036854775807 := by unfold maxLen at hmr; omega
  clear hct hmt hcr hmr
  have HV := hid hv
  obtain ⟨hs, hrr, hlen, ha⟩ := Al.valid_parts hv
  have HS := hid hs
  have HRr := hid hrr
  obtain ⟨r1, r2⟩ := hrr
  clear hlen ha
  have HRI := hid hri
  clear hv hri
  go_enter Try.func51, Try.ntmps51
  go_wp2_with fail
  obtain ⟨w1, hW⟩ : ∃ w1, w1 = w.alloc (Obj.cells #[.int .i64 s, .int .i64 r, (Value.slice aot tbl.length capt)] 33) := ⟨_, rfl⟩
  obtain ⟨N, hN⟩ : ∃ N, N = w.heap.size := ⟨_, rfl⟩
  have st : Below w.heap.size w w1 ∧ w1.cell? ⟨N, 0, none⟩ = some (.int .i64 s) ∧ w1.cell? ⟨N, 1, none⟩ = some (.int .i64 r) ∧ w1.cell? ⟨N, 2, none⟩ = some (Value.slice aot tbl.length capt) ∧ Rd w1 bt (Value.slice aot tbl.length capt) tbl ∧ Rd w1 br (Value.slice aor zs.length capr) zs ∧ w.heap.size ≤ w1.heap.size := by
    rw [hW, hN]
    exact ⟨below1 _ _, by simp, by simp, by simp, HT.out.keep (below1 _ _) (Nat.le_refl _), HR.out.keep (below1 _ _) (Nat.le_refl _), by simp⟩
  simp only [← hW, ← hN]
  clear hW hN
  go_at_call 99
  refine (Spec.is (rd3_2_0 st) st.2.1 st.2.2.1 st.2.2.2.1).mono ?_
  rw [HV.out]
  rintro e w2 ⟨rfl, m, hw2⟩
  have bel : Below w1.heap.size w1 w2 := by rw [hw2]; exact Spec.below_drewN' _ _ _
  replace st := next3_2 bel st
  clear bel hw2
  go_wp2_with fail
  go_at_call 88
  refine (specL02Ring (rd3_2_1 st) HS.out).mono ?_
  rw [HRI.out]
  rintro e w2' ⟨rfl, rfl⟩
  go_wp2
  go_ret2
  refine ⟨_, w.heap.size, rfl, ?_, Nat.le_refl _, st.1⟩
  exact Own.nil _ _ _

set_option maxHeartbeats 2000000 in
theorem specNo3 {w : World} {s r M : Int} {bt br : Nat} {vt vr : Value} {tbl zs : List Int} (ht : Rd w bt vt tbl) (hr : Rd w br vr zs) (hv : validB s r tbl = true) (hri : ringB zs s = true) (hw : (zs.length : Int) < 2 * r + 1) :
    Calls Try.prog 51 #[ruleV s r vt, vr, .int .i64 M] w fun e w' => ∃ v' b', e = .returned (.tuple #[v', .bool false]) ∧
      Own 2 w' b' v' ([]) ∧ w.heap.size ≤ b' ∧ Below w.heap.size w w' := by
  have HT := hid ht
  have HR := hid hr
  obtain ⟨aot, capt, rfl, hct, hmt, _⟩ := ht
  obtain ⟨aor, capr, rfl, hcr, hmr, _⟩ := hr
  have hlz : zs.length ≤ 9223372036854775807 := by unfold maxLen at hmr; omega
  clear hct hmt hcr hmr
  have HV := hid hv
  obtain ⟨hs, hrr, hlen, ha⟩ := Al.valid_parts hv
  have HS := hid hs
  have HRr := hid hrr
  obtain ⟨r1, r2⟩ := hrr
  clear hlen ha
  have HRI := hid hri
  clear hv hri
  go_enter Try.func51, Try.ntmps51
  go_wp2_with fail
  obtain ⟨w1, hW⟩ : ∃ w1, w1 = w.alloc (Obj.cells #[.int .i64 s, .int .i64 r, (Value.slice aot tbl.length capt)] 33) := ⟨_, rfl⟩
  obtain ⟨N, hN⟩ : ∃ N, N = w.heap.size := ⟨_, rfl⟩
  have st : Below w.heap.size w w1 ∧ w1.cell? ⟨N, 0, none⟩ = some (.int .i64 s) ∧ w1.cell? ⟨N, 1, none⟩ = some (.int .i64 r) ∧ w1.cell? ⟨N, 2, none⟩ = some (Value.slice aot tbl.length capt) ∧ Rd w1 bt (Value.slice aot tbl.length capt) tbl ∧ Rd w1 br (Value.slice aor zs.length capr) zs ∧ w.heap.size ≤ w1.heap.size := by
    rw [hW, hN]
    exact ⟨below1 _ _, by simp, by simp, by simp, HT.out.keep (below1 _ _) (Nat.le_refl _), HR.out.keep (below1 _ _) (Nat.le_refl _), by simp⟩
  simp only [← hW, ← hN]
  clear hW hN
  go_at_call 99
  refine (Spec.is (rd3_2_0 st) st.2.1 st.2.2.1 st.2.2.2.1).mono ?_
  rw [HV.out]
  rintro e w2 ⟨rfl, m, hw2⟩
  have bel : Below w1.heap.size w1 w2 := by rw [hw2]; exact Spec.below_drewN' _ _ _
  replace st := next3_2 bel st
  clear bel hw2
  go_wp2_with fail
  go_at_call 88
  refine (specL02Ring (rd3_2_1 st) HS.out).mono ?_
  rw [HRI.out]
  rintro e w2' ⟨rfl, rfl⟩
  go_wp2_with fail
  go_at_call 112
  refine (Terms.wide3 st.2.2.1 HRr.out).mono ?_
  rintro e w2' ⟨rfl, rfl⟩
  go_wp2
  go_ret2
  refine ⟨_, w.heap.size, rfl, ?_, Nat.le_refl _, st.1⟩
  exact Own.nil _ _ _

set_option maxHeartbeats 2000000 in
theorem specNo4 {w : World} {s r M : Int} {bt br : Nat} {vt vr : Value} {tbl zs : List Int} (ht : Rd w bt vt tbl) (hr : Rd w br vr zs) (hv : validB s r tbl = true) (hri : ringB zs s = true) (hw : ¬ (zs.length : Int) < 2 * r + 1) (hM : decide (0 ≤ M ∧ M ≤ 1000000000000) = false) :
    Calls Try.prog 51 #[ruleV s r vt, vr, .int .i64 M] w fun e w' => ∃ v' b', e = .returned (.tuple #[v', .bool false]) ∧
      Own 2 w' b' v' ([]) ∧ w.heap.size ≤ b' ∧ Below w.heap.size w w' := by
  have HT := hid ht
  have HR := hid hr
  obtain ⟨aot, capt, rfl, hct, hmt, _⟩ := ht
  obtain ⟨aor, capr, rfl, hcr, hmr, _⟩ := hr
  have hlz : zs.length ≤ 9223372036854775807 := by unfold maxLen at hmr; omega
  clear hct hmt hcr hmr
  have HV := hid hv
  obtain ⟨hs, hrr, hlen, ha⟩ := Al.valid_parts hv
  have HS := hid hs
  have HRr := hid hrr
  obtain ⟨r1, r2⟩ := hrr
  clear hlen ha
  have HRI := hid hri
  have HM := hid hM
  clear hv hri hM
  go_enter Try.func51, Try.ntmps51
  go_wp2_with fail
  obtain ⟨w1, hW⟩ : ∃ w1, w1 = w.alloc (Obj.cells #[.int .i64 s, .int .i64 r, (Value.slice aot tbl.length capt)] 33) := ⟨_, rfl⟩
  obtain ⟨N, hN⟩ : ∃ N, N = w.heap.size := ⟨_, rfl⟩
  have st : Below w.heap.size w w1 ∧ w1.cell? ⟨N, 0, none⟩ = some (.int .i64 s) ∧ w1.cell? ⟨N, 1, none⟩ = some (.int .i64 r) ∧ w1.cell? ⟨N, 2, none⟩ = some (Value.slice aot tbl.length capt) ∧ Rd w1 bt (Value.slice aot tbl.length capt) tbl ∧ Rd w1 br (Value.slice aor zs.length capr) zs ∧ w.heap.size ≤ w1.heap.size := by
    rw [hW, hN]
    exact ⟨below1 _ _, by simp, by simp, by simp, HT.out.keep (below1 _ _) (Nat.le_refl _), HR.out.keep (below1 _ _) (Nat.le_refl _), by simp⟩
  simp only [← hW, ← hN]
  clear hW hN
  go_at_call 99
  refine (Spec.is (rd3_2_0 st) st.2.1 st.2.2.1 st.2.2.2.1).mono ?_
  rw [HV.out]
  rintro e w2 ⟨rfl, m, hw2⟩
  have bel : Below w1.heap.size w1 w2 := by rw [hw2]; exact Spec.below_drewN' _ _ _
  replace st := next3_2 bel st
  clear bel hw2
  go_wp2_with fail
  go_at_call 88
  refine (specL02Ring (rd3_2_1 st) HS.out).mono ?_
  rw [HRI.out]
  rintro e w2' ⟨rfl, rfl⟩
  go_wp2_with fail
  go_at_call 112
  refine (Terms.wide3 st.2.2.1 HRr.out).mono ?_
  rintro e w2' ⟨rfl, rfl⟩
  go_wp2_with fail
  go_at_call 113
  refine (inB (n := M) (lo := 0) (hi := 1000000000000)).mono ?_
  rw [HM.out]
  rintro e w2' ⟨rfl, rfl⟩
  go_wp2
  go_ret2
  refine ⟨_, w.heap.size, rfl, ?_, Nat.le_refl _, st.1⟩
  exact Own.nil _ _ _

set_option maxHeartbeats 2000000 in
theorem specNo5 {w : World} {s r M : Int} {bt br : Nat} {vt vr : Value} {tbl zs : List Int} (ht : Rd w bt vt tbl) (hr : Rd w br vr zs) (hv : validB s r tbl = true) (hri : ringB zs s = true) (hw : ¬ (zs.length : Int) < 2 * r + 1) (hM : decide (0 ≤ M ∧ M ≤ 1000000000000) = true) (hq : isSumB s r tbl = false) :
    Calls Try.prog 51 #[ruleV s r vt, vr, .int .i64 M] w fun e w' => ∃ v' b', e = .returned (.tuple #[v', .bool false]) ∧
      Own 2 w' b' v' ([]) ∧ w.heap.size ≤ b' ∧ Below w.heap.size w w' := by
  have HT := hid ht
  have HR := hid hr
  obtain ⟨aot, capt, rfl, hct, hmt, _⟩ := ht
  obtain ⟨aor, capr, rfl, hcr, hmr, _⟩ := hr
  have hlz : zs.length ≤ 9223372036854775807 := by unfold maxLen at hmr; omega
  clear hct hmt hcr hmr
  have HV := hid hv
  obtain ⟨hs, hrr, hlen, ha⟩ := Al.valid_parts hv
  have HS := hid hs
  have HRr := hid hrr
  obtain ⟨r1, r2⟩ := hrr
  clear hlen ha
  have HRI := hid hri
  have HM := hid hM
  obtain ⟨QB, hQB⟩ : ∃ q, q = isSumB s r tbl := ⟨_, rfl⟩
  obtain ⟨RS, hRS⟩ : ∃ q, q = if isSumB s r tbl = true then Al.alo tbl s (2 * r + 1).toNat else [] := ⟨_, rfl⟩
  have HQB := hid hQB
  have HRS := hid hRS
  have hQF : QB = false := by rw [hQB, hq]
  have HQF := hid hQF
  clear hv hri hM hQB hRS hQF hq
  go_enter Try.func51, Try.ntmps51
  go_wp2_with fail
  obtain ⟨w1, hW⟩ : ∃ w1, w1 = w.alloc (Obj.cells #[.int .i64 s, .int .i64 r, (Value.slice aot tbl.length capt)] 33) := ⟨_, rfl⟩
  obtain ⟨N, hN⟩ : ∃ N, N = w.heap.size := ⟨_, rfl⟩
  have st : Below w.heap.size w w1 ∧ w1.cell? ⟨N, 0, none⟩ = some (.int .i64 s) ∧ w1.cell? ⟨N, 1, none⟩ = some (.int .i64 r) ∧ w1.cell? ⟨N, 2, none⟩ = some (Value.slice aot tbl.length capt) ∧ Rd w1 bt (Value.slice aot tbl.length capt) tbl ∧ Rd w1 br (Value.slice aor zs.length capr) zs ∧ w.heap.size ≤ w1.heap.size := by
    rw [hW, hN]
    exact ⟨below1 _ _, by simp, by simp, by simp, HT.out.keep (below1 _ _) (Nat.le_refl _), HR.out.keep (below1 _ _) (Nat.le_refl _), by simp⟩
  simp only [← hW, ← hN]
  clear hW hN
  go_at_call 99
  refine (Spec.is (rd3_2_0 st) st.2.1 st.2.2.1 st.2.2.2.1).mono ?_
  rw [HV.out]
  rintro e w2 ⟨rfl, m, hw2⟩
  have bel : Below w1.heap.size w1 w2 := by rw [hw2]; exact Spec.below_drewN' _ _ _
  replace st := next3_2 bel st
  clear bel hw2
  go_wp2_with fail
  go_at_call 88
  refine (specL02Ring (rd3_2_1 st) HS.out).mono ?_
  rw [HRI.out]
  rintro e w2' ⟨rfl, rfl⟩
  go_wp2_with fail
  go_at_call 112
  refine (Terms.wide3 st.2.2.1 HRr.out).mono ?_
  rintro e w2' ⟨rfl, rfl⟩
  go_wp2_with fail
  go_at_call 113
  refine (inB (n := M) (lo := 0) (hi := 1000000000000)).mono ?_
  rw [HM.out]
  rintro e w2' ⟨rfl, rfl⟩
  go_wp2_with fail
  go_at_call 114
  refine (Terms.termsX (qb := QB) (rs := RS) HQB.out HRS.out (rd3_2_0 st) st.2.1 st.2.2.1 st.2.2.2.1 HV.out).mono ?_
  rintro e w3 ⟨vT, bT, rfl, oT, loT, bel⟩
  have loT' := Nat.le_trans st.2.2.2.2.2.2 loT
  replace st := next3_2 bel st
  clear bel
  rw [HQF.out]
  rcases oT.form with ⟨rfl, _⟩ | ⟨c, rfl, _⟩
  all_goals
    clear oT
    go_wp2
    go_ret2
    refine ⟨_, w.heap.size, rfl, ?_, Nat.le_refl _, st.1⟩
    exact Own.nil _ _ _

set_option maxHeartbeats 2000000 in
theorem implNo1 {w : World} {s r M : Int} {bt br : Nat} {vt vr : Value} {tbl zs : List Int} (ht : Rd w bt vt tbl) (hr : Rd w br vr zs) (had : (validB s r tbl && isSumB s r tbl) = false) :
    Calls Try.prog 52 #[ruleV s r vt, vr, .int .i64 M] w fun e w' => ∃ v' b', e = .returned (.tuple #[v', .bool false]) ∧
      Own 2 w' b' v' ([]) ∧ w.heap.size ≤ b' ∧ Below w.heap.size w w' := by
  have HT := hid ht
  have HR := hid hr
  obtain ⟨aot, capt, rfl, hct, hmt, _⟩ := ht
  obtain ⟨aor, capr, rfl, hcr, hmr, _⟩ := hr
  have hlz : zs.length ≤ 9223372036854775807 := by unfold maxLen at hmr; omega
  clear hct hmt hcr hmr
  have HAD := hid had
  clear had
  go_enter Try.func52, Try.ntmps52
  go_wp2_with fail
  obtain ⟨w1, hW⟩ : ∃ w1, w1 = w.alloc (Obj.cells #[.int .i64 s, .int .i64 r, (Value.slice aot tbl.length capt)] 33) := ⟨_, rfl⟩
  obtain ⟨N, hN⟩ : ∃ N, N = w.heap.size := ⟨_, rfl⟩
  have st : Below w.heap.size w w1 ∧ w1.cell? ⟨N, 0, none⟩ = some (.int .i64 s) ∧ w1.cell? ⟨N, 1, none⟩ = some (.int .i64 r) ∧ w1.cell? ⟨N, 2, none⟩ = some (Value.slice aot tbl.length capt) ∧ Rd w1 bt (Value.slice aot tbl.length capt) tbl ∧ Rd w1 br (Value.slice aor zs.length capr) zs ∧ w.heap.size ≤ w1.heap.size := by
    rw [hW, hN]
    exact ⟨below1 _ _, by simp, by simp, by simp, HT.out.keep (below1 _ _) (Nat.le_refl _), HR.out.keep (below1 _ _) (Nat.le_refl _), by simp⟩
  simp only [← hW, ← hN]
  clear hW hN
  go_at_call 117
  refine (implIsAdding (rd3_2_0 st)).mono ?_
  rw [HAD.out]
  rintro e w2 ⟨rfl, bel⟩
  replace st := next3_2 bel st
  clear bel
  go_wp2
  go_ret2
  refine ⟨_, w.heap.size, rfl, ?_, Nat.le_refl _, st.1⟩
  exact Own.nil _ _ _

set_option maxHeartbeats 2000000 in
theorem implNo2 {w : World} {s r M : Int} {bt br : Nat} {vt vr : Value} {tbl zs : List Int} (ht : Rd w bt vt tbl) (hr : Rd w br vr zs) (hv : validB s r tbl = true) (had : (validB s r tbl && isSumB s r tbl) = true) (hrb : isRingB zs s = false) :
    Calls Try.prog 52 #[ruleV s r vt, vr, .int .i64 M] w fun e w' => ∃ v' b', e = .returned (.tuple #[v', .bool false]) ∧
      Own 2 w' b' v' ([]) ∧ w.heap.size ≤ b' ∧ Below w.heap.size w w' := by
  have HT := hid ht
  have HR := hid hr
  obtain ⟨aot, capt, rfl, hct, hmt, _⟩ := ht
  obtain ⟨aor, capr, rfl, hcr, hmr, _⟩ := hr
  have hlz : zs.length ≤ 9223372036854775807 := by unfold maxLen at hmr; omega
  clear hct hmt hcr hmr
  obtain ⟨hs, hrr, hlen, ha⟩ := Al.valid_parts hv
  have HS := hid hs
  have HRr := hid hrr
  obtain ⟨r1, r2⟩ := hrr
  clear hlen ha
  have HAD := hid had
  have HRB := hid hrb
  clear hv had hrb
  go_enter Try.func52, Try.ntmps52
  go_wp2_with fail
  obtain ⟨w1, hW⟩ : ∃ w1, w1 = w.alloc (Obj.cells #[.int .i64 s, .int .i64 r, (Value.slice aot tbl.length capt)] 33) := ⟨_, rfl⟩
  obtain ⟨N, hN⟩ : ∃ N, N = w.heap.size := ⟨_, rfl⟩
  have st : Below w.heap.size w w1 ∧ w1.cell? ⟨N, 0, none⟩ = some (.int .i64 s) ∧ w1.cell? ⟨N, 1, none⟩ = some (.int .i64 r) ∧ w1.cell? ⟨N, 2, none⟩ = some (Value.slice aot tbl.length capt) ∧ Rd w1 bt (Value.slice aot tbl.length capt) tbl ∧ Rd w1 br (Value.slice aor zs.length capr) zs ∧ w.heap.size ≤ w1.heap.size := by
    rw [hW, hN]
    exact ⟨below1 _ _, by simp, by simp, by simp, HT.out.keep (below1 _ _) (Nat.le_refl _), HR.out.keep (below1 _ _) (Nat.le_refl _), by simp⟩
  simp only [← hW, ← hN]
  clear hW hN
  go_at_call 117
  refine (implIsAdding (rd3_2_0 st)).mono ?_
  rw [HAD.out]
  rintro e w2 ⟨rfl, bel⟩
  replace st := next3_2 bel st
  clear bel
  go_wp2_with fail
  go_at_call 118
  refine (implIsRing (rd3_2_1 st)).mono ?_
  rw [HRB.out]
  rintro e w3 ⟨rfl, bel⟩
  replace st := next3_2 bel st
  clear bel
  go_wp2
  go_ret2
  refine ⟨_, w.heap.size, rfl, ?_, Nat.le_refl _, st.1⟩
  exact Own.nil _ _ _

set_option maxHeartbeats 2000000 in
theorem implNo3 {w : World} {s r M : Int} {bt br : Nat} {vt vr : Value} {tbl zs : List Int} (ht : Rd w bt vt tbl) (hr : Rd w br vr zs) (hv : validB s r tbl = true) (had : (validB s r tbl && isSumB s r tbl) = true) (hrb : isRingB zs s = true) (hw : (zs.length : Int) < 2 * r + 1) :
    Calls Try.prog 52 #[ruleV s r vt, vr, .int .i64 M] w fun e w' => ∃ v' b', e = .returned (.tuple #[v', .bool false]) ∧
      Own 2 w' b' v' ([]) ∧ w.heap.size ≤ b' ∧ Below w.heap.size w w' := by
  have HT := hid ht
  have HR := hid hr
  obtain ⟨aot, capt, rfl, hct, hmt, _⟩ := ht
  obtain ⟨aor, capr, rfl, hcr, hmr, _⟩ := hr
  have hlz : zs.length ≤ 9223372036854775807 := by unfold maxLen at hmr; omega
  clear hct hmt hcr hmr
  obtain ⟨hs, hrr, hlen, ha⟩ := Al.valid_parts hv
  have HS := hid hs
  have HRr := hid hrr
  obtain ⟨r1, r2⟩ := hrr
  clear hlen ha
  have HAD := hid had
  have HRB := hid hrb
  clear hv had hrb
  go_enter Try.func52, Try.ntmps52
  go_wp2_with fail
  obtain ⟨w1, hW⟩ : ∃ w1, w1 = w.alloc (Obj.cells #[.int .i64 s, .int .i64 r, (Value.slice aot tbl.length capt)] 33) := ⟨_, rfl⟩
  obtain ⟨N, hN⟩ : ∃ N, N = w.heap.size := ⟨_, rfl⟩
  have st : Below w.heap.size w w1 ∧ w1.cell? ⟨N, 0, none⟩ = some (.int .i64 s) ∧ w1.cell? ⟨N, 1, none⟩ = some (.int .i64 r) ∧ w1.cell? ⟨N, 2, none⟩ = some (Value.slice aot tbl.length capt) ∧ Rd w1 bt (Value.slice aot tbl.length capt) tbl ∧ Rd w1 br (Value.slice aor zs.length capr) zs ∧ w.heap.size ≤ w1.heap.size := by
    rw [hW, hN]
    exact ⟨below1 _ _, by simp, by simp, by simp, HT.out.keep (below1 _ _) (Nat.le_refl _), HR.out.keep (below1 _ _) (Nat.le_refl _), by simp⟩
  simp only [← hW, ← hN]
  clear hW hN
  go_at_call 117
  refine (implIsAdding (rd3_2_0 st)).mono ?_
  rw [HAD.out]
  rintro e w2 ⟨rfl, bel⟩
  replace st := next3_2 bel st
  clear bel
  go_wp2_with fail
  go_at_call 118
  refine (implIsRing (rd3_2_1 st)).mono ?_
  rw [HRB.out]
  rintro e w3 ⟨rfl, bel⟩
  replace st := next3_2 bel st
  clear bel
  go_wp2_with fail
  go_at_call 102
  refine (shapeOf).mono ?_
  rintro e w4 ⟨rfl, bel⟩
  replace st := next3_2 bel st
  clear bel
  go_wp2_with fail
  go_at_call 103
  refine (wide HRr.out).mono ?_
  rintro e w5 ⟨rfl, bel⟩
  replace st := next3_2 bel st
  clear bel
  go_wp2
  go_ret2
  refine ⟨_, w.heap.size, rfl, ?_, Nat.le_refl _, st.1⟩
  exact Own.nil _ _ _

set_option maxHeartbeats 2000000 in
theorem implNo4 {w : World} {s r M : Int} {bt br : Nat} {vt vr : Value} {tbl zs : List Int} (ht : Rd w bt vt tbl) (hr : Rd w br vr zs) (hv : validB s r tbl = true) (had : (validB s r tbl && isSumB s r tbl) = true) (hrb : isRingB zs s = true) (hw : ¬ (zs.length : Int) < 2 * r + 1) (hM : decide (0 ≤ M ∧ M ≤ 1000000000000) = false) :
    Calls Try.prog 52 #[ruleV s r vt, vr, .int .i64 M] w fun e w' => ∃ v' b', e = .returned (.tuple #[v', .bool false]) ∧
      Own 2 w' b' v' ([]) ∧ w.heap.size ≤ b' ∧ Below w.heap.size w w' := by
  have HT := hid ht
  have HR := hid hr
  obtain ⟨aot, capt, rfl, hct, hmt, _⟩ := ht
  obtain ⟨aor, capr, rfl, hcr, hmr, _⟩ := hr
  have hlz : zs.length ≤ 9223372036854775807 := by unfold maxLen at hmr; omega
  clear hct hmt hcr hmr
  obtain ⟨hs, hrr, hlen, ha⟩ := Al.valid_parts hv
  have HS := hid hs
  have HRr := hid hrr
  obtain ⟨r1, r2⟩ := hrr
  clear hlen ha
  have HAD := hid had
  have HRB := hid hrb
  have HM := hid hM
  clear hv had hrb hM
  go_enter Try.func52, Try.ntmps52
  go_wp2_with fail
  obtain ⟨w1, hW⟩ : ∃ w1, w1 = w.alloc (Obj.cells #[.int .i64 s, .int .i64 r, (Value.slice aot tbl.length capt)] 33) := ⟨_, rfl⟩
  obtain ⟨N, hN⟩ : ∃ N, N = w.heap.size := ⟨_, rfl⟩
  have st : Below w.heap.size w w1 ∧ w1.cell? ⟨N, 0, none⟩ = some (.int .i64 s) ∧ w1.cell? ⟨N, 1, none⟩ = some (.int .i64 r) ∧ w1.cell? ⟨N, 2, none⟩ = some (Value.slice aot tbl.length capt) ∧ Rd w1 bt (Value.slice aot tbl.length capt) tbl ∧ Rd w1 br (Value.slice aor zs.length capr) zs ∧ w.heap.size ≤ w1.heap.size := by
    rw [hW, hN]
    exact ⟨below1 _ _, by simp, by simp, by simp, HT.out.keep (below1 _ _) (Nat.le_refl _), HR.out.keep (below1 _ _) (Nat.le_refl _), by simp⟩
  simp only [← hW, ← hN]
  clear hW hN
  go_at_call 117
  refine (implIsAdding (rd3_2_0 st)).mono ?_
  rw [HAD.out]
  rintro e w2 ⟨rfl, bel⟩
  replace st := next3_2 bel st
  clear bel
  go_wp2_with fail
  go_at_call 118
  refine (implIsRing (rd3_2_1 st)).mono ?_
  rw [HRB.out]
  rintro e w3 ⟨rfl, bel⟩
  replace st := next3_2 bel st
  clear bel
  go_wp2_with fail
  go_at_call 102
  refine (shapeOf).mono ?_
  rintro e w4 ⟨rfl, bel⟩
  replace st := next3_2 bel st
  clear bel
  go_wp2_with fail
  go_at_call 103
  refine (wide HRr.out).mono ?_
  rintro e w5 ⟨rfl, bel⟩
  replace st := next3_2 bel st
  clear bel
  go_wp2_with fail
  go_at_call 119
  refine (isCountB (n := M) (hi := 1000000000000)).mono ?_
  rw [HM.out]
  rintro e w2' ⟨rfl, rfl⟩
  go_wp2
  go_ret2
  refine ⟨_, w.heap.size, rfl, ?_, Nat.le_refl _, st.1⟩
  exact Own.nil _ _ _

set_option maxHeartbeats 8000000 in
theorem specOk {w : World} {s r M : Int} {bt br : Nat} {vt vr : Value} {tbl zs : List Int} (ht : Rd w bt vt tbl) (hr : Rd w br vr zs) (hv : validB s r tbl = true) (hrb : isRingB zs s = true) (hw : ¬ (zs.length : Int) < 2 * r + 1) (hM : decide (0 ≤ M ∧ M ≤ 1000000000000) = true) (hq : isSumB s r tbl = true) :
    Calls Try.prog 51 #[ruleV s r vt, vr, .int .i64 M] w fun e w' => ∃ v' b', e = .returned (.tuple #[v', .bool true]) ∧
      Own 2 w' b' v' (farL s r tbl zs M) ∧ w.heap.size ≤ b' ∧ Below w.heap.size w w' := by
  have HT := hid ht
  have HR := hid hr
  obtain ⟨aot, capt, rfl, hct, hmt, _⟩ := ht
  obtain ⟨aor, capr, rfl, hcr, hmr, _⟩ := hr
  have hlz : zs.length ≤ 9223372036854775807 := by unfold maxLen at hmr; omega
  clear hct hmt hcr hmr
  obtain ⟨hs, hrr, hlen, ha⟩ := Al.valid_parts hv
  obtain ⟨hza, hz1, hz2⟩ := ring_parts hrb
  obtain ⟨n, hn⟩ : ∃ n, n = zs.length := ⟨_, rfl⟩
  obtain ⟨L, hL⟩ : ∃ L, L = (2 * r + 1).toNat := ⟨_, rfl⟩
  obtain ⟨rn, hrn⟩ : ∃ q, q = r.toNat := ⟨_, rfl⟩
  obtain ⟨ON, hON⟩ : ∃ q, q = onL (Al.alo tbl s L) rn n L := ⟨_, rfl⟩
  obtain ⟨R, hRR⟩ : ∃ q, q = farL s r tbl zs M := ⟨_, rfl⟩
  rw [← hRR]
  have HRR : Hid (farN n s 40 M zs ON = R) := by simp only [Hid]; rw [hRR, farL, hON, ← hn, ← hL, ← hrn]
  have HON : Hid (ON.length = n) := by simp only [Hid]; rw [hON]; exact onL_len _ _ _ _
  have HZN : Hid (zs.length = n) := hn.symm
  have HMB : Hid (0 ≤ M ∧ M ≤ 1000000000000) := by simp only [Hid]; exact of_decide_eq_true hM
  have HN64 : Hid (1 ≤ n ∧ n ≤ 64) := by simp only [Hid]; omega
  have HS := hid hs
  have HRr := hid hrr
  have HM := hid hM
  have hge : ¬ (zs.length : Int) < 2 * r + 1 := hw
  obtain ⟨r1, r2⟩ := hrr
  have HRI : Hid (ringB zs s = true) := by simp only [Hid]; rw [← is_ring hs]; exact hrb
  have HV := hid hv
  obtain ⟨QB, hQB⟩ : ∃ q, q = isSumB s r tbl := ⟨_, rfl⟩
  obtain ⟨RS, hRS⟩ : ∃ q, q = if isSumB s r tbl = true then Al.alo tbl s (2 * r + 1).toNat else [] := ⟨_, rfl⟩
  have HQB := hid hQB
  have HRS := hid hRS
  have HQT : Hid (QB = true) := by simp only [Hid]; rw [hQB, hq]
  have HRA : Hid (RS = Al.alo tbl s L) := by simp only [Hid]; rw [hRS, if_pos hq, ← hL]
  have HRL : Hid (RS.length = L ∧ allB RS s = true) := by
    simp only [Hid]; rw [hRS, if_pos hq, ← hL]
    rw [← hL] at hlen
    exact ⟨Al.alo_length _ _ _, Al.alo_all hs ha hlen L (Nat.le_refl _)⟩
  have HRN : Hid (r = (rn : Int)) := by simp only [Hid]; omega
  have HLN : Hid (rn ≤ 2 ∧ L = 2 * rn + 1 ∧ L ≤ n ∧ n ≤ 64) := by simp only [Hid]; omega
  have HONE := hid hON
  have hlen2 : 1 ≤ zs.length ∧ zs.length ≤ 1000000000 := ⟨hz1, by omega⟩
  obtain ⟨l1, l2⟩ := hlen2
  clear hv hlen ha hza hz1 hz2 hL hrn hON hRR hQB hRS hq hM hs hn
  go_enter Try.func51, Try.ntmps51
  go_wp2_with fail
  obtain ⟨w1, hW⟩ : ∃ w1, w1 = w.alloc (Obj.cells #[.int .i64 s, .int .i64 r, (Value.slice aot tbl.length capt)] 33) := ⟨_, rfl⟩
  obtain ⟨N, hN⟩ : ∃ N, N = w.heap.size := ⟨_, rfl⟩
  have st : Below w.heap.size w w1 ∧ w1.cell? ⟨N, 0, none⟩ = some (.int .i64 s) ∧ w1.cell? ⟨N, 1, none⟩ = some (.int .i64 r) ∧ w1.cell? ⟨N, 2, none⟩ = some (Value.slice aot tbl.length capt) ∧ Rd w1 bt (Value.slice aot tbl.length capt) tbl ∧ Rd w1 br (Value.slice aor zs.length capr) zs ∧ w.heap.size ≤ w1.heap.size := by
    rw [hW, hN]
    exact ⟨below1 _ _, by simp, by simp, by simp, HT.out.keep (below1 _ _) (Nat.le_refl _), HR.out.keep (below1 _ _) (Nat.le_refl _), by simp⟩
  simp only [← hW, ← hN]
  clear hW hN
  go_at_call 99
  refine (Spec.is (rd3_2_0 st) st.2.1 st.2.2.1 st.2.2.2.1).mono ?_
  rw [HV.out]
  rintro e w2 ⟨rfl, m, hw2⟩
  have bel : Below w1.heap.size w1 w2 := by rw [hw2]; exact Spec.below_drewN' _ _ _
  replace st := next3_2 bel st
  clear bel hw2
  go_wp2_with fail
  go_at_call 88
  refine (specL02Ring (rd3_2_1 st) HS.out).mono ?_
  rw [HRI.out]
  rintro e w2' ⟨rfl, rfl⟩
  go_wp2_with fail
  go_at_call 112
  refine (Terms.wide3 st.2.2.1 HRr.out).mono ?_
  rintro e w2' ⟨rfl, rfl⟩
  go_wp2_with fail
  go_at_call 113
  refine (inB (n := M) (lo := 0) (hi := 1000000000000)).mono ?_
  rw [HM.out]
  rintro e w2' ⟨rfl, rfl⟩
  go_wp2_with fail
  go_at_call 114
  refine (Terms.termsX (qb := QB) (rs := RS) HQB.out HRS.out (rd3_2_0 st) st.2.1 st.2.2.1 st.2.2.2.1 HV.out).mono ?_
  rintro e w3 ⟨vT, bT, rfl, oT, loT, bel⟩
  have loT' := Nat.le_trans st.2.2.2.2.2.2 loT
  replace st := next3_2 bel st
  clear bel
  rw [HQT.out]
  obtain ⟨oTr, hTr⟩ : ∃ x, x = oT.rd := ⟨_, rfl⟩
  have stx := st
  have HTO := hid oT
  have HTL := hid loT'
  obtain ⟨aoR, capR, hRe, _, _, hR4⟩ := rd3_2_1 st
  obtain ⟨offR, hRo, hRb, hRc⟩ := hR4 (by omega)
  rw [hRo] at hRe
  injection hRe with hx1 hx2 hx3
  subst hx1
  have HRC := hid hRc
  rcases oT.form with ⟨rfl, hnil⟩ | ⟨cT, rfl, _⟩
  · exact absurd HRL.out.1 (by rw [hnil]; have := HLN.out; simp; omega)
  clear oT oTr hTr stx hRc hRo
  have HST := hid st
  clear st
  go_wp2_with (first | (at_builtin; refine Clone.appendAll rfl _ _ rfl w3.heap.size _ rfl (World.ownsRow_lit (base := w3.heap.size) (e := 2) (size := 1) w3 #[] 0 (Nat.le_refl _) (by simp) (by simp)) br offR _ zs rfl (fun i hi => cell_keep (below1 _ _) (HRC.out i hi)) ?c1 ?c2 ?_) | go_in)
  case c1 => omega
  case c2 => simp
  intro vA w4 hown hbel
  obtain ⟨bA, loA, oA⟩ := Own.of hown
  replace loA := Nat.le_trans HST.out.2.2.2.2.2.2 loA
  have bel : Below w3.heap.size w3 w4 := ((Below.refl w3.heap.size w3).alloc (Nat.le_refl _) _).trans hbel
  have st := next3_2 bel HST.out
  have oT := HTO.out.keep bel
  clear bel hown hbel HST
  have HOA := hid oA
  have HLA := hid loA
  clear oA loA HTO HRC
  go_wp2_with fail
  go_at_call 115
  rw [HZN.out]
  refine (Onc.once (r := rn) (n := n) (L := L) st.2.1 (by rw [← HRN.out]; exact st.2.2.1) oT.rd HRL.out.1 HRL.out.2 HS.out HLN.out.1 HLN.out.2.1 HLN.out.2.2).mono ?_
  rw [HRA.out, ← HONE.out]
  rintro e w5 ⟨bB, rfl, oB, loB, bel⟩
  replace st := next3_2 bel st
  have oA := HOA.out.keep bel
  have loA := HLA.out
  clear bel HOA HLA oT loB
  have ST := hid st
  have HOA := hid oA
  have HOB := hid oB
  have HLA := hid loA
  clear st oA oB loA
  go_wp2
  go_loopw [2, 10, 11] (fun t x y wr => ∃ (k : Nat) (T : Int) (A B : List Int), 0 ≤ T ∧ T < 2 ^ k ∧ T ≤ 1000000000000 ∧ t = .int .i64 T ∧ A.length = n ∧ B.length = n ∧ farN n s k T A B = R ∧ (∃ b, w.heap.size ≤ b ∧ Own 2 wr b x A) ∧ (∃ b, Own 2 wr b y B) ∧ Below w5.heap.size w5 wr) (fun t _ _ _ => (intOf t).toNat)
  case atStart => exact ⟨40, M, zs, ON, HMB.out.1, by have := HMB.out.2; omega, HMB.out.2, rfl, HZN.out, HON.out, HRR.out, ⟨_, HLA.out, HOA.out⟩, ⟨_, HOB.out⟩, Below.refl _ _⟩
  case round =>
    clear HOA HOB HLA
    obtain ⟨k, T, A, B, h0, hk, hT, rfl, hA, hB, hR, ⟨bA, loA, oA⟩, ⟨bB, oB⟩, hbel⟩ := hrel
    by_cases hpos : 0 < T
    · cases k with
      | zero => exact absurd hk (by omega)
      | succ k =>
        obtain ⟨t1, t2⟩ := half h0
        obtain ⟨Q, hQ⟩ : ∃ Q, Q = T / 2 := ⟨_, rfl⟩
        rw [← hQ] at t2
        have hQb : 0 ≤ Q ∧ Q < 2 ^ k ∧ Q ≤ 1000000000000 ∧ Q < T := by rw [Int.pow_succ] at hk; omega
        have HQB := hid hQb
        have HW4 : Hid (wrap64 Q = Q) := by simp only [Hid]; exact wrap_id (by omega) (by omega)
        have hR2 : farN n s k Q (if T % 2 = 1 then aro A B n s else A) (aro B B n s) = R := by rw [← hR, hQ]; simp only [farN]; rw [if_pos hpos]
        have HA := hid hA
        have HB := hid hB
        have st := next3_2 hbel ST.out
        have HBl := hid hbel
        clear hk hA hB hQ hR hbel hQb
        have hdec : T % 2 = 1 ∨ T % 2 = 0 := by omega
        rcases hdec with hm | hm
        · have t3 : T.tmod 2 = 1 := t1.trans hm
          rw [if_pos hm] at hR2
          have HR2 := hid hR2
          have ST2 := hid st
          clear t1 hm hR2
          go_wp2_with fail
          go_at_call 116
          refine (Aro.spec oA.rd oB.rd HA.out HB.out HN64.out HS.out).mono ?_
          rintro e w6 ⟨b6, rfl, o6, lo6, bel⟩
          have bel6 := HBl.out.trans (bel.mono HBl.out.size)
          have lo6' := Nat.le_trans ST2.out.2.2.2.2.2.2 lo6
          replace st := next3_2 bel ST2.out
          replace oB := oB.keep bel
          clear bel lo6 oA loA HBl ST2
          have HBl := hid bel6
          clear bel6
          go_wp2_with fail
          go_at_call 116
          refine (Aro.spec oB.rd oB.rd HB.out HB.out HN64.out HS.out).mono ?_
          rintro e w7 ⟨b7, rfl, o7, lo7, bel⟩
          have bel7 := HBl.out.trans (bel.mono HBl.out.size)
          replace o6 := o6.keep bel
          have HF := hid (And.intro o6 (And.intro o7 (And.intro lo6' bel7)))
          clear bel lo7 oB o6 o7 bel7 HBl st lo6'
          go_wp2
          go_roundw
          case rel => exact ⟨k, Q, _, _, HQB.out.1, HQB.out.2.1, HQB.out.2.2.1, by first | rfl | rw [HW4.out], aro_len _ _ _ _, aro_len _ _ _ _, HR2.out, ⟨_, HF.out.2.2.1, HF.out.1⟩, ⟨_, HF.out.2.1⟩, HF.out.2.2.2⟩
          case measure => have := HQB.out.2.2.2; have h4 := HW4.out; simp [intOf, h4]; omega
        · have t3 : T.tmod 2 = 0 := t1.trans hm
          rw [if_neg (by omega)] at hR2
          have HR2 := hid hR2
          have ST2 := hid st
          clear t1 hm hR2
          go_wp2_with fail
          go_at_call 116
          refine (Aro.spec oB.rd oB.rd HB.out HB.out HN64.out HS.out).mono ?_
          rintro e w7 ⟨b7, rfl, o7, lo7, bel⟩
          have bel7 := HBl.out.trans (bel.mono HBl.out.size)
          replace oA := oA.keep bel
          have HF := hid (And.intro oA (And.intro o7 (And.intro loA bel7)))
          clear bel lo7 oB oA o7 bel7 HBl st loA ST2
          go_wp2
          go_roundw
          case rel => exact ⟨k, Q, _, _, HQB.out.1, HQB.out.2.1, HQB.out.2.2.1, by first | rfl | rw [HW4.out], HA.out, aro_len _ _ _ _, HR2.out, ⟨_, HF.out.2.2.1, HF.out.1⟩, ⟨_, HF.out.2.1⟩, HF.out.2.2.2⟩
          case measure => have := HQB.out.2.2.2; have h4 := HW4.out; simp [intOf, h4]; omega
    · have hAR : A = R := by
        rw [← hR]
        cases k with
        | zero => rfl
        | succ k => simp only [farN]; rw [if_neg hpos]
      rw [hAR] at oA
      have HF := hid (And.intro oA (And.intro loA (ST.out.1.trans (hbel.mono ST.out.1.size))))
      clear hk hA hB hR oA oB hbel loA
      go_wp2
      go_ret2
      exact ⟨_, rfl, bA, HF.out.1, HF.out.2.1, HF.out.2.2⟩

theorem st32 {N : Nat} {w0 w : World} {p0 p1 p2 : Addr} {c0 c1 c2 : Value} {b0 : Nat} {v0 : Value} {z0 : List Int} {b1 : Nat} {v1 : Value} {z1 : List Int} (h : Below N w0 w ∧ w.cell? p0 = some c0 ∧ w.cell? p1 = some c1 ∧ w.cell? p2 = some c2 ∧ N ≤ w.heap.size) (h0 : Rd w b0 v0 z0) (h1 : Rd w b1 v1 z1) : Below N w0 w ∧ w.cell? p0 = some c0 ∧ w.cell? p1 = some c1 ∧ w.cell? p2 = some c2 ∧ Rd w b0 v0 z0 ∧ Rd w b1 v1 z1 ∧ N ≤ w.heap.size := ⟨h.1, h.2.1, h.2.2.1, h.2.2.2.1, h0, h1, h.2.2.2.2⟩

set_option maxHeartbeats 16000000 in
theorem implOk {w : World} {s r M : Int} {bt br : Nat} {vt vr : Value} {tbl zs : List Int} (ht : Rd w bt vt tbl) (hr : Rd w br vr zs) (hv : validB s r tbl = true) (hrb : isRingB zs s = true) (hw : ¬ (zs.length : Int) < 2 * r + 1) (hM : decide (0 ≤ M ∧ M ≤ 1000000000000) = true) (hq : isSumB s r tbl = true) :
    Calls Try.prog 52 #[ruleV s r vt, vr, .int .i64 M] w fun e w' => ∃ v' b', e = .returned (.tuple #[v', .bool true]) ∧
      Own 2 w' b' v' (farL s r tbl zs M) ∧ w.heap.size ≤ b' ∧ Below w.heap.size w w' := by
  have HT := hid ht
  have HR := hid hr
  obtain ⟨aot, capt, rfl, hct, hmt, _⟩ := ht
  obtain ⟨aor, capr, rfl, hcr, hmr, _⟩ := hr
  have hlz : zs.length ≤ 9223372036854775807 := by unfold maxLen at hmr; omega
  clear hct hmt hcr hmr
  obtain ⟨hs, hrr, hlen, ha⟩ := Al.valid_parts hv
  obtain ⟨hza, hz1, hz2⟩ := ring_parts hrb
  obtain ⟨n, hn⟩ : ∃ n, n = zs.length := ⟨_, rfl⟩
  obtain ⟨L, hL⟩ : ∃ L, L = (2 * r + 1).toNat := ⟨_, rfl⟩
  obtain ⟨rn, hrn⟩ : ∃ q, q = r.toNat := ⟨_, rfl⟩
  obtain ⟨ON, hON⟩ : ∃ q, q = onL (Al.alo tbl s L) rn n L := ⟨_, rfl⟩
  obtain ⟨R, hRR⟩ : ∃ q, q = farL s r tbl zs M := ⟨_, rfl⟩
  rw [← hRR]
  have HRR : Hid (farN n s 40 M zs ON = R) := by simp only [Hid]; rw [hRR, farL, hON, ← hn, ← hL, ← hrn]
  have HON : Hid (ON.length = n) := by simp only [Hid]; rw [hON]; exact onL_len _ _ _ _
  have HZN : Hid (zs.length = n) := hn.symm
  have HMB : Hid (0 ≤ M ∧ M ≤ 1000000000000) := by simp only [Hid]; exact of_decide_eq_true hM
  have HN64 : Hid (1 ≤ n ∧ n ≤ 64) := by simp only [Hid]; omega
  have HS := hid hs
  have HRr := hid hrr
  have HM := hid hM
  have hge : ¬ (zs.length : Int) < 2 * r + 1 := hw
  obtain ⟨r1, r2⟩ := hrr
  have HRB := hid hrb
  have HAD : Hid ((validB s r tbl && isSumB s r tbl) = true) := by simp only [Hid]; rw [hv, hq]; rfl
  have HRN : Hid (r = (rn : Int)) := by simp only [Hid]; omega
  have HLZ : Hid (1 ≤ zs.length ∧ zs.length ≤ 1048576) := by simp only [Hid]; omega
  have hLr : L = 2 * rn + 1 := by omega
  have hLn : L ≤ n := by omega
  have htl : 0 < tbl.length := by
    have : 1 ≤ s ^ (2 * r + 1).toNat := Int.pow_pos (by omega)
    omega
  have HNX : Hid (nextL tbl (loneL n) s r n = ON) := by
    simp only [Hid]
    rw [hON, show r = (rn : Int) by omega]
    exact next_lone hLr hLn (tab_zero hs htl hq)
  have HFIT : Hid (Fit s r tbl (loneL n)) := ⟨hs, ⟨r1, r2⟩, hlen, ha, lone_all hs n, by rw [lone_len]; omega⟩
  clear hv hlen ha hza hz1 hz2 hL hrn hON hRR hq hM hs hLr hLn htl hn
  go_enter Try.func52, Try.ntmps52
  go_wp2_with fail
  obtain ⟨w1, hW⟩ : ∃ w1, w1 = w.alloc (Obj.cells #[.int .i64 s, .int .i64 r, (Value.slice aot tbl.length capt)] 33) := ⟨_, rfl⟩
  obtain ⟨N, hN⟩ : ∃ N, N = w.heap.size := ⟨_, rfl⟩
  have st : Below w.heap.size w w1 ∧ w1.cell? ⟨N, 0, none⟩ = some (.int .i64 s) ∧ w1.cell? ⟨N, 1, none⟩ = some (.int .i64 r) ∧ w1.cell? ⟨N, 2, none⟩ = some (Value.slice aot tbl.length capt) ∧ Rd w1 bt (Value.slice aot tbl.length capt) tbl ∧ Rd w1 br (Value.slice aor zs.length capr) zs ∧ w.heap.size ≤ w1.heap.size := by
    rw [hW, hN]
    exact ⟨below1 _ _, by simp, by simp, by simp, HT.out.keep (below1 _ _) (Nat.le_refl _), HR.out.keep (below1 _ _) (Nat.le_refl _), by simp⟩
  simp only [← hW, ← hN]
  clear hW hN
  go_at_call 117
  refine (implIsAdding (rd3_2_0 st)).mono ?_
  rw [HAD.out]
  rintro e w2 ⟨rfl, bel⟩
  replace st := next3_2 bel st
  clear bel
  go_wp2_with fail
  go_at_call 118
  refine (implIsRing (rd3_2_1 st)).mono ?_
  rw [HRB.out]
  rintro e w3 ⟨rfl, bel⟩
  replace st := next3_2 bel st
  clear bel
  go_wp2_with fail
  go_at_call 102
  refine (shapeOf).mono ?_
  rintro e w4 ⟨rfl, bel⟩
  replace st := next3_2 bel st
  clear bel
  go_wp2_with fail
  go_at_call 103
  refine (wide HRr.out).mono ?_
  rintro e w5 ⟨rfl, bel⟩
  replace st := next3_2 bel st
  clear bel
  go_wp2_with fail
  go_at_call 119
  refine (isCountB (n := M) (hi := 1000000000000)).mono ?_
  rw [HM.out]
  rintro e w2' ⟨rfl, rfl⟩
  go_wp2_with fail
  refine wp_region_held_drew (S := (fun ww => Below w.heap.size w ww ∧ ww.cell? ⟨N, 0, none⟩ = some (.int .i64 s) ∧ ww.cell? ⟨N, 1, none⟩ = some (.int .i64 r) ∧ ww.cell? ⟨N, 2, none⟩ = some (Value.slice aot tbl.length capt) ∧ w.heap.size ≤ ww.heap.size)) (by kernel_rfl) ?_ (fun hHeld => ?_)
  · ((try dsimp only); exact drew3_0 ⟨st.1, st.2.1, st.2.2.1, st.2.2.2.1, st.2.2.2.2.2.2⟩)
  generalize hD : w5.drew = wD at hHeld ⊢
  clear hD st
  (refine wpAnyH_take (i := 0) (v := ?_) rfl ?_ ?_ ?_ (fun _ _ _ h => h) (Or.inl ⟨?_, ?_⟩) ?_ ?_; rotate_left 1; (focus decide +kernel); (focus decide +kernel); (focus decide +kernel); (focus rfl); (focus (intro w hSw; (try dsimp only at hSw); go_simp; (try (with_reducible rfl)); done)); (focus assumption); (try simp only [Act.put, List.setIfInBounds_toArray, List.set_cons_zero, List.set_cons_succ, List.getElem_toArray, List.getElem_cons_succ, List.getElem_cons_zero]))
  (refine wpAnyH_take (i := 2) (v := ?_) rfl ?_ ?_ ?_ (fun _ _ _ h => h) (Or.inl ⟨?_, ?_⟩) ?_ ?_; rotate_left 1; (focus decide +kernel); (focus decide +kernel); (focus decide +kernel); (focus rfl); (focus (intro w hSw; (try dsimp only at hSw); go_simp; (try (with_reducible rfl)); done)); (focus assumption); (try simp only [Act.put, List.setIfInBounds_toArray, List.set_cons_zero, List.set_cons_succ, List.getElem_toArray, List.getElem_cons_succ, List.getElem_cons_zero]))
  (refine wpAnyH_take (i := 3) (v := ?_) rfl ?_ ?_ ?_ (fun _ _ _ h => h) (Or.inl ⟨?_, ?_⟩) ?_ ?_; rotate_left 1; (focus decide +kernel); (focus decide +kernel); (focus decide +kernel); (focus rfl); (focus (intro w hSw; (try dsimp only at hSw); go_simp; (try (with_reducible rfl)); done)); (focus assumption); (try simp only [Act.put, List.setIfInBounds_toArray, List.set_cons_zero, List.set_cons_succ, List.getElem_toArray, List.getElem_cons_succ, List.getElem_cons_zero]))
  (refine wpAnyH_take (i := 4) (v := ?_) rfl ?_ ?_ ?_ (fun _ _ _ h => h) (Or.inl ⟨?_, ?_⟩) ?_ ?_; rotate_left 1; (focus decide +kernel); (focus decide +kernel); (focus decide +kernel); (focus rfl); (focus (intro w hSw; (try dsimp only at hSw); go_simp; (try (with_reducible rfl)); done)); (focus assumption); (try simp only [Act.put, List.setIfInBounds_toArray, List.set_cons_zero, List.set_cons_succ, List.getElem_toArray, List.getElem_cons_succ, List.getElem_cons_zero]))
  refine wpAnyH_ready (rs := [1]) ?_ (by simp) ?_
  · decide +kernel
  refine AllReadyH.cons rfl (fun K hK => ?_) AllReadyH.nil
  go_simp
  go_at_call 120
  refine (Clone.clone (HR.out.keep hHeld.1 (Nat.le_refl _)) HLZ.out).mono ?_
  rintro e wq1 ⟨vA, bA, rfl, oA, loA, bel⟩
  replace loA := Nat.le_trans hHeld.2.2.2.2 loA
  refine hK.out _ _ ?_ (fun hHeld2 => ?_)
  · (try dsimp only); exact next3_0 bel hHeld
  clear hK K hHeld bel
  have hHeld := hHeld2
  clear hHeld2
  (try simp only [Act.put, List.setIfInBounds_toArray, List.set_cons_zero, List.set_cons_succ, List.getElem_toArray, List.getElem_cons_succ, List.getElem_cons_zero])
  refine wpAnyH_ready (rs := [5]) ?_ (by simp) ?_
  · decide +kernel
  refine AllReadyH.cons rfl (fun K hK => ?_) AllReadyH.nil
  go_simp
  rw [HZN.out]
  go_at_call 122
  refine (Onc.lone HN64.out).mono ?_
  rintro e wq2 ⟨bL, rfl, oL, loL, bel⟩
  clear loL
  replace oA := oA.keep bel
  refine hK.out _ _ ?_ (fun hHeld2 => ?_)
  · (try dsimp only); exact next3_0 bel hHeld
  clear hK K hHeld bel
  have hHeld := hHeld2
  clear hHeld2
  (try simp only [Act.put, List.setIfInBounds_toArray, List.set_cons_zero, List.set_cons_succ, List.getElem_toArray, List.getElem_cons_succ, List.getElem_cons_zero])
  refine wpAnyH_ready (rs := [6]) ?_ (by simp) ?_
  · decide +kernel
  refine AllReadyH.cons rfl (fun K hK => ?_) AllReadyH.nil
  go_simp
  go_at_call 121
  refine (implNext (HT.out.keep hHeld.1 (Nat.le_refl _)) oL.rd HFIT.out).mono ?_
  rw [lone_len, HNX.out]
  rintro e wq3 ⟨bB, rfl, oB, loB, bel⟩
  clear loB
  replace oA := oA.keep bel
  replace oL := oL.keep bel
  refine hK.out _ _ ?_ (fun hHeld2 => ?_)
  · (try dsimp only); exact next3_0 bel hHeld
  clear hK K hHeld bel
  have hHeld := hHeld2
  clear hHeld2
  (try simp only [Act.put, List.setIfInBounds_toArray, List.set_cons_zero, List.set_cons_succ, List.getElem_toArray, List.getElem_cons_succ, List.getElem_cons_zero])
  (refine wpAnyH_take (i := 7) (v := ?_) rfl ?_ ?_ ?_ (fun _ _ _ h => h) (Or.inl ⟨?_, ?_⟩) ?_ ?_; rotate_left 1; (focus decide +kernel); (focus decide +kernel); (focus decide +kernel); (focus rfl); (focus (intro w hSw; (try dsimp only at hSw); go_simp; (try (with_reducible rfl)); done)); (focus assumption); (try simp only [Act.put, List.setIfInBounds_toArray, List.set_cons_zero, List.set_cons_succ, List.getElem_toArray, List.getElem_cons_succ, List.getElem_cons_zero]))
  (refine wpAnyH_take (i := 8) (v := ?_) rfl ?_ ?_ ?_ (fun _ _ _ h => h) (Or.inl ⟨?_, ?_⟩) ?_ ?_; rotate_left 1; (focus decide +kernel); (focus decide +kernel); (focus decide +kernel); (focus rfl); (focus (intro w hSw; (try dsimp only at hSw); go_simp; (try (with_reducible rfl)); done)); (focus assumption); (try simp only [Act.put, List.setIfInBounds_toArray, List.set_cons_zero, List.set_cons_succ, List.getElem_toArray, List.getElem_cons_succ, List.getElem_cons_zero]))
  refine wpAnyH_done (by kernel_rfl) ?_ _
  have hRz := HR.out.keep hHeld.1 (Nat.le_refl _)
  have hRt := HT.out.keep hHeld.1 (Nat.le_refl _)
  have st := st32 hHeld hRt hRz
  clear hHeld hRz hRt oL
  have ST := hid st
  have HOA := hid oA
  have HOB := hid oB
  have HLA := hid loA
  clear st oA oB loA
  go_wp2
  go_loopw [2, 10, 11] (fun t x y wr => ∃ (k : Nat) (T : Int) (A B : List Int), 0 ≤ T ∧ T < 2 ^ k ∧ T ≤ 1000000000000 ∧ t = .int .i64 T ∧ A.length = n ∧ B.length = n ∧ farN n s k T A B = R ∧ (∃ b, w.heap.size ≤ b ∧ Own 2 wr b x A) ∧ (∃ b, Own 2 wr b y B) ∧ Below wq3.heap.size wq3 wr) (fun t _ _ _ => (intOf t).toNat)
  case atStart => exact ⟨40, M, zs, ON, HMB.out.1, by have := HMB.out.2; omega, HMB.out.2, rfl, HZN.out, HON.out, HRR.out, ⟨_, HLA.out, HOA.out⟩, ⟨_, HOB.out⟩, Below.refl _ _⟩
  case round =>
    clear HOA HOB HLA
    obtain ⟨k, T, A, B, h0, hk, hT, rfl, hA, hB, hR, ⟨bA, loA, oA⟩, ⟨bB, oB⟩, hbel⟩ := hrel
    by_cases hpos : 0 < T
    · cases k with
      | zero => exact absurd hk (by omega)
      | succ k =>
        obtain ⟨t1, t2⟩ := half h0
        obtain ⟨Q, hQ⟩ : ∃ Q, Q = T / 2 := ⟨_, rfl⟩
        rw [← hQ] at t2
        have hQb : 0 ≤ Q ∧ Q < 2 ^ k ∧ Q ≤ 1000000000000 ∧ Q < T := by rw [Int.pow_succ] at hk; omega
        have HQB := hid hQb
        have HW4 : Hid (wrap64 Q = Q) := by simp only [Hid]; exact wrap_id (by omega) (by omega)
        have hR2 : farN n s k Q (if T % 2 = 1 then aro A B n s else A) (aro B B n s) = R := by rw [← hR, hQ]; simp only [farN]; rw [if_pos hpos]
        have HA := hid hA
        have HB := hid hB
        have st := next3_2 hbel ST.out
        have HBl := hid hbel
        clear hk hA hB hQ hR hbel hQb
        have hdec : T % 2 = 1 ∨ T % 2 = 0 := by omega
        rcases hdec with hm | hm
        · have t3 : T.tmod 2 = 1 := t1.trans hm
          rw [if_pos hm] at hR2
          have HR2 := hid hR2
          have ST2 := hid st
          clear t1 hm hR2
          go_wp2_with fail
          go_at_call 123
          refine (Aro.impl oA.rd oB.rd HA.out HB.out HN64.out HS.out).mono ?_
          rintro e w6 ⟨b6, rfl, o6, lo6, bel⟩
          have bel6 := HBl.out.trans (bel.mono HBl.out.size)
          have lo6' := Nat.le_trans ST2.out.2.2.2.2.2.2 lo6
          replace st := next3_2 bel ST2.out
          replace oB := oB.keep bel
          clear bel lo6 oA loA HBl ST2
          have HBl := hid bel6
          clear bel6
          go_wp2_with fail
          go_at_call 123
          refine (Aro.impl oB.rd oB.rd HB.out HB.out HN64.out HS.out).mono ?_
          rintro e w7 ⟨b7, rfl, o7, lo7, bel⟩
          have bel7 := HBl.out.trans (bel.mono HBl.out.size)
          replace o6 := o6.keep bel
          have HF := hid (And.intro o6 (And.intro o7 (And.intro lo6' bel7)))
          clear bel lo7 oB o6 o7 bel7 HBl st lo6'
          go_wp2
          go_roundw
          case rel => exact ⟨k, Q, _, _, HQB.out.1, HQB.out.2.1, HQB.out.2.2.1, by first | rfl | rw [HW4.out], aro_len _ _ _ _, aro_len _ _ _ _, HR2.out, ⟨_, HF.out.2.2.1, HF.out.1⟩, ⟨_, HF.out.2.1⟩, HF.out.2.2.2⟩
          case measure => have := HQB.out.2.2.2; have h4 := HW4.out; simp [intOf, h4]; omega
        · have t3 : T.tmod 2 = 0 := t1.trans hm
          rw [if_neg (by omega)] at hR2
          have HR2 := hid hR2
          have ST2 := hid st
          clear t1 hm hR2
          go_wp2_with fail
          go_at_call 123
          refine (Aro.impl oB.rd oB.rd HB.out HB.out HN64.out HS.out).mono ?_
          rintro e w7 ⟨b7, rfl, o7, lo7, bel⟩
          have bel7 := HBl.out.trans (bel.mono HBl.out.size)
          replace oA := oA.keep bel
          have HF := hid (And.intro oA (And.intro o7 (And.intro loA bel7)))
          clear bel lo7 oB oA o7 bel7 HBl st loA ST2
          go_wp2
          go_roundw
          case rel => exact ⟨k, Q, _, _, HQB.out.1, HQB.out.2.1, HQB.out.2.2.1, by first | rfl | rw [HW4.out], HA.out, aro_len _ _ _ _, HR2.out, ⟨_, HF.out.2.2.1, HF.out.1⟩, ⟨_, HF.out.2.1⟩, HF.out.2.2.2⟩
          case measure => have := HQB.out.2.2.2; have h4 := HW4.out; simp [intOf, h4]; omega
    · have hAR : A = R := by
        rw [← hR]
        cases k with
        | zero => rfl
        | succ k => simp only [farN]; rw [if_neg hpos]
      rw [hAR] at oA
      have HF := hid (And.intro oA (And.intro loA (ST.out.1.trans (hbel.mono ST.out.1.size))))
      clear hk hA hB hR oA oB hbel loA
      go_wp2
      go_ret2
      exact ⟨_, rfl, bA, HF.out.1, HF.out.2.1, HF.out.2.2⟩

theorem spec {w : World} {s r M : Int} {bt br : Nat} {vt vr : Value} {tbl zs : List Int} (ht : Rd w bt vt tbl) (hr : Rd w br vr zs) :
    Calls Try.prog 51 #[ruleV s r vt, vr, .int .i64 M] w fun e w' => ∃ v' b', e = .returned (.tuple #[v', .bool (okF s r tbl zs M)]) ∧
      Own 2 w' b' v' (if okF s r tbl zs M = true then farL s r tbl zs M else []) ∧ w.heap.size ≤ b' ∧ Below w.heap.size w w' := by
  by_cases hv : validB s r tbl = true
  · have hs := (Al.valid_parts hv).1
    by_cases hri : isRingB zs s = true
    · have hri2 := hri
      rw [is_ring hs] at hri2
      by_cases hw : (zs.length : Int) < 2 * r + 1
      · have e : okF s r tbl zs M = false := by unfold okF; rw [show decide (2 * r + 1 ≤ (zs.length : Int)) = false from decide_eq_false (by omega)]; simp
        rw [e]; exact specNo3 ht hr hv hri2 hw
      · by_cases hM : 0 ≤ M ∧ M ≤ 1000000000000
        · cases hq : isSumB s r tbl with
          | true =>
            have e : okF s r tbl zs M = true := by unfold okF; rw [hv, hq, hri, decide_eq_true hM, show decide (2 * r + 1 ≤ (zs.length : Int)) = true from decide_eq_true (by omega)]; rfl
            rw [e]; exact specOk ht hr hv hri hw (decide_eq_true hM) hq
          | false =>
            have e : okF s r tbl zs M = false := by unfold okF; rw [hq]; simp
            rw [e]; exact specNo5 ht hr hv hri2 hw (decide_eq_true hM) hq
        · have e : okF s r tbl zs M = false := by unfold okF; rw [decide_eq_false hM]; simp
          rw [e]; exact specNo4 ht hr hv hri2 hw (decide_eq_false hM)
    · have hri1 : isRingB zs s = false := by simpa using hri
      have e : okF s r tbl zs M = false := by unfold okF; rw [hri1]; simp
      rw [e]; exact specNo2 ht hr hv (by rw [← is_ring hs]; exact hri1)
  · have hv1 : validB s r tbl = false := by simpa using hv
    have e : okF s r tbl zs M = false := by unfold okF; rw [hv1]; simp
    rw [e]; exact specNo1 ht hr hv1
theorem impl {w : World} {s r M : Int} {bt br : Nat} {vt vr : Value} {tbl zs : List Int} (ht : Rd w bt vt tbl) (hr : Rd w br vr zs) :
    Calls Try.prog 52 #[ruleV s r vt, vr, .int .i64 M] w fun e w' => ∃ v' b', e = .returned (.tuple #[v', .bool (okF s r tbl zs M)]) ∧
      Own 2 w' b' v' (if okF s r tbl zs M = true then farL s r tbl zs M else []) ∧ w.heap.size ≤ b' ∧ Below w.heap.size w w' := by
  by_cases had : (validB s r tbl && isSumB s r tbl) = true
  · have hv : validB s r tbl = true := by simp only [Bool.and_eq_true] at had; exact had.1
    have hq : isSumB s r tbl = true := by simp only [Bool.and_eq_true] at had; exact had.2
    by_cases hri : isRingB zs s = true
    · by_cases hw : (zs.length : Int) < 2 * r + 1
      · have e : okF s r tbl zs M = false := by unfold okF; rw [show decide (2 * r + 1 ≤ (zs.length : Int)) = false from decide_eq_false (by omega)]; simp
        rw [e]; exact implNo3 ht hr hv had hri hw
      · by_cases hM : 0 ≤ M ∧ M ≤ 1000000000000
        · have e : okF s r tbl zs M = true := by unfold okF; rw [hv, hq, hri, decide_eq_true hM, show decide (2 * r + 1 ≤ (zs.length : Int)) = true from decide_eq_true (by omega)]; rfl
          rw [e]; exact implOk ht hr hv hri hw (decide_eq_true hM) hq
        · have e : okF s r tbl zs M = false := by unfold okF; rw [decide_eq_false hM]; simp
          rw [e]; exact implNo4 ht hr hv had hri hw (decide_eq_false hM)
    · have hri1 : isRingB zs s = false := by simpa using hri
      have e : okF s r tbl zs M = false := by unfold okF; rw [hri1]; simp
      rw [e]; exact implNo2 ht hr hv had hri1
  · have had1 : (validB s r tbl && isSumB s r tbl) = false := by simpa using had
    have e : okF s r tbl zs M = false := by unfold okF; rw [had1]; simp
    rw [e]; exact implNo1 ht hr had1
theorem far_len {s r : Int} {tbl zs : List Int} {M : Int} (h : okF s r tbl zs M = true) : (farL s r tbl zs M).length ≤ 64 := by
  simp only [okF, Bool.and_eq_true] at h
  have := ring_parts h.2.1
  unfold farL
  rw [farN_len _ _ _ _ rfl (onL_len _ _ _ _)]
  exact this.2.2

end Go.Proofs.Ytonghkooncmjgaa.Far
