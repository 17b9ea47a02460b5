/- DamageOf of both sides, the rest. -/
import Derived.Test.YtpehalecmgpbnaaDamage
namespace Go.Proofs.Ytpehalecmgpbnaa.Damage
open Go.RowKit Go.Proofs.Ytpehalecmgpbnaa.Rd Go.Proofs.Ytpehalecmgpbnaa.Help Go.Proofs.Ytpehalecmgpbnaa.App Go.Proofs.Ytpehalecmgpbnaa.Ring Go.Proofs.Ytpehalecmgpbnaa.Small Go.Proofs.Ytpehalecmgpbnaa.Num Go.Proofs.Ytpehalecmgpbnaa.Keep Go.Proofs.Ytpehalecmgpbnaa.Rule Go.Proofs.Ytpehalecmgpbnaa.Step Go.Proofs.Ytpehalecmgpbnaa.Run Go.Proofs.Ytpehalecmgpbnaa.Alone
set_option linter.unusedVariables false
set_option linter.unusedSimpArgs false

theorem ring_fit {s r : Int} {tbl xs ys : List Int} (h : fitB s r tbl xs = true) : fitB s r tbl ys = ringB ys s := by
  have hv : validB s r tbl = true := by simp only [fitB, Bool.and_eq_true] at h; exact h.1
  simp only [fitB, hv, Bool.true_and]
  exact ring_of hv

set_option maxHeartbeats 4000000 in
theorem implNo {w : World} {s r M : Int} {bt ba bb : Nat} {vt va vb : Value} {tbl xs ys : List Int} (ht : Rd w bt vt tbl) (ha : Rd w ba va xs) (hb : Rd w bb vb ys) (hok : ¬ okD s r tbl xs ys M) :
    Calls Try.prog 26 #[ruleV s r vt, va, vb, .int .i64 M] w fun e w' => e = .returned (.tuple #[.slice none 0 0, .bool false]) ∧ Below w.heap.size w w' := by
  have HT := hid ht
  have HA := hid ha
  have HB := hid hb
  obtain ⟨aoa, capa, rfl, xa, xb, _⟩ := ha
  obtain ⟨aob, capb, rfl, ya, yb, _⟩ := hb
  have lx : xs.length ≤ 9223372036854775807 := by unfold maxLen at xb; omega
  have ly : ys.length ≤ 9223372036854775807 := by unfold maxLen at yb; omega
  clear ht xa xb ya yb
  cases h1 : fitB s r tbl xs with
  | false =>
    have HF1 := hid h1
    clear hok h1
    go_enter Try.func26, Try.ntmps26
    go_wp2_with fail
    obtain ⟨w1, hW⟩ : ∃ w1, w1 = w.alloc (Obj.cells #[.int .i64 s, .int .i64 r, vt] 28) := ⟨_, rfl⟩
    obtain ⟨N, hN⟩ : ∃ N, N = w.heap.size := ⟨_, rfl⟩
    have st : Below w.heap.size w w1 ∧ w1.cell? ⟨N, 0, none⟩ = some (.int .i64 s) ∧ w1.cell? ⟨N, 1, none⟩ = some (.int .i64 r) ∧ w1.cell? ⟨N, 2, none⟩ = some vt ∧ Rd w1 bt vt tbl ∧ Rd w1 ba (.slice aoa xs.length capa) xs ∧ Rd w1 bb (.slice aob ys.length capb) ys ∧ w.heap.size ≤ w1.heap.size := by
      rw [hW, hN]
      exact ⟨below1 _ _, by simp, by simp, by simp, HT.out.keep (below1 _ _) (Nat.le_refl _), HA.out.keep (below1 _ _) (Nat.le_refl _), HB.out.keep (below1 _ _) (Nat.le_refl _), by simp⟩
    simp only [← hW, ← hN]
    clear hW hN
    go_at_call 32
    refine (fits (rd3_3_0 st) (rd3_3_1 st)).mono ?_
    rw [HF1.out]
    rintro e w2 ⟨rfl, bel⟩
    replace st := next3_3 bel st
    clear bel
    go_wp2
    go_ret2
    exact ⟨rfl, st.1⟩
  | true =>
    have HF1 := hid h1

    cases h2 : fitB s r tbl ys with
    | false =>
      have HF2 := hid h2
      clear hok h1 h2
      go_enter Try.func26, Try.ntmps26
      go_wp2_with fail
      obtain ⟨w1, hW⟩ : ∃ w1, w1 = w.alloc (Obj.cells #[.int .i64 s, .int .i64 r, vt] 28) := ⟨_, rfl⟩
      obtain ⟨N, hN⟩ : ∃ N, N = w.heap.size := ⟨_, rfl⟩
      have st : Below w.heap.size w w1 ∧ w1.cell? ⟨N, 0, none⟩ = some (.int .i64 s) ∧ w1.cell? ⟨N, 1, none⟩ = some (.int .i64 r) ∧ w1.cell? ⟨N, 2, none⟩ = some vt ∧ Rd w1 bt vt tbl ∧ Rd w1 ba (.slice aoa xs.length capa) xs ∧ Rd w1 bb (.slice aob ys.length capb) ys ∧ w.heap.size ≤ w1.heap.size := by
        rw [hW, hN]
        exact ⟨below1 _ _, by simp, by simp, by simp, HT.out.keep (below1 _ _) (Nat.le_refl _), HA.out.keep (below1 _ _) (Nat.le_refl _), HB.out.keep (below1 _ _) (Nat.le_refl _), by simp⟩
      simp only [← hW, ← hN]
      clear hW hN
      go_at_call 32
      refine (fits (rd3_3_0 st) (rd3_3_1 st)).mono ?_
      rw [HF1.out]
      rintro e w2 ⟨rfl, bel⟩
      replace st := next3_3 bel st
      clear bel
      go_wp2_with fail
      go_at_call 32
      refine (fits (rd3_3_0 st) (rd3_3_2 st)).mono ?_
      rw [HF2.out]
      rintro e w3 ⟨rfl, bel⟩
      replace st := next3_3 bel st
      clear bel
      go_wp2
      go_ret2
      exact ⟨rfl, st.1⟩
    | true =>
      have HF2 := hid h2
      by_cases h3 : xs.length = ys.length
      · have h4 : ¬ (0 ≤ M ∧ M ≤ 64) := fun h4 => hok ⟨h1, h2, h3, h4⟩
        have HM := hid (decide_eq_false h4)
        have e3 : ((xs.length : Int) != (ys.length : Int)) = false := by rw [h3]; simp
        clear hok h1 h2 h3 h4
        go_enter Try.func26, Try.ntmps26
        go_wp2_with fail
        obtain ⟨w1, hW⟩ : ∃ w1, w1 = w.alloc (Obj.cells #[.int .i64 s, .int .i64 r, vt] 28) := ⟨_, rfl⟩
        obtain ⟨N, hN⟩ : ∃ N, N = w.heap.size := ⟨_, rfl⟩
        have st : Below w.heap.size w w1 ∧ w1.cell? ⟨N, 0, none⟩ = some (.int .i64 s) ∧ w1.cell? ⟨N, 1, none⟩ = some (.int .i64 r) ∧ w1.cell? ⟨N, 2, none⟩ = some vt ∧ Rd w1 bt vt tbl ∧ Rd w1 ba (.slice aoa xs.length capa) xs ∧ Rd w1 bb (.slice aob ys.length capb) ys ∧ w.heap.size ≤ w1.heap.size := by
          rw [hW, hN]
          exact ⟨below1 _ _, by simp, by simp, by simp, HT.out.keep (below1 _ _) (Nat.le_refl _), HA.out.keep (below1 _ _) (Nat.le_refl _), HB.out.keep (below1 _ _) (Nat.le_refl _), by simp⟩
        simp only [← hW, ← hN]
        clear hW hN
        go_at_call 32
        refine (fits (rd3_3_0 st) (rd3_3_1 st)).mono ?_
        rw [HF1.out]
        rintro e w2 ⟨rfl, bel⟩
        replace st := next3_3 bel st
        clear bel
        go_wp2_with fail
        go_at_call 32
        refine (fits (rd3_3_0 st) (rd3_3_2 st)).mono ?_
        rw [HF2.out]
        rintro e w3 ⟨rfl, bel⟩
        replace st := next3_3 bel st
        clear bel
        go_wp2_with fail
        go_at_call 36
        refine isCountB.mono ?_
        rw [HM.out]
        rintro e w4 ⟨rfl, hw4⟩
        subst hw4
        go_wp2
        go_ret2
        exact ⟨rfl, st.1⟩
      · have e3 : ((xs.length : Int) != (ys.length : Int)) = true := by simp; omega
        clear hok h1 h2
        go_enter Try.func26, Try.ntmps26
        go_wp2_with fail
        obtain ⟨w1, hW⟩ : ∃ w1, w1 = w.alloc (Obj.cells #[.int .i64 s, .int .i64 r, vt] 28) := ⟨_, rfl⟩
        obtain ⟨N, hN⟩ : ∃ N, N = w.heap.size := ⟨_, rfl⟩
        have st : Below w.heap.size w w1 ∧ w1.cell? ⟨N, 0, none⟩ = some (.int .i64 s) ∧ w1.cell? ⟨N, 1, none⟩ = some (.int .i64 r) ∧ w1.cell? ⟨N, 2, none⟩ = some vt ∧ Rd w1 bt vt tbl ∧ Rd w1 ba (.slice aoa xs.length capa) xs ∧ Rd w1 bb (.slice aob ys.length capb) ys ∧ w.heap.size ≤ w1.heap.size := by
          rw [hW, hN]
          exact ⟨below1 _ _, by simp, by simp, by simp, HT.out.keep (below1 _ _) (Nat.le_refl _), HA.out.keep (below1 _ _) (Nat.le_refl _), HB.out.keep (below1 _ _) (Nat.le_refl _), by simp⟩
        simp only [← hW, ← hN]
        clear hW hN
        go_at_call 32
        refine (fits (rd3_3_0 st) (rd3_3_1 st)).mono ?_
        rw [HF1.out]
        rintro e w2 ⟨rfl, bel⟩
        replace st := next3_3 bel st
        clear bel
        go_wp2_with fail
        go_at_call 32
        refine (fits (rd3_3_0 st) (rd3_3_2 st)).mono ?_
        rw [HF2.out]
        rintro e w3 ⟨rfl, bel⟩
        replace st := next3_3 bel st
        clear bel
        go_wp2
        go_ret2
        exact ⟨rfl, st.1⟩

set_option maxHeartbeats 4000000 in
theorem specNo {w : World} {s r M : Int} {bt ba bb : Nat} {vt va vb : Value} {tbl xs ys : List Int} (ht : Rd w bt vt tbl) (ha : Rd w ba va xs) (hb : Rd w bb vb ys) (hok : ¬ okD s r tbl xs ys M) :
    Calls Try.prog 25 #[ruleV s r vt, va, vb, .int .i64 M] w fun e w' => e = .returned (.tuple #[.slice none 0 0, .bool false]) ∧ Below w.heap.size w w' := by
  have HT := hid ht
  have HA := hid ha
  have HB := hid hb
  obtain ⟨aoa, capa, rfl, xa, xb, _⟩ := ha
  obtain ⟨aob, capb, rfl, ya, yb, _⟩ := hb
  have lx : xs.length ≤ 9223372036854775807 := by unfold maxLen at xb; omega
  have ly : ys.length ≤ 9223372036854775807 := by unfold maxLen at yb; omega
  clear ht xa xb ya yb
  cases h1 : fitB s r tbl xs with
  | false =>
    have HF1 := hid h1
    clear hok h1
    go_enter Try.func25, Try.ntmps25
    go_wp2_with fail
    obtain ⟨w1, hW⟩ : ∃ w1, w1 = w.alloc (Obj.cells #[.int .i64 s, .int .i64 r, vt] 28) := ⟨_, rfl⟩
    obtain ⟨N, hN⟩ : ∃ N, N = w.heap.size := ⟨_, rfl⟩
    have st : Below w.heap.size w w1 ∧ w1.cell? ⟨N, 0, none⟩ = some (.int .i64 s) ∧ w1.cell? ⟨N, 1, none⟩ = some (.int .i64 r) ∧ w1.cell? ⟨N, 2, none⟩ = some vt ∧ Rd w1 bt vt tbl ∧ Rd w1 ba (.slice aoa xs.length capa) xs ∧ Rd w1 bb (.slice aob ys.length capb) ys ∧ w.heap.size ≤ w1.heap.size := by
      rw [hW, hN]
      exact ⟨below1 _ _, by simp, by simp, by simp, HT.out.keep (below1 _ _) (Nat.le_refl _), HA.out.keep (below1 _ _) (Nat.le_refl _), HB.out.keep (below1 _ _) (Nat.le_refl _), by simp⟩
    simp only [← hW, ← hN]
    clear hW hN
    go_at_call 30
    refine (can st.2.1 st.2.2.1 st.2.2.2.1 (rd3_3_0 st) (rd3_3_1 st)).mono ?_
    rw [HF1.out]
    rintro e w2 ⟨rfl, bel⟩
    replace st := next3_3 bel st
    clear bel
    go_wp2
    go_ret2
    exact ⟨rfl, st.1⟩
  | true =>
    have HF1 := hid h1
    have HST := hid (fit_of h1).st

    cases h2 : fitB s r tbl ys with
    | false =>
      have HF2 := hid ((ring_fit h1).symm.trans h2)
      clear hok h1 h2
      go_enter Try.func25, Try.ntmps25
      go_wp2_with fail
      obtain ⟨w1, hW⟩ : ∃ w1, w1 = w.alloc (Obj.cells #[.int .i64 s, .int .i64 r, vt] 28) := ⟨_, rfl⟩
      obtain ⟨N, hN⟩ : ∃ N, N = w.heap.size := ⟨_, rfl⟩
      have st : Below w.heap.size w w1 ∧ w1.cell? ⟨N, 0, none⟩ = some (.int .i64 s) ∧ w1.cell? ⟨N, 1, none⟩ = some (.int .i64 r) ∧ w1.cell? ⟨N, 2, none⟩ = some vt ∧ Rd w1 bt vt tbl ∧ Rd w1 ba (.slice aoa xs.length capa) xs ∧ Rd w1 bb (.slice aob ys.length capb) ys ∧ w.heap.size ≤ w1.heap.size := by
        rw [hW, hN]
        exact ⟨below1 _ _, by simp, by simp, by simp, HT.out.keep (below1 _ _) (Nat.le_refl _), HA.out.keep (below1 _ _) (Nat.le_refl _), HB.out.keep (below1 _ _) (Nat.le_refl _), by simp⟩
      simp only [← hW, ← hN]
      clear hW hN
      go_at_call 30
      refine (can st.2.1 st.2.2.1 st.2.2.2.1 (rd3_3_0 st) (rd3_3_1 st)).mono ?_
      rw [HF1.out]
      rintro e w2 ⟨rfl, bel⟩
      replace st := next3_3 bel st
      clear bel
      go_wp2_with fail
      go_at_call 38
      refine (specL02Ring (rd3_3_2 st) HST.out).mono ?_
      rw [HF2.out]
      rintro e w3 ⟨rfl, hw3⟩
      subst hw3
      go_wp2
      go_ret2
      exact ⟨rfl, st.1⟩
    | true =>
      have HF2 := hid ((ring_fit h1).symm.trans h2)
      by_cases h3 : xs.length = ys.length
      · have h4 : ¬ (0 ≤ M ∧ M ≤ 64) := fun h4 => hok ⟨h1, h2, h3, h4⟩
        have HM := hid h4
        have e3 : ((xs.length : Int) != (ys.length : Int)) = false := by rw [h3]; simp
        clear hok h1 h2 h3 h4
        go_enter Try.func25, Try.ntmps25
        go_wp2_with fail
        obtain ⟨w1, hW⟩ : ∃ w1, w1 = w.alloc (Obj.cells #[.int .i64 s, .int .i64 r, vt] 28) := ⟨_, rfl⟩
        obtain ⟨N, hN⟩ : ∃ N, N = w.heap.size := ⟨_, rfl⟩
        have st : Below w.heap.size w w1 ∧ w1.cell? ⟨N, 0, none⟩ = some (.int .i64 s) ∧ w1.cell? ⟨N, 1, none⟩ = some (.int .i64 r) ∧ w1.cell? ⟨N, 2, none⟩ = some vt ∧ Rd w1 bt vt tbl ∧ Rd w1 ba (.slice aoa xs.length capa) xs ∧ Rd w1 bb (.slice aob ys.length capb) ys ∧ w.heap.size ≤ w1.heap.size := by
          rw [hW, hN]
          exact ⟨below1 _ _, by simp, by simp, by simp, HT.out.keep (below1 _ _) (Nat.le_refl _), HA.out.keep (below1 _ _) (Nat.le_refl _), HB.out.keep (below1 _ _) (Nat.le_refl _), by simp⟩
        simp only [← hW, ← hN]
        clear hW hN
        go_at_call 30
        refine (can st.2.1 st.2.2.1 st.2.2.2.1 (rd3_3_0 st) (rd3_3_1 st)).mono ?_
        rw [HF1.out]
        rintro e w2 ⟨rfl, bel⟩
        replace st := next3_3 bel st
        clear bel
        go_wp2_with fail
        go_at_call 38
        refine (specL02Ring (rd3_3_2 st) HST.out).mono ?_
        rw [HF2.out]
        rintro e w3 ⟨rfl, hw3⟩
        subst hw3
        go_wp2_with fail
        go_at_call 34
        refine (inNo HM.out).mono ?_
        rintro e w4 ⟨rfl, hw4⟩
        subst hw4
        go_wp2
        go_ret2
        exact ⟨rfl, st.1⟩
      · have e3 : ((xs.length : Int) != (ys.length : Int)) = true := by simp; omega
        clear hok h1 h2
        go_enter Try.func25, Try.ntmps25
        go_wp2_with fail
        obtain ⟨w1, hW⟩ : ∃ w1, w1 = w.alloc (Obj.cells #[.int .i64 s, .int .i64 r, vt] 28) := ⟨_, rfl⟩
        obtain ⟨N, hN⟩ : ∃ N, N = w.heap.size := ⟨_, rfl⟩
        have st : Below w.heap.size w w1 ∧ w1.cell? ⟨N, 0, none⟩ = some (.int .i64 s) ∧ w1.cell? ⟨N, 1, none⟩ = some (.int .i64 r) ∧ w1.cell? ⟨N, 2, none⟩ = some vt ∧ Rd w1 bt vt tbl ∧ Rd w1 ba (.slice aoa xs.length capa) xs ∧ Rd w1 bb (.slice aob ys.length capb) ys ∧ w.heap.size ≤ w1.heap.size := by
          rw [hW, hN]
          exact ⟨below1 _ _, by simp, by simp, by simp, HT.out.keep (below1 _ _) (Nat.le_refl _), HA.out.keep (below1 _ _) (Nat.le_refl _), HB.out.keep (below1 _ _) (Nat.le_refl _), by simp⟩
        simp only [← hW, ← hN]
        clear hW hN
        go_at_call 30
        refine (can st.2.1 st.2.2.1 st.2.2.2.1 (rd3_3_0 st) (rd3_3_1 st)).mono ?_
        rw [HF1.out]
        rintro e w2 ⟨rfl, bel⟩
        replace st := next3_3 bel st
        clear bel
        go_wp2_with fail
        go_at_call 38
        refine (specL02Ring (rd3_3_2 st) HST.out).mono ?_
        rw [HF2.out]
        rintro e w3 ⟨rfl, hw3⟩
        subst hw3
        go_wp2
        go_ret2
        exact ⟨rfl, st.1⟩

set_option maxHeartbeats 8000000 in
theorem specOk {w : World} {s r : Int} {K : Nat} {bt ba bb : Nat} {vt va vb : Value} {tbl xs ys : List Int} (ht : Rd w bt vt tbl) (ha : Rd w ba va xs) (hb : Rd w bb vb ys) (hok : okD s r tbl xs ys K) :
    Calls Try.prog 25 #[ruleV s r vt, va, vb, .int .i64 K] w fun e w' => ∃ v', ∃ b', e = .returned (.tuple #[v', .bool true]) ∧
      Own 2 w' b' v' (damL tbl xs ys s r K) ∧ w.heap.size ≤ b' ∧ Below w.heap.size w w' := by
  have HT := hid ht
  have HA := hid ha
  have HB := hid hb
  obtain ⟨k1, k2, k3, k4, k5⟩ := hok
  have HF1 := hid k1
  have HF2 := hid ((ring_fit k1).symm.trans k2)
  have HST := hid (fit_of k1).st
  have HG1 := hid (fun k => run_fit (fit_of k1) k)
  have HG2 := hid (fun k => run_fit (fit_of k2) k)
  have HM := hid (And.intro k4 k5)
  have hz := (fit_of k1).n
  have HLn := hid k3
  obtain ⟨aoa, capa, rfl, _, _, ja⟩ := ha
  obtain ⟨offa, rfl, hba, hca⟩ := ja (by omega)
  obtain ⟨aob, capb, rfl, _, _, jb⟩ := hb
  obtain ⟨offb, rfl, hbb, hcb⟩ := jb (by omega)
  have HCA := hid hca
  have HCB := hid hcb
  have e3 : ((xs.length : Int) != (ys.length : Int)) = false := by rw [k3]; simp
  obtain ⟨n1, n2⟩ := hz
  have n3 : ys.length ≤ 64 := by omega
  clear ht k1 k2 k3 ja jb hca hcb
  go_enter Try.func25, Try.ntmps25
  go_wp2_with fail
  obtain ⟨w1, hW⟩ : ∃ w1, w1 = w.alloc (Obj.cells #[.int .i64 s, .int .i64 r, vt] 28) := ⟨_, rfl⟩
  obtain ⟨N, hN⟩ : ∃ N, N = w.heap.size := ⟨_, rfl⟩
  have st : Below w.heap.size w w1 ∧ w1.cell? ⟨N, 0, none⟩ = some (.int .i64 s) ∧ w1.cell? ⟨N, 1, none⟩ = some (.int .i64 r) ∧ w1.cell? ⟨N, 2, none⟩ = some vt ∧ Rd w1 bt vt tbl ∧ Rd w1 ba (.slice (some ⟨ba, offa, none⟩) xs.length capa) xs ∧ Rd w1 bb (.slice (some ⟨bb, offb, none⟩) ys.length capb) ys ∧ w.heap.size ≤ w1.heap.size := by
    rw [hW, hN]
    exact ⟨below1 _ _, by simp, by simp, by simp, HT.out.keep (below1 _ _) (Nat.le_refl _), HA.out.keep (below1 _ _) (Nat.le_refl _), HB.out.keep (below1 _ _) (Nat.le_refl _), by simp⟩
  simp only [← hW, ← hN]
  clear hW hN
  go_at_call 30
  refine (can st.2.1 st.2.2.1 st.2.2.2.1 (rd3_3_0 st) (rd3_3_1 st)).mono ?_
  rw [HF1.out]
  rintro e w2 ⟨rfl, bel⟩
  replace st := next3_3 bel st
  clear bel
  go_wp2_with fail
  go_at_call 38
  refine (specL02Ring (rd3_3_2 st) HST.out).mono ?_
  rw [HF2.out]
  rintro e w3 ⟨rfl, hw3⟩
  subst hw3
  go_wp2_with fail
  go_at_call 34
  refine (inYes HM.out.1 HM.out.2).mono ?_
  rintro e w4 ⟨rfl, hw4⟩
  subst hw4
  have ST := hid st
  clear st
  go_wp2_with (first | (at_builtin; refine appendAll rfl (.tmp 36) (.tmp 37) rfl w2.heap.size _ rfl (World.ownsRow_lit (base := w2.heap.size) (e := 2) (size := 1) w2 #[] 0 (Nat.le_refl _) (by simp) (by simp)) ba offa capa xs rfl (fun i hi => cell_keep (below1 _ _) ((ST.out.1.cell hba).trans (HCA.out i hi))) ?c1 ?c2 ?_) | fail)
  case c1 => omega
  case c2 => simp
  · intro v3 w3 hown3 hbel3
    obtain ⟨b3, hb3, own3⟩ := Own.of hown3
    have HO3 := hid own3
    have HB3 := hid (((Below.refl w2.heap.size w2).alloc (Nat.le_refl _) _).trans hbel3)
    have HL3 := hid hb3
    clear hown3 hbel3 own3 hb3
    go_wp2_with (first | (at_builtin; refine appendAll rfl (.tmp 39) (.tmp 40) rfl w3.heap.size _ rfl (World.ownsRow_lit (base := w3.heap.size) (e := 2) (size := 1) w3 #[] 0 (Nat.le_refl _) (by simp) (by simp)) bb offb capb ys rfl (fun i hi => cell_keep (below1 _ _) (cell_keep HB3.out ((ST.out.1.cell hbb).trans (HCB.out i hi)))) ?d1 ?d2 ?_) | fail)
    case d1 => omega
    case d2 => simp
    · intro v4 w4 hown4 hbel4
      obtain ⟨b4, hb4, own4⟩ := Own.of hown4
      have bel4 := ((Below.refl w3.heap.size w3).alloc (Nat.le_refl _) _).trans hbel4
      have HO4 := hid own4
      have HO3' := hid (HO3.out.keep bel4)
      have ST4 := hid (next3_3 (HB3.out.trans (bel4.mono HB3.out.size)) ST.out)
      clear hown4 hbel4 own4 bel4 hb4
      go_wp2_with fail
      go_at_call 41
      refine (specDiffer HO3'.out.rd HO4.out.rd HLn.out (by omega)).mono ?_
      rintro e w5 ⟨rfl, dm, hw5⟩
      have bel5 : Below w4.heap.size w4 w5 := by rw [hw5]; exact Spec.below_drewN' _ _ _
      have HO3'' := hid (HO3'.out.keep bel5)
      have HO4' := hid (HO4.out.keep bel5)
      have ST5 := hid (next3_3 bel5 ST4.out)
      have hd0 : differ xs ys xs.length = damAt tbl xs ys s r 0 := rfl
      rw [hd0]
      obtain ⟨D0, hD0⟩ : ∃ D, D = damAt tbl xs ys s r 0 := ⟨_, rfl⟩
      have HD0 := hid hD0
      rw [← hD0]
      clear hd0 hD0 bel5 hw5
      go_wp2
      go_loopw [10, 11, 12, 13] (fun a b c t wr => ∃ k : Nat, k ≤ K ∧ t = .int .i64 k ∧ wr.ownsRow w5.heap.size 2 1 c (damL tbl xs ys s r k).length ((damL tbl xs ys s r k).map (Value.int .i64)) ∧
        (∃ ba' bb', Hid (Below w.heap.size w wr ∧ wr.cell? ⟨N, 0, none⟩ = some (.int .i64 s) ∧ wr.cell? ⟨N, 1, none⟩ = some (.int .i64 r) ∧ wr.cell? ⟨N, 2, none⟩ = some vt ∧ Rd wr bt vt tbl ∧ Rd wr ba' a (runL tbl xs s r k) ∧ Rd wr bb' b (runL tbl ys s r k) ∧ w5.heap.size ≤ wr.heap.size))) (fun _ _ _ t _ => K - (intOf t).toNat)
      case atStart =>
        refine ⟨0, Nat.zero_le _, rfl, ?_, b3, b4, ?_⟩
        · rw [damL_zero, ← HD0.out]
          exact World.ownsRow_lit (base := w5.heap.size) (e := 2) (size := 1) w5 #[.int .i64 D0] 1 (Nat.le_refl _) (by unfold maxLen; omega) (by simp)
        · obtain ⟨t0, t1, t2, t3, t4, t5, t6, t7⟩ := next3_3 (below1 w5 (.cells #[.int .i64 D0] 2)) ST5.out
          exact ⟨t0, t1, t2, t3, t4, (HO3''.out.keep (below1 _ _)).rd, (HO4'.out.keep (below1 _ _)).rd, by simp⟩
      case round =>
        obtain ⟨k, hk, rfl, hown, ba', bb', HS⟩ := hrel
        by_cases hlt : k < K
        · have HC := hid hown
          have HSz := hid HS.out.2.2.2.2.2.2.2
          have st : Below w.heap.size w wr ∧ wr.cell? ⟨N, 0, none⟩ = some (.int .i64 s) ∧ wr.cell? ⟨N, 1, none⟩ = some (.int .i64 r) ∧ wr.cell? ⟨N, 2, none⟩ = some vt ∧ Rd wr bt vt tbl ∧ Rd wr ba' u10 (runL tbl xs s r k) ∧ Rd wr bb' u11 (runL tbl ys s r k) ∧ w.heap.size ≤ wr.heap.size := ⟨HS.out.1, HS.out.2.1, HS.out.2.2.1, HS.out.2.2.2.1, HS.out.2.2.2.2.1, HS.out.2.2.2.2.2.1, HS.out.2.2.2.2.2.2.1, HS.out.1.size⟩
          have hl1 := runL_length tbl xs s r k
          have hl2 := runL_length tbl ys s r k
          have HL1 := hid hl1
          have HL2 := hid hl2
          clear hown hl1 hl2
          go_wp2_with fail
          go_at_call 31
          refine (specStep st.2.1 st.2.2.1 st.2.2.2.1 (rd3_3_0 st) (rd3_3_1 st) (HG1.out k)).mono ?_
          rintro e w6 ⟨v6, b6, rfl, own6, lo6, bel6⟩
          have HC6 := hid (row_keep HC.out bel6)
          replace st := next3_3 bel6 st
          go_wp2_with fail
          go_at_call 31
          refine (specStep st.2.1 st.2.2.1 st.2.2.2.1 (rd3_3_0 st) (rd3_3_2 st) (HG2.out k)).mono ?_
          rintro e w7 ⟨v7, b7, rfl, own7, lo7, bel7⟩
          have HC7 := hid (row_keep HC6.out bel7)
          replace st := next3_3 bel7 st
          replace own6 := own6.keep bel7
          have HZ := hid (And.intro lo6 (And.intro lo7 (And.intro bel6.size bel7.size)))
          go_wp2_with fail
          go_at_call 41
          have e5 : nextL tbl (runL tbl xs s r k) s r (runL tbl xs s r k).length = runL tbl xs s r (k + 1) := by rw [HL1.out]; rfl
          have e6 : nextL tbl (runL tbl ys s r k) s r (runL tbl ys s r k).length = runL tbl ys s r (k + 1) := by rw [HL2.out]; rfl
          refine (specDiffer own6.rd own7.rd (by rw [e5, e6, runL_length, runL_length]; exact HLn.out) (by rw [e5, runL_length]; omega)).mono ?_
          rintro e w8 ⟨rfl, dq, hw8⟩
          have bel8 : Below w7.heap.size w7 w8 := by rw [hw8]; exact Spec.below_drewN' _ _ _
          have HC8 := hid (row_keep HC7.out bel8)
          have H6 := hid (own6.keep bel8)
          have H7 := hid (own7.keep bel8)
          have H8 := hid (next3_3 bel8 st)
          have hd : differ (nextL tbl (runL tbl xs s r k) s r (runL tbl xs s r k).length) (nextL tbl (runL tbl ys s r k) s r (runL tbl ys s r k).length) (nextL tbl (runL tbl xs s r k) s r (runL tbl xs s r k).length).length = damAt tbl xs ys s r (k + 1) := by
            rw [e5, e6, runL_length]; rfl
          rw [hd]
          obtain ⟨D, hD⟩ : ∃ D, D = damAt tbl xs ys s r (k + 1) := ⟨_, rfl⟩
          have HDD := hid hD
          rw [← hD]
          have E5 := hid e5
          have E6 := hid e6
          have HB78 := hid bel8.size
          clear hD hd e5 e6 own6 own7 lo6 lo7 bel6 bel7 bel8 hw8 st
          go_wp2_with (first | (at_builtin; refine append1g rfl _ _ rfl w5.heap.size _ _ rfl HC8.out _ rfl ?f1 ?f2 ?_) | fail)
          case f1 => rw [damL_length]; omega
          case f2 => exact Nat.le_trans HSz.out (Nat.le_trans HZ.out.2.2.1 (Nat.le_trans HZ.out.2.2.2 HB78.out))
          · intro v9 w9 hown9 hbel9 hg9
            have HG9 := hid hg9
            have HO9 := hid hown9
            have HB9 := hid hbel9
            clear hown9 hbel9 hg9
            go_wp2
            go_roundw
            case rel =>
              refine ⟨k + 1, by omega, by go_num, ?_, b6, b7, ?_⟩
              · rw [damL_succ, ← HDD.out, List.map_append, List.length_append]
                exact HO9.out
              · have q3 := ST5.out.1.size
                have hb8 : Below w.heap.size w w9 := H8.out.1.trans (HB9.out.mono q3)
                have hN3 : N < w5.heap.size := World.block_lt_of_cell? _ _ ST5.out.2.1
                have hlt := fun j hj => (HC.out.lt j hj).2
                have g5 : ∀ c : Value, u12 = c → c.ownBlock ≠ some b6 := by
                  intro c hc he
                  have h1 := hlt b6 (by rw [hc]; exact he)
                  have h2 := HZ.out.1
                  omega
                have g6 : ∀ c : Value, u12 = c → c.ownBlock ≠ some b7 := by
                  intro c hc he
                  have h1 := hlt b7 (by rw [hc]; exact he)
                  have h2 := HZ.out.2.1
                  have h3 := HZ.out.2.2.1
                  omega
                refine ⟨hb8, (HB9.out.cell (p := ⟨N, 0, none⟩) hN3).trans H8.out.2.1, (HB9.out.cell (p := ⟨N, 1, none⟩) hN3).trans H8.out.2.2.1, (HB9.out.cell (p := ⟨N, 2, none⟩) hN3).trans H8.out.2.2.2.1, HT.out.keep hb8 (Nat.le_refl _), ?_, ?_, ?_⟩
                · rw [← E5.out]; exact (H6.out.grown HG9.out (g5 _ rfl)).rd
                · rw [← E6.out]; exact (H7.out.grown HG9.out (g6 _ rfl)).rd
                · exact Nat.le_trans HSz.out (Nat.le_trans HZ.out.2.2.1 (Nat.le_trans HZ.out.2.2.2 (Nat.le_trans HB78.out HB9.out.size)))
            case measure => simp [intOf]; omega
        · have hkn : K = k := by omega
          subst hkn
          have HC := hid hown
          clear hown
          go_wp2
          go_ret2
          obtain ⟨b', hb', ho⟩ := Own.of HC.out
          exact ⟨_, b', rfl, ho, Nat.le_trans ST5.out.1.size hb', HS.out.1⟩

end Go.Proofs.Ytpehalecmgpbnaa.Damage
