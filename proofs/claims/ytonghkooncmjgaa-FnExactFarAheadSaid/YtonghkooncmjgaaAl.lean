/- What a rule tells where a cell alone is 1: toldAlone. -/
import Derived.Test.YtonghkooncmjgaaTell
import Derived.BigQuiet
namespace Go.Proofs.Ytonghkooncmjgaa.Al
open Go.RowKit Go.Proofs.Ytonghkooncmjgaa.Rd Go.Proofs.Ytonghkooncmjgaa.Help Go.Proofs.Ytonghkooncmjgaa.Ring Go.Proofs.Ytonghkooncmjgaa.Small Go.Proofs.Ytonghkooncmjgaa.Num Go.Proofs.Ytonghkooncmjgaa.Keep Go.Proofs.Ytonghkooncmjgaa.Rule Go.Proofs.Ytonghkooncmjgaa.Dig Go.Proofs.Ytonghkooncmjgaa.DigP Go.Proofs.Ytonghkooncmjgaa.Tell
set_option linter.unusedVariables false
set_option linter.unusedSimpArgs false

theorem valid_parts {s r : Int} {zs : List Int} (h : validB s r zs = true) : (2 ≤ s ∧ s ≤ 3) ∧ (0 ≤ r ∧ r ≤ 2) ∧ (zs.length : Int) = s ^ (2 * r + 1).toNat ∧ allB zs s = true := by
  simp only [validB, shapeB, Bool.and_eq_true, decide_eq_true_eq] at h
  exact ⟨⟨h.1.1, h.1.2.1⟩, ⟨h.1.2.2.1, h.1.2.2.2⟩, h.2.1, h.2.2⟩

/-- What is told where one of the last k cells is 1, and all others are 0. -/
def alo (tbl : List Int) (s : Int) : Nat → List Int
  | 0 => []
  | k + 1 => tbl.getD (s ^ k).toNat 0 :: alo tbl s k
theorem alo_length (tbl : List Int) (s : Int) (k : Nat) : (alo tbl s k).length = k := by
  induction k with
  | zero => rfl
  | succ k ih => simp [alo, ih]
theorem alo_get (tbl : List Int) (s : Int) : ∀ (L i : Nat), i < L → (alo tbl s L).getD i 0 = tbl.getD (s ^ (L - 1 - i)).toNat 0 := by
  intro L
  induction L with
  | zero => intro i hi; omega
  | succ L ih =>
    intro i hi
    cases i with
    | zero => simp [alo, List.getD]
    | succ i =>
      have := ih i (by omega)
      have e : L + 1 - 1 - (i + 1) = L - 1 - i := by omega
      rw [e, ← this]
      simp [alo, List.getD]
theorem set_alo (tbl : List Int) (s : Int) (L k : Nat) (h : k < L) :
    (List.replicate (L - k) 0 ++ alo tbl s k).set (L - 1 - k) (tbl.getD (s ^ k).toNat 0) = List.replicate (L - (k + 1)) 0 ++ alo tbl s (k + 1) := by
  obtain ⟨m, hm⟩ : ∃ m, L - k = m + 1 := ⟨L - k - 1, by omega⟩
  have e1 : L - 1 - k = m := by omega
  have e2 : L - (k + 1) = m := by omega
  rw [hm, e1, e2, List.replicate_succ', List.append_assoc]
  simp [alo]
theorem alo_all {tbl : List Int} {s : Int} (hs : 2 ≤ s ∧ s ≤ 3) (ha : allB tbl s = true) {L : Nat} (hl : (tbl.length : Int) = s ^ L) : ∀ k, k ≤ L → allB (alo tbl s k) s = true := by
  intro k
  induction k with
  | zero => intro _; rfl
  | succ k ih =>
    intro hk
    have h1 := ih (by omega)
    have p1 := pow_pos' hs k
    have p2 := pow_le' hs hk
    have p3 : s ^ k < s ^ (k + 1) := by
      rw [Int.pow_succ]
      rcases (show s = 2 ∨ s = 3 by omega) with rfl | rfl <;> omega
    have h2 := all_get ha (i := (s ^ k).toNat) (by omega)
    unfold allB at h1 ⊢
    simp only [alo, List.all_cons, h1, Bool.and_true, okB, decide_eq_true_eq]
    exact h2

set_option maxHeartbeats 4000000 in
theorem toldAlone {w : World} {s r : Int} {b : Nat} {v : Value} {tbl : List Int} (h : Rd w b v tbl) (hv : validB s r tbl = true) :
    Calls Try.prog 188 #[ruleV s r v] w fun e w' => ∃ b', e = .returned (.slice (some ⟨b', 0, none⟩) (alo tbl s (2 * r + 1).toNat).length (alo tbl s (2 * r + 1).toNat).length) ∧
      Own 2 w' b' (.slice (some ⟨b', 0, none⟩) (alo tbl s (2 * r + 1).toNat).length (alo tbl s (2 * r + 1).toNat).length) (alo tbl s (2 * r + 1).toNat) ∧ w.heap.size ≤ b' ∧ Below w.heap.size w w' := by
  obtain ⟨hs, hr, hl, ha⟩ := valid_parts hv
  rw [alo_length]
  obtain ⟨L, hL⟩ : ∃ L, L = (2 * r + 1).toNat := ⟨_, rfl⟩
  rw [← hL] at hl ⊢
  have hLr : (L : Int) = 2 * r + 1 := by omega
  have hmk := run_make_row' (P := Try.prog) 22 2 (.int .i64 0) 8 Try.underlying22 infoI rfl .i64 .i64 L (by omega) (by omega)
  rw [hLr] at hmk
  have HH := hid h
  have HS := hid hs
  have HR := hid hr
  have HPB : Hid (∀ k, k < L → 1 ≤ s ^ k ∧ s ^ k < (tbl.length : Int) ∧ s ^ k ≤ 243) := by
    intro k hk
    have p1 := pow_pos' hs k
    have p2 := pow_le' hs (show k + 1 ≤ L by omega)
    have p3 : s ^ k < s ^ (k + 1) := by
      rw [Int.pow_succ]
      rcases (show s = 2 ∨ s = 3 by omega) with rfl | rfl <;> omega
    have p4 := (pow_bd hs (show k ≤ 5 by omega)).2
    omega
  obtain ⟨ao, cap, rfl, hc, hm, h4⟩ := h
  obtain ⟨off, rfl, hb, hcell⟩ := h4 (by have := pow_pos' hs L; omega)
  obtain ⟨n, hn⟩ : ∃ n, n = tbl.length := ⟨_, rfl⟩
  rw [← hn] at HH HPB hcell ⊢
  have HC := hid hcell
  have HBt := hid hb
  have HLr := hid hLr
  have hL5 : L ≤ 5 := by omega
  obtain ⟨s1, s2⟩ := hs
  clear h4 hcell hb ha hc hm hv hl hL hn
  go_enter Try.func188, Try.ntmps188
  go_wp2_with fail
  obtain ⟨w1, hW⟩ : ∃ w1, w1 = w.alloc (Obj.cells #[.int .i64 s, .int .i64 r, (Value.slice (some ⟨b, off, none⟩) n cap)] 33) := ⟨_, rfl⟩
  obtain ⟨NR, hN⟩ : ∃ NR, NR = w.heap.size := ⟨_, rfl⟩
  have st : Below w.heap.size w w1 ∧ w1.cell? ⟨NR, 0, none⟩ = some (.int .i64 s) ∧ w1.cell? ⟨NR, 1, none⟩ = some (.int .i64 r) ∧ w1.cell? ⟨NR, 2, none⟩ = some (Value.slice (some ⟨b, off, none⟩) n cap) ∧ Rd w1 b (Value.slice (some ⟨b, off, none⟩) n cap) tbl ∧ w.heap.size ≤ w1.heap.size := by
    rw [hW, hN]
    exact ⟨below1 _ _, by simp, by simp, by simp, HH.out.keep (below1 _ _) (Nat.le_refl _), by simp⟩
  simp only [← hW, ← hN]
  clear hW hN
  go_at_call 102
  refine shapeOf.mono ?_
  rintro e w2 ⟨rfl, bel⟩
  replace st := next3_1 bel st
  clear bel
  go_wp2_with fail
  go_at_call 103
  refine (wide HR.out).mono ?_
  rintro e w3 ⟨rfl, bel⟩
  replace st := next3_1 bel st
  clear bel
  go_wp2
  have ST := hid st
  obtain ⟨b0, hb0⟩ : ∃ b0, b0 = w3.heap.size := ⟨_, rfl⟩
  have hb0' : w3.heap.size = b0 := hb0.symm
  have hown0 : Own 2 (w3.alloc (.cells (madeCells #[.int .i64 0] L) 2)) b0 (.slice (some ⟨b0, 0, none⟩) L L) (List.replicate L 0) := by
    have := Own.made 2 w3 L (by unfold maxLen; omega)
    rw [hb0'] at this; exact this
  have hbel0 : Below b0 w3 (w3.alloc (.cells (madeCells #[.int .i64 0] L) 2)) := (Below.refl _ _).alloc (by omega) _
  have HN0 : Hid (w.heap.size ≤ b0) := by simp only [Hid]; rw [hb0]; exact st.2.2.2.2.2
  have HBb : Hid (b < b0) := by simp only [Hid]; rw [hb0]; exact Nat.lt_of_lt_of_le HBt.out st.2.2.2.2.2
  have HNb : Hid (NR < b0) := by simp only [Hid]; rw [hb0]; exact World.block_lt_of_cell? _ _ st.2.1
  simp only [hb0']
  clear hb0 st hmk hLr
  go_loopw [4, 5] (fun i a wr => ∃ k : Nat, k ≤ L ∧ i = .int .i64 ((L : Int) - 1 - k) ∧ a = .int .i64 (s ^ k) ∧ Own 2 wr b0 (.slice (some ⟨b0, 0, none⟩) L L) (List.replicate (L - k) 0 ++ alo tbl s k) ∧ Below b0 w3 wr) (fun i _ _ => (intOf i + 1).toNat)
  case atStart => exact ⟨0, Nat.zero_le _, by have := HLr.out; simp; omega, by simp, by simpa [alo] using hown0, hbel0⟩
  case round =>
    clear hown0 hbel0
    obtain ⟨k, hk, rfl, rfl, hown, hbel⟩ := hrel
    by_cases hlt : k < L
    · obtain ⟨p1, p2, p3⟩ := HPB.out k hlt
      have HE1 : Hid (s ^ k * s = s ^ (k + 1)) := (Int.pow_succ s k).symm
      obtain ⟨P, hP⟩ : ∃ P : Nat, s ^ k = P := ⟨(s ^ k).toNat, by omega⟩
      have HP := hid hP
      rw [hP] at p1 p2 p3 ⊢
      obtain ⟨x, hx⟩ : ∃ x, x = tbl.getD P 0 := ⟨_, rfl⟩
      have HX := hid hx
      have s3 := ST.out
      have r0 : wr.cell? ⟨NR, 0, none⟩ = some (.int .i64 s) := (hbel.cell (p := ⟨NR, 0, none⟩) HNb.out).trans s3.2.1
      have r2' : wr.cell? ⟨NR, 2, none⟩ = some (Value.slice (some ⟨b, off, none⟩) n cap) := (hbel.cell (p := ⟨NR, 2, none⟩) HNb.out).trans s3.2.2.2.1
      have hcx : wr.cell? ⟨b, off + P, none⟩ = some (.int .i64 x) := by
        rw [hx]
        exact (hbel.cell (p := ⟨b, off + P, none⟩) HBb.out).trans ((s3.1.cell (p := ⟨b, off + P, none⟩) HBt.out).trans (HC.out P (by omega)))
      obtain ⟨i, hi⟩ : ∃ i : Nat, (L : Int) - 1 - k = i := ⟨L - 1 - k, by omega⟩
      have hilt : (i : Int) < (L : Int) := by omega
      rw [hi]
      have HI := hid hi
      have hlen : (List.replicate (L - k) (0 : Int) ++ alo tbl s k).length = L := by rw [List.length_append, List.length_replicate, alo_length]; omega
      have hox := hown.cell (i := i) (by rw [hlen]; omega)
      have hof := hown.free i
      have hnb : ¬ b0 = NR := by have := HNb.out; omega
      have q0 : (wr.setCell ⟨b0, i, none⟩ (.int .i64 x)).cell? ⟨NR, 0, none⟩ = some (.int .i64 s) := (((Below.refl b0 wr).setCell (p := ⟨b0, i, none⟩) (Nat.le_refl _) (.int .i64 x)).cell (p := ⟨NR, 0, none⟩) HNb.out).trans r0
      have HO := hid hown
      have HB := hid hbel
      obtain ⟨Z, hZ⟩ : ∃ Z, (P : Int) * s = Z := ⟨_, rfl⟩
      have b7 : 0 ≤ Z ∧ Z ≤ 729 := by rw [← hZ]; rcases (show s = 2 ∨ s = 3 by omega) with rfl | rfl <;> omega
      obtain ⟨b8, b9⟩ := b7
      have HZ := hid hZ
      clear hP hx hown hbel hlen hi s3
      go_wp2_with fail
      go_quiet (fail)
      go_wp2
      go_roundw
      case rel =>
        have hq := set_alo tbl s L k hlt
        have hi2 : L - 1 - k = i := by have := HI.out; omega
        rw [hi2, HP.out, Int.toNat_natCast, ← HX.out] at hq
        refine ⟨k + 1, by omega, by have := HI.out; go_num, by rw [← HE1.out, HP.out, HZ.out], ?_, ?_⟩
        · rw [← hq]
          exact HO.out.set i _
        · exact (HB.out.setCell (p := ⟨b0, i, none⟩) (Nat.le_refl _) (.int .i64 x)).trans (Go.Proofs.Ytonghkooncmjgaa.Help.below_drewN _ _ _)
      case measure => have := HI.out; simp [intOf] <;> omega
    · have hkl : k = L := by omega
      subst hkl
      have e0 : ((k : Int) - 1 - k) = -1 := by omega
      rw [e0]
      go_wp2
      go_ret
      refine ⟨_, rfl, ?_, HN0.out, ?_⟩
      · simpa using hown
      · exact ST.out.1.trans (hbel.mono HN0.out)

end Go.Proofs.Ytonghkooncmjgaa.Al
