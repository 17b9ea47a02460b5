/- Words of rings: spec.WordsOfRing and impl.WordsOfRing. -/
import Derived.Test.YtpehalecmgpbnaaNum
import Derived.Test.YtpehalecmgpbnaaLawKit
namespace Go.Proofs.Ytpehalecmgpbnaa.Words
open Go.RowKit Go.Proofs.Ytpehalecmgpbnaa.Rd Go.Proofs.Ytpehalecmgpbnaa.Help Go.Proofs.Ytpehalecmgpbnaa.Ring Go.Proofs.Ytpehalecmgpbnaa.Small Go.Proofs.Ytpehalecmgpbnaa.Num
set_option linter.unusedVariables false

def bump (cs : List Int) (x : Nat) : List Int := cs.set x (cs.getD x 0 + 1)
def counts (zs : List Int) (st : Int) (L : Nat) : Nat → List Int
  | 0 => List.replicate (st ^ L).toNat 0
  | i + 1 => bump (counts zs st L i) (num zs st i L).toNat
theorem counts_length (zs : List Int) (st : Int) (L i : Nat) : (counts zs st L i).length = (st ^ L).toNat := by
  induction i with
  | zero => simp [counts]
  | succ i ih => simp [counts, bump, ih]
theorem counts_bd (zs : List Int) (st : Int) (L i j : Nat) : 0 ≤ (counts zs st L i).getD j 0 ∧ (counts zs st L i).getD j 0 ≤ i := by
  induction i generalizing j with
  | zero =>
    simp only [counts, List.getD, List.getElem?_replicate]
    split <;> simp
  | succ i ih =>
    simp only [counts, bump]
    have h1 := ih j
    have h2 := ih (num zs st i L).toNat
    simp only [List.getD, List.getElem?_set] at *
    split
    · split
      · simp; omega
      · simp; omega
    · omega

/-- The arguments for which words are counted. -/
def Good (zs : List Int) (st L : Int) : Prop := isRingB zs st = true ∧ 1 ≤ L ∧ L ≤ 4

theorem good_parts {zs : List Int} {st : Int} (h : isRingB zs st = true) : (2 ≤ st ∧ st ≤ 3) ∧ ringB zs st = true ∧ allB zs st = true ∧ (1 ≤ zs.length ∧ zs.length ≤ 64) := by
  simp only [isRingB, ringB, Bool.and_eq_true, decide_eq_true_eq] at h ⊢
  exact ⟨h.1, h.2, h.2.1, h.2.2⟩

set_option maxHeartbeats 1000000 in
theorem implOk {w : World} {b : Nat} {v : Value} {zs : List Int} {st : Int} {L : Nat} (h : Rd w b v zs) (hg : Good zs st L) :
    Calls Try.prog 28 #[v, .int .i64 st, .int .i64 L] w fun e w' => ∃ v' b', e = .returned (.tuple #[v', .bool true]) ∧
      Own 2 w' b' v' (counts zs st L zs.length) ∧ w.heap.size ≤ b' ∧ Below w.heap.size w w' := by
  obtain ⟨hr, l1, l2⟩ := hg
  obtain ⟨hst, _, hall, hn⟩ := good_parts hr
  have HR : Hid (isRingB zs st = true) := hr
  have HH : Hid (Rd w b v zs) := h
  have HS : Hid (2 ≤ st ∧ st ≤ 3) := hst
  have HA : Hid (allB zs st = true) := hall
  have HN : Hid (1 ≤ zs.length ∧ zs.length ≤ 64) := hn
  obtain ⟨ao, cap, rfl, hc, hm, _⟩ := h
  obtain ⟨M, hM⟩ : ∃ M : Nat, st ^ L = (M : Int) := ⟨(st ^ L).toNat, by have := (pow_bd hst (show L ≤ 5 by omega)).1; omega⟩
  have hMb : M ≤ 243 := by have := (pow_bd hst (show L ≤ 5 by omega)).2; omega
  have HM : Hid (st ^ L = (M : Int)) := hM
  have hmk := run_make_row' (P := Try.prog) 22 2 (.int .i64 0) 8 Try.underlying22 infoI rfl .i64 .i64 M (by omega) (by omega)
  have hl1 : decide ((L : Int) < 1) = false := by simp; omega
  have hl2 : decide ((4 : Int) < (L : Int)) = false := by simp; omega
  obtain ⟨n, hnn⟩ : ∃ n, n = zs.length := ⟨_, rfl⟩
  have Hn : Hid (n = zs.length) := hnn
  rw [← hnn] at HH HN hn ⊢
  obtain ⟨n1, n2⟩ := hn
  clear hr hst hall hM hnn hc hm
  go_enter Try.func28, Try.ntmps28
  go_wp2_with fail
  go_at_call 44
  refine (implIsRing (HH.out)).mono ?_
  rw [HR.out]
  rintro e w1 ⟨rfl, bel1⟩
  go_wp2_with fail
  go_at_call 45
  refine (implPower HS.out (by omega)).mono ?_
  rw [HM.out]
  rintro e w1' ⟨rfl, rfl⟩
  have HH1 := HH.out.keep bel1 (Nat.le_refl _)
  go_wp2
  have B1 : Hid (Below w.heap.size w w1) := bel1
  have H1 : Hid (Rd w1 b (.slice ao n cap) zs) := HH1
  clear bel1 HH1
  go_loopw [9, 28] (fun j t wr => ∃ k : Nat, k ≤ n ∧ t = .int .i64 k ∧ Own 2 wr w1.heap.size (.slice (some ⟨w1.heap.size, 0, none⟩) M M) (counts zs st L k) ∧ Below w1.heap.size w1 wr) (fun _ t _ => n - (intOf t).toNat)
  case atStart => exact ⟨0, Nat.zero_le _, rfl, by have := Own.made 2 w1 M (by unfold maxLen; omega); simpa [counts, HM.out] using this, (Below.refl _ _).alloc (Nat.le_refl _) _⟩
  case round =>
    obtain ⟨k, hk, rfl, hown, hbel⟩ := hrel
    by_cases hlt : k < n
    · have b1 := num_bd HA.out HS.out (by have := Hn.out; omega) (k : Int) L
      rw [HM.out] at b1
      obtain ⟨m, hmm⟩ : ∃ m : Nat, num zs st k L = (m : Int) := ⟨(num zs st k L).toNat, by omega⟩
      have hml : m < M := by omega
      have hlen : (counts zs st L k).length = M := by rw [counts_length, HM.out]; simp
      have hox := hown.cell (i := m) (by omega)
      have hof := hown.free m
      have hcb := counts_bd zs st L k m
      obtain ⟨c, hcc⟩ : ∃ c, c = (counts zs st L k).getD m 0 := ⟨_, rfl⟩
      rw [← hcc] at hox hcb
      obtain ⟨c1, c2⟩ := hcb
      have HC : Hid (c = (counts zs st L k).getD m 0) := hcc
      have HNM : Hid (num zs st k L = (m : Int)) := hmm
      have HO : Hid (Own 2 wr w1.heap.size (.slice (some ⟨w1.heap.size, 0, none⟩) M M) (counts zs st L k)) := hown
      have HB : Hid (Below w1.heap.size w1 wr) := hbel
      clear hcc hmm hown hbel b1 hlen
      go_wp2_with fail
      go_at_call 46
      refine (Num.numberAt (H1.out.keep HB.out (Nat.le_refl _)) HS.out (by have h1 := Hn.out; omega) HA.out (by omega) (by omega)).mono ?_
      rw [HNM.out]
      rintro e w' ⟨rfl, rfl⟩
      go_wp2
      go_roundw
      case rel =>
        refine ⟨k + 1, by omega, by go_num, ?_, HB.out.setCell (Nat.le_refl _) _⟩
        have h1 := HO.out.set m (c + 1)
        have e1 : counts zs st L (k + 1) = (counts zs st L k).set m (c + 1) := by rw [HC.out]; simp only [counts, bump, HNM.out, Int.toNat_natCast]
        rw [e1]
        exact h1
      case measure => simp [intOf]; omega
    · have hkn : n = k := by omega
      subst hkn
      go_wp2
      go_ret2
      exact ⟨_, w1.heap.size, rfl, hown, B1.out.size, B1.out.trans (hbel.mono B1.out.size)⟩

theorem not_good {zs : List Int} {st L : Int} (h : ¬ Good zs st L) : isRingB zs st = false ∨ (isRingB zs st = true ∧ L < 1) ∨ (isRingB zs st = true ∧ 4 < L) := by
  cases hr : isRingB zs st with
  | false => exact .inl rfl
  | true =>
    right
    by_cases h1 : L < 1
    · exact .inl ⟨rfl, h1⟩
    · exact .inr ⟨rfl, by have : ¬ (1 ≤ L ∧ L ≤ 4) := fun h2 => h ⟨hr, h2⟩; omega⟩

set_option maxHeartbeats 1000000 in
theorem implNo {w : World} {b : Nat} {v : Value} {zs : List Int} {st L : Int} (h : Rd w b v zs) (hg : ¬ Good zs st L) :
    Calls Try.prog 28 #[v, .int .i64 st, .int .i64 L] w fun e w' => e = .returned (.tuple #[.slice none 0 0, .bool false]) ∧ Below w.heap.size w w' := by
  have HH : Hid (Rd w b v zs) := h
  clear h
  rcases not_good hg with hr | ⟨hr, hl⟩ | ⟨hr, hl⟩
  · have HR : Hid (isRingB zs st = false) := hr
    clear hg hr
    go_enter Try.func28, Try.ntmps28
    go_wp2_with fail
    go_at_call 44
    refine (implIsRing (HH.out)).mono ?_
    rw [HR.out]
    rintro e w1 ⟨rfl, bel1⟩
    go_wp2
    go_ret2
    exact ⟨rfl, bel1⟩
  · have HR : Hid (isRingB zs st = true) := hr
    have hl1 : decide (L < 1) = true := by simp; omega
    clear hg hr
    go_enter Try.func28, Try.ntmps28
    go_wp2_with fail
    go_at_call 44
    refine (implIsRing (HH.out)).mono ?_
    rw [HR.out]
    rintro e w1 ⟨rfl, bel1⟩
    go_wp2
    go_ret2
    exact ⟨rfl, bel1⟩
  · have HR : Hid (isRingB zs st = true) := hr
    have hl1 : decide (L < 1) = false := by simp; omega
    have hl2 : decide (4 < L) = true := by simp; omega
    clear hg hr
    go_enter Try.func28, Try.ntmps28
    go_wp2_with fail
    go_at_call 44
    refine (implIsRing (HH.out)).mono ?_
    rw [HR.out]
    rintro e w1 ⟨rfl, bel1⟩
    go_wp2
    go_ret2
    exact ⟨rfl, bel1⟩

set_option maxHeartbeats 1000000 in
theorem specOk {w : World} {b : Nat} {v : Value} {zs : List Int} {st : Int} {L : Nat} (h : Rd w b v zs) (hg : Good zs st L) :
    Calls Try.prog 43 #[v, .int .i64 st, .int .i64 L] w fun e w' => ∃ v' b', e = .returned (.tuple #[v', .bool true]) ∧
      Own 2 w' b' v' (counts zs st L zs.length) ∧ w.heap.size ≤ b' ∧ Below w.heap.size w w' := by
  obtain ⟨hr, l1, l2⟩ := hg
  obtain ⟨hst, hrb, hall, hn⟩ := good_parts hr
  have HRB : Hid (ringB zs st = true) := hrb
  have HH : Hid (Rd w b v zs) := h
  have HS : Hid (2 ≤ st ∧ st ≤ 3) := hst
  have HA : Hid (allB zs st = true) := hall
  have HN : Hid (1 ≤ zs.length ∧ zs.length ≤ 64) := hn
  obtain ⟨ao, cap, rfl, hc, hm, h4⟩ := h
  obtain ⟨off, rfl, hb, hcell⟩ := h4 (by omega)
  obtain ⟨M, hM⟩ : ∃ M : Nat, st ^ L = (M : Int) := ⟨(st ^ L).toNat, by have := (pow_bd hst (show L ≤ 5 by omega)).1; omega⟩
  have hMb : M ≤ 243 := by have := (pow_bd hst (show L ≤ 5 by omega)).2; omega
  have HM : Hid (st ^ L = (M : Int)) := hM
  have hmk := run_make_row' (P := Try.prog) 22 2 (.int .i64 0) 8 Try.underlying22 infoI rfl .i64 .i64 M (by omega) (by omega)
  obtain ⟨n, hnn⟩ : ∃ n, n = zs.length := ⟨_, rfl⟩
  have Hn : Hid (n = zs.length) := hnn
  rw [← hnn] at HH HN hn hcell ⊢
  have HCl : Hid (∀ i, i < n → w.cell? ⟨b, off + i, none⟩ = some (.int .i64 (zs.getD i 0))) := hcell
  obtain ⟨n1, n2⟩ := hn
  obtain ⟨s1, s2⟩ := hst
  clear hr hrb hall hM hnn hc hm h4 hcell
  go_enter Try.func43, Try.ntmps43
  go_wp2_with fail
  go_at_call 34
  refine (inYes (by omega) (by omega)).mono ?_
  rintro e w' ⟨rfl, rfl⟩
  go_wp2_with fail
  go_at_call 38
  refine (specL02Ring HH.out HS.out).mono ?_
  rw [HRB.out]
  rintro e w' ⟨rfl, rfl⟩
  go_wp2_with fail
  go_at_call 34
  refine (inYes (by omega) (by omega)).mono ?_
  rintro e w' ⟨rfl, rfl⟩
  go_wp2_with fail
  go_at_call 51
  refine (specPower HS.out (by omega)).mono ?_
  rw [HM.out]
  rintro e w' ⟨rfl, rfl⟩
  go_wp2
  go_loopw [10] (fun t wr => ∃ k : Nat, k ≤ n ∧ t = .int .i64 k ∧ Own 2 wr w.heap.size (.slice (some ⟨w.heap.size, 0, none⟩) M M) (counts zs st L k) ∧ Below w.heap.size w wr) (fun t _ => n - (intOf t).toNat)
  case atStart => exact ⟨0, Nat.zero_le _, rfl, by have := Own.made 2 w M (by unfold maxLen; omega); simpa [counts, HM.out] using this, (Below.refl _ _).alloc (Nat.le_refl _) _⟩
  case round =>
    obtain ⟨k, hk, rfl, hown, hbel⟩ := hrel
    by_cases hlt : k < n
    · have b1 := num_bd HA.out HS.out (by have := Hn.out; omega) (k : Int) L
      rw [HM.out] at b1
      obtain ⟨m, hmm⟩ : ∃ m : Nat, num zs st k L = (m : Int) := ⟨(num zs st k L).toNat, by omega⟩
      have hml : m < M := by omega
      have hlen : (counts zs st L k).length = M := by rw [counts_length, HM.out]; simp
      have hox := hown.cell (i := m) (by omega)
      have hof := hown.free m
      have hcb := counts_bd zs st L k m
      obtain ⟨c, hcc⟩ : ∃ c, c = (counts zs st L k).getD m 0 := ⟨_, rfl⟩
      rw [← hcc] at hox hcb
      obtain ⟨c1, c2⟩ := hcb
      have HC : Hid (c = (counts zs st L k).getD m 0) := hcc
      have HNM : Hid (num zs st k L = (m : Int)) := hmm
      have HO : Hid (Own 2 wr w.heap.size (.slice (some ⟨w.heap.size, 0, none⟩) M M) (counts zs st L k)) := hown
      have HB : Hid (Below w.heap.size w wr) := hbel
      have HX : Hid (wr.cell? ⟨w.heap.size, m, none⟩ = some (.int .i64 c)) := hox
      clear hcc hmm hown hbel b1 hlen hox
      go_wp2
      go_loop [11, 12] (fun x q => ∃ j : Nat, j ≤ L ∧ q = .int .i64 j ∧ x = .int .i64 (num zs st k j)) (fun _ q => L - (intOf q).toNat)
      case atStart => exact ⟨0, Nat.zero_le _, rfl, rfl⟩
      case round =>
        obtain ⟨j, hj, rfl, rfl⟩ := hrel
        by_cases hlj : j < L
        · have b1 := num_bd HA.out HS.out (by have := Hn.out; omega) (k : Int) j
          have b0 := (pow_bd HS.out (show j ≤ 5 by omega)).2
          have b2 := cellR_bd HA.out (by have := Hn.out; omega) ((k : Int) + j)
          obtain ⟨p, hpp⟩ : ∃ p : Nat, ((k : Int) + j) % (n : Int) = p := ⟨(((k : Int) + j) % (n : Int)).toNat, by have := Int.emod_nonneg ((k : Int) + j) (show (n : Int) ≠ 0 by omega); omega⟩
          have hplt : p < n := by have := place_lt (zs := zs) (by have := Hn.out; omega) ((k : Int) + j); rw [← Hn.out, hpp] at this; simpa using this
          have hx : cellR zs ((k : Int) + j) = zs.getD p 0 := by unfold cellR; rw [← Hn.out, hpp]; simp
          have htm : (((k : Int) + j).tmod n) = p := by rw [Int.tmod_eq_emod_of_nonneg (by omega)]; exact hpp
          obtain ⟨X, hX⟩ : ∃ X, X = num zs st k j := ⟨_, rfl⟩
          obtain ⟨Y, hY⟩ : ∃ Y, Y = cellR zs ((k : Int) + j) := ⟨_, rfl⟩
          have hcx : wr.cell? ⟨b, off + p, none⟩ = some (.int .i64 Y) := by rw [hY, hx]; exact (HB.out.cell hb).trans (HCl.out p hplt)
          have hnx : num zs st k (j + 1) = X * st + Y := by rw [hX, hY]; rfl
          rw [← hX] at b1 ⊢
          rw [← hY] at b2
          obtain ⟨b3, b4⟩ := b1
          obtain ⟨b5, b6⟩ := b2
          have b4' : X ≤ 242 := by omega
          obtain ⟨Z, hZ⟩ : ∃ Z, X * st = Z := ⟨_, rfl⟩
          have b7 : 0 ≤ Z ∧ Z ≤ 726 := by rw [← hZ]; rcases (show st = 2 ∨ st = 3 by omega) with rfl | rfl <;> omega
          obtain ⟨b8, b9⟩ := b7
          have HNX : Hid (num zs st k (j + 1) = Z + Y) := by rw [hZ] at hnx; exact hnx
          clear hX hY hnx hpp hx b4 b0
          go_wp2
          go_round
          case rel => exact ⟨j + 1, by omega, by go_num, by rw [HNX.out]⟩
          case measure => simp [intOf]; omega
        · have hkn : j = L := by omega
          subst hkn
          rw [HNM.out]
          have hox := HX.out
          go_wp2
          go_roundw
          case rel =>
            refine ⟨k + 1, by omega, by go_num, ?_, HB.out.setCell (Nat.le_refl _) _⟩
            have h1 := HO.out.set m (c + 1)
            have e1 : counts zs st j (k + 1) = (counts zs st j k).set m (c + 1) := by rw [HC.out]; simp only [counts, bump, HNM.out, Int.toNat_natCast]
            rw [e1]
            exact h1
          case measure => simp [intOf]; omega
    · have hkn : n = k := by omega
      subst hkn
      go_wp2
      go_ret2
      exact ⟨_, w.heap.size, rfl, hown, Nat.le_refl _, hbel⟩

set_option maxHeartbeats 1000000 in
theorem specNo {w : World} {b : Nat} {v : Value} {zs : List Int} {st L : Int} (h : Rd w b v zs) (hg : ¬ Good zs st L) :
    Calls Try.prog 43 #[v, .int .i64 st, .int .i64 L] w fun e w' => e = .returned (.tuple #[.slice none 0 0, .bool false]) ∧ w = w' := by
  have HH : Hid (Rd w b v zs) := h
  clear h
  by_cases h1 : 2 ≤ st ∧ st ≤ 3
  · have H1 : Hid (2 ≤ st ∧ st ≤ 3) := h1
    cases h2 : ringB zs st with
    | true =>
      have h3 : ¬ (1 ≤ L ∧ L ≤ 4) := fun h3 => hg ⟨by simp only [isRingB, h2, decide_eq_true h1]; rfl, h3⟩
      have H2 : Hid (ringB zs st = true) := h2
      have H3 : Hid (¬ (1 ≤ L ∧ L ≤ 4)) := h3
      clear hg h1 h2 h3
      go_enter Try.func43, Try.ntmps43
      go_wp2_with fail
      go_at_call 34
      refine (inYes H1.out.1 H1.out.2).mono ?_
      rintro e w' ⟨rfl, rfl⟩
      go_wp2_with fail
      go_at_call 38
      refine (specL02Ring HH.out H1.out).mono ?_
      rw [H2.out]
      rintro e w' ⟨rfl, rfl⟩
      go_wp2_with fail
      go_at_call 34
      refine (inNo H3.out).mono ?_
      rintro e w' ⟨rfl, rfl⟩
      go_wp2
      go_ret2
      exact ⟨rfl, rfl⟩
    | false =>
      have H2 : Hid (ringB zs st = false) := h2
      clear hg h1 h2
      go_enter Try.func43, Try.ntmps43
      go_wp2_with fail
      go_at_call 34
      refine (inYes H1.out.1 H1.out.2).mono ?_
      rintro e w' ⟨rfl, rfl⟩
      go_wp2_with fail
      go_at_call 38
      refine (specL02Ring HH.out H1.out).mono ?_
      rw [H2.out]
      rintro e w' ⟨rfl, rfl⟩
      go_wp2
      go_ret2
      exact ⟨rfl, rfl⟩
  · have H1 : Hid (¬ (2 ≤ st ∧ st ≤ 3)) := h1
    clear hg h1
    go_enter Try.func43, Try.ntmps43
    go_wp2_with fail
    go_at_call 34
    refine (inNo H1.out).mono ?_
    rintro e w' ⟨rfl, rfl⟩
    go_wp2
    go_ret2
    exact ⟨rfl, rfl⟩

theorem spec {w : World} {v : Value} {st L : Int} (R : Ending → World → Prop)
    (h : Calls Try.prog 43 #[v, .int .i64 st, .int .i64 L] w fun e w' => ∃ v' q, e = .returned (.tuple #[v', .bool q]) ∧ R e w') :
    Calls Try.prog 27 #[v, .int .i64 st, .int .i64 L] w R := by
  have HH := hid h
  clear h
  go_enter Try.func27, Try.ntmps27
  go_wp2_with fail
  go_at_call 43
  refine HH.out.mono ?_
  rintro e w' ⟨v', q, rfl, hR⟩
  have HR := hid hR
  clear hR
  go_wp2
  exact HR.out

end Go.Proofs.Ytpehalecmgpbnaa.Words
