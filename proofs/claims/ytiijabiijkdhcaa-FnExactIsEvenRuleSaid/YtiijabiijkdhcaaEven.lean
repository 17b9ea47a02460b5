/- IsEvenRule of both sides. -/
import Derived.Test.YtiijabiijkdhcaaTell
import Derived.Test.YtiijabiijkdhcaaAl
import Derived.Test.YtiijabiijkdhcaaSpec
import Derived.BigQuiet
namespace Go.Proofs.Ytiijabiijkdhcaa.Even
open Go.RowKit Go.Proofs.Ytiijabiijkdhcaa.Rd Go.Proofs.Ytiijabiijkdhcaa.Help Go.Proofs.Ytiijabiijkdhcaa.Ring Go.Proofs.Ytiijabiijkdhcaa.Small Go.Proofs.Ytiijabiijkdhcaa.Num Go.Proofs.Ytiijabiijkdhcaa.Keep Go.Proofs.Ytiijabiijkdhcaa.Rule Go.Proofs.Ytiijabiijkdhcaa.Dig Go.Proofs.Ytiijabiijkdhcaa.Tell
set_option linter.unusedVariables false
set_option linter.unusedSimpArgs false

theorem infoInt : (Try.prog.info? 3).map (fun i => (i.zero, i.size, i.bytes)) = some (some (.int .i64 0), 1, 8) := by kernel_rfl

/-- How often each state is told by the first m entries. -/
def cnt (st : Nat) (tbl : List Int) : Nat → List Int
  | 0 => List.replicate st 0
  | m + 1 => (cnt st tbl m).set (tbl.getD m 0).toNat ((cnt st tbl m).getD (tbl.getD m 0).toNat 0 + 1)
theorem cnt_length (st : Nat) (tbl : List Int) (m : Nat) : (cnt st tbl m).length = st := by
  induction m with
  | zero => simp [cnt]
  | succ m ih => simp [cnt, ih]
theorem cnt_bd (st : Nat) (tbl : List Int) (m : Nat) : ∀ i, 0 ≤ (cnt st tbl m).getD i 0 ∧ (cnt st tbl m).getD i 0 ≤ m := by
  induction m with
  | zero =>
    intro i
    simp only [cnt, List.getD, List.getElem?_replicate]
    split <;> simp
  | succ m ih =>
    intro i
    have h1 := ih i
    have h2 := ih (tbl.getD m 0).toNat
    simp only [cnt]
    simp only [List.getD] at h1 h2 ⊢
    rw [List.getElem?_set]
    split
    · split
      · simp only [Option.getD_some]; omega
      · simp; omega
    · omega

/-- All are the same. -/
def evenB (zs : List Int) : Bool := zs.all (fun x => decide (x = zs.getD 0 0))
def maxK (zs : List Int) : Nat → Int
  | 0 => zs.getD 0 0
  | k + 1 => if maxK zs k < zs.getD (k + 1) 0 then zs.getD (k + 1) 0 else maxK zs k
def minK (zs : List Int) : Nat → Int
  | 0 => zs.getD 0 0
  | k + 1 => if zs.getD (k + 1) 0 < minK zs k then zs.getD (k + 1) 0 else minK zs k
theorem max2 (a b : Int) : a ≤ (if a < b then b else a) ∧ b ≤ (if a < b then b else a) ∧ ((if a < b then b else a) = a ∨ (if a < b then b else a) = b) := by split <;> omega
theorem min2 (a b : Int) : (if b < a then b else a) ≤ a ∧ (if b < a then b else a) ≤ b ∧ ((if b < a then b else a) = a ∨ (if b < a then b else a) = b) := by split <;> omega
theorem even_iff {zs : List Int} (h : zs.length = 2 ∨ zs.length = 3) : decide (maxK zs (zs.length - 1) = minK zs (zs.length - 1)) = evenB zs := by
  rcases h with h | h
  · match zs, h with
    | [a, b], _ =>
      have h1 := max2 a b
      have h2 := min2 a b
      have e1 : maxK [a, b] 1 = if a < b then b else a := rfl
      have e2 : minK [a, b] 1 = if b < a then b else a := rfl
      have e3 : evenB [a, b] = decide (b = a) := by simp [evenB]
      rw [e3, decide_eq_decide]
      show maxK [a, b] 1 = minK [a, b] 1 ↔ _
      rw [e1, e2]
      omega
  · match zs, h with
    | [a, b, c], _ =>
      have h1 := max2 a b
      have h2 := min2 a b
      have h3 := max2 (if a < b then b else a) c
      have h4 := min2 (if b < a then b else a) c
      have e1 : maxK [a, b, c] 2 = if (if a < b then b else a) < c then c else (if a < b then b else a) := rfl
      have e2 : minK [a, b, c] 2 = if c < (if b < a then b else a) then c else (if b < a then b else a) := rfl
      have e3 : evenB [a, b, c] = decide (b = a ∧ c = a) := by simp [evenB]
      rw [e3, decide_eq_decide]
      show maxK [a, b, c] 2 = minK [a, b, c] 2 ↔ _
      rw [e1, e2]
      generalize (if a < b then b else a) = M1 at *
      generalize (if b < a then b else a) = m1 at *
      omega

set_option maxHeartbeats 1000000 in
theorem sliceMax {w : World} {b n cap : Nat} {zs : List Int} (h : Own 3 w b (.slice (some ⟨b, 0, none⟩) n cap) zs) (hn : n = zs.length) (h1 : 1 ≤ n ∧ n ≤ 100) :
    Calls Try.prog 100 #[.slice (some ⟨b, 0, none⟩) n cap] w fun e w' => e = .returned (.int .i64 (maxK zs (n - 1))) ∧ w = w' := by
  have Hn := hid hn
  have HH := hid h
  obtain ⟨n1, n2⟩ := h1
  have c0 := h.cell (i := 0) (by omega)
  have e0 : decide ((n : Int) < 1) = false := by simp; omega
  clear h hn
  go_enter Try.func100, Try.ntmps100
  go_wp2
  go_loop [3, 4] (fun x i => ∃ k : Nat, k + 1 ≤ n ∧ i = .int .i64 ((k : Int) + 1) ∧ x = .int .i64 (maxK zs k)) (fun _ i => n - (intOf i).toNat)
  case atStart => exact ⟨0, by omega, by simp, rfl⟩
  case round =>
    obtain ⟨k, hk, rfl, rfl⟩ := hrel
    by_cases hlt : k + 1 < n
    · have hcx := HH.out.cell (i := k + 1) (by have := Hn.out; omega)
      have hki : (k : Int) + 1 < (n : Int) := by omega
      have hnx : maxK zs (k + 1) = if maxK zs k < zs.getD (k + 1) 0 then zs.getD (k + 1) 0 else maxK zs k := rfl
      obtain ⟨X, hX⟩ : ∃ X, X = maxK zs k := ⟨_, rfl⟩
      obtain ⟨Y, hY⟩ : ∃ Y, Y = zs.getD (k + 1) 0 := ⟨_, rfl⟩
      rw [← hX, ← hY] at hnx
      rw [← hY] at hcx
      rw [← hX]
      have HNX := hid hnx
      clear hX hY hnx c0 e0
      go_wp2
      go_round
      case rel => exact ⟨k + 1, by omega, by go_num, by rw [HNX.out]⟩
      case measure => simp [intOf]; omega
    · have hkn : n = k + 1 := by omega
      obtain ⟨X, hX⟩ : ∃ X, X = maxK zs k := ⟨_, rfl⟩
      have HX : Hid (X = maxK zs (n - 1)) := by simp only [Hid]; rw [hX, hkn]; simp
      rw [← hX]
      have hki : ¬ (k : Int) + 1 < (n : Int) := by omega
      clear hX hkn
      go_wp2
      go_ret
      exact ⟨by rw [← HX.out]; rfl, rfl⟩

set_option maxHeartbeats 1000000 in
theorem sliceMin {w : World} {b n cap : Nat} {zs : List Int} (h : Own 3 w b (.slice (some ⟨b, 0, none⟩) n cap) zs) (hn : n = zs.length) (h1 : 1 ≤ n ∧ n ≤ 100) :
    Calls Try.prog 101 #[.slice (some ⟨b, 0, none⟩) n cap] w fun e w' => e = .returned (.int .i64 (minK zs (n - 1))) ∧ w = w' := by
  have Hn := hid hn
  have HH := hid h
  obtain ⟨n1, n2⟩ := h1
  have c0 := h.cell (i := 0) (by omega)
  have e0 : decide ((n : Int) < 1) = false := by simp; omega
  clear h hn
  go_enter Try.func101, Try.ntmps101
  go_wp2
  go_loop [3, 4] (fun x i => ∃ k : Nat, k + 1 ≤ n ∧ i = .int .i64 ((k : Int) + 1) ∧ x = .int .i64 (minK zs k)) (fun _ i => n - (intOf i).toNat)
  case atStart => exact ⟨0, by omega, by simp, rfl⟩
  case round =>
    obtain ⟨k, hk, rfl, rfl⟩ := hrel
    by_cases hlt : k + 1 < n
    · have hcx := HH.out.cell (i := k + 1) (by have := Hn.out; omega)
      have hki : (k : Int) + 1 < (n : Int) := by omega
      have hnx : minK zs (k + 1) = if zs.getD (k + 1) 0 < minK zs k then zs.getD (k + 1) 0 else minK zs k := rfl
      obtain ⟨X, hX⟩ : ∃ X, X = minK zs k := ⟨_, rfl⟩
      obtain ⟨Y, hY⟩ : ∃ Y, Y = zs.getD (k + 1) 0 := ⟨_, rfl⟩
      rw [← hX, ← hY] at hnx
      rw [← hY] at hcx
      rw [← hX]
      have HNX := hid hnx
      clear hX hY hnx c0 e0
      go_wp2
      go_round
      case rel => exact ⟨k + 1, by omega, by go_num, by rw [HNX.out]⟩
      case measure => simp [intOf]; omega
    · have hkn : n = k + 1 := by omega
      obtain ⟨X, hX⟩ : ∃ X, X = minK zs k := ⟨_, rfl⟩
      have HX : Hid (X = minK zs (n - 1)) := by simp only [Hid]; rw [hX, hkn]; simp
      rw [← hX]
      have hki : ¬ (k : Int) + 1 < (n : Int) := by omega
      clear hX hkn
      go_wp2
      go_ret
      exact ⟨by rw [← HX.out]; rfl, rfl⟩


theorem implNo {w : World} {s r : Int} {b : Nat} {v : Value} {tbl : List Int} (h : Rd w b v tbl) (hv : validB s r tbl = false) :
    Calls Try.prog 52 #[ruleV s r v] w fun e w' => e = .returned (.tuple #[.bool false, .bool false]) ∧ Below w.heap.size w w' := by
  have HV := hid hv
  have HRd := hid h
  obtain ⟨ao, cap, rfl, hc, hm, h4⟩ := h
  clear hv hc hm h4
  go_enter Try.func52, Try.ntmps52
  go_wp2_with fail
  obtain ⟨w1, hW⟩ : ∃ w1, w1 = w.alloc (Obj.cells #[.int .i64 s, .int .i64 r, (Value.slice ao tbl.length cap)] 24) := ⟨_, rfl⟩
  obtain ⟨NR, hN⟩ : ∃ NR, NR = w.heap.size := ⟨_, rfl⟩
  have st : Below w.heap.size w w1 ∧ w1.cell? ⟨NR, 0, none⟩ = some (.int .i64 s) ∧ w1.cell? ⟨NR, 1, none⟩ = some (.int .i64 r) ∧ w1.cell? ⟨NR, 2, none⟩ = some (Value.slice ao tbl.length cap) ∧ Rd w1 b (Value.slice ao tbl.length cap) tbl ∧ w.heap.size ≤ w1.heap.size := by
    rw [hW, hN]
    exact ⟨below1 _ _, by simp, by simp, by simp, HRd.out.keep (below1 _ _) (Nat.le_refl _), by simp⟩
  simp only [← hW, ← hN]
  clear hW hN
  go_at_call 77
  refine (implValid (rd3_1_0 st)).mono ?_
  rw [HV.out]
  rintro e w2 ⟨rfl, bel⟩
  replace st := next3_1 bel st
  clear bel
  go_wp2
  go_ret2
  exact ⟨rfl, st.1⟩

theorem specNo {w : World} {s r : Int} {b : Nat} {v : Value} {tbl : List Int} (h : Rd w b v tbl) (hv : validB s r tbl = false) :
    Calls Try.prog 51 #[ruleV s r v] w fun e w' => e = .returned (.tuple #[.bool false, .bool false]) ∧ Below w.heap.size w w' := by
  have HV := hid hv
  have HRd := hid h
  obtain ⟨ao, cap, rfl, hc, hm, h4⟩ := h
  clear hv hc hm h4
  go_enter Try.func51, Try.ntmps51
  go_wp2_with fail
  obtain ⟨w1, hW⟩ : ∃ w1, w1 = w.alloc (Obj.cells #[.int .i64 s, .int .i64 r, (Value.slice ao tbl.length cap)] 24) := ⟨_, rfl⟩
  obtain ⟨NR, hN⟩ : ∃ NR, NR = w.heap.size := ⟨_, rfl⟩
  have st : Below w.heap.size w w1 ∧ w1.cell? ⟨NR, 0, none⟩ = some (.int .i64 s) ∧ w1.cell? ⟨NR, 1, none⟩ = some (.int .i64 r) ∧ w1.cell? ⟨NR, 2, none⟩ = some (Value.slice ao tbl.length cap) ∧ Rd w1 b (Value.slice ao tbl.length cap) tbl ∧ w.heap.size ≤ w1.heap.size := by
    rw [hW, hN]
    exact ⟨below1 _ _, by simp, by simp, by simp, HRd.out.keep (below1 _ _) (Nat.le_refl _), by simp⟩
  simp only [← hW, ← hN]
  clear hW hN
  go_at_call 74
  refine (Spec.is (rd3_1_0 st) st.2.1 st.2.2.1 st.2.2.2.1).mono ?_
  rw [HV.out]
  rintro e w2 ⟨rfl, mm, hw2⟩
  have bel : Below w1.heap.size w1 w2 := by rw [hw2]; exact Spec.below_drewN' _ _ _
  replace st := next3_1 bel st
  clear bel hw2
  go_wp2
  go_ret2
  exact ⟨rfl, st.1⟩

set_option maxHeartbeats 4000000 in
theorem implOk {w : World} {s r : Int} {b : Nat} {v : Value} {tbl : List Int} {S : Nat} {qb : Bool} (hS : (S : Int) = s) (hqb : qb = evenB (cnt S tbl tbl.length)) (h : Rd w b v tbl) (hv : validB s r tbl = true) :
    Calls Try.prog 52 #[ruleV s r v] w fun e w' => e = .returned (.tuple #[.bool qb, .bool true]) ∧ Below w.heap.size w w' := by
  have HV := hid hv
  obtain ⟨hs, hr, hl, ha⟩ := Al.valid_parts hv
  have HA := hid ha
  have HQ := hid hqb
  have hS23 : S = 2 ∨ S = 3 := by omega
  have HS := hid hS
  have hmk := run_make_row' (P := Try.prog) 79 3 (.int .i64 0) 8 Try.underlying79 infoInt rfl .i64 .i64 S (by omega) (by omega)
  rw [hS] at hmk
  have HRd := hid h
  obtain ⟨ao, cap, rfl, hc, hm, h4⟩ := h
  obtain ⟨off, rfl, hb, hcell⟩ := h4 (by have := pow_pos' hs (2 * r + 1).toNat; omega)
  obtain ⟨n, hn⟩ : ∃ n, n = tbl.length := ⟨_, rfl⟩
  have Hn := hid hn
  have hn243 : n ≤ 243 := by have := (pow_bd hs (show (2 * r + 1).toNat ≤ 5 by omega)).2; omega
  rw [← hn] at HRd hcell
  rw [← hn]
  have HC := hid hcell
  have HBt := hid hb
  clear hv hl ha hqb hc hm h4 hcell hb hn
  go_enter Try.func52, Try.ntmps52
  go_wp2_with fail
  obtain ⟨w1, hW⟩ : ∃ w1, w1 = w.alloc (Obj.cells #[.int .i64 s, .int .i64 r, (Value.slice (some ⟨b, off, none⟩) n cap)] 24) := ⟨_, rfl⟩
  obtain ⟨NR, hN⟩ : ∃ NR, NR = w.heap.size := ⟨_, rfl⟩
  have st : Below w.heap.size w w1 ∧ w1.cell? ⟨NR, 0, none⟩ = some (.int .i64 s) ∧ w1.cell? ⟨NR, 1, none⟩ = some (.int .i64 r) ∧ w1.cell? ⟨NR, 2, none⟩ = some (Value.slice (some ⟨b, off, none⟩) n cap) ∧ Rd w1 b (Value.slice (some ⟨b, off, none⟩) n cap) tbl ∧ w.heap.size ≤ w1.heap.size := by
    rw [hW, hN]
    exact ⟨below1 _ _, by simp, by simp, by simp, HRd.out.keep (below1 _ _) (Nat.le_refl _), by simp⟩
  simp only [← hW, ← hN]
  clear hW hN
  go_at_call 77
  refine (implValid (rd3_1_0 st)).mono ?_
  rw [HV.out]
  rintro e w2 ⟨rfl, bel⟩
  replace st := next3_1 bel st
  clear bel
  have d2 : (w2.alloc (.cells (madeCells #[.int .i64 0] S) 3)).cell? ⟨NR, 2, none⟩ = some (Value.slice (some ⟨b, off, none⟩) n cap) := cell_old st.2.2.2.1
  go_wp2
  obtain ⟨b0, hb0⟩ : ∃ b0, b0 = w2.heap.size := ⟨_, rfl⟩
  have hb0' : w2.heap.size = b0 := hb0.symm
  have hown0 : Own 3 (w2.alloc (.cells (madeCells #[.int .i64 0] S) 3)) b0 (.slice (some ⟨b0, 0, none⟩) S S) (List.replicate S 0) := by
    have := Own.made 3 w2 S (by unfold maxLen; omega)
    rw [hb0'] at this; exact this
  have hbel0 : Below b0 w2 (w2.alloc (.cells (madeCells #[.int .i64 0] S) 3)) := (Below.refl _ _).alloc (by omega) _
  have HN0 : Hid (w.heap.size ≤ b0) := by simp only [Hid]; rw [hb0]; exact st.2.2.2.2.2
  have HBb : Hid (b < b0) := by simp only [Hid]; rw [hb0]; exact Nat.lt_of_lt_of_le HBt.out st.2.2.2.2.2
  have HNb : Hid (NR < b0) := by simp only [Hid]; rw [hb0]; exact World.block_lt_of_cell? _ _ st.2.1
  have ST2 := hid st
  simp only [hb0']
  clear hb0 st hmk d2
  go_loopw [6, 16] (fun y t wr => ∃ m : Nat, m ≤ n ∧ t = .int .i64 m ∧ Own 3 wr b0 (.slice (some ⟨b0, 0, none⟩) S S) (cnt S tbl m) ∧ Below b0 w2 wr) (fun _ t _ => n - (intOf t).toNat)
  case atStart => exact ⟨0, Nat.zero_le _, rfl, by simpa [cnt] using hown0, hbel0⟩
  case round =>
    clear hown0 hbel0
    obtain ⟨m, hm, rfl, hown, hbel⟩ := hrel
    by_cases hlt : m < n
    · obtain ⟨x1, x2⟩ := all_get HA.out (i := m) (by have := Hn.out; omega)
      obtain ⟨j, hj⟩ : ∃ j : Nat, tbl.getD m 0 = j := ⟨(tbl.getD m 0).toNat, by omega⟩
      have hjS : j < S := by have := HS.out; omega
      have hji : (j : Int) < (S : Int) := by omega
      have hmi : (m : Int) < (n : Int) := by omega
      have HNX : Hid (cnt S tbl (m + 1) = (cnt S tbl m).set j ((cnt S tbl m).getD j 0 + 1)) := by simp only [Hid, cnt]; rw [hj]; simp
      have hcx : wr.cell? ⟨b, off + m, none⟩ = some (.int .i64 j) := by
        rw [← hj]
        exact (hbel.cell (p := ⟨b, off + m, none⟩) HBb.out).trans ((ST2.out.1.cell (p := ⟨b, off + m, none⟩) HBt.out).trans (HC.out m hlt))
      have hox := hown.cell (i := j) (by rw [cnt_length]; exact hjS)
      have hof := hown.free j
      obtain ⟨c1, c2⟩ := cnt_bd S tbl m j
      obtain ⟨X, hX⟩ : ∃ X, X = (cnt S tbl m).getD j 0 := ⟨_, rfl⟩
      rw [← hX] at hox c1 c2 HNX

      have HO := hid hown
      have HB := hid hbel
      clear hX hown hbel x1 x2 hj
      go_wp2
      go_roundw
      case rel =>
        refine ⟨m + 1, by omega, by go_num, ?_, HB.out.setCell (Nat.le_refl _) _⟩
        rw [HNX.out]
        exact HO.out.set j _
      case measure => simp [intOf]; omega
    · have hmn : m = n := by omega
      subst hmn
      have HQ2 : Hid (decide (maxK (cnt S tbl m) (S - 1) = minK (cnt S tbl m) (S - 1)) = qb) := by
        simp only [Hid]
        have := even_iff (zs := cnt S tbl m) (by rw [cnt_length]; exact hS23)
        rw [cnt_length] at this
        rw [this, HQ.out, Hn.out]
      have HBw : Hid (Below w.heap.size w wr) := ST2.out.1.trans (hbel.mono HN0.out)
      have HO := hid hown
      clear hown hbel
      go_wp2_with fail
      go_at_call 100
      refine (sliceMax HO.out (cnt_length _ _ _).symm (by omega)).mono ?_
      rintro e w7 ⟨rfl, hw7⟩
      subst hw7
      obtain ⟨X, hX⟩ : ∃ X, X = maxK (cnt S tbl m) (S - 1) := ⟨_, rfl⟩
      rw [← hX]
      rw [← hX] at HQ2
      clear hX
      go_wp2_with fail
      go_at_call 101
      refine (sliceMin HO.out (cnt_length _ _ _).symm (by omega)).mono ?_
      rintro e w7 ⟨rfl, hw7⟩
      subst hw7
      obtain ⟨Y, hY⟩ : ∃ Y, Y = minK (cnt S tbl m) (S - 1) := ⟨_, rfl⟩
      rw [← hY]
      rw [← hY] at HQ2
      clear hY
      go_wp2
      go_ret2
      refine ⟨?_, HBw.out⟩
      rw [← HQ2.out]
      rfl

set_option maxHeartbeats 4000000 in
theorem specOk {w : World} {s r : Int} {b : Nat} {v : Value} {tbl : List Int} {S : Nat} {qb : Bool} (hS : (S : Int) = s) (hqb : qb = evenB (cnt S tbl tbl.length)) (h : Rd w b v tbl) (hv : validB s r tbl = true) :
    Calls Try.prog 51 #[ruleV s r v] w fun e w' => e = .returned (.tuple #[.bool qb, .bool true]) ∧ Below w.heap.size w w' := by
  have HV := hid hv
  obtain ⟨hs, hr, hl, ha⟩ := Al.valid_parts hv
  have HA := hid ha
  have HQ := hid hqb
  have hS23 : S = 2 ∨ S = 3 := by omega
  have HS := hid hS
  have hmk := run_make_row' (P := Try.prog) 22 2 (.int .i64 0) 8 Try.underlying22 infoI rfl .i64 .i64 S (by omega) (by omega)
  rw [hS] at hmk
  have HRd := hid h
  obtain ⟨ao, cap, rfl, hc, hm, h4⟩ := h
  obtain ⟨off, rfl, hb, hcell⟩ := h4 (by have := pow_pos' hs (2 * r + 1).toNat; omega)
  obtain ⟨n, hn⟩ : ∃ n, n = tbl.length := ⟨_, rfl⟩
  have Hn := hid hn
  have hn243 : n ≤ 243 := by have := (pow_bd hs (show (2 * r + 1).toNat ≤ 5 by omega)).2; omega
  rw [← hn] at HRd hcell
  rw [← hn]
  have HC := hid hcell
  have HBt := hid hb
  clear hv hl ha hqb hc hm h4 hcell hb hn
  go_enter Try.func51, Try.ntmps51
  go_wp2_with fail
  obtain ⟨w1, hW⟩ : ∃ w1, w1 = w.alloc (Obj.cells #[.int .i64 s, .int .i64 r, (Value.slice (some ⟨b, off, none⟩) n cap)] 24) := ⟨_, rfl⟩
  obtain ⟨NR, hN⟩ : ∃ NR, NR = w.heap.size := ⟨_, rfl⟩
  have st : Below w.heap.size w w1 ∧ w1.cell? ⟨NR, 0, none⟩ = some (.int .i64 s) ∧ w1.cell? ⟨NR, 1, none⟩ = some (.int .i64 r) ∧ w1.cell? ⟨NR, 2, none⟩ = some (Value.slice (some ⟨b, off, none⟩) n cap) ∧ Rd w1 b (Value.slice (some ⟨b, off, none⟩) n cap) tbl ∧ w.heap.size ≤ w1.heap.size := by
    rw [hW, hN]
    exact ⟨below1 _ _, by simp, by simp, by simp, HRd.out.keep (below1 _ _) (Nat.le_refl _), by simp⟩
  simp only [← hW, ← hN]
  clear hW hN
  go_at_call 74
  refine (Spec.is (rd3_1_0 st) st.2.1 st.2.2.1 st.2.2.2.1).mono ?_
  rw [HV.out]
  rintro e w2 ⟨rfl, mm, hw2⟩
  have bel : Below w1.heap.size w1 w2 := by rw [hw2]; exact Spec.below_drewN' _ _ _
  replace st := next3_1 bel st
  clear bel hw2
  have d2 : (w2.alloc (.cells (madeCells #[.int .i64 0] S) 2)).cell? ⟨NR, 2, none⟩ = some (Value.slice (some ⟨b, off, none⟩) n cap) := cell_old st.2.2.2.1
  go_wp2
  obtain ⟨b0, hb0⟩ : ∃ b0, b0 = w2.heap.size := ⟨_, rfl⟩
  have hb0' : w2.heap.size = b0 := hb0.symm
  have hown0 : Own 2 (w2.alloc (.cells (madeCells #[.int .i64 0] S) 2)) b0 (.slice (some ⟨b0, 0, none⟩) S S) (List.replicate S 0) := by
    have := Own.made 2 w2 S (by unfold maxLen; omega)
    rw [hb0'] at this; exact this
  have hbel0 : Below b0 w2 (w2.alloc (.cells (madeCells #[.int .i64 0] S) 2)) := (Below.refl _ _).alloc (by omega) _
  have HN0 : Hid (w.heap.size ≤ b0) := by simp only [Hid]; rw [hb0]; exact st.2.2.2.2.2
  have HBb : Hid (b < b0) := by simp only [Hid]; rw [hb0]; exact Nat.lt_of_lt_of_le HBt.out st.2.2.2.2.2
  have HNb : Hid (NR < b0) := by simp only [Hid]; rw [hb0]; exact World.block_lt_of_cell? _ _ st.2.1
  have ST2 := hid st
  simp only [hb0']
  clear hb0 st hmk d2
  go_loopw [5, 15] (fun y t wr => ∃ m : Nat, m ≤ n ∧ t = .int .i64 m ∧ Own 2 wr b0 (.slice (some ⟨b0, 0, none⟩) S S) (cnt S tbl m) ∧ Below b0 w2 wr) (fun _ t _ => n - (intOf t).toNat)
  case atStart => exact ⟨0, Nat.zero_le _, rfl, by simpa [cnt] using hown0, hbel0⟩
  case round =>
    clear hown0 hbel0
    obtain ⟨m, hm, rfl, hown, hbel⟩ := hrel
    by_cases hlt : m < n
    · obtain ⟨x1, x2⟩ := all_get HA.out (i := m) (by have := Hn.out; omega)
      obtain ⟨j, hj⟩ : ∃ j : Nat, tbl.getD m 0 = j := ⟨(tbl.getD m 0).toNat, by omega⟩
      have hjS : j < S := by have := HS.out; omega
      have hji : (j : Int) < (S : Int) := by omega
      have hmi : (m : Int) < (n : Int) := by omega
      have HNX : Hid (cnt S tbl (m + 1) = (cnt S tbl m).set j ((cnt S tbl m).getD j 0 + 1)) := by simp only [Hid, cnt]; rw [hj]; simp
      have hcx : wr.cell? ⟨b, off + m, none⟩ = some (.int .i64 j) := by
        rw [← hj]
        exact (hbel.cell (p := ⟨b, off + m, none⟩) HBb.out).trans ((ST2.out.1.cell (p := ⟨b, off + m, none⟩) HBt.out).trans (HC.out m hlt))
      have hox := hown.cell (i := j) (by rw [cnt_length]; exact hjS)
      have hof := hown.free j
      obtain ⟨c1, c2⟩ := cnt_bd S tbl m j
      obtain ⟨X, hX⟩ : ∃ X, X = (cnt S tbl m).getD j 0 := ⟨_, rfl⟩
      rw [← hX] at hox c1 c2 HNX
      have e2 : wr.cell? ⟨NR, 2, none⟩ = some (Value.slice (some ⟨b, off, none⟩) n cap) := (hbel.cell (p := ⟨NR, 2, none⟩) HNb.out).trans ST2.out.2.2.2.1
      have HO := hid hown
      have HB := hid hbel
      clear hX hown hbel x1 x2 hj
      go_wp2
      go_roundw
      case rel =>
        refine ⟨m + 1, by omega, by go_num, ?_, HB.out.setCell (Nat.le_refl _) _⟩
        rw [HNX.out]
        exact HO.out.set j _
      case measure => simp [intOf]; omega
    · have hmn : m = n := by omega
      subst hmn
      have HBw : Hid (Below w.heap.size w wr) := ST2.out.1.trans (hbel.mono HN0.out)
      have HO := hid hown
      clear hown hbel
      obtain ⟨wo, hwo⟩ : ∃ wo, wo = wr := ⟨_, rfl⟩
      rw [← hwo] at HBw HO ⊢
      clear hwo
      have HEv : Hid (∀ q, q < S → (cnt S tbl m).getD q 0 ≠ (cnt S tbl m).getD 0 0 → qb = false) := by
        intro q hq hne
        rw [HQ.out, ← Hn.out]
        unfold evenB
        rw [List.all_eq_false]
        refine ⟨(cnt S tbl m)[q]'(by rw [cnt_length]; exact hq), List.getElem_mem _, ?_⟩
        have hl := cnt_length S tbl m
        have hg : (cnt S tbl m).getD q 0 = (cnt S tbl m)[q]'(by rw [hl]; exact hq) := by simp [List.getD, hl, hq]
        intro hd
        exact hne (by rw [hg]; exact of_decide_eq_true hd)
      have HTr : Hid ((∀ i, i < S → (cnt S tbl m).getD i 0 = (cnt S tbl m).getD 0 0) → qb = true) := by
        intro hall
        rw [HQ.out, ← Hn.out]
        unfold evenB
        rw [List.all_eq_true]
        intro x hx
        obtain ⟨i, hi, rfl⟩ := List.getElem_of_mem hx
        have hl := cnt_length S tbl m
        have hg : (cnt S tbl m).getD i 0 = (cnt S tbl m)[i] := by simp [List.getD, hi]
        have := hall i (by omega)
        rw [hg] at this
        exact decide_eq_true this
      go_wp2
      go_loopw [31] (fun t wx => ∃ q : Nat, q ≤ S ∧ t = .int .i64 q ∧ Hid (∀ i, i < q → (cnt S tbl m).getD i 0 = (cnt S tbl m).getD 0 0) ∧ ∃ dn, wx = wo.drewN dn) (fun t _ => S - (intOf t).toNat)
      case atStart => exact ⟨0, Nat.zero_le _, rfl, fun i hi => absurd hi (by omega), 0, rfl⟩
      case round =>
        obtain ⟨q, hq, rfl, hall, dn, hdn⟩ := hrel
        have HDn := hid hdn
        by_cases hlt : q < S
        · have hqi : (q : Int) < (S : Int) := by omega
          have hcx : wr.cell? ⟨b0, q, none⟩ = some (.int .i64 ((cnt S tbl m).getD q 0)) := by rw [hdn]; exact HO.out.cell (by rw [cnt_length]; exact hlt)
          have hcy : wr.cell? ⟨b0, 0, none⟩ = some (.int .i64 ((cnt S tbl m).getD 0 0)) := by rw [hdn]; exact HO.out.cell (by rw [cnt_length]; omega)
          have h0S : (0 : Int) < (S : Int) := by omega
          obtain ⟨X, hX⟩ : ∃ X, X = (cnt S tbl m).getD q 0 := ⟨_, rfl⟩
          obtain ⟨Y, hY⟩ : ∃ Y, Y = (cnt S tbl m).getD 0 0 := ⟨_, rfl⟩
          rw [← hX] at hcx
          rw [← hY] at hcy
          have HX := hid hX
          have HY := hid hY
          have HALL := hid hall
          clear hX hY hdn hall
          by_cases he : X = Y
          · have hne : (X != Y) = false := by rw [he]; simp
            have HE := hid he
            clear he
            go_wp2_with fail
            go_quiet (fail)
            go_wp2
            go_roundw
            case rel =>
              refine ⟨q + 1, by omega, by go_num, ?_, dn + nq, by rw [HDn.out, World.drewN_drewN]⟩
              intro i hi
              by_cases hiq : i = q
              · rw [hiq, ← HX.out, ← HY.out, HE.out]
              · exact HALL.out.out i (by omega)
            case measure => simp [intOf]; omega
          · have hne : (X != Y) = true := by simpa using he
            have hf := HEv.out q hlt (by rw [← HX.out, ← HY.out]; exact he)
            subst hf
            have HBx : Hid (Below w.heap.size w wr) := by rw [HDn.out]; exact HBw.out.trans (Go.Proofs.Ytiijabiijkdhcaa.Help.below_drewN _ _ _)
            clear he
            go_wp2_with fail
            go_quiet (fail)
            go_wp2
            go_ret2
            exact ⟨rfl, HBx.out.trans (Go.Proofs.Ytiijabiijkdhcaa.Help.below_drewN _ _ _)⟩
        · have hqk : q = S := by omega
          have ht := HTr.out (fun i hi => hall.out i (by omega))
          subst ht
          subst hqk
          have HBx : Hid (Below w.heap.size w wr) := by rw [hdn]; exact HBw.out.trans (Go.Proofs.Ytiijabiijkdhcaa.Help.below_drewN _ _ _)
          clear hdn hall
          go_wp2
          go_ret2
          exact ⟨rfl, HBx.out⟩

theorem agree (s r : Int) (tbl : List Int) : ∃ (q0 q1 : Bool),
    (∀ (w : World) (b : Nat) (v : Value), Rd w b v tbl → Calls Try.prog 51 #[ruleV s r v] w fun e w' => e = .returned (.tuple #[.bool q0, .bool q1]) ∧ Below w.heap.size w w') ∧
    (∀ (w : World) (b : Nat) (v : Value), Rd w b v tbl → Calls Try.prog 52 #[ruleV s r v] w fun e w' => e = .returned (.tuple #[.bool q0, .bool q1]) ∧ Below w.heap.size w w') := by
  cases hv : validB s r tbl with
  | false => exact ⟨false, false, fun w b v h => specNo h hv, fun w b v h => implNo h hv⟩
  | true =>
    obtain ⟨hs, _⟩ := Al.valid_parts hv
    have hS : ((s.toNat : Nat) : Int) = s := by omega
    exact ⟨_, true, fun w b v h => specOk hS rfl h hv, fun w b v h => implOk hS rfl h hv⟩


end Go.Proofs.Ytiijabiijkdhcaa.Even
