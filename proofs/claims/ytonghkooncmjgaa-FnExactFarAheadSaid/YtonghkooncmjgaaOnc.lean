/- What a lone 1 becomes in one step: both sides. -/
import Derived.Test.YtonghkooncmjgaaAro
import Derived.Test.YtonghkooncmjgaaTerms
import Derived.Test.YtonghkooncmjgaaStep
namespace Go.Proofs.Ytonghkooncmjgaa.Onc
open Go.RowKit Go.Proofs.Ytonghkooncmjgaa.Rd Go.Proofs.Ytonghkooncmjgaa.Help Go.Proofs.Ytonghkooncmjgaa.Ring Go.Proofs.Ytonghkooncmjgaa.Small Go.Proofs.Ytonghkooncmjgaa.Keep Go.Proofs.Ytonghkooncmjgaa.Num Go.Proofs.Ytonghkooncmjgaa.Rule Go.Proofs.Ytonghkooncmjgaa.Step Go.Proofs.Ytonghkooncmjgaa.Tell Go.Proofs.Ytonghkooncmjgaa.Dig Go.Proofs.Ytonghkooncmjgaa.Sum Go.Proofs.Ytonghkooncmjgaa.IsSum
set_option linter.unusedVariables false
set_option linter.unusedSimpArgs false

/-- Which term a place has. -/
def qf (r : Nat) (n p : Nat) : Nat := if p ≤ r then r - p else r + n - p
theorem qf_lt {r n p : Nat} (hr : r < n) (hp : p < n) : qf r n p < n := by unfold qf; split <;> omega
theorem qf_iff {r n p k : Nat} (hr : r < n) (hp : p < n) (hk : k < n) : qf r n p = k ↔ p = qf r n k := by unfold qf; split <;> split <;> omega
theorem qf_mod {r n k : Nat} (hr : r < n) (hk : k < n) : ((r : Int) - (k : Int) + 2 * (n : Int)).tmod n = ((qf r n k : Nat) : Int) := by
  rw [Int.tmod_eq_emod_of_nonneg (by omega)]
  unfold qf
  split
  · rw [show (r : Int) - (k : Int) + 2 * (n : Int) = ((r - k : Nat) : Int) + (n : Int) * 2 by omega, Int.add_mul_emod_self_left]
    exact Int.emod_eq_of_lt (by omega) (by omega)
  · rw [show (r : Int) - (k : Int) + 2 * (n : Int) = ((r + n - k : Nat) : Int) + (n : Int) * 1 by omega, Int.add_mul_emod_self_left]
    exact Int.emod_eq_of_lt (by omega) (by omega)
/-- The places of the first k terms are filled. -/
def onF (ts : List Int) (r n k : Nat) (p : Nat) : Int := if qf r n p < k then ts.getD (qf r n p) 0 else 0
def onL (ts : List Int) (r n k : Nat) : List Int := tab (onF ts r n k) n
theorem onL_len (ts : List Int) (r n k : Nat) : (onL ts r n k).length = n := tab_length _ _
theorem onL_zero (ts : List Int) (r n : Nat) : onL ts r n 0 = List.replicate n 0 := by
  apply List.ext_getElem
  · rw [onL_len]; simp
  · intro i h1 h2
    simp [onL, tab, onF]
theorem onL_at {ts : List Int} {r n k : Nat} (hr : r < n) (hk : k < n) : (onL ts r n k).getD (qf r n k) 0 = 0 := by
  unfold onL
  rw [tab_get _ _ _ (qf_lt hr hk)]
  unfold onF
  have : qf r n (qf r n k) = k := (qf_iff hr (qf_lt hr hk) hk).2 rfl
  rw [this, if_neg (by omega)]
theorem onL_succ {ts : List Int} {r n k : Nat} (hr : r < n) (hk : k < n) : (onL ts r n k).set (qf r n k) (ts.getD k 0) = onL ts r n (k + 1) := by
  apply List.ext_getElem?
  intro p
  by_cases hp : p < n
  · have e : ∀ k, (onL ts r n k)[p]? = some (onF ts r n k p) := fun k => by simp [onL, tab, hp]
    rw [List.getElem?_set, e, e, onL_len, if_pos (qf_lt hr hk)]
    by_cases h : qf r n k = p
    · have h2 : qf r n p = k := (qf_iff hr hp hk).2 h.symm
      rw [if_pos h]; unfold onF; rw [h2, if_pos (by omega)]
    · have h2 : qf r n p ≠ k := fun h3 => h ((qf_iff hr hp hk).1 h3).symm
      rw [if_neg h]; unfold onF
      by_cases h4 : qf r n p < k
      · rw [if_pos h4, if_pos (by omega)]
      · rw [if_neg h4, if_neg (by omega)]
  · rw [List.getElem?_eq_none (by rw [List.length_set, onL_len]; omega), List.getElem?_eq_none (by rw [onL_len]; omega)]
/-- A lone 1. -/
def loneL (n : Nat) : List Int := (List.replicate n 0).set 0 1
theorem lone_len (n : Nat) : (loneL n).length = n := by simp [loneL]
theorem lone_get (n i : Nat) (hi : i < n) : (loneL n).getD i 0 = if i = 0 then 1 else 0 := by
  unfold loneL
  rw [List.getD_eq_getElem?_getD, List.getElem?_set]
  by_cases h : 0 = i
  · subst h; simp [hi]
  · rw [if_neg h, if_neg (fun e => h e.symm), List.getElem?_replicate, if_pos hi]; rfl
theorem lone_all {s : Int} (hs : 2 ≤ s ∧ s ≤ 3) (n : Nat) : allB (loneL n) s = true := by
  unfold allB
  rw [List.all_eq_true]
  intro x hx
  obtain ⟨i, hi, rfl⟩ := List.mem_iff_getElem.1 hx
  have h := lone_get n i (by simpa [lone_len] using hi)
  rw [List.getD_eq_getElem?_getD, List.getElem?_eq_getElem hi] at h
  simp only [Option.getD_some] at h
  simp only [okB, decide_eq_true_eq]
  rw [h]; split <;> omega
/-- A digit of a window of a lone 1. -/
theorem lone_cell {r n p j : Nat} (hr : r < n) (hp : p < n) (hj : j < n) : cellR (loneL n) ((p : Int) - (r : Int) + (j : Int)) = if j = qf r n p then 1 else 0 := by
  unfold cellR
  rw [lone_len]
  have h : (((p : Int) - (r : Int) + (j : Int)) % (n : Int)).toNat = 0 ↔ j = qf r n p := by
    unfold qf
    by_cases h1 : (p : Int) - (r : Int) + (j : Int) < 0
    · rw [show (p : Int) - (r : Int) + (j : Int) = ((p + j + n - r : Nat) : Int) + (n : Int) * (-1) by omega, Int.add_mul_emod_self_left, Int.emod_eq_of_lt (by omega) (by omega)]
      split <;> omega
    · by_cases h2 : (p : Int) - (r : Int) + (j : Int) < n
      · rw [Int.emod_eq_of_lt (by omega) (by omega)]
        split <;> omega
      · rw [show (p : Int) - (r : Int) + (j : Int) = ((p + j - r - n : Nat) : Int) + (n : Int) * 1 by omega, Int.add_mul_emod_self_left, Int.emod_eq_of_lt (by omega) (by omega)]
        split <;> omega
  have h5 : (((p : Int) - (r : Int) + (j : Int)) % (n : Int)).toNat < n := by
    have h1 := Int.emod_nonneg ((p : Int) - (r : Int) + (j : Int)) (show (n : Int) ≠ 0 by omega)
    have h2 := Int.emod_lt_of_pos ((p : Int) - (r : Int) + (j : Int)) (show (0 : Int) < (n : Int) by omega)
    omega
  rw [lone_get _ _ h5]
  by_cases h6 : j = qf r n p
  · rw [if_pos (h.2 h6), if_pos h6]
  · rw [if_neg (fun e => h6 (h.1 e)), if_neg h6]
theorem lone_num {r n p : Nat} (s : Int) (hr : r < n) (hp : p < n) : ∀ k, k ≤ n → num (loneL n) s ((p : Int) - (r : Int)) k = if qf r n p < k then s ^ (k - 1 - qf r n p) else 0 := by
  intro k
  induction k with
  | zero => intro _; rw [if_neg (by omega)]; rfl
  | succ k ih =>
    intro hk
    have h1 := ih (by omega)
    simp only [num]
    rw [h1, lone_cell hr hp (show k < n by omega)]
    by_cases h2 : qf r n p < k
    · rw [if_pos h2, if_neg (show ¬ k = qf r n p by omega), if_pos (show qf r n p < k + 1 by omega), show k + 1 - 1 - qf r n p = (k - 1 - qf r n p) + 1 by omega, Int.pow_succ]; omega
    · by_cases h3 : k = qf r n p
      · rw [if_neg h2, if_pos h3, if_pos (show qf r n p < k + 1 by omega), show k + 1 - 1 - qf r n p = 0 by omega]; simp
      · rw [if_neg h2, if_neg h3, if_neg (show ¬ qf r n p < k + 1 by omega)]; simp
theorem dig_zero (s : Int) (L i : Nat) : (dig s 0 L).getD i 0 = 0 := by
  induction L generalizing i with
  | zero => simp [dig]
  | succ L ih =>
    cases i with
    | zero => simp [dig]
    | succ i => simpa [dig] using ih i
theorem dot_zero {zs ws : List Int} (h : ∀ i, zs.getD i 0 = 0) (k : Nat) : dotK zs ws k = 0 := by
  induction k with
  | zero => rfl
  | succ k ih => simp only [dotK]; rw [ih, h k]; simp
/-- One step of a lone 1 is what the terms tell. -/
theorem next_lone {s : Int} {r n L : Nat} {tbl : List Int} (hL : L = 2 * r + 1) (hn : L ≤ n) (h0 : tbl.getD 0 0 = 0) :
    nextL tbl (loneL n) s r n = onL (Al.alo tbl s L) r n L := by
  apply List.ext_getElem
  · rw [nextL_length, onL_len]
  · intro p h1 h2
    have hp : p < n := by rw [nextL_length] at h1; exact h1
    have hr : r < n := by omega
    simp only [nextL, onL, tab, List.getElem_map, List.getElem_range, told]
    rw [show (2 * (r : Int) + 1).toNat = L by omega, lone_num s hr hp L hn]
    unfold onF
    by_cases h : qf r n p < L
    · rw [if_pos h, if_pos h, Al.alo_get _ _ _ _ h]
    · rw [if_neg h, if_neg h]; exact h0
theorem tab_zero {s r : Int} {tbl : List Int} (hs : 2 ≤ s ∧ s ≤ 3) (hl : 0 < tbl.length) (h : isSumB s r tbl = true) : tbl.getD 0 0 = 0 := by
  have := (Terms.isSum_iff (s := s) (r := r) (tbl := tbl) rfl).1 h 0 hl
  rw [this, show ((0 : Nat) : Int) = 0 from rfl, dot_zero (fun i => dig_zero _ _ i)]
  simp

set_option maxHeartbeats 4000000 in
theorem lone {w : World} {n : Nat} (hn : 1 ≤ n ∧ n ≤ 64) :
    Calls Try.prog 122 #[.int .i64 n] w fun e w' => ∃ b', e = .returned (.slice (some ⟨b', 0, none⟩) n n) ∧
      Own 2 w' b' (.slice (some ⟨b', 0, none⟩) n n) (loneL n) ∧ w.heap.size ≤ b' ∧ Below w.heap.size w w' := by
  have hmk := run_make_row' (P := Try.prog) 22 2 (.int .i64 0) 8 Try.underlying22 infoI rfl .i64 .i64 n (by omega) (by omega)
  obtain ⟨n1, n2⟩ := hn
  have ow := Own.made 2 w n (by unfold maxLen; omega)
  have bel : Below w.heap.size w (w.alloc (.cells (madeCells #[.int .i64 0] n) 2)) := (Below.refl _ _).alloc (Nat.le_refl _) _
  have hox := ow.cell (i := 0) (by simp; omega)
  have hof := ow.free 0
  rw [show (List.replicate n (0 : Int)).getD 0 0 = 0 by rw [List.getD_eq_getElem?_getD, List.getElem?_replicate, if_pos (by omega)]; rfl] at hox
  have hF := And.intro (ow.set 0 1) (bel.setCell (p := ⟨w.heap.size, 0, none⟩) (Nat.le_refl _) (.int .i64 1))
  have e : (w.alloc (.cells (madeCells #[.int .i64 0] n) 2)).setCell ⟨w.heap.size, 0, none⟩ (.int .i64 1) = w.alloc (.cells ((madeCells #[.int .i64 0] n).setIfInBounds 0 (.int .i64 1)) 2) := by go_simp
  rw [e] at hF
  have HF := hid hF
  clear hF e
  clear ow bel
  go_enter Try.func122, Try.ntmps122
  go_wp2
  go_ret
  exact ⟨w.heap.size, rfl, HF.out.1, Nat.le_refl _, HF.out.2⟩

set_option maxRecDepth 100000 in
set_option maxHeartbeats 400000 in
theorem once {w : World} {s : Int} {g b r n L : Nat} {v : Value} {ts : List Int} (c0 : w.cell? ⟨g, 0, none⟩ = some (.int .i64 s)) (c1 : w.cell? ⟨g, 1, none⟩ = some (.int .i64 r)) (h : Rd w b v ts) (hlt : ts.length = L) (ha : allB ts s = true) (hs : 2 ≤ s ∧ s ≤ 3) (hr : r ≤ 2) (hL : L = 2 * r + 1) (hn : L ≤ n ∧ n ≤ 64) :
    Calls Try.prog 115 #[.pointer (some ⟨g, 0, none⟩), v, .int .i64 n] w fun e w' => ∃ b', e = .returned (.slice (some ⟨b', 0, none⟩) n n) ∧
      Own 2 w' b' (.slice (some ⟨b', 0, none⟩) n n) (onL ts r n L) ∧ w.heap.size ≤ b' ∧ Below w.heap.size w w' := by
  have hmk := run_make_row' (P := Try.prog) 22 2 (.int .i64 0) 8 Try.underlying22 infoI rfl .i64 .i64 n (by omega) (by omega)
  have gsz := World.block_lt_of_cell? _ _ c0
  obtain ⟨ao, cap, rfl, hc, hm, k1⟩ := h
  obtain ⟨off, rfl, hb, cx⟩ := k1 (by omega)
  rw [hlt] at hc cx ⊢
  unfold maxLen at hm
  have HX := hid cx
  have HA : Hid (∀ k, k < L → 0 ≤ ts.getD k 0 ∧ ts.getD k 0 ≤ s - 1) := fun k hk => all_getD ha (by omega)
  have HLL := hid hL
  obtain ⟨n1, n2⟩ := hn
  obtain ⟨s1, s2⟩ := hs
  have hl5 : L ≤ 5 := by omega
  have hrn : r < n := by omega
  have HRN := hid hrn
  clear k1 hlt cx hL ha
  go_enter Try.func115, Try.ntmps115
  go_wp2
  go_loopw [8, 9, 14] (fun _ _ t wr => ∃ k : Nat, k ≤ L ∧ t = .int .i64 k ∧ Own 2 wr w.heap.size (Value.slice (some ⟨w.heap.size, 0, none⟩) n n) (onL ts r n k) ∧ Below w.heap.size w wr) (fun _ _ t _ => L - (intOf t).toNat)
  case atStart => exact ⟨0, Nat.zero_le _, rfl, by rw [onL_zero]; exact Own.made 2 w n (by unfold maxLen; omega), (Below.refl _ _).alloc (Nat.le_refl _) _⟩
  case round =>
    obtain ⟨k, hk, rfl, hown, hbel⟩ := hrel
    by_cases hltk : k < L
    · obtain ⟨x, hx⟩ : ∃ x, x = ts.getD k 0 := ⟨_, rfl⟩
      obtain ⟨j, hj⟩ : ∃ j, j = qf r n k := ⟨_, rfl⟩
      have hjn : j < n := by rw [hj]; exact qf_lt hrn (by omega)
      have hcx : wr.cell? ⟨b, off + k, none⟩ = some (.int .i64 x) := by rw [hx]; exact (hbel.cell (p := ⟨b, off + k, none⟩) hb).trans (HX.out k hltk)
      have d0 : wr.cell? ⟨g, 0, none⟩ = some (.int .i64 s) := (hbel.cell (p := ⟨g, 0, none⟩) gsz).trans c0
      have d1 : wr.cell? ⟨g, 1, none⟩ = some (.int .i64 r) := (hbel.cell (p := ⟨g, 1, none⟩) gsz).trans c1
      have hxb := HA.out k hltk
      rw [← hx] at hxb
      obtain ⟨x1, x2⟩ := hxb
      have e1 : IntKind.i64.wrap ((r : Int) - (k : Int)) = (r : Int) - (k : Int) := Aro.wr (by omega) (by omega)
      have e2 : IntKind.i64.wrap (2 * (n : Int)) = 2 * (n : Int) := Aro.wr (by omega) (by omega)
      have e3 : IntKind.i64.wrap ((r : Int) - (k : Int) + 2 * (n : Int)) = (r : Int) - (k : Int) + 2 * (n : Int) := Aro.wr (by omega) (by omega)
      have hmod := qf_mod hrn (show k < n by omega)
      rw [← hj] at hmod
      have e4 : IntKind.i64.wrap (0 + x) = x := by rw [Int.zero_add]; exact Aro.wr (by omega) (by omega)
      have hs0 : ¬ s = 0 := by omega
      have hn0 : ¬ (n : Int) = 0 := by omega
      have hn00 : ¬ n = 0 := by omega
      have e5 : x.tmod s = x := by rw [Int.tmod_eq_emod_of_nonneg x1]; exact Int.emod_eq_of_lt x1 (by omega)
      have e6 : x % s = x := Int.emod_eq_of_lt x1 (by omega)
      have hox := hown.cell (i := j) (by rw [onL_len]; exact hjn)
      have hof := hown.free j
      rw [show (onL ts r n k).getD j 0 = 0 by rw [hj]; exact onL_at hrn (by omega)] at hox
      have HJ := hid hj
      have HXQ := hid hx
      have HO1 := hid hown
      have HB1 := hid hbel
      clear hx hj hown hbel
      go_wp2_with fail
      go_still_tail 17, (by kernel_rfl)
      change wpList _ _ _ _ _ wr.drew
      have hoxd : wr.drew.cell? ⟨w.heap.size, j, none⟩ = some (.int .i64 0) := hox
      have hofd : wr.drew.frozen? ⟨w.heap.size, j, none⟩ = false := hof
      obtain ⟨wd, hwd⟩ : ∃ wd, wd = wr.drew := ⟨_, rfl⟩
      have HB2 : Hid (Below w.heap.size w wd) := by rw [hwd]; exact HB1.out.drew
      have HO2 : Hid (Own 2 wd w.heap.size (Value.slice (some ⟨w.heap.size, 0, none⟩) n n) (onL ts r n k)) := by rw [hwd]; exact HO1.out
      rw [← hwd] at hoxd hofd ⊢
      clear hwd hox hof hcx d0 d1
      go_wp2
      go_roundw
      case rel =>
        refine ⟨k + 1, by omega, by go_num, ?_, HB2.out.setCell (Nat.le_refl _) _⟩
        rw [← onL_succ HRN.out (by omega), ← HXQ.out, ← HJ.out]
        exact HO2.out.set j x
      case measure => simp [intOf]; omega
    · have hkn : L = k := by omega
      subst hkn
      go_wp2
      go_ret
      exact ⟨_, rfl, hown, Nat.le_refl _, hbel⟩

end Go.Proofs.Ytonghkooncmjgaa.Onc
