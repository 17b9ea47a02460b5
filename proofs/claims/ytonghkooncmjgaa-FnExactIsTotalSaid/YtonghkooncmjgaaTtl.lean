/- IsTotal of both sides. -/
import Derived.Test.YtonghkooncmjgaaTotA
import Derived.Test.YtonghkooncmjgaaRSame
import Derived.Test.YtonghkooncmjgaaDigP
import Derived.Test.YtonghkooncmjgaaFNew
import Derived.Test.YtonghkooncmjgaaSpO
import Derived.WalkKit
import Derived.IntWalk
import Derived.BigQuiet
import Derived.Deep.Cut
namespace Go.Proofs.Ytonghkooncmjgaa.Ttl
open Go.RowKit Go.Proofs.Ytonghkooncmjgaa.Rd Go.Proofs.Ytonghkooncmjgaa.Help Go.Proofs.Ytonghkooncmjgaa.Ring Go.Proofs.Ytonghkooncmjgaa.Small Go.Proofs.Ytonghkooncmjgaa.Num Go.Proofs.Ytonghkooncmjgaa.Keep Go.Proofs.Ytonghkooncmjgaa.Rule Go.Proofs.Ytonghkooncmjgaa.Dig Go.Proofs.Ytonghkooncmjgaa.DigP Go.Proofs.Ytonghkooncmjgaa.Tell
set_option linter.unusedVariables false
set_option linter.unusedSimpArgs false

/-- What is told for each sum by the first x entries, the last one stands. -/
def tlL (c : Int) (g : Nat → Nat) (T : List Int) (n : Nat) : Nat → List Int
  | 0 => List.replicate n c
  | x + 1 => (tlL c g T n x).set (g x) (T.getD x 0)
theorem tl_len (c : Int) (g : Nat → Nat) (T : List Int) (n : Nat) : ∀ x, (tlL c g T n x).length = n
  | 0 => by simp [tlL]
  | x + 1 => by simp [tlL, tl_len c g T n x]
theorem set_getD {l : List Int} {i j : Nat} {v : Int} (hi : i < l.length) : (l.set i v).getD j 0 = if i = j then v else l.getD j 0 := by
  simp only [List.getD_eq_getElem?_getD, List.getElem?_set, hi]
  split
  · simp
  · rfl
theorem tl_succ {c : Int} {g : Nat → Nat} {T : List Int} {n x j : Nat} (h : g x < n) : (tlL c g T n (x + 1)).getD j 0 = if g x = j then T.getD x 0 else (tlL c g T n x).getD j 0 := by
  show ((tlL c g T n x).set (g x) (T.getD x 0)).getD j 0 = _
  exact set_getD (by rw [tl_len]; exact h)
theorem tl_start (c : Int) (n j : Nat) (h : j < n) : (List.replicate n c).getD j 0 = c := by simp [List.getD_eq_getElem?_getD, h]
/-- Where something is told, an entry tells it. -/
theorem tl_some {c : Int} {g : Nat → Nat} {T : List Int} {n M : Nat} (hg : ∀ k, k < M → g k < n) (j : Nat) (hj : j < n) : ∀ x, x ≤ M → (tlL c g T n x).getD j 0 = c ∨ ∃ k, k < x ∧ g k = j ∧ (tlL c g T n x).getD j 0 = T.getD k 0
  | 0, _ => .inl (tl_start c n j hj)
  | x + 1, hx => by
    rw [tl_succ (hg x (by omega))]
    by_cases e : g x = j
    · rw [if_pos e]; exact .inr ⟨x, by omega, e, rfl⟩
    · rw [if_neg e]
      rcases tl_some (c := c) (T := T) hg j hj x (by omega) with h | ⟨k, h1, h2, h3⟩
      · exact .inl h
      · exact .inr ⟨k, by omega, h2, h3⟩
/-- An entry that tells another thing than one before it for the same sum. -/
def Cf (g : Nat → Nat) (T : List Int) (n x : Nat) : Prop := 0 ≤ (tlL (-1) g T n x).getD (g x) 0 ∧ (tlL (-1) g T n x).getD (g x) 0 ≠ T.getD x 0
/-- All entries are told by their sums. -/
def AllT (g : Nat → Nat) (T : List Int) (n M : Nat) : Prop := ∀ k, k < M → (tlL 0 g T n M).getD (g k) 0 = T.getD k 0
theorem told_all {c : Int} {g : Nat → Nat} {T : List Int} {n M : Nat} (hg : ∀ k, k < M → g k < n) (hT : ∀ k, k < M → 0 ≤ T.getD k 0) : ∀ x, x ≤ M → (∀ y, y < x → ¬ Cf g T n y) →
    (∀ k, k < x → (tlL c g T n x).getD (g k) 0 = T.getD k 0) ∧ (∀ k, k < x → (tlL (-1) g T n x).getD (g k) 0 = T.getD k 0)
  | 0, _, _ => ⟨fun k h => absurd h (by omega), fun k h => absurd h (by omega)⟩
  | x + 1, hx, hc => by
    obtain ⟨i1, i2⟩ := told_all (c := c) hg hT x (by omega) (fun y hy => hc y (by omega))
    have hcx := hc x (by omega)
    have same : ∀ k, k < x → g x = g k → T.getD x 0 = T.getD k 0 := fun k hk e => by
      have h1 := i2 k hk
      rw [← e] at h1
      have h2 := hT k (by omega)
      by_cases h3 : T.getD x 0 = T.getD k 0
      · exact h3
      · exact absurd ⟨by rw [h1]; exact h2, by rw [h1]; exact fun h => h3 h.symm⟩ hcx
    refine ⟨fun k hk => ?_, fun k hk => ?_⟩
    all_goals
      rw [tl_succ (hg x (by omega))]
      by_cases e : g x = g k
      · rw [if_pos e]
        by_cases hkx : k = x
        · rw [hkx]
        · exact same k (by omega) e
      · rw [if_neg e]
        have hkx : k ≠ x := fun h => e (by rw [h])
        first | exact i1 k (by omega) | exact i2 k (by omega)
theorem told_none {g : Nat → Nat} {T : List Int} {n M x : Nat} (hg : ∀ k, k < M → g k < n) (hx : x < M) (hc : Cf g T n x) : ¬ AllT g T n M := by
  intro ha
  rcases tl_some (c := -1) (T := T) hg (g x) (hg x hx) x (by omega) with h | ⟨k, h1, h2, h3⟩
  · have := hc.1; omega
  · have e1 := ha k (by omega)
    have e2 := ha x hx
    rw [h2] at e1
    exact hc.2 (by rw [h3, ← e1, e2])
theorem told_iff {g : Nat → Nat} {T : List Int} {n M : Nat} (hg : ∀ k, k < M → g k < n) (hT : ∀ k, k < M → 0 ≤ T.getD k 0) (h : ∀ y, y < M → ¬ Cf g T n y) : AllT g T n M :=
  (told_all (c := 0) hg hT M (Nat.le_refl _) h).1

theorem heap_keep {w w' : World} {n : Nat} {o : Obj} (bel : Below w.heap.size w w') (h : w.heap[n]? = some o) : w'.heap[n]? = some o :=
  (bel.block n (Array.getElem?_eq_some_iff.1 h).1).trans h
theorem wr {x : Int} (h1 : -9223372036854775808 ≤ x) (h2 : x ≤ 9223372036854775807) : IntKind.i64.wrap x = x := by
  rw [IntKind.wrap_i64]; have := wrap_id h1 h2; unfold wrap64 at this; exact this
/-- The sum of the digits of a number. -/
def sg (s : Int) (L : Nat) (k : Nat) : Nat := (sumL (dig s k L)).toNat
theorem sg_int {s : Int} (hs : 2 ≤ s ∧ s ≤ 3) (L k : Nat) : sumL (dig s k L) = ((sg s L k : Nat) : Int) := by
  have := (sumL_bd hs (dig_all hs k L)).1
  unfold sg; omega
theorem sg_lt {s r : Int} (hs : 2 ≤ s ∧ s ≤ 3) (hr : 0 ≤ r ∧ r ≤ 2) {L n : Nat} (hL : L = (2 * r + 1).toNat) (hn : (n : Int) = (2 * r + 1) * (s - 1) + 1) (k : Nat) : sg s L k < n := by
  have h := (sumL_bd hs (dig_all hs k L)).2
  rw [dig_length] at h
  have e := sg_int hs L k
  have e2 : (L : Int) = 2 * r + 1 := by omega
  rw [e2] at h
  omega
theorem n_bd {s r : Int} (hs : 2 ≤ s ∧ s ≤ 3) (hr : 0 ≤ r ∧ r ≤ 2) : 2 ≤ (2 * r + 1) * (s - 1) + 1 ∧ (2 * r + 1) * (s - 1) + 1 ≤ 11 ∧ 1 ≤ (2 * r + 1) * (s - 1) ∧ (2 * r + 1) * (s - 1) ≤ 10 := by
  rcases (show s = 2 ∨ s = 3 by omega) with rfl | rfl <;> omega
theorem len_bd {s r : Int} (hs : 2 ≤ s ∧ s ≤ 3) (hr : 0 ≤ r ∧ r ≤ 2) {m : Nat} (h : (m : Int) = s ^ (2 * r + 1).toNat) : m ≤ 243 := by
  rcases (show s = 2 ∨ s = 3 by omega) with rfl | rfl <;> rcases (show r = 0 ∨ r = 1 ∨ r = 2 by omega) with rfl | rfl | rfl <;> simp at h <;> omega
theorem tl_all {s : Int} (hs : 2 ≤ s ∧ s ≤ 3) {g : Nat → Nat} {T : List Int} {n M : Nat} (hT : allB T s = true) (hM : M = T.length) (hg : ∀ k, k < M → g k < n) (x : Nat) (hx : x ≤ M) : allB (tlL 0 g T n x) s = true := by
  refine TotA.all_of (fun k hk => ?_)
  rw [tl_len] at hk
  rcases tl_some (c := 0) (T := T) hg k hk x hx with h | ⟨j, h1, _, h3⟩
  · rw [h]; omega
  · rw [h3]; exact all_get hT (by omega)
theorem tab_iff {T : List Int} {f : Nat → Int} : T = tab f T.length ↔ ∀ k, k < T.length → f k = T.getD k 0 := by
  constructor
  · intro h k hk
    have e := tab_get f T.length k hk
    rw [← h] at e
    exact e.symm
  · intro h
    apply List.ext_getElem
    · rw [tab_length]
    · intro i h1 h2
      have h3 := h i h1
      rw [List.getD_eq_getElem?_getD, List.getElem?_eq_getElem h1] at h3
      have h4 := tab_get f T.length i h1
      rw [List.getD_eq_getElem?_getD, List.getElem?_eq_getElem h2] at h4
      simp only [Option.getD_some] at h3 h4
      rw [h4, h3]
theorem nxt {w ww w' : World} {NT : Nat} {s r : Int} (bel : Below ww.heap.size ww w') (h : Below w.heap.size w ww ∧ ww.cell? ⟨NT, 0, none⟩ = some (.int .i64 s) ∧ ww.cell? ⟨NT, 1, none⟩ = some (.int .i64 r) ∧ w.heap.size ≤ ww.heap.size) : Below w.heap.size w w' ∧ w'.cell? ⟨NT, 0, none⟩ = some (.int .i64 s) ∧ w'.cell? ⟨NT, 1, none⟩ = some (.int .i64 r) ∧ w.heap.size ≤ w'.heap.size :=
  ⟨h.1.trans (bel.mono h.2.2.2), cell_keep bel h.2.1, cell_keep bel h.2.2.1, Nat.le_trans h.2.2.2 bel.size⟩
set_option maxHeartbeats 8000000 in
theorem impl {w : World} {s r : Int} {b : Nat} {v : Value} {tbl : List Int} {q : Bool} (h : Rd w b v tbl) (hv : validB s r tbl = true) (hq : q = decide (tbl = tab (fun k => (tlL 0 (sg s (2 * r + 1).toNat) tbl ((2 * r + 1) * (s - 1) + 1).toNat tbl.length).getD (sg s (2 * r + 1).toNat k) 0) tbl.length)) :
    Calls Try.prog 45 #[ruleV s r v] w fun e w' => e = .returned (.tuple #[.bool q, .bool true]) ∧ Below w.heap.size w w' := by
  obtain ⟨hs, hr, hlen, ha⟩ := Al.valid_parts hv
  have HS : Hid ((2 ≤ s ∧ s ≤ 3) ∧ (0 ≤ r ∧ r ≤ 2)) := ⟨hs, hr⟩
  obtain ⟨L, hL⟩ : ∃ L, L = (2 * r + 1).toNat := ⟨_, rfl⟩
  obtain ⟨n, hn⟩ : ∃ n : Nat, (n : Int) = (2 * r + 1) * (s - 1) + 1 := ⟨((2 * r + 1) * (s - 1) + 1).toNat, by have := n_bd hs hr; omega⟩
  have hnb := n_bd hs hr
  have hM := len_bd hs hr hlen
  have HLen := hid hlen
  have HA := hid ha
  have HV := hid hv
  have HL := hid hL
  have HN := hid hn
  have HGL : Hid (∀ k, sg s L k < n) := sg_lt hs hr hL hn
  have HTn : Hid (∀ k, k < tbl.length → 0 ≤ tbl.getD k 0) := fun k hk => (all_get ha hk).1
  have HQ : Hid (q = decide (tbl = tab (fun k => (tlL 0 (sg s L) tbl n tbl.length).getD (sg s L k) 0) tbl.length)) := by
    simp only [Hid]
    have e : ((2 * r + 1) * (s - 1) + 1).toNat = n := by omega
    rw [hq, e, ← hL]
  have HH := hid h
  obtain ⟨ao, cap, rfl, hc, hm, h4⟩ := h
  have H4 := hid h4
  have hmk := run_make_row' (P := Try.prog) 22 2 (.int .i64 0) 8 Try.underlying22 infoI rfl .i64 .i64 n (by omega) (by omega)
  have hn1 : (n : Int) = (2 * r + 1) * (s - 1) + 1 := hn
  obtain ⟨P, hP⟩ : ∃ P, P = (2 * r + 1) * (s - 1) := ⟨_, rfl⟩
  have hP2 : (n : Int) = P + 1 := by omega
  rw [← hP] at hnb
  obtain ⟨p1, p2, p3, p4⟩ := hnb
  have HP := hid hP
  have HMl := hid hM
  have hM' : tbl.length ≤ 9223372036854775807 := by omega
  obtain ⟨s1, s2⟩ := hs
  obtain ⟨r1, r2⟩ := hr
  have HWN : Hid (IntKind.i64.wrap (IntKind.i64.wrap ((2 * r + 1) * IntKind.i64.wrap (s - 1)) + 1) = (n : Int)) := by
    simp only [Hid]
    rw [wr (x := s - 1) (by omega) (by omega), hP.symm, wr (x := P) (by omega) (by omega), hP2]
    exact wr (by omega) (by omega)
  have HN11 : Hid (n ≤ 11) := by simp only [Hid]; omega
  clear hv hlen ha hL hn hq hc hm h4 hn1 hM hP hP2 p1 p2 p3 p4
  go_enter Try.func45, Try.ntmps45
  go_wp2_with fail
  obtain ⟨w1, hW⟩ : ∃ x, x = w.alloc (Obj.cells #[.int .i64 s, .int .i64 r, (Value.slice ao tbl.length cap)] 33) := ⟨_, rfl⟩
  obtain ⟨NR, hN⟩ : ∃ x, x = w.heap.size := ⟨_, rfl⟩
  have HB1 : Hid (Below w.heap.size w w1) := by simp only [Hid]; rw [hW]; exact below1 _ _
  have kR : w1.heap[NR]? = some (Obj.cells #[.int .i64 s, .int .i64 r, (Value.slice ao tbl.length cap)] 33) := by rw [hW]; exact FNew.heap_top hN
  have HNR : Hid (NR = w.heap.size) := hN
  simp only [← hW, ← hN]
  clear hW hN
  go_at_call 73
  refine (Rule.implValid (HH.out.keep HB1.out (Nat.le_refl _))).mono ?_
  rw [HV.out]
  rintro e w2 ⟨rfl, bel⟩
  replace kR := heap_keep bel kR
  have HB2 := hid (HB1.out.trans (bel.mono HB1.out.size))
  clear bel
  have a0 := Go.Joins.cell_of_block kR 0
  have a1 := Go.Joins.cell_of_block kR 1
  have a2 := Go.Joins.cell_of_block kR 2
  simp only [List.getElem?_toArray, List.getElem?_cons_zero, List.getElem?_cons_succ] at a0 a1 a2
  have KR := hid kR
  clear kR
  go_wp2_with fail
  go_at_call 102
  refine (shapeOf).mono ?_
  rintro e w3 ⟨rfl, bel⟩
  have kR := heap_keep bel KR.out
  have HB3 := hid (HB2.out.trans (bel.mono HB2.out.size))
  clear bel a0 a1 a2 KR
  go_upto_region 4 with fail
  obtain ⟨w4, hW⟩ : ∃ x, x = w3.alloc (Obj.cells #[.int .i64 s, .int .i64 r] 119) := ⟨_, rfl⟩
  obtain ⟨NT, hNT⟩ : ∃ x, x = w3.heap.size := ⟨_, rfl⟩
  have bel : Below w3.heap.size w3 w4 := by rw [hW]; exact below1 _ _
  have kT : w4.heap[NT]? = some (Obj.cells #[.int .i64 s, .int .i64 r] 119) := by rw [hW]; exact FNew.heap_top hNT
  have HNE0 : Hid (NR < NT ∧ w.heap.size ≤ NT) := by have h1 := (Array.getElem?_eq_some_iff.1 kR).1; have h2 := HB3.out.size; simp only [Hid]; omega
  replace kR := heap_keep bel kR
  have HB4 := hid (HB3.out.trans (bel.mono HB3.out.size))
  have st : Below w.heap.size w w4 ∧ w4.cell? ⟨NT, 0, none⟩ = some (.int .i64 s) ∧ w4.cell? ⟨NT, 1, none⟩ = some (.int .i64 r) ∧ w.heap.size ≤ w4.heap.size := ⟨HB4.out, Go.Joins.cell_of_block kT 0, Go.Joins.cell_of_block kT 1, HB4.out.size⟩
  try simp only [← hW, ← hNT]
  clear hW hNT bel
  refine wp_region_held_drew (S := (fun ww => Below w.heap.size w ww ∧ ww.cell? ⟨NT, 0, none⟩ = some (.int .i64 s) ∧ ww.cell? ⟨NT, 1, none⟩ = some (.int .i64 r) ∧ w.heap.size ≤ ww.heap.size)) (by kernel_rfl) ?_ (fun hHeld => ?_)
  · ((try dsimp only); exact ⟨st.1.drew, st.2.1, st.2.2.1, st.2.2.2⟩)
  generalize hD : w4.drew = wD at hHeld ⊢
  replace kR : wD.heap[NR]? = some (Obj.cells #[.int .i64 s, .int .i64 r, (Value.slice ao tbl.length cap)] 33) := by rw [← hD]; exact kR
  replace kT : wD.heap[NT]? = some (Obj.cells #[.int .i64 s, .int .i64 r] 119) := by rw [← hD]; exact kT
  clear hD st
  (refine wpAnyH_take (i := 0) (v := ?_) rfl ?_ ?_ ?_ (fun _ _ _ h => h) (Or.inl ⟨?_, ?_⟩) ?_ ?_; rotate_left 1; (focus decide +kernel); (focus decide +kernel); (focus decide +kernel); (focus rfl); (focus (intro w hSw; (try dsimp only at hSw); go_simp; (try (with_reducible rfl)); done)); (focus assumption); (try simp only [Act.put, List.setIfInBounds_toArray, List.set_cons_zero, List.set_cons_succ, List.getElem_toArray, List.getElem_cons_succ, List.getElem_cons_zero]))
  (refine wpAnyH_take (i := 2) (v := ?_) rfl ?_ ?_ ?_ (fun _ _ _ h => h) (Or.inl ⟨?_, ?_⟩) ?_ ?_; rotate_left 1; (focus decide +kernel); (focus decide +kernel); (focus decide +kernel); (focus rfl); (focus (intro w hSw; (try dsimp only at hSw); go_simp; (try (with_reducible rfl)); done)); (focus assumption); (try simp only [Act.put, List.setIfInBounds_toArray, List.set_cons_zero, List.set_cons_succ, List.getElem_toArray, List.getElem_cons_succ, List.getElem_cons_zero]))
  (refine wpAnyH_take (i := 3) (v := ?_) rfl ?_ ?_ ?_ (fun _ _ _ h => h) (Or.inl ⟨?_, ?_⟩) ?_ ?_; rotate_left 1; (focus decide +kernel); (focus decide +kernel); (focus decide +kernel); (focus rfl); (focus (intro w hSw; (try dsimp only at hSw); go_simp; (try (with_reducible rfl)); done)); (focus assumption); (try simp only [Act.put, List.setIfInBounds_toArray, List.set_cons_zero, List.set_cons_succ, List.getElem_toArray, List.getElem_cons_succ, List.getElem_cons_zero]))
  (refine wpAnyH_take (i := 4) (v := ?_) rfl ?_ ?_ ?_ (fun _ _ _ h => h) (Or.inl ⟨?_, ?_⟩) ?_ ?_; rotate_left 1; (focus decide +kernel); (focus decide +kernel); (focus decide +kernel); (focus rfl); (focus (intro w hSw; (try dsimp only at hSw); go_simp; (try (with_reducible rfl)); done)); (focus assumption); (try simp only [Act.put, List.setIfInBounds_toArray, List.set_cons_zero, List.set_cons_succ, List.getElem_toArray, List.getElem_cons_succ, List.getElem_cons_zero]))
  refine wpAnyH_ready (rs := [1]) ?_ (by simp) ?_
  · decide +kernel
  refine AllReadyH.cons rfl (fun K hK => ?_) AllReadyH.nil
  go_simp
  go_at_call 103
  refine (wide HS.out.2).mono ?_
  rintro e w5 ⟨rfl, bel⟩
  replace kR := heap_keep bel kR
  replace kT := heap_keep bel kT
  refine hK.out _ _ ?_ (fun hHeld => ?_)
  · (try dsimp only); exact nxt bel hHeld
  clear hK K
  (try simp only [Act.put, List.setIfInBounds_toArray, List.set_cons_zero, List.set_cons_succ, List.getElem_toArray, List.getElem_cons_succ, List.getElem_cons_zero])
  (refine wpAnyH_take (i := 5) (v := ?_) rfl ?_ ?_ ?_ (fun _ _ _ h => h) (Or.inl ⟨?_, ?_⟩) ?_ ?_; rotate_left 1; (focus decide +kernel); (focus decide +kernel); (focus decide +kernel); (focus rfl); (focus (intro w hSw; (try dsimp only at hSw); go_simp; (try (with_reducible rfl)); done)); (focus assumption); (try simp only [Act.put, List.setIfInBounds_toArray, List.set_cons_zero, List.set_cons_succ, List.getElem_toArray, List.getElem_cons_succ, List.getElem_cons_zero]))
  (refine wpAnyH_take (i := 6) (v := ?_) rfl ?_ ?_ ?_ (fun _ _ _ h => h) (Or.inl ⟨?_, ?_⟩) ?_ ?_; rotate_left 1; (focus decide +kernel); (focus decide +kernel); (focus decide +kernel); (focus rfl); (focus (intro w hSw; (try dsimp only at hSw); go_simp; (try (with_reducible rfl)); done)); (focus assumption); (try simp only [Act.put, List.setIfInBounds_toArray, List.set_cons_zero, List.set_cons_succ, List.getElem_toArray, List.getElem_cons_succ, List.getElem_cons_zero]))
  refine wpAnyH_ready (rs := [7]) ?_ (by simp) ?_
  · decide +kernel
  refine AllReadyH.cons rfl (fun K hK => ?_) AllReadyH.nil
  go_simp
  rw [HWN.out, hmk]
  simp only [Result.andThen]
  rw [Oper.upon_value]
  obtain ⟨w6, hW⟩ : ∃ x, x = w5.alloc (.cells (madeCells #[.int .i64 0] n) 2) := ⟨_, rfl⟩
  obtain ⟨bT, hbT⟩ : ∃ x, x = w5.heap.size := ⟨_, rfl⟩
  have oT : Own 2 w6 bT (Value.slice (some ⟨bT, 0, none⟩) n n) (List.replicate n 0) := by have := Own.made 2 w5 n (by have := HN11.out; unfold maxLen; omega); rw [hW, hbT]; exact this
  have bel : Below w5.heap.size w5 w6 := by rw [hW]; exact (Below.refl _ _).alloc (Nat.le_refl _) _
  have HNE : Hid (NT ≠ bT ∧ NR ≠ bT) := by have h1 := (Array.getElem?_eq_some_iff.1 kR).1; have h2 := (Array.getElem?_eq_some_iff.1 kT).1; simp only [Hid]; omega
  have HLO : Hid (w.heap.size ≤ bT) := by simp only [Hid]; rw [hbT]; exact hHeld.2.2.2
  replace kR := heap_keep bel kR
  replace kT := heap_keep bel kT
  try simp only [← hW, ← hbT]
  clear hW hbT
  refine hK.out _ _ ?_ (fun hHeld => ?_)
  · (try dsimp only); exact nxt bel hHeld
  clear hK K
  (try simp only [Act.put, List.setIfInBounds_toArray, List.set_cons_zero, List.set_cons_succ, List.getElem_toArray, List.getElem_cons_succ, List.getElem_cons_zero])
  (refine wpAnyH_take (i := 8) (v := ?_) rfl ?_ ?_ ?_ (fun _ _ _ h => h) (Or.inl ⟨?_, ?_⟩) ?_ ?_; rotate_left 1; (focus decide +kernel); (focus decide +kernel); (focus decide +kernel); (focus rfl); (focus (intro w hSw; (try dsimp only at hSw); go_simp; (try (with_reducible rfl)); done)); (focus assumption); (try simp only [Act.put, List.setIfInBounds_toArray, List.set_cons_zero, List.set_cons_succ, List.getElem_toArray, List.getElem_cons_succ, List.getElem_cons_zero]))
  refine wpAnyH_done (by kernel_rfl) ?_ _
  have KR := hid kR
  have KT := hid kT
  have KO := hid oT
  have KB := hid hHeld
  clear kR kT oT hHeld hmk
  have b2 := Go.Joins.cell_of_block KR.out 2
  simp only [List.getElem?_toArray, List.getElem?_cons_zero, List.getElem?_cons_succ] at b2
  have hml : tbl.length ≤ 243 := HMl.out
  go_wp2
  clear b2
  go_loopw [26] (fun i wr => ∃ k : Nat, k ≤ tbl.length ∧ i = .int .i64 (k : Int) ∧ Below w.heap.size w wr ∧ wr.heap[NR]? = some (Obj.cells #[.int .i64 s, .int .i64 r, (Value.slice ao tbl.length cap)] 33) ∧ wr.heap[NT]? = some (Obj.cells #[.int .i64 s, .int .i64 r] 119) ∧ Own 2 wr bT (Value.slice (some ⟨bT, 0, none⟩) n n) (tlL 0 (sg s L) tbl n k)) (fun i _ => tbl.length - (intOf i).toNat)
  case atStart => exact ⟨0, Nat.zero_le _, rfl, KB.out.1, KR.out, KT.out, KO.out⟩
  case round =>
    clear KB KR KT KO
    obtain ⟨k, hk, rfl, hB, hR, hT, hO⟩ := hrel
    have KB := hid hB
    have KR := hid hR
    have KT := hid hT
    have KO := hid hO
    clear hR hT hO
    by_cases hlt : k < tbl.length
    · obtain ⟨off, rfl, hb, hcell⟩ := H4.out (by omega)
      obtain ⟨x, hx⟩ : ∃ x, x = tbl.getD k 0 := ⟨_, rfl⟩
      have hcx : wr.cell? ⟨b, off + k, none⟩ = some (.int .i64 x) := by rw [hx]; exact (hB.cell (p := ⟨b, off + k, none⟩) hb).trans (hcell k hlt)
      have HX := hid hx
      obtain ⟨g, hg⟩ : ∃ g, g = sg s L k := ⟨_, rfl⟩
      have HG := hid hg
      have HGN : Hid (g < n) := by simp only [Hid]; rw [hg]; exact HGL.out k
      have HSG : Hid (sumL (dig s (k : Int) (2 * r + 1).toNat) = (g : Int)) := by simp only [Hid]; rw [hg, ← HL.out]; exact sg_int HS.out.1 L k
      have HKX : Hid (0 ≤ (k : Int) ∧ (k : Int) ≤ 1000000000) := by simp only [Hid]; omega
      have hgi : (g : Int) < (n : Int) := by have := HGN.out; omega
      have st : Below w.heap.size w wr ∧ wr.cell? ⟨NT, 0, none⟩ = some (.int .i64 s) ∧ wr.cell? ⟨NT, 1, none⟩ = some (.int .i64 r) ∧ w.heap.size ≤ wr.heap.size := ⟨hB, Go.Joins.cell_of_block KT.out 0, Go.Joins.cell_of_block KT.out 1, hB.size⟩
      clear hx hg hcell hB H4 HH
      go_upto_region 8 with fail
      refine wp_region_held_drew (S := (fun ww => Below w.heap.size w ww ∧ ww.cell? ⟨NT, 0, none⟩ = some (.int .i64 s) ∧ ww.cell? ⟨NT, 1, none⟩ = some (.int .i64 r) ∧ w.heap.size ≤ ww.heap.size)) (by kernel_rfl) ?_ (fun hHeld => ?_)
      · ((try dsimp only); exact nxt (Below.refl _ _) st |>.1.drew |> fun b => ⟨b, st.2.1, st.2.2.1, st.2.2.2⟩)
      generalize hD : wr.drew = wD at hHeld ⊢
      have kR : wD.heap[NR]? = some (Obj.cells #[.int .i64 s, .int .i64 r, (Value.slice (some ⟨b, off, none⟩) tbl.length cap)] 33) := by rw [← hD]; exact KR.out
      have kT : wD.heap[NT]? = some (Obj.cells #[.int .i64 s, .int .i64 r] 119) := by rw [← hD]; exact KT.out
      have oT : Own 2 wD bT (Value.slice (some ⟨bT, 0, none⟩) n n) (tlL 0 (sg s L) tbl n k) := by rw [← hD]; exact KO.out
      clear hD st
      (refine wpAnyH_take (i := 0) (v := ?_) rfl ?_ ?_ ?_ (fun _ _ _ h => h) (Or.inl ⟨?_, ?_⟩) ?_ ?_; rotate_left 1; (focus decide +kernel); (focus decide +kernel); (focus decide +kernel); (focus rfl); (focus (intro w hSw; (try dsimp only at hSw); go_simp; (try (with_reducible rfl)); done)); (focus assumption); (try simp only [Act.put, List.setIfInBounds_toArray, List.set_cons_zero, List.set_cons_succ, List.getElem_toArray, List.getElem_cons_succ, List.getElem_cons_zero]))
      (refine wpAnyH_take (i := 1) (v := ?_) rfl ?_ ?_ ?_ (fun _ _ _ h => h) (Or.inl ⟨?_, ?_⟩) ?_ ?_; rotate_left 1; (focus decide +kernel); (focus decide +kernel); (focus decide +kernel); (focus rfl); (focus (intro w hSw; (try dsimp only at hSw); go_simp; (try (with_reducible rfl)); done)); (focus assumption); (try simp only [Act.put, List.setIfInBounds_toArray, List.set_cons_zero, List.set_cons_succ, List.getElem_toArray, List.getElem_cons_succ, List.getElem_cons_zero]))
      (refine wpAnyH_take (i := 2) (v := ?_) rfl ?_ ?_ ?_ (fun _ _ _ h => h) (Or.inl ⟨?_, ?_⟩) ?_ ?_; rotate_left 1; (focus decide +kernel); (focus decide +kernel); (focus decide +kernel); (focus rfl); (focus (intro w hSw; (try dsimp only at hSw); go_simp; (try (with_reducible rfl)); done)); (focus assumption); (try simp only [Act.put, List.setIfInBounds_toArray, List.set_cons_zero, List.set_cons_succ, List.getElem_toArray, List.getElem_cons_succ, List.getElem_cons_zero]))
      (refine wpAnyH_take (i := 3) (v := ?_) rfl ?_ ?_ ?_ (fun _ _ _ h => h) (Or.inl ⟨?_, ?_⟩) ?_ ?_; rotate_left 1; (focus decide +kernel); (focus decide +kernel); (focus decide +kernel); (focus rfl); (focus (intro w hSw; (try dsimp only at hSw); go_simp; (try (with_reducible rfl)); done)); (focus assumption); (try simp only [Act.put, List.setIfInBounds_toArray, List.set_cons_zero, List.set_cons_succ, List.getElem_toArray, List.getElem_cons_succ, List.getElem_cons_zero]))
      (refine wpAnyH_take (i := 4) (v := ?_) rfl ?_ ?_ ?_ (fun _ _ _ h => h) (Or.inl ⟨?_, ?_⟩) ?_ ?_; rotate_left 1; (focus decide +kernel); (focus decide +kernel); (focus decide +kernel); (focus rfl); (focus (intro w hSw; (try dsimp only at hSw); go_simp; (try (with_reducible rfl)); done)); (focus assumption); (try simp only [Act.put, List.setIfInBounds_toArray, List.set_cons_zero, List.set_cons_succ, List.getElem_toArray, List.getElem_cons_succ, List.getElem_cons_zero]))
      (refine wpAnyH_take (i := 8) (v := ?_) rfl ?_ ?_ ?_ (fun _ _ _ h => h) (Or.inl ⟨?_, ?_⟩) ?_ ?_; rotate_left 1; (focus decide +kernel); (focus decide +kernel); (focus decide +kernel); (focus rfl); (focus (intro w hSw; (try dsimp only at hSw); go_simp; (try (with_reducible rfl)); done)); (focus assumption); (try simp only [Act.put, List.setIfInBounds_toArray, List.set_cons_zero, List.set_cons_succ, List.getElem_toArray, List.getElem_cons_succ, List.getElem_cons_zero]))
      refine wpAnyH_ready (rs := [5]) ?_ (by simp) ?_
      · decide +kernel
      refine AllReadyH.cons rfl (fun K hK => ?_) AllReadyH.nil
      go_simp
      go_at_call 103
      refine (wide HS.out.2).mono ?_
      rintro e w5 ⟨rfl, bel⟩
      replace kR := heap_keep bel kR
      replace kT := heap_keep bel kT
      replace oT := oT.keep bel
      refine hK.out _ _ ?_ (fun hHeld => ?_)
      · (try dsimp only); exact nxt bel hHeld
      clear hK K
      (try simp only [Act.put, List.setIfInBounds_toArray, List.set_cons_zero, List.set_cons_succ, List.getElem_toArray, List.getElem_cons_succ, List.getElem_cons_zero])
      refine wpAnyH_ready (rs := [6]) ?_ (by simp) ?_
      · decide +kernel
      refine AllReadyH.cons rfl (fun K hK => ?_) AllReadyH.nil
      go_simp
      go_at_call 105
      refine (implDigits HS.out.1 HKX.out (by have := HS.out.2; omega)).mono ?_
      rintro e w6 ⟨bD, rfl, oD, _, bel⟩
      replace kR := heap_keep bel kR
      replace kT := heap_keep bel kT
      replace oT := oT.keep bel
      refine hK.out _ _ ?_ (fun hHeld => ?_)
      · (try dsimp only); exact nxt bel hHeld
      clear hK K
      (try simp only [Act.put, List.setIfInBounds_toArray, List.set_cons_zero, List.set_cons_succ, List.getElem_toArray, List.getElem_cons_succ, List.getElem_cons_zero])
      refine wpAnyH_ready (rs := [7]) ?_ (by simp) ?_
      · decide +kernel
      refine AllReadyH.cons rfl (fun K hK => ?_) AllReadyH.nil
      go_simp
      go_at_call 104
      refine (implSum oD.rd HS.out.1 (by rw [dig_length]; have := HS.out.2; omega) (dig_all HS.out.1 _ _)).mono ?_
      rw [HSG.out]
      rintro e w7 ⟨rfl, hE⟩
      have bel : Below w6.heap.size w6 w7 := hE ▸ Below.refl _ _
      clear oD
      replace kR := heap_keep bel kR
      replace kT := heap_keep bel kT
      replace oT := oT.keep bel
      refine hK.out _ _ ?_ (fun hHeld => ?_)
      · (try dsimp only); exact nxt bel hHeld
      clear hK K
      (try simp only [Act.put, List.setIfInBounds_toArray, List.set_cons_zero, List.set_cons_succ, List.getElem_toArray, List.getElem_cons_succ, List.getElem_cons_zero])
      (refine wpAnyH_take (i := 9) (v := ?_) rfl ?_ ?_ ?_ (fun _ _ _ h => h) (Or.inl ⟨?_, ?_⟩) ?_ ?_; rotate_left 1; (focus decide +kernel); (focus decide +kernel); (focus decide +kernel); (focus rfl); (focus (intro w hSw; (try dsimp only at hSw); go_simp; (try (with_reducible rfl)); done)); (focus assumption); (try simp only [Act.put, List.setIfInBounds_toArray, List.set_cons_zero, List.set_cons_succ, List.getElem_toArray, List.getElem_cons_succ, List.getElem_cons_zero]))
      refine wpAnyH_ready (rs := [10]) ?_ (by simp) ?_
      · decide +kernel
      refine AllReadyH.cons rfl (fun K hK => ?_) AllReadyH.nil
      have y1 : w7.cell? ⟨bT, g, none⟩ = some (.int .i64 ((tlL 0 (sg s L) tbl n k).getD g 0)) := by have := oT.cell (i := g) (by rw [tl_len]; exact HGN.out); simpa using this
      have y2 := oT.free g
      go_simp
      have oS := oT.set g x
      have neT : NT ≠ bT := HNE.out.1
      have neR : NR ≠ bT := HNE.out.2
      refine hK.out _ _ ?_ (fun hHeld4 => ?_)
      · (try dsimp only); exact ⟨hHeld.1.setCell (p := ⟨bT, g, none⟩) HLO.out _, mcell (setCell_grown w7 ⟨bT, g, none⟩ (.int .i64 x)) hHeld.2.1 neT, mcell (setCell_grown w7 ⟨bT, g, none⟩ (.int .i64 x)) hHeld.2.2.1 neT, by simpa [World.setCell] using hHeld.2.2.2⟩
      clear hK K
      have kR' := (Below.heap_setCell w7 ⟨bT, g, none⟩ (.int .i64 x) NR neR).trans kR
      have kT' := (Below.heap_setCell w7 ⟨bT, g, none⟩ (.int .i64 x) NT neT).trans kT
      obtain ⟨wS, hW⟩ : ∃ wS, wS = w7.setCell ⟨bT, g, none⟩ (.int .i64 x) := ⟨_, rfl⟩
      rw [← hW] at oS kR' kT' hHeld4
      rw [← hW]
      clear hW y1 y2
      (try simp only [Act.put, List.setIfInBounds_toArray, List.set_cons_zero, List.set_cons_succ, List.getElem_toArray, List.getElem_cons_succ, List.getElem_cons_zero])
      refine wpAnyH_done (by kernel_rfl) ?_ _
      have HF := hid (And.intro hHeld4.1 (And.intro kR' (And.intro kT' oS)))
      clear hHeld4 hHeld kR kT oT kR' kT' oS
      go_wp2
      go_roundw
      case rel => exact ⟨k + 1, by omega, by go_num, HF.out.1, HF.out.2.1, HF.out.2.2.1, by have h := HF.out.2.2.2; rw [HX.out, HG.out] at h; exact h⟩
      case measure => simp [intOf]; omega
    · have hkn : k = tbl.length := by omega
      subst hkn
      clear hB
      have b0 := Go.Joins.cell_of_block KR.out 0
      have b1 := Go.Joins.cell_of_block KR.out 1
      simp only [List.getElem?_toArray, List.getElem?_cons_zero, List.getElem?_cons_succ] at b0 b1
      go_wp2_with fail
      have hall : allB (tlL 0 (sg s L) tbl n tbl.length) s = true := tl_all HS.out.1 HA.out rfl (fun k _ => HGL.out k) tbl.length (Nat.le_refl _)
      go_at_call 106
      refine (Tot.implTotOk (M := tbl.length) KO.out.rd HS.out.1 HS.out.2 (by rw [tl_len]; exact HN.out) HLen.out hall).mono ?_
      rintro e w9 ⟨bR, rfl, oR, _, bel⟩
      have kR := heap_keep bel KR.out
      have HB9 := hid (KB.out.trans (bel.mono KB.out.size))
      clear bel b0 b1 hall
      have HQ2 : Hid (q = RSame.sameB s r tbl s r (tab (fun k => (tlL 0 (sg s L) tbl n tbl.length).getD (sumL (dig s k (2 * r + 1).toNat)).toNat 0) tbl.length)) := by
        simp only [Hid, RSame.sameB, RSame.eqLB, decide_true, Bool.true_and]
        rw [HQ.out, HL.out]; rfl
      obtain ⟨TB, hTB⟩ : ∃ TB, TB = tab (fun k => (tlL 0 (sg s L) tbl n tbl.length).getD (sumL (dig s k (2 * r + 1).toNat)).toNat 0) tbl.length := ⟨_, rfl⟩
      rw [← hTB] at oR HQ2
      clear hTB
      have OR := hid oR
      have a0 := Go.Joins.cell_of_block kR 0
      have a1 := Go.Joins.cell_of_block kR 1
      have a2 := Go.Joins.cell_of_block kR 2
      simp only [List.getElem?_toArray, List.getElem?_cons_zero, List.getElem?_cons_succ] at a0 a1 a2
      have c0 : ∀ o, (w9.alloc o).cell? ⟨NR, 0, none⟩ = some (.int .i64 s) := fun o => cell_keep (below1 _ _) a0
      have c1 : ∀ o, (w9.alloc o).cell? ⟨NR, 1, none⟩ = some (.int .i64 r) := fun o => cell_keep (below1 _ _) a1
      have c2 : ∀ o, (w9.alloc o).cell? ⟨NR, 2, none⟩ = some (Value.slice ao tbl.length cap) := fun o => cell_keep (below1 _ _) a2
      clear kR oR a0 a1 a2
      go_wp2_with fail
      go_at_call 81
      have HBa : Hid (Below w.heap.size w (w9.alloc (Obj.cells #[.int .i64 s, .int .i64 r, .slice (some ⟨bR, 0, none⟩) tbl.length tbl.length] 33))) := HB9.out.alloc HB9.out.size _
      refine (RSame.impl_two (HH.out.keep HBa.out (Nat.le_refl _)) (OR.out.rd.keep (below1 _ _) (Nat.le_refl _))).mono ?_
      rw [← HQ2.out]
      rintro e w10 ⟨rfl, bel⟩
      have HF := hid (HBa.out.trans (bel.mono HBa.out.size))
      clear bel c0 c1 c2
      go_wp2
      go_ret2
      exact ⟨rfl, HF.out⟩

theorem implNo {w : World} {s r : Int} {b : Nat} {v : Value} {tbl : List Int} (h : Rd w b v tbl) (hv : validB s r tbl = false) :
    Calls Try.prog 45 #[ruleV s r v] w fun e w' => e = .returned (.tuple #[.bool false, .bool false]) ∧ Below w.heap.size w w' := by
  have HH := hid h
  have HV := hid hv
  obtain ⟨ao, cap, rfl, _, _, _⟩ := h
  clear hv
  go_enter Try.func45, Try.ntmps45
  go_wp2_with fail
  obtain ⟨w1, hW⟩ : ∃ x, x = w.alloc (Obj.cells #[.int .i64 s, .int .i64 r, (Value.slice ao tbl.length cap)] 33) := ⟨_, rfl⟩
  have HB1 : Hid (Below w.heap.size w w1) := by simp only [Hid]; rw [hW]; exact below1 _ _
  simp only [← hW]
  clear hW
  go_at_call 73
  refine (Rule.implValid (HH.out.keep HB1.out (Nat.le_refl _))).mono ?_
  rw [HV.out]
  rintro e w2 ⟨rfl, bel⟩
  have HF := hid (HB1.out.trans (bel.mono HB1.out.size))
  clear bel
  go_wp2
  go_ret2
  exact ⟨rfl, HF.out⟩

theorem specNo {w : World} {s r : Int} {b : Nat} {v : Value} {tbl : List Int} (h : Rd w b v tbl) (hv : validB s r tbl = false) :
    Calls Try.prog 43 #[ruleV s r v] w fun e w' => e = .returned (.tuple #[.bool false, .bool false]) ∧ Below w.heap.size w w' := by
  have HH := hid h
  have HV := hid hv
  obtain ⟨ao, cap, rfl, _, _, _⟩ := h
  clear hv
  go_enter Try.func43, Try.ntmps43
  go_wp2_with fail
  obtain ⟨w1, hW⟩ : ∃ x, x = w.alloc (Obj.cells #[.int .i64 s, .int .i64 r, (Value.slice ao tbl.length cap)] 33) := ⟨_, rfl⟩
  obtain ⟨NR, hN⟩ : ∃ x, x = w.heap.size := ⟨_, rfl⟩
  have HB1 : Hid (Below w.heap.size w w1) := by simp only [Hid]; rw [hW]; exact below1 _ _
  have kR : w1.heap[NR]? = some (Obj.cells #[.int .i64 s, .int .i64 r, (Value.slice ao tbl.length cap)] 33) := by rw [hW]; exact FNew.heap_top hN
  simp only [← hW, ← hN]
  clear hW hN
  go_at_call 99
  refine (SpO.is (o := 0) (HH.out.keep HB1.out (Nat.le_refl _)) (Go.Joins.cell_of_block kR 0) (Go.Joins.cell_of_block kR 1) (Go.Joins.cell_of_block kR 2)).mono ?_
  rw [HV.out]
  rintro e w2 ⟨rfl, m, hm⟩
  have HF : Hid (Below w.heap.size w w2) := by simp only [Hid]; rw [hm]; exact HB1.out.trans (Spec.below_drewN' _ _ _)
  clear hm kR
  go_wp2
  go_ret2
  exact ⟨rfl, HF.out⟩

set_option maxHeartbeats 8000000 in
theorem spec {w : World} {s r : Int} {b : Nat} {v : Value} {tbl : List Int} {q : Bool} (h : Rd w b v tbl) (hv : validB s r tbl = true) (hq : q = decide (tbl = tab (fun k => (tlL 0 (sg s (2 * r + 1).toNat) tbl ((2 * r + 1) * (s - 1) + 1).toNat tbl.length).getD (sg s (2 * r + 1).toNat k) 0) tbl.length)) :
    Calls Try.prog 43 #[ruleV s r v] w fun e w' => e = .returned (.tuple #[.bool q, .bool true]) ∧ Below w.heap.size w w' := by
  obtain ⟨hs, hr, hlen, ha⟩ := Al.valid_parts hv
  have HS : Hid ((2 ≤ s ∧ s ≤ 3) ∧ (0 ≤ r ∧ r ≤ 2)) := ⟨hs, hr⟩
  obtain ⟨L, hL⟩ : ∃ L, L = (2 * r + 1).toNat := ⟨_, rfl⟩
  obtain ⟨n, hn⟩ : ∃ n : Nat, (n : Int) = (2 * r + 1) * (s - 1) + 1 := ⟨((2 * r + 1) * (s - 1) + 1).toNat, by have := n_bd hs hr; omega⟩
  have hnb := n_bd hs hr
  have hM := len_bd hs hr hlen
  have HLen := hid hlen
  have HA := hid ha
  have HV := hid hv
  have HL := hid hL
  have HN := hid hn
  have HGL : Hid (∀ k, sg s L k < n) := sg_lt hs hr hL hn
  have HTn : Hid (∀ k, k < tbl.length → 0 ≤ tbl.getD k 0) := fun k hk => (all_get ha hk).1
  have HQ : Hid (q = decide (tbl = tab (fun k => (tlL 0 (sg s L) tbl n tbl.length).getD (sg s L k) 0) tbl.length)) := by
    simp only [Hid]
    have e : ((2 * r + 1) * (s - 1) + 1).toNat = n := by omega
    rw [hq, e, ← hL]
  have HH := hid h
  obtain ⟨ao, cap, rfl, hc, hm, h4⟩ := h
  have H4 := hid h4
  have hmk := run_make_row' (P := Try.prog) 22 2 (.int .i64 0) 8 Try.underlying22 infoI rfl .i64 .i64 n (by omega) (by omega)
  obtain ⟨P, hP⟩ : ∃ P, P = (2 * r + 1) * (s - 1) := ⟨_, rfl⟩
  have hP2 : (n : Int) = P + 1 := by omega
  rw [← hP] at hnb
  obtain ⟨p1, p2, p3, p4⟩ := hnb
  have HMl := hid hM
  have hM' : tbl.length ≤ 9223372036854775807 := by omega
  obtain ⟨s1, s2⟩ := hs
  obtain ⟨r1, r2⟩ := hr
  have HN11 : Hid (n ≤ 11) := by simp only [Hid]; omega
  rw [hP2] at hmk
  have HP2 := hid hP2
  have hPr : (2 * r + 1) * (s - 1) = P := hP.symm
  clear hv hlen ha hL hn hq hc hm h4 hM hP hP2
  go_enter Try.func43, Try.ntmps43
  go_wp2_with fail
  obtain ⟨w1, hW⟩ : ∃ x, x = w.alloc (Obj.cells #[.int .i64 s, .int .i64 r, (Value.slice ao tbl.length cap)] 33) := ⟨_, rfl⟩
  obtain ⟨NR, hN⟩ : ∃ x, x = w.heap.size := ⟨_, rfl⟩
  have HB1 : Hid (Below w.heap.size w w1) := by simp only [Hid]; rw [hW]; exact below1 _ _
  have kR : w1.heap[NR]? = some (Obj.cells #[.int .i64 s, .int .i64 r, (Value.slice ao tbl.length cap)] 33) := by rw [hW]; exact FNew.heap_top hN
  simp only [← hW, ← hN]
  clear hW hN
  go_at_call 99
  refine (SpO.is (o := 0) (HH.out.keep HB1.out (Nat.le_refl _)) (Go.Joins.cell_of_block kR 0) (Go.Joins.cell_of_block kR 1) (Go.Joins.cell_of_block kR 2)).mono ?_
  rw [HV.out]
  rintro e w2 ⟨rfl, m, hm⟩
  have bel : Below w1.heap.size w1 w2 := by rw [hm]; exact Spec.below_drewN' _ _ _
  clear hm
  replace kR := heap_keep bel kR
  have HB2 := hid (HB1.out.trans (bel.mono HB1.out.size))
  have a0 := Go.Joins.cell_of_block kR 0
  have a1 := Go.Joins.cell_of_block kR 1
  simp only [List.getElem?_toArray, List.getElem?_cons_zero, List.getElem?_cons_succ] at a0 a1
  have KR := hid kR
  clear bel kR
  go_wp2
  obtain ⟨w3, hW⟩ : ∃ x, x = w2.alloc (.cells (madeCells #[.int .i64 0] n) 2) := ⟨_, rfl⟩
  obtain ⟨bT, hbT⟩ : ∃ x, x = w2.heap.size := ⟨_, rfl⟩
  have oT : Own 2 w3 bT (Value.slice (some ⟨bT, 0, none⟩) n n) (List.replicate n 0) := by have := Own.made 2 w2 n (by have := HN11.out; unfold maxLen; omega); rw [hW, hbT]; exact this
  have bel : Below w2.heap.size w2 w3 := by rw [hW]; exact (Below.refl _ _).alloc (Nat.le_refl _) _
  have HNE : Hid (NR ≠ bT) := by have h1 := (Array.getElem?_eq_some_iff.1 KR.out).1; simp only [Hid]; omega
  have HLO : Hid (w.heap.size ≤ bT) := by simp only [Hid]; rw [hbT]; exact HB2.out.size
  have KR3 := hid (heap_keep bel KR.out)
  have HB3 := hid (HB2.out.trans (bel.mono HB2.out.size))
  have KO := hid oT
  simp only [← hW, ← hbT]
  clear hW hbT oT bel a0 a1 KR
  have hn11 := HN11.out
  go_loopw [6] (fun i wr => ∃ k : Nat, k ≤ n ∧ i = .int .i64 (k : Int) ∧ Below w.heap.size w wr ∧ wr.heap[NR]? = some (Obj.cells #[.int .i64 s, .int .i64 r, (Value.slice ao tbl.length cap)] 33) ∧ Own 2 wr bT (Value.slice (some ⟨bT, 0, none⟩) n n) (List.replicate k (-1) ++ List.replicate (n - k) 0)) (fun i _ => n - (intOf i).toNat)
  case atStart => exact ⟨0, Nat.zero_le _, rfl, HB3.out, KR3.out, by simpa using KO.out⟩
  case round =>
    clear HB3 KR3 KO
    obtain ⟨k, hk, rfl, hB, hR, hO⟩ := hrel
    have KB := hid hB
    have KR := hid hR
    have KO := hid hO
    by_cases hlt : k < n
    · have y1 : wr.cell? ⟨bT, k, none⟩ = some (.int .i64 0) := by
        have := hO.cell (i := k) (by simp; omega)
        rw [this, List.getD_eq_getElem?_getD, List.getElem?_append_right (by simp)]
        simp [show 0 < n - k by omega]
      have y2 := hO.free k
      clear hB hR hO
      go_wp2
      obtain ⟨wS, hW⟩ : ∃ x, x = wr.setCell ⟨bT, k, none⟩ (.int .i64 (-1)) := ⟨_, rfl⟩
      have oS := KO.out.set k (-1)
      have es : (List.replicate k (-1 : Int) ++ List.replicate (n - k) 0).set k (-1) = List.replicate (k + 1) (-1) ++ List.replicate (n - (k + 1)) 0 := by
        rw [List.set_append_right _ _ (by simp), List.length_replicate, Nat.sub_self, show n - k = (n - (k + 1)) + 1 by omega, List.replicate_succ, List.set_cons_zero, List.replicate_succ', List.append_assoc]; rfl
      rw [es] at oS
      have bS := KB.out.setCell (p := ⟨bT, k, none⟩) HLO.out (.int .i64 (-1))
      have rS := (Below.heap_setCell wr ⟨bT, k, none⟩ (.int .i64 (-1)) NR HNE.out).trans KR.out
      rw [← hW] at oS bS rS
      simp only [← hW]
      clear hW y1 y2 es
      go_roundw
      case rel => exact ⟨k + 1, by omega, by go_num, bS, rS, oS⟩
      case measure => simp [intOf]; omega
    · have hkn : k = n := by omega
      subst hkn
      have KO2 : Hid (Own 2 wr bT (Value.slice (some ⟨bT, 0, none⟩) k k) (tlL (-1) (sg s L) tbl k 0)) := by simp only [Hid, tlL]; simpa using hO
      clear hB hR hO KO
      go_wp2
      go_loopw [7] (fun i wr => ∃ x : Nat, x ≤ tbl.length ∧ i = .int .i64 (x : Int) ∧ Below w.heap.size w wr ∧ wr.heap[NR]? = some (Obj.cells #[.int .i64 s, .int .i64 r, (Value.slice ao tbl.length cap)] 33) ∧ Own 2 wr bT (Value.slice (some ⟨bT, 0, none⟩) k k) (tlL (-1) (sg s L) tbl k x) ∧ ∀ y, y < x → ¬ Cf (sg s L) tbl k y) (fun i _ => tbl.length - (intOf i).toNat)
      case atStart => exact ⟨0, Nat.zero_le _, rfl, KB.out, KR.out, KO2.out, fun y h => absurd h (Nat.not_lt_zero _)⟩
      case round =>
        clear KB KR KO2
        obtain ⟨x, hx, rfl, hB, hR, hO, hC⟩ := hrel
        have KB := hid hB
        have KR := hid hR
        have KO := hid hO
        have KC := hid hC
        have c0 := Go.Joins.cell_of_block hR 0
        have c2 := Go.Joins.cell_of_block hR 2
        simp only [List.getElem?_toArray, List.getElem?_cons_zero, List.getElem?_cons_succ] at c0 c2
        clear hR hO hC
        by_cases hlt : x < tbl.length
        · obtain ⟨off, hao, hb, hcell⟩ := H4.out (by omega)
          have hcx : ∀ W', Below w.heap.size w W' → W'.cell? ⟨b, off + x, none⟩ = some (.int .i64 (tbl.getD x 0)) := fun W' bb => (bb.cell (p := ⟨b, off + x, none⟩) hb).trans (hcell x hlt)
          have HCX := hid hcx
          obtain ⟨g, hg⟩ : ∃ g, g = sg s L x := ⟨_, rfl⟩
          have HG := hid hg
          have HGN : Hid (g < k) := by simp only [Hid]; rw [hg]; exact HGL.out x
          have HSG : Hid (sumL (dig s (x : Int) (2 * r + 1).toNat) = (g : Int)) := by simp only [Hid]; rw [hg, ← HL.out]; exact sg_int HS.out.1 L x
          have hgi : (g : Int) < (k : Int) := by have := HGN.out; omega
          have HAO := hid hao
          have hml := HMl.out
          subst hao
          clear hg hcell hcx hB
          go_wp2_with fail
          go_at_call 101
          refine (specDigits HS.out.1 (by omega) (by have := HS.out.2; omega)).mono ?_
          rintro e w5 ⟨bD, rfl, oD, _, bel⟩
          have KR5 := hid (heap_keep bel KR.out)
          have KO5 := hid (KO.out.keep bel)
          have KB5 := hid (KB.out.trans (bel.mono KB.out.size))
          clear bel c0 c2
          go_wp2_with fail
          go_at_call 100
          refine (specSum oD.rd HS.out.1 (by rw [dig_length]; have := HS.out.2; omega) (dig_all HS.out.1 _ _)).mono ?_
          rw [HSG.out]
          rintro e w6 ⟨rfl, hE⟩
          subst hE
          obtain ⟨y, hy⟩ : ∃ y, y = tbl.getD x 0 := ⟨_, rfl⟩
          obtain ⟨v, hv⟩ : ∃ v, v = (tlL (-1) (sg s L) tbl k x).getD g 0 := ⟨_, rfl⟩
          have y0 : w5.cell? ⟨bT, g, none⟩ = some (.int .i64 v) := by rw [hv]; exact KO5.out.cell (i := g) (by rw [tl_len]; exact HGN.out)
          have y1 : w5.cell? ⟨b, off + x, none⟩ = some (.int .i64 y) := by rw [hy]; exact HCX.out w5 KB5.out
          have y2 := KO5.out.free g
          have c2 := Go.Joins.cell_of_block KR5.out 2
          simp only [List.getElem?_toArray, List.getElem?_cons_zero, List.getElem?_cons_succ] at c2
          have HY := hid hy
          have HVv := hid hv
          clear oD hy hv
          by_cases hcf : 0 ≤ v ∧ v ≠ y
          · have HCF : Hid (Cf (sg s L) tbl k x) := by simp only [Hid, Cf]; rw [← HG.out, ← HVv.out, ← HY.out]; exact hcf
            have d1 : decide (0 ≤ v) = true := decide_eq_true hcf.1
            have d2 : (v != y) = true := by simpa using hcf.2
            have HFq : Hid (q = false) := by
              simp only [Hid]; rw [HQ.out]; exact decide_eq_false (fun h => told_none (fun k' _ => HGL.out k') hlt HCF.out (tab_iff.1 h))
            clear hcf
            go_wp2_with fail
            go_quiet (fail)
            go_wp2
            go_ret2
            exact ⟨by rw [HFq.out]; rfl, KB5.out.trans (Spec.below_drewN' _ _ _)⟩
          · have HNC : Hid (∀ y, y < x + 1 → ¬ Cf (sg s L) tbl k y) := by
              intro z hz
              by_cases hzx : z < x
              · exact KC.out z hzx
              · have hzx2 : z = x := by omega
                subst hzx2
                intro hc
                simp only [Cf] at hc
                rw [← HG.out, ← HVv.out, ← HY.out] at hc
                exact hcf hc
            have hcases : (decide (0 ≤ v) = false) ∨ (decide (0 ≤ v) = true ∧ (v != y) = false) := by
              by_cases h0 : 0 ≤ v
              · exact .inr ⟨decide_eq_true h0, by simpa using (fun h => hcf ⟨h0, h⟩)⟩
              · exact .inl (decide_eq_false h0)
            clear hcf
            rcases hcases with d1 | ⟨d1, d2⟩
            · go_wp2_with fail
              go_quiet (fail)
              obtain ⟨w6, hw6⟩ : ∃ x, x = w5.drewN nq := ⟨_, rfl⟩
              have bel : Below w5.heap.size w5 w6 := by rw [hw6]; exact Spec.below_drewN' _ _ _
              have KR6 := hid (heap_keep bel KR5.out)
              have KO6 := hid (KO5.out.keep bel)
              have KB6 := hid (KB5.out.trans (bel.mono KB5.out.size))
              have z0 := cell_keep bel y0
              have z1 := cell_keep bel y1
              have z2 := KO6.out.free g
              have z3 := cell_keep bel c2
              simp only [← hw6]
              clear hw6 bel y0 y1 y2 c2 d1
              go_wp2
              have oS := KO6.out.set g y
              have bS := KB6.out.setCell (p := ⟨bT, g, none⟩) HLO.out (.int .i64 y)
              have rS := (Below.heap_setCell w6 ⟨bT, g, none⟩ (.int .i64 y) NR HNE.out).trans KR6.out
              obtain ⟨wS, hW⟩ : ∃ x, x = w6.setCell ⟨bT, g, none⟩ (.int .i64 y) := ⟨_, rfl⟩
              rw [← hW] at oS bS rS
              simp only [← hW]
              clear hW z0 z1 z2 z3
              go_roundw
              case rel => exact ⟨x + 1, by omega, by go_num, bS, rS, by rw [HG.out, HY.out] at oS; exact oS, HNC.out⟩
              case measure => simp [intOf]; omega
            · go_wp2_with fail
              go_quiet (fail)
              obtain ⟨w6, hw6⟩ : ∃ x, x = w5.drewN nq := ⟨_, rfl⟩
              have bel : Below w5.heap.size w5 w6 := by rw [hw6]; exact Spec.below_drewN' _ _ _
              have KR6 := hid (heap_keep bel KR5.out)
              have KO6 := hid (KO5.out.keep bel)
              have KB6 := hid (KB5.out.trans (bel.mono KB5.out.size))
              have z0 := cell_keep bel y0
              have z1 := cell_keep bel y1
              have z2 := KO6.out.free g
              have z3 := cell_keep bel c2
              simp only [← hw6]
              clear hw6 bel y0 y1 y2 c2 d1
              go_wp2
              have oS := KO6.out.set g y
              have bS := KB6.out.setCell (p := ⟨bT, g, none⟩) HLO.out (.int .i64 y)
              have rS := (Below.heap_setCell w6 ⟨bT, g, none⟩ (.int .i64 y) NR HNE.out).trans KR6.out
              obtain ⟨wS, hW⟩ : ∃ x, x = w6.setCell ⟨bT, g, none⟩ (.int .i64 y) := ⟨_, rfl⟩
              rw [← hW] at oS bS rS
              simp only [← hW]
              clear hW z0 z1 z2 z3
              go_roundw
              case rel => exact ⟨x + 1, by omega, by go_num, bS, rS, by rw [HG.out, HY.out] at oS; exact oS, HNC.out⟩
              case measure => simp [intOf]; omega
        · have hkn : x = tbl.length := by omega
          subst hkn
          have HTq : Hid (q = true) := by
            simp only [Hid]; rw [HQ.out]
            exact decide_eq_true (tab_iff.2 (told_iff (fun k' _ => HGL.out k') HTn.out KC.out))
          clear hB
          go_wp2
          go_ret2
          exact ⟨by rw [HTq.out]; rfl, KB.out⟩

end Go.Proofs.Ytonghkooncmjgaa.Ttl
