/- In how many ways one can go on from each end: waysBefore. -/
import Derived.Test.YtjeoccjemkdbiaaLnkI
import Derived.Test.YtjeoccjemkdbiaaBox
import Derived.Test.YtjeoccjemkdbiaaPtb
import Derived.Test.YtjeoccjemkdbiaaRin
namespace Go.Proofs.Ytjeoccjemkdbiaa.Wbf
open Go.RowKit Go.Shelf Go.Proofs.Ytjeoccjemkdbiaa.Rd Go.Proofs.Ytjeoccjemkdbiaa.Help Go.Proofs.Ytjeoccjemkdbiaa.Ring Go.Proofs.Ytjeoccjemkdbiaa.Small Go.Proofs.Ytjeoccjemkdbiaa.Num Go.Proofs.Ytjeoccjemkdbiaa.Keep Go.Proofs.Ytjeoccjemkdbiaa.Rule Go.Proofs.Ytjeoccjemkdbiaa.Lnk Go.Proofs.Ytjeoccjemkdbiaa.LnkP Go.Proofs.Ytjeoccjemkdbiaa.LnkI Go.Proofs.Ytjeoccjemkdbiaa.Box
set_option linter.unusedVariables false
set_option linter.unusedSimpArgs false
attribute [local go_sem] Oper.semAt_some

/-- What is before some neighbourhoods, one after another. -/
def bw (S n : Nat) (A : List Int) (xs : List Nat) : List Int := xs.foldl (fun l i => updL l (i / S) (A.getD (i % n) 0)) (List.replicate n 0)
theorem bw_snoc (S n : Nat) (A : List Int) (xs : List Nat) (i : Nat) : bw S n A (xs ++ [i]) = updL (bw S n A xs) (i / S) (A.getD (i % n) 0) := by simp [bw]
theorem bw_len (S n : Nat) (A : List Int) : ∀ (xs : List Nat), (bw S n A xs).length = n := by
  intro xs
  have : ∀ (xs : List Nat) (l : List Int), (xs.foldl (fun l i => updL l (i / S) (A.getD (i % n) 0)) l).length = l.length := by
    intro xs
    induction xs with
    | nil => intro l; rfl
    | cons i xs ih => intro l; show (xs.foldl _ (updL l (i / S) (A.getD (i % n) 0))).length = _; rw [ih]; simp
  unfold bw; rw [this]; simp
theorem bw_lk (tbl : List Int) (S n : Nat) (t : Int) (A : List Int) : ∀ i, bw S n A (lkL tbl t i) = bwdL tbl S n t A i
  | 0 => rfl
  | i + 1 => by
    unfold bwdL
    by_cases e : tbl.getD i 0 = t
    · rw [if_pos e, lk_yes e, bw_snoc, bw_lk tbl S n t A i]
    · rw [if_neg e, lk_no e, bw_lk tbl S n t A i]
theorem bw_bd {S n : Nat} {A : List Int} {M : Int} (hM : 0 ≤ M) (hA : Bd M A) (xs : List Nat) (hx : ∀ i, i ∈ xs → i < n * S) (j : Nat) : 0 ≤ (bw S n A xs).getD j 0 ∧ (bw S n A xs).getD j 0 ≤ xs.length * M := by
  have key : ∀ (xs : List Nat) (l : List Int) (K : Int), l.length = n → (∀ i, i ∈ xs → i < n * S) → (∀ j, 0 ≤ l.getD j 0 ∧ l.getD j 0 ≤ K) → ∀ j, 0 ≤ (xs.foldl (fun l i => updL l (i / S) (A.getD (i % n) 0)) l).getD j 0 ∧ (xs.foldl (fun l i => updL l (i / S) (A.getD (i % n) 0)) l).getD j 0 ≤ K + xs.length * M := by
    intro xs
    induction xs with
    | nil => intro l K _ _ h j; simpa using h j
    | cons i xs ih =>
      intro l K hl hx h j
      have hi := hA (i % n)
      have := ih (updL l (i / S) (A.getD (i % n) 0)) (K + M) (by simpa using hl) (fun k hk => hx k (by simp [hk])) (fun k => by
        rw [updL_getD _ _ _ _ (by rw [hl]; exact div_lt' (hx i (by simp)))]
        have := h k
        split <;> omega) j
      show 0 ≤ (xs.foldl _ (updL l (i / S) (A.getD (i % n) 0))).getD j 0 ∧ (xs.foldl _ (updL l (i / S) (A.getD (i % n) 0))).getD j 0 ≤ K + ((xs.length + 1 : Nat) : Int) * M
      have e : ((xs.length + 1 : Nat) : Int) * M = xs.length * M + M := by simp [Int.add_mul]
      rw [e]; omega
  have := key xs (List.replicate n 0) 0 (by simp) hx (fun j => by simp only [List.getD_eq_getElem?_getD, List.getElem?_replicate]; split <;> simp) j
  unfold bw; omega

theorem kp_drew {NR NS NE bt : Nat} {W W' : World} (h : KpL NR NS NE bt W W') : KpL NR NS NE bt W W'.drew := h
set_option maxHeartbeats 8000000 in
set_option maxRecDepth 100000 in
theorem waysBefore {w : World} {S n bt ba : Nat} {r to : Int} {vt va : Value} {tbl A : List Int} (hk : Lk S n r tbl) (h : Rd w bt vt tbl) (hA : Rd w ba va A) (hAn : A.length = n) (hAb : Bd 3486784401 A) :
    Calls Try.prog 44 #[ruleV (S : Int) r vt, .int .i64 to, va] w fun e w' => ∃ bT, e = .returned (.slice (some ⟨bT, 0, none⟩) n n) ∧ Rd.Own 2 w' bT (.slice (some ⟨bT, 0, none⟩) n n) (bwdA tbl S n to A) ∧ w.heap.size ≤ bT ∧ Below w.heap.size w w' := by
  have HK := hid hk
  have HB := hid hAb
  have HRA := hid hA
  obtain ⟨hS, hr, hn, hl, hn1⟩ := hk
  obtain ⟨ao, cap, rfl, hc, hm, h4⟩ := h
  have hNl : tbl.length = n * S := hl
  have hN243 : tbl.length ≤ 243 := by rw [hNl]; exact Nat.le_trans (Nat.mul_le_mul hn1.2 hS.2) (by decide)
  obtain ⟨off, rfl, hb, hcell⟩ := h4 (by rw [hNl]; exact Nat.mul_pos hn1.1 (by omega))
  obtain ⟨ao, ca, rfl, hca, hma, ha4⟩ := hA
  obtain ⟨oa, rfl, hba, hacell⟩ := ha4 (by rw [hAn]; omega)
  have HNA := hid hAn
  obtain ⟨N, hN⟩ : ∃ N, N = tbl.length := ⟨_, rfl⟩
  rw [← hN] at hcell hN243 hNl hc ⊢
  rw [hAn] at hacell HRA hca ⊢
  have HCB : Hid (bt < w.heap.size ∧ ∀ i, i < N → w.cell? ⟨bt, off + i, none⟩ = some (.int .i64 (tbl.getD i 0))) := ⟨hb, hcell⟩
  have HCA : Hid (ba < w.heap.size ∧ ∀ i, i < n → w.cell? ⟨ba, oa + i, none⟩ = some (.int .i64 (A.getD i 0))) := ⟨hba, hacell⟩
  have HNt := hid hN
  have HSn : Hid ((2 ≤ S ∧ S ≤ 3) ∧ (1 ≤ n ∧ n ≤ 81)) := ⟨hS, hn1⟩
  have HNl := hid hNl
  have HN2 := hid hN243
  have HCPS : Hid (n ≤ ca ∧ ca ≤ maxLen) := ⟨hca, hma⟩
  have hmk := run_make_row' (P := Try.prog) 22 2 (.int .i64 0) 8 Try.underlying22 infoI rfl .i64 .i64 n (by omega) (by omega)
  clear hS hr hn hl hc hm h4 hb hcell hca hma ha4 hba hacell hAn hAb hN hNl hN243
  refine (callsIn_wide (n := 9)).1 ?_
  refine callsIn_of_wp_marks Try.func44 rfl trivial ?_ rfl
  refine wpIn_wide.2 ?_
  simp only [Try.ntmps44, List.size_toArray, List.length_cons, List.length_nil, Nat.reduceAdd, Nat.reduceSub, Array.replicate_succ, Array.replicate_zero, List.push_toArray, List.append_toArray, List.nil_append, List.cons_append]
  obtain ⟨n1, n2⟩ := hn1
  go_wp2_with fail
  obtain ⟨w5, hW⟩ : ∃ x, x = ((((w.alloc (Obj.cells #[.int .i64 (S : Int), .int .i64 r, (.slice (some ⟨bt, off, none⟩) N cap)] 28)).alloc (Obj.cells #[(.slice (some ⟨ba, oa, none⟩) n ca)] 22)).alloc (Obj.cells (madeCells #[.int .i64 0] n) 2)).alloc (Obj.cells #[.slice (some ⟨w.heap.size + 1 + 1, 0, none⟩) n n] 22)) := ⟨_, rfl⟩
  obtain ⟨NRo, hR⟩ : ∃ x, x = w.heap.size := ⟨_, rfl⟩
  obtain ⟨NAo, hE⟩ : ∃ x, x = NRo + 1 := ⟨_, rfl⟩
  obtain ⟨bT, hbT⟩ : ∃ x, x = NAo + 1 := ⟨_, rfl⟩
  obtain ⟨NTo, hT⟩ : ∃ x, x = bT + 1 := ⟨_, rfl⟩
  have bel : Below w.heap.size w w5 := by rw [hW]; exact ((((Below.refl _ _).alloc (Nat.le_refl _) _).alloc (by simp) _).alloc (by simp; omega) _).alloc (by simp; omega) _
  have kA : w5.heap[NAo]? = some (Obj.cells #[(.slice (some ⟨ba, oa, none⟩) n ca)] 22) := by rw [hW]; exact FNew.heap_old (FNew.heap_old (FNew.heap_top (by rw [hE, hR]; simp)))
  have kT : w5.heap[NTo]? = some (Obj.cells #[(.slice (some ⟨bT, 0, none⟩) n n)] 22) := by rw [hW, hbT, hE, hR]; exact FNew.heap_top (by rw [hT, hbT, hE, hR]; simp)
  have oT : Rd.Own 2 w5 bT (.slice (some ⟨bT, 0, none⟩) n n) (List.replicate n 0) := by
    have h1 := Own.made 2 ((w.alloc (Obj.cells #[.int .i64 (S : Int), .int .i64 r, (.slice (some ⟨bt, off, none⟩) N cap)] 28)).alloc (Obj.cells #[(.slice (some ⟨ba, oa, none⟩) n ca)] 22)) n (by unfold maxLen; omega)
    have e : ((w.alloc (Obj.cells #[.int .i64 (S : Int), .int .i64 r, (.slice (some ⟨bt, off, none⟩) N cap)] 28)).alloc (Obj.cells #[(.slice (some ⟨ba, oa, none⟩) n ca)] 22)).heap.size = bT := by rw [hbT, hE, hR]; simp
    rw [e] at h1
    rw [hW]
    exact h1.keep (below1 _ _)
  have HNs : Hid (w.heap.size ≤ NAo ∧ NAo < bT ∧ bT < NTo) := by simp only [Hid]; omega
  have HB5 := hid bel
  simp only [← hW]
  simp only [← hR]
  simp only [← hE, ← hbT, ← hT]
  clear hW hR hE hbT hT hmk
  have HC5 : Hid (bt < w5.heap.size ∧ ∀ i, i < N → w5.cell? ⟨bt, off + i, none⟩ = some (.int .i64 (tbl.getD i 0))) := ⟨Nat.lt_of_lt_of_le HCB.out.1 HB5.out.size, fun i hi => (HB5.out.cell (p := ⟨bt, off + i, none⟩) HCB.out.1).trans (HCB.out.2 i hi)⟩
  have KA := hid kA
  have KT := hid kT
  have OT := hid oT
  clear bel kA kT oT
  go_at_call 68
  refine (linksTo HK.out HNt.out HC5.out.1 HC5.out.2).mono ?_
  rintro e w6 ⟨NR, NS, NE, rfl, hcap, hA, hBs, hCs, bel⟩
  have HCP := hid hcap
  have KA6 := hid (Box.heap_keep bel KA.out)
  have KT6 := hid (Box.heap_keep bel KT.out)
  have OT6 := hid (OT.out.keep bel)
  have HB6 := hid (HB5.out.trans (bel.mono HB5.out.size))
  have HKB : Hid (NR ≠ bT ∧ NS ≠ bT ∧ NE ≠ bT ∧ bt ≠ bT) := by
    have h1 := OT.out.lt
    have h2 := HCB.out.1
    have h3 := HNs.out
    simp only [Hid]; omega
  have HLT : Hid (NAo < w6.heap.size ∧ NTo < w6.heap.size ∧ bT < w6.heap.size) := ⟨Box.heap_lt KA6.out, Box.heap_lt KT6.out, OT6.out.lt⟩
  clear bel hA hBs hCs hcap
  go_wp2
  refine (wpIn_wide (n := 9)).1 ?_
  refine wpIn_rangeFunc_ownG (w := w6) rfl (by omega) (gf := 82) (lb := #[.pointer (some ⟨NR, 0, none⟩), .pointer (some ⟨NS, 0, none⟩), .pointer (some ⟨NE, 0, none⟩)]) rfl trivial (enters_of Try.func82 (by kernel_rfl) rfl)
    (stops HSn.out.1 HSn.out.2 HN2.out HCP.out) (fun h k => KpL.t h k) (KpL.b HCP.out.lt.1 HCP.out.lt.2.1 HCP.out.lt.2.2.1 HCP.out.lt.2.2.2) (Below.refl _ _) (fun _ => rfl)
    (fun pre W => Rd.Own 2 W bT (.slice (some ⟨bT, 0, none⟩) n n) (bw S n A (pre.map (·.1))) ∧ W.heap[NAo]? = some (Obj.cells #[(.slice (some ⟨ba, oa, none⟩) n ca)] 22) ∧ W.heap[NTo]? = some (Obj.cells #[(.slice (some ⟨bT, 0, none⟩) n n)] 22) ∧ Below w.heap.size w W ∧ w6.heap.size ≤ W.heap.size)
    (fun _ _ _ => False) ?own (fun _ _ _ _ _ hs _ _ => hs) ⟨OT6.out, KA6.out, KT6.out, HB6.out, Nat.le_refl _⟩ ?a1 ?assign ?body ?done ?stop
  case own =>
    refine ownFrom_of ?_ (fun s W hs => hs.2.2.2.2)
    rintro pre W W' ⟨h1, h2, h3, h4, h5⟩ hB bel
    exact ⟨h1.keepAt bel HLT.out.2.2, (bel.block NAo HLT.out.1).trans h2, (bel.block NTo HLT.out.2.1).trans h3, h4.trans (bel.mono HB6.out.size), Nat.le_trans hB bel.size⟩
  case assign =>
    intro l x W K hK
    simp only [encL]
    gi_wp2
    exact hK
  case body =>
    rintro l pre ⟨X, hX⟩ W ⟨h1, h2, h3, h4, h5⟩ hlen
    have a0 := Go.Joins.cell_of_block h2 0
    have t0 := Go.Joins.cell_of_block h3 0
    simp only [List.getElem?_toArray, List.getElem?_cons_zero] at a0 t0
    obtain ⟨a, ha⟩ : ∃ a, a = X / S := ⟨_, rfl⟩
    obtain ⟨b, hb⟩ : ∃ b, b = X % n := ⟨_, rfl⟩
    have hXn : X < n * S := by rw [← HNl.out]; exact hX
    have han : a < n := by rw [ha]; exact div_lt' hXn
    have hbn : b < n := by rw [hb]; exact Nat.mod_lt _ (by omega)
    have hani : (a : Int) < (n : Int) := by omega
    have hbni : (b : Int) < (n : Int) := by omega
    have hmem : ∀ i, i ∈ pre.map (·.1) → i < n * S := fun i hi => by
      obtain ⟨⟨y, hy⟩, _, rfl⟩ := List.mem_map.1 hi
      rw [← HNl.out]; exact hy
    have hbd := bw_bd (S := S) (n := n) (by decide) HB.out (pre.map (·.1)) hmem a
    have hab := HB.out b
    obtain ⟨x, hx⟩ : ∃ x, x = (bw S n A (pre.map (·.1))).getD a 0 := ⟨_, rfl⟩
    obtain ⟨y, hy⟩ : ∃ y, y = A.getD b 0 := ⟨_, rfl⟩
    have oc := h1.cell (i := a) (by rw [bw_len]; exact han)
    have ac : W.cell? ⟨ba, oa + b, none⟩ = some (.int .i64 y) := by rw [hy]; exact (h4.cell (p := ⟨ba, oa + b, none⟩) HCA.out.1).trans (HCA.out.2 b hbn)
    rw [← hx] at oc hbd
    rw [← hy] at hab
    have of := h1.free a
    have hw3 : wrap64 (x + y) = x + y := by
      have hl9 : (pre.map (·.1)).length ≤ 243 := by simp; have := HN2.out; omega
      have hl8 : (((pre.map (·.1)).length : Nat) : Int) * 3486784401 ≤ 243 * 3486784401 := Int.mul_le_mul_of_nonneg_right (by omega) (by decide)
      exact wrap_id (by omega) (by omega)
    have H1 := hid h1
    have H2 := hid h2
    have H3 := hid h3
    have H4 := hid h4
    have H5 := hid h5
    have HXx := hid hx
    have HYy := hid hy
    have HAa := hid ha
    have HBb := hid hb
    have haI : (a : Int) = (X : Int) / (S : Int) := by rw [ha]; exact Int.natCast_ediv X S
    have hbI : (b : Int) = (X : Int) % (n : Int) := by rw [hb]; exact Int.natCast_emod X n
    dsimp only
    rw [← haI, ← hbI]
    clear h1 h2 h3 h4 h5 hx hy hmem ha hb hXn haI hbI hbd hlen hab
    have HSET : Hid (bw S n A ((pre ++ [(⟨X, hX⟩ : Li N)]).map (·.1)) = (bw S n A (pre.map (·.1))).set a (x + y)) := by
      simp only [Hid]
      rw [List.map_append]
      show bw S n A (pre.map (·.1) ++ [X]) = _
      rw [bw_snoc, ← HAa.out, ← HBb.out, ← HYy.out, HXx.out]; rfl
    have hw3' : IntKind.i64.wrap (x + y) = x + y := by rw [IntKind.wrap_i64]; unfold wrap64 at hw3; exact hw3
    gi_wp2_with fail
    refine Rin.wpIn_region_round rfl (by kernel_rfl) (by kernel_rfl) ?_
    (try (change wpAnyIn _ _ _ _ _ _ _ _ _ (World.drew _)))
    (refine wpAnyIn_take (i := 1) (v := ?_) rfl rfl ?_ ?_ ?_ (fun _ _ _ h => h) ⟨Or.inl ⟨?_, ?_⟩, fun _ => rfl⟩ ?_; rotate_left 1; (focus kernel_rfl); (focus kernel_rfl); (focus kernel_rfl); (focus rfl); (focus (intro w; go_simp; (try (with_reducible rfl)); done)); (try simp only [Act.put, List.setIfInBounds_toArray, List.set_cons_zero, List.set_cons_succ, List.getElem_toArray, List.getElem_cons_succ, List.getElem_cons_zero]))
    (refine wpAnyIn_take (i := 5) (v := ?_) rfl rfl ?_ ?_ ?_ (fun _ _ _ h => h) ⟨Or.inl ⟨?_, ?_⟩, fun _ => rfl⟩ ?_; rotate_left 1; (focus kernel_rfl); (focus kernel_rfl); (focus kernel_rfl); (focus rfl); (focus (intro w; go_simp; (try (with_reducible rfl)); done)); (try simp only [Act.put, List.setIfInBounds_toArray, List.set_cons_zero, List.set_cons_succ, List.getElem_toArray, List.getElem_cons_succ, List.getElem_cons_zero]))
    refine wpAnyIn_ready (rs := [0, 4]) (by kernel_rfl) (by simp) (AllReadyIn.cons rfl (fun K hK => ?_) (AllReadyIn.cons rfl (fun K hK => ?_) AllReadyIn.nil))
    · go_simp
      refine hK _ _ ?_
      clear hK K
      (try simp only [Act.put, List.setIfInBounds_toArray, List.set_cons_zero, List.set_cons_succ, List.getElem_toArray, List.getElem_cons_succ, List.getElem_cons_zero])
      (refine wpAnyIn_take (i := 2) (v := ?_) rfl rfl ?_ ?_ ?_ (fun _ _ _ h => h) ⟨Or.inl ⟨?_, ?_⟩, fun _ => rfl⟩ ?_; rotate_left 1; (focus kernel_rfl); (focus kernel_rfl); (focus kernel_rfl); (focus rfl); (focus (intro w; go_simp; (try (with_reducible rfl)); done)); (try simp only [Act.put, List.setIfInBounds_toArray, List.set_cons_zero, List.set_cons_succ, List.getElem_toArray, List.getElem_cons_succ, List.getElem_cons_zero]))
      refine wpAnyIn_ready (rs := [3, 4]) (by kernel_rfl) (by simp) (AllReadyIn.cons rfl (fun K hK => ?_) (AllReadyIn.cons rfl (fun K hK => ?_) AllReadyIn.nil))
      · go_simp
        refine hK _ _ ?_
        clear hK K
        (try simp only [Act.put, List.setIfInBounds_toArray, List.set_cons_zero, List.set_cons_succ, List.getElem_toArray, List.getElem_cons_succ, List.getElem_cons_zero])
        refine wpAnyIn_ready (rs := [4]) (by kernel_rfl) (by simp) (AllReadyIn.cons rfl (fun K hK => ?_) AllReadyIn.nil)
        go_simp
        refine hK _ _ ?_
        clear hK K
        (try simp only [Act.put, List.setIfInBounds_toArray, List.set_cons_zero, List.set_cons_succ, List.getElem_toArray, List.getElem_cons_succ, List.getElem_cons_zero])
        (refine wpAnyIn_take (i := 6) (v := ?_) rfl rfl ?_ ?_ ?_ (fun _ _ _ h => h) ⟨Or.inl ⟨?_, ?_⟩, fun _ => rfl⟩ ?_; rotate_left 1; (focus kernel_rfl); (focus kernel_rfl); (focus kernel_rfl); (focus rfl); (focus (intro w; go_simp; (try (with_reducible rfl)); done)); (try simp only [Act.put, List.setIfInBounds_toArray, List.set_cons_zero, List.set_cons_succ, List.getElem_toArray, List.getElem_cons_succ, List.getElem_cons_zero]))
        refine wpAnyIn_ready (rs := [7]) (by kernel_rfl) (by simp) (AllReadyIn.cons rfl (fun K hK => ?_) AllReadyIn.nil)
        go_simp
        refine hK _ _ ?_
        clear hK K
        (try simp only [Act.put, List.setIfInBounds_toArray, List.set_cons_zero, List.set_cons_succ, List.getElem_toArray, List.getElem_cons_succ, List.getElem_cons_zero])
        (refine wpAnyIn_take (i := 8) (v := ?_) rfl rfl ?_ ?_ ?_ (fun _ _ _ h => h) ⟨Or.inl ⟨?_, ?_⟩, fun _ => rfl⟩ ?_; rotate_left 1; (focus kernel_rfl); (focus kernel_rfl); (focus kernel_rfl); (focus rfl); (focus (intro w; go_simp; (try (with_reducible rfl)); done)); (try simp only [Act.put, List.setIfInBounds_toArray, List.set_cons_zero, List.set_cons_succ, List.getElem_toArray, List.getElem_cons_succ, List.getElem_cons_zero]))
        (refine wpAnyIn_take (i := 9) (v := ?_) rfl rfl ?_ ?_ ?_ (fun _ _ _ h => h) ⟨Or.inl ⟨?_, ?_⟩, fun _ => rfl⟩ ?_; rotate_left 1; (focus kernel_rfl); (focus kernel_rfl); (focus kernel_rfl); (focus rfl); (focus (intro w; go_simp; (try (with_reducible rfl)); done)); (try simp only [Act.put, List.setIfInBounds_toArray, List.set_cons_zero, List.set_cons_succ, List.getElem_toArray, List.getElem_cons_succ, List.getElem_cons_zero]))
        refine wpAnyIn_ready (rs := [10]) (by kernel_rfl) (by simp) (AllReadyIn.cons rfl (fun K hK => ?_) AllReadyIn.nil)
        go_simp
        refine hK _ _ ?_
        clear hK K
        (try simp only [Act.put, List.setIfInBounds_toArray, List.set_cons_zero, List.set_cons_succ, List.getElem_toArray, List.getElem_cons_succ, List.getElem_cons_zero])
        refine wpAnyIn_done (by kernel_rfl) ?_ _
        gi_wp2
        refine ⟨((KeepsOthers.setCell _ _ _).trans (KeepsOthers.drew _)).from _, kp_drew (KpL.set HKB.out _ _ _), ?_, (Below.heap_setCell W ⟨bT, a, none⟩ _ NAo (Nat.ne_of_lt HNs.out.2.1)).trans H2.out, (Below.heap_setCell W ⟨bT, a, none⟩ _ NTo (Nat.ne_of_gt HNs.out.2.2)).trans H3.out, (H4.out.setCell (p := ⟨bT, a, none⟩) (by have := HNs.out; simp; omega) _).trans (Go.Proofs.Ytjeoccjemkdbiaa.Help.below_drewN _ _ 1), by have := H5.out; simp [World.setCell, World.drew]; exact this⟩
        rw [HSET.out]
        exact (H1.out.set a (x + y)).keep (Go.Proofs.Ytjeoccjemkdbiaa.Help.below_drewN _ _ 1)
      · go_simp
        refine hK _ _ ?_
        clear hK K
        (try simp only [Act.put, List.setIfInBounds_toArray, List.set_cons_zero, List.set_cons_succ, List.getElem_toArray, List.getElem_cons_succ, List.getElem_cons_zero])
        (refine wpAnyIn_take (i := 6) (v := ?_) rfl rfl ?_ ?_ ?_ (fun _ _ _ h => h) ⟨Or.inl ⟨?_, ?_⟩, fun _ => rfl⟩ ?_; rotate_left 1; (focus kernel_rfl); (focus kernel_rfl); (focus kernel_rfl); (focus rfl); (focus (intro w; go_simp; (try (with_reducible rfl)); done)); (try simp only [Act.put, List.setIfInBounds_toArray, List.set_cons_zero, List.set_cons_succ, List.getElem_toArray, List.getElem_cons_succ, List.getElem_cons_zero]))
        refine wpAnyIn_ready (rs := [3, 7]) (by kernel_rfl) (by simp) (AllReadyIn.cons rfl (fun K hK => ?_) (AllReadyIn.cons rfl (fun K hK => ?_) AllReadyIn.nil))
        · go_simp
          refine hK _ _ ?_
          clear hK K
          (try simp only [Act.put, List.setIfInBounds_toArray, List.set_cons_zero, List.set_cons_succ, List.getElem_toArray, List.getElem_cons_succ, List.getElem_cons_zero])
          refine wpAnyIn_ready (rs := [7]) (by kernel_rfl) (by simp) (AllReadyIn.cons rfl (fun K hK => ?_) AllReadyIn.nil)
          go_simp
          refine hK _ _ ?_
          clear hK K
          (try simp only [Act.put, List.setIfInBounds_toArray, List.set_cons_zero, List.set_cons_succ, List.getElem_toArray, List.getElem_cons_succ, List.getElem_cons_zero])
          (refine wpAnyIn_take (i := 8) (v := ?_) rfl rfl ?_ ?_ ?_ (fun _ _ _ h => h) ⟨Or.inl ⟨?_, ?_⟩, fun _ => rfl⟩ ?_; rotate_left 1; (focus kernel_rfl); (focus kernel_rfl); (focus kernel_rfl); (focus rfl); (focus (intro w; go_simp; (try (with_reducible rfl)); done)); (try simp only [Act.put, List.setIfInBounds_toArray, List.set_cons_zero, List.set_cons_succ, List.getElem_toArray, List.getElem_cons_succ, List.getElem_cons_zero]))
          (refine wpAnyIn_take (i := 9) (v := ?_) rfl rfl ?_ ?_ ?_ (fun _ _ _ h => h) ⟨Or.inl ⟨?_, ?_⟩, fun _ => rfl⟩ ?_; rotate_left 1; (focus kernel_rfl); (focus kernel_rfl); (focus kernel_rfl); (focus rfl); (focus (intro w; go_simp; (try (with_reducible rfl)); done)); (try simp only [Act.put, List.setIfInBounds_toArray, List.set_cons_zero, List.set_cons_succ, List.getElem_toArray, List.getElem_cons_succ, List.getElem_cons_zero]))
          refine wpAnyIn_ready (rs := [10]) (by kernel_rfl) (by simp) (AllReadyIn.cons rfl (fun K hK => ?_) AllReadyIn.nil)
          go_simp
          refine hK _ _ ?_
          clear hK K
          (try simp only [Act.put, List.setIfInBounds_toArray, List.set_cons_zero, List.set_cons_succ, List.getElem_toArray, List.getElem_cons_succ, List.getElem_cons_zero])
          refine wpAnyIn_done (by kernel_rfl) ?_ _
          gi_wp2
          refine ⟨((KeepsOthers.setCell _ _ _).trans (KeepsOthers.drew _)).from _, kp_drew (KpL.set HKB.out _ _ _), ?_, (Below.heap_setCell W ⟨bT, a, none⟩ _ NAo (Nat.ne_of_lt HNs.out.2.1)).trans H2.out, (Below.heap_setCell W ⟨bT, a, none⟩ _ NTo (Nat.ne_of_gt HNs.out.2.2)).trans H3.out, (H4.out.setCell (p := ⟨bT, a, none⟩) (by have := HNs.out; simp; omega) _).trans (Go.Proofs.Ytjeoccjemkdbiaa.Help.below_drewN _ _ 1), by have := H5.out; simp [World.setCell, World.drew]; exact this⟩
          rw [HSET.out]
          exact (H1.out.set a (x + y)).keep (Go.Proofs.Ytjeoccjemkdbiaa.Help.below_drewN _ _ 1)
        · go_simp
          refine hK _ _ ?_
          clear hK K
          (try simp only [Act.put, List.setIfInBounds_toArray, List.set_cons_zero, List.set_cons_succ, List.getElem_toArray, List.getElem_cons_succ, List.getElem_cons_zero])
          refine wpAnyIn_ready (rs := [3]) (by kernel_rfl) (by simp) (AllReadyIn.cons rfl (fun K hK => ?_) AllReadyIn.nil)
          go_simp
          refine hK _ _ ?_
          clear hK K
          (try simp only [Act.put, List.setIfInBounds_toArray, List.set_cons_zero, List.set_cons_succ, List.getElem_toArray, List.getElem_cons_succ, List.getElem_cons_zero])
          (refine wpAnyIn_take (i := 8) (v := ?_) rfl rfl ?_ ?_ ?_ (fun _ _ _ h => h) ⟨Or.inl ⟨?_, ?_⟩, fun _ => rfl⟩ ?_; rotate_left 1; (focus kernel_rfl); (focus kernel_rfl); (focus kernel_rfl); (focus rfl); (focus (intro w; go_simp; (try (with_reducible rfl)); done)); (try simp only [Act.put, List.setIfInBounds_toArray, List.set_cons_zero, List.set_cons_succ, List.getElem_toArray, List.getElem_cons_succ, List.getElem_cons_zero]))
          (refine wpAnyIn_take (i := 9) (v := ?_) rfl rfl ?_ ?_ ?_ (fun _ _ _ h => h) ⟨Or.inl ⟨?_, ?_⟩, fun _ => rfl⟩ ?_; rotate_left 1; (focus kernel_rfl); (focus kernel_rfl); (focus kernel_rfl); (focus rfl); (focus (intro w; go_simp; (try (with_reducible rfl)); done)); (try simp only [Act.put, List.setIfInBounds_toArray, List.set_cons_zero, List.set_cons_succ, List.getElem_toArray, List.getElem_cons_succ, List.getElem_cons_zero]))
          refine wpAnyIn_ready (rs := [10]) (by kernel_rfl) (by simp) (AllReadyIn.cons rfl (fun K hK => ?_) AllReadyIn.nil)
          go_simp
          refine hK _ _ ?_
          clear hK K
          (try simp only [Act.put, List.setIfInBounds_toArray, List.set_cons_zero, List.set_cons_succ, List.getElem_toArray, List.getElem_cons_succ, List.getElem_cons_zero])
          refine wpAnyIn_done (by kernel_rfl) ?_ _
          gi_wp2
          refine ⟨((KeepsOthers.setCell _ _ _).trans (KeepsOthers.drew _)).from _, kp_drew (KpL.set HKB.out _ _ _), ?_, (Below.heap_setCell W ⟨bT, a, none⟩ _ NAo (Nat.ne_of_lt HNs.out.2.1)).trans H2.out, (Below.heap_setCell W ⟨bT, a, none⟩ _ NTo (Nat.ne_of_gt HNs.out.2.2)).trans H3.out, (H4.out.setCell (p := ⟨bT, a, none⟩) (by have := HNs.out; simp; omega) _).trans (Go.Proofs.Ytjeoccjemkdbiaa.Help.below_drewN _ _ 1), by have := H5.out; simp [World.setCell, World.drew]; exact this⟩
          rw [HSET.out]
          exact (H1.out.set a (x + y)).keep (Go.Proofs.Ytjeoccjemkdbiaa.Help.below_drewN _ _ 1)
    · go_simp
      refine hK _ _ ?_
      clear hK K
      (try simp only [Act.put, List.setIfInBounds_toArray, List.set_cons_zero, List.set_cons_succ, List.getElem_toArray, List.getElem_cons_succ, List.getElem_cons_zero])
      (refine wpAnyIn_take (i := 6) (v := ?_) rfl rfl ?_ ?_ ?_ (fun _ _ _ h => h) ⟨Or.inl ⟨?_, ?_⟩, fun _ => rfl⟩ ?_; rotate_left 1; (focus kernel_rfl); (focus kernel_rfl); (focus kernel_rfl); (focus rfl); (focus (intro w; go_simp; (try (with_reducible rfl)); done)); (try simp only [Act.put, List.setIfInBounds_toArray, List.set_cons_zero, List.set_cons_succ, List.getElem_toArray, List.getElem_cons_succ, List.getElem_cons_zero]))
      refine wpAnyIn_ready (rs := [0, 7]) (by kernel_rfl) (by simp) (AllReadyIn.cons rfl (fun K hK => ?_) (AllReadyIn.cons rfl (fun K hK => ?_) AllReadyIn.nil))
      · go_simp
        refine hK _ _ ?_
        clear hK K
        (try simp only [Act.put, List.setIfInBounds_toArray, List.set_cons_zero, List.set_cons_succ, List.getElem_toArray, List.getElem_cons_succ, List.getElem_cons_zero])
        (refine wpAnyIn_take (i := 2) (v := ?_) rfl rfl ?_ ?_ ?_ (fun _ _ _ h => h) ⟨Or.inl ⟨?_, ?_⟩, fun _ => rfl⟩ ?_; rotate_left 1; (focus kernel_rfl); (focus kernel_rfl); (focus kernel_rfl); (focus rfl); (focus (intro w; go_simp; (try (with_reducible rfl)); done)); (try simp only [Act.put, List.setIfInBounds_toArray, List.set_cons_zero, List.set_cons_succ, List.getElem_toArray, List.getElem_cons_succ, List.getElem_cons_zero]))
        refine wpAnyIn_ready (rs := [3, 7]) (by kernel_rfl) (by simp) (AllReadyIn.cons rfl (fun K hK => ?_) (AllReadyIn.cons rfl (fun K hK => ?_) AllReadyIn.nil))
        · go_simp
          refine hK _ _ ?_
          clear hK K
          (try simp only [Act.put, List.setIfInBounds_toArray, List.set_cons_zero, List.set_cons_succ, List.getElem_toArray, List.getElem_cons_succ, List.getElem_cons_zero])
          refine wpAnyIn_ready (rs := [7]) (by kernel_rfl) (by simp) (AllReadyIn.cons rfl (fun K hK => ?_) AllReadyIn.nil)
          go_simp
          refine hK _ _ ?_
          clear hK K
          (try simp only [Act.put, List.setIfInBounds_toArray, List.set_cons_zero, List.set_cons_succ, List.getElem_toArray, List.getElem_cons_succ, List.getElem_cons_zero])
          (refine wpAnyIn_take (i := 8) (v := ?_) rfl rfl ?_ ?_ ?_ (fun _ _ _ h => h) ⟨Or.inl ⟨?_, ?_⟩, fun _ => rfl⟩ ?_; rotate_left 1; (focus kernel_rfl); (focus kernel_rfl); (focus kernel_rfl); (focus rfl); (focus (intro w; go_simp; (try (with_reducible rfl)); done)); (try simp only [Act.put, List.setIfInBounds_toArray, List.set_cons_zero, List.set_cons_succ, List.getElem_toArray, List.getElem_cons_succ, List.getElem_cons_zero]))
          (refine wpAnyIn_take (i := 9) (v := ?_) rfl rfl ?_ ?_ ?_ (fun _ _ _ h => h) ⟨Or.inl ⟨?_, ?_⟩, fun _ => rfl⟩ ?_; rotate_left 1; (focus kernel_rfl); (focus kernel_rfl); (focus kernel_rfl); (focus rfl); (focus (intro w; go_simp; (try (with_reducible rfl)); done)); (try simp only [Act.put, List.setIfInBounds_toArray, List.set_cons_zero, List.set_cons_succ, List.getElem_toArray, List.getElem_cons_succ, List.getElem_cons_zero]))
          refine wpAnyIn_ready (rs := [10]) (by kernel_rfl) (by simp) (AllReadyIn.cons rfl (fun K hK => ?_) AllReadyIn.nil)
          go_simp
          refine hK _ _ ?_
          clear hK K
          (try simp only [Act.put, List.setIfInBounds_toArray, List.set_cons_zero, List.set_cons_succ, List.getElem_toArray, List.getElem_cons_succ, List.getElem_cons_zero])
          refine wpAnyIn_done (by kernel_rfl) ?_ _
          gi_wp2
          refine ⟨((KeepsOthers.setCell _ _ _).trans (KeepsOthers.drew _)).from _, kp_drew (KpL.set HKB.out _ _ _), ?_, (Below.heap_setCell W ⟨bT, a, none⟩ _ NAo (Nat.ne_of_lt HNs.out.2.1)).trans H2.out, (Below.heap_setCell W ⟨bT, a, none⟩ _ NTo (Nat.ne_of_gt HNs.out.2.2)).trans H3.out, (H4.out.setCell (p := ⟨bT, a, none⟩) (by have := HNs.out; simp; omega) _).trans (Go.Proofs.Ytjeoccjemkdbiaa.Help.below_drewN _ _ 1), by have := H5.out; simp [World.setCell, World.drew]; exact this⟩
          rw [HSET.out]
          exact (H1.out.set a (x + y)).keep (Go.Proofs.Ytjeoccjemkdbiaa.Help.below_drewN _ _ 1)
        · go_simp
          refine hK _ _ ?_
          clear hK K
          (try simp only [Act.put, List.setIfInBounds_toArray, List.set_cons_zero, List.set_cons_succ, List.getElem_toArray, List.getElem_cons_succ, List.getElem_cons_zero])
          refine wpAnyIn_ready (rs := [3]) (by kernel_rfl) (by simp) (AllReadyIn.cons rfl (fun K hK => ?_) AllReadyIn.nil)
          go_simp
          refine hK _ _ ?_
          clear hK K
          (try simp only [Act.put, List.setIfInBounds_toArray, List.set_cons_zero, List.set_cons_succ, List.getElem_toArray, List.getElem_cons_succ, List.getElem_cons_zero])
          (refine wpAnyIn_take (i := 8) (v := ?_) rfl rfl ?_ ?_ ?_ (fun _ _ _ h => h) ⟨Or.inl ⟨?_, ?_⟩, fun _ => rfl⟩ ?_; rotate_left 1; (focus kernel_rfl); (focus kernel_rfl); (focus kernel_rfl); (focus rfl); (focus (intro w; go_simp; (try (with_reducible rfl)); done)); (try simp only [Act.put, List.setIfInBounds_toArray, List.set_cons_zero, List.set_cons_succ, List.getElem_toArray, List.getElem_cons_succ, List.getElem_cons_zero]))
          (refine wpAnyIn_take (i := 9) (v := ?_) rfl rfl ?_ ?_ ?_ (fun _ _ _ h => h) ⟨Or.inl ⟨?_, ?_⟩, fun _ => rfl⟩ ?_; rotate_left 1; (focus kernel_rfl); (focus kernel_rfl); (focus kernel_rfl); (focus rfl); (focus (intro w; go_simp; (try (with_reducible rfl)); done)); (try simp only [Act.put, List.setIfInBounds_toArray, List.set_cons_zero, List.set_cons_succ, List.getElem_toArray, List.getElem_cons_succ, List.getElem_cons_zero]))
          refine wpAnyIn_ready (rs := [10]) (by kernel_rfl) (by simp) (AllReadyIn.cons rfl (fun K hK => ?_) AllReadyIn.nil)
          go_simp
          refine hK _ _ ?_
          clear hK K
          (try simp only [Act.put, List.setIfInBounds_toArray, List.set_cons_zero, List.set_cons_succ, List.getElem_toArray, List.getElem_cons_succ, List.getElem_cons_zero])
          refine wpAnyIn_done (by kernel_rfl) ?_ _
          gi_wp2
          refine ⟨((KeepsOthers.setCell _ _ _).trans (KeepsOthers.drew _)).from _, kp_drew (KpL.set HKB.out _ _ _), ?_, (Below.heap_setCell W ⟨bT, a, none⟩ _ NAo (Nat.ne_of_lt HNs.out.2.1)).trans H2.out, (Below.heap_setCell W ⟨bT, a, none⟩ _ NTo (Nat.ne_of_gt HNs.out.2.2)).trans H3.out, (H4.out.setCell (p := ⟨bT, a, none⟩) (by have := HNs.out; simp; omega) _).trans (Go.Proofs.Ytjeoccjemkdbiaa.Help.below_drewN _ _ 1), by have := H5.out; simp [World.setCell, World.drew]; exact this⟩
          rw [HSET.out]
          exact (H1.out.set a (x + y)).keep (Go.Proofs.Ytjeoccjemkdbiaa.Help.below_drewN _ _ 1)
      · go_simp
        refine hK _ _ ?_
        clear hK K
        (try simp only [Act.put, List.setIfInBounds_toArray, List.set_cons_zero, List.set_cons_succ, List.getElem_toArray, List.getElem_cons_succ, List.getElem_cons_zero])
        refine wpAnyIn_ready (rs := [0]) (by kernel_rfl) (by simp) (AllReadyIn.cons rfl (fun K hK => ?_) AllReadyIn.nil)
        go_simp
        refine hK _ _ ?_
        clear hK K
        (try simp only [Act.put, List.setIfInBounds_toArray, List.set_cons_zero, List.set_cons_succ, List.getElem_toArray, List.getElem_cons_succ, List.getElem_cons_zero])
        (refine wpAnyIn_take (i := 2) (v := ?_) rfl rfl ?_ ?_ ?_ (fun _ _ _ h => h) ⟨Or.inl ⟨?_, ?_⟩, fun _ => rfl⟩ ?_; rotate_left 1; (focus kernel_rfl); (focus kernel_rfl); (focus kernel_rfl); (focus rfl); (focus (intro w; go_simp; (try (with_reducible rfl)); done)); (try simp only [Act.put, List.setIfInBounds_toArray, List.set_cons_zero, List.set_cons_succ, List.getElem_toArray, List.getElem_cons_succ, List.getElem_cons_zero]))
        refine wpAnyIn_ready (rs := [3]) (by kernel_rfl) (by simp) (AllReadyIn.cons rfl (fun K hK => ?_) AllReadyIn.nil)
        go_simp
        refine hK _ _ ?_
        clear hK K
        (try simp only [Act.put, List.setIfInBounds_toArray, List.set_cons_zero, List.set_cons_succ, List.getElem_toArray, List.getElem_cons_succ, List.getElem_cons_zero])
        (refine wpAnyIn_take (i := 8) (v := ?_) rfl rfl ?_ ?_ ?_ (fun _ _ _ h => h) ⟨Or.inl ⟨?_, ?_⟩, fun _ => rfl⟩ ?_; rotate_left 1; (focus kernel_rfl); (focus kernel_rfl); (focus kernel_rfl); (focus rfl); (focus (intro w; go_simp; (try (with_reducible rfl)); done)); (try simp only [Act.put, List.setIfInBounds_toArray, List.set_cons_zero, List.set_cons_succ, List.getElem_toArray, List.getElem_cons_succ, List.getElem_cons_zero]))
        (refine wpAnyIn_take (i := 9) (v := ?_) rfl rfl ?_ ?_ ?_ (fun _ _ _ h => h) ⟨Or.inl ⟨?_, ?_⟩, fun _ => rfl⟩ ?_; rotate_left 1; (focus kernel_rfl); (focus kernel_rfl); (focus kernel_rfl); (focus rfl); (focus (intro w; go_simp; (try (with_reducible rfl)); done)); (try simp only [Act.put, List.setIfInBounds_toArray, List.set_cons_zero, List.set_cons_succ, List.getElem_toArray, List.getElem_cons_succ, List.getElem_cons_zero]))
        refine wpAnyIn_ready (rs := [10]) (by kernel_rfl) (by simp) (AllReadyIn.cons rfl (fun K hK => ?_) AllReadyIn.nil)
        go_simp
        refine hK _ _ ?_
        clear hK K
        (try simp only [Act.put, List.setIfInBounds_toArray, List.set_cons_zero, List.set_cons_succ, List.getElem_toArray, List.getElem_cons_succ, List.getElem_cons_zero])
        refine wpAnyIn_done (by kernel_rfl) ?_ _
        gi_wp2
        refine ⟨((KeepsOthers.setCell _ _ _).trans (KeepsOthers.drew _)).from _, kp_drew (KpL.set HKB.out _ _ _), ?_, (Below.heap_setCell W ⟨bT, a, none⟩ _ NAo (Nat.ne_of_lt HNs.out.2.1)).trans H2.out, (Below.heap_setCell W ⟨bT, a, none⟩ _ NTo (Nat.ne_of_gt HNs.out.2.2)).trans H3.out, (H4.out.setCell (p := ⟨bT, a, none⟩) (by have := HNs.out; simp; omega) _).trans (Go.Proofs.Ytjeoccjemkdbiaa.Help.below_drewN _ _ 1), by have := H5.out; simp [World.setCell, World.drew]; exact this⟩
        rw [HSET.out]
        exact (H1.out.set a (x + y)).keep (Go.Proofs.Ytjeoccjemkdbiaa.Help.below_drewN _ _ 1)
  case done =>
    rintro D xs W hD hS2 ⟨h1, h2, h3, h4, h5⟩ hK
    rw [hS2, bw_lk, HNl.out] at h1
    have t0 := Go.Joins.cell_of_block h3 0
    simp only [List.getElem?_toArray, List.getElem?_cons_zero] at t0
    have H1 : Hid (Rd.Own 2 W bT (.slice (some ⟨bT, 0, none⟩) n n) (bwdA tbl S n to A)) := h1
    have H4 := hid h4
    have HD := hid hD
    have HKk := hid hK
    clear h1 h2 h3 h4 h5 hD hK hS2
    go_wp2
    refine leaves_marks (B := w6.heap.size) [D] W ⟨by simp, by simpa using HKk.out⟩ (by simpa using HD.out) (fun w' hb hc => ?_)
    exact ⟨(.slice (some ⟨bT, 0, none⟩) n n), by simp [results, Try.f44, go_sem], bT, rfl, own_cells H1.out hc, by have := HNs.out; omega, H4.out.trans (hb.mono HB6.out.size)⟩
  case stop =>
    rintro D c pre W _ _ hh _
    exact hh.elim

end Go.Proofs.Ytjeoccjemkdbiaa.Wbf
