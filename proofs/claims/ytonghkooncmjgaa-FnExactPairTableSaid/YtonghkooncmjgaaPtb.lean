/- PairTable of both sides. -/
import Derived.Test.YtonghkooncmjgaaLnkI
import Derived.Test.YtonghkooncmjgaaBox
import Derived.Test.YtonghkooncmjgaaSpO
namespace Go.Proofs.Ytonghkooncmjgaa.Ptb
open Go.RowKit Go.Shelf Go.Proofs.Ytonghkooncmjgaa.Rd Go.Proofs.Ytonghkooncmjgaa.Help Go.Proofs.Ytonghkooncmjgaa.Ring Go.Proofs.Ytonghkooncmjgaa.Small Go.Proofs.Ytonghkooncmjgaa.Num Go.Proofs.Ytonghkooncmjgaa.Keep Go.Proofs.Ytonghkooncmjgaa.Rule Go.Proofs.Ytonghkooncmjgaa.Lnk Go.Proofs.Ytonghkooncmjgaa.LnkP Go.Proofs.Ytonghkooncmjgaa.LnkI Go.Proofs.Ytonghkooncmjgaa.Box
set_option linter.unusedVariables false
set_option linter.unusedSimpArgs false
attribute [local go_sem] Oper.semAt_some

/-- The place of a pair of ends that a neighbourhood joins. -/
def ix (S n i : Nat) : Nat := (i / S) * n + i % n
theorem ix_lt {S n i : Nat} (hn : 1 ≤ n) (h : i < n * S) : ix S n i < n * n := by
  have h1 : i / S < n := div_lt' h
  have h2 : i % n < n := Nat.mod_lt _ hn
  have h3 : (i / S + 1) * n ≤ n * n := Nat.mul_le_mul_right _ h1
  unfold ix; rw [Nat.add_mul] at h3; omega
/-- How often some neighbourhoods join each pair of ends. -/
def pt (S n : Nat) (xs : List Nat) : List Int := xs.foldl (fun l i => updL l (ix S n i) 1) (List.replicate (n * n) 0)
theorem pt_snoc (S n : Nat) (xs : List Nat) (i : Nat) : pt S n (xs ++ [i]) = updL (pt S n xs) (ix S n i) 1 := by simp [pt]
theorem fold_len (S n : Nat) : ∀ (xs : List Nat) (l : List Int), (xs.foldl (fun l i => updL l (ix S n i) 1) l).length = l.length
  | [], _ => rfl
  | i :: xs, l => by show (xs.foldl _ (updL l (ix S n i) 1)).length = _; rw [fold_len S n xs]; simp
theorem pt_len (S n : Nat) (xs : List Nat) : (pt S n xs).length = n * n := by unfold pt; rw [fold_len]; simp
theorem fold_bd (S n : Nat) (hn : 1 ≤ n) : ∀ (xs : List Nat) (l : List Int) (M : Int), l.length = n * n → (∀ i, i ∈ xs → i < n * S) → (∀ j, 0 ≤ l.getD j 0 ∧ l.getD j 0 ≤ M) → ∀ j, 0 ≤ (xs.foldl (fun l i => updL l (ix S n i) 1) l).getD j 0 ∧ (xs.foldl (fun l i => updL l (ix S n i) 1) l).getD j 0 ≤ M + xs.length
  | [], l, M, _, _, hb, j => by simpa using hb j
  | i :: xs, l, M, hl, hx, hb, j => by
    have := fold_bd S n hn xs (updL l (ix S n i) 1) (M + 1) (by simpa using hl) (fun k hk => hx k (by simp [hk])) (fun k => by
      rw [updL_getD _ _ _ _ (by rw [hl]; exact ix_lt hn (hx i (by simp)))]
      have := hb k
      split <;> omega) j
    show 0 ≤ (xs.foldl _ (updL l (ix S n i) 1)).getD j 0 ∧ (xs.foldl _ (updL l (ix S n i) 1)).getD j 0 ≤ M + ((xs.length + 1 : Nat) : Int)
    have e : ((xs.length + 1 : Nat) : Int) = xs.length + 1 := by simp
    rw [e]; omega
theorem pt_bd {S n : Nat} (hn : 1 ≤ n) {xs : List Nat} (hx : ∀ i, i ∈ xs → i < n * S) (hl : xs.length ≤ 243) (j : Nat) : 0 ≤ (pt S n xs).getD j 0 ∧ (pt S n xs).getD j 0 ≤ 243 := by
  have := fold_bd S n hn xs (List.replicate (n * n) 0) 0 (by simp) hx (fun j => by simp only [List.getD_eq_getElem?_getD, List.getElem?_replicate]; split <;> simp) j
  unfold pt; omega
theorem lk_mem {tbl : List Int} {to : Int} {m i : Nat} (h : i ∈ lkL tbl to m) : i < m := List.mem_range.1 (List.mem_filter.1 h).1
theorem nn_bd {n : Nat} (h : 1 ≤ n ∧ n ≤ 81) : 1 ≤ n * n ∧ n * n ≤ 6561 := ⟨Nat.mul_le_mul h.1 h.1, Nat.mul_le_mul h.2 h.2⟩

set_option maxHeartbeats 8000000 in
set_option maxRecDepth 100000 in
theorem implOk {w : World} {S n N bt off cap : Nat} {r to : Int} {tbl : List Int} (hk : Lk S n r tbl) (hN : N = tbl.length) (hv : validB (S : Int) r tbl = true) (h : Rd w bt (.slice (some ⟨bt, off, none⟩) tbl.length cap) tbl) (hto : 0 ≤ to ∧ to ≤ (S : Int) - 1) :
    Calls Try.prog 56 #[ruleV (S : Int) r (.slice (some ⟨bt, off, none⟩) N cap), .int .i64 to] w fun e w' => ∃ bT, e = .returned (.tuple #[(.slice (some ⟨bT, 0, none⟩) (n * n) (n * n)), .bool true]) ∧ Rd.Own 2 w' bT (.slice (some ⟨bT, 0, none⟩) (n * n) (n * n)) (pt S n (lkL tbl to N)) ∧ w.heap.size ≤ bT ∧ Below w.heap.size w w' := by
  have HK := hid hk
  have HV := hid hv
  rw [← hN] at h
  have HH := hid h
  obtain ⟨hS, hr, hn, hl, hn1⟩ := hk
  have HN := hid hn
  have hNl : N = n * S := by rw [hN, hl]
  have hN243 : N ≤ 243 := by rw [hNl]; exact Nat.le_trans (Nat.mul_le_mul hn1.2 hS.2) (by decide)
  obtain ⟨ao, cap', he, hc, hm, h4⟩ := h
  obtain ⟨off', ho, hb, hcell⟩ := h4 (by rw [← hN, hNl]; exact Nat.mul_pos hn1.1 (by omega))
  simp at he
  obtain ⟨rfl, hNx, rfl⟩ := he
  simp at ho
  subst ho
  have HCB : Hid (bt < w.heap.size ∧ ∀ i, i < N → w.cell? ⟨bt, off + i, none⟩ = some (.int .i64 (tbl.getD i 0))) := ⟨hb, fun i hi => hcell i (by rw [← hN]; exact hi)⟩
  have HS : Hid ((2 ≤ (S : Int) ∧ (S : Int) ≤ 3) ∧ (0 ≤ r ∧ r ≤ 2)) := ⟨⟨Int.ofNat_le.2 hS.1, Int.ofNat_le.2 hS.2⟩, hr⟩
  have HSn : Hid ((2 ≤ S ∧ S ≤ 3) ∧ (1 ≤ n ∧ n ≤ 81)) := ⟨hS, hn1⟩
  have HEn := hid hn
  have HNl := hid hNl
  have HNt : Hid (N = tbl.length) := hN
  have HN2 := hid hN243
  have HT : Hid (decide (0 ≤ to ∧ to ≤ (S : Int) - 1) = true) := decide_eq_true hto
  have hnn := nn_bd hn1
  have HNN := hid hnn
  have hmk := run_make_row' (P := Try.prog) 22 2 (.int .i64 0) 8 Try.underlying22 infoI rfl .i64 .i64 (n * n) (by omega) (by omega)
  have hcast : (n : Int) * (n : Int) = ((n * n : Nat) : Int) := by simp
  have hSb : (S : Int) ≤ 3 ∧ 2 ≤ (S : Int) := ⟨HS.out.1.2, HS.out.1.1⟩
  have hwn : wrap64 ((n : Int) * (n : Int)) = ((n * n : Nat) : Int) := by
    rw [hcast]
    exact wrap_id (x := ((n * n : Nat) : Int)) (by omega) (by omega)
  obtain ⟨q, hq⟩ : ∃ q, q = n * n := ⟨_, rfl⟩
  rw [← hq] at hmk hwn hnn
  rw [← hq]
  have HQ := hid hq
  have hq1 : q ≤ 6561 := hnn.2
  obtain ⟨sb1, sb2⟩ := hSb
  have HMK := hid hmk
  have HWN := hid hwn
  clear hmk hwn hq1 hN hNx
  clear hv hS hr hn hl hn1 hNl hN243 hc hm h4 hb hcell hto hcast hq hnn
  refine (callsIn_wide (n := 9)).1 ?_
  refine callsIn_of_wp_marks Try.func56 rfl trivial ?_ rfl
  refine wpIn_wide.2 ?_
  simp only [Try.ntmps56, List.size_toArray, List.length_cons, List.length_nil, Nat.reduceAdd, Nat.reduceSub, Array.replicate_succ, Array.replicate_zero, List.push_toArray, List.append_toArray, List.nil_append, List.cons_append]
  go_wp2_with fail
  obtain ⟨w1, hW⟩ : ∃ x, x = w.alloc (Obj.cells #[.int .i64 (S : Int), .int .i64 r, (.slice (some ⟨bt, off, none⟩) N cap)] 33) := ⟨_, rfl⟩
  obtain ⟨NRo, hR⟩ : ∃ x, x = w.heap.size := ⟨_, rfl⟩
  have HB1 : Hid (Below w.heap.size w w1) := by simp only [Hid]; rw [hW]; exact below1 _ _
  have kR : w1.heap[NRo]? = some (Obj.cells #[.int .i64 (S : Int), .int .i64 r, (.slice (some ⟨bt, off, none⟩) N cap)] 33) := by rw [hW]; exact FNew.heap_top hR
  have HNRo : Hid (NRo = w.heap.size) := hR
  simp only [← hW, ← hR]
  clear hW hR
  go_at_call 73
  refine (Rule.implValid (HH.out.keep HB1.out (Nat.le_refl _))).mono ?_
  rw [HV.out]
  rintro e w2 ⟨rfl, bel⟩
  replace kR := Box.heap_keep bel kR
  have HB2 := hid (HB1.out.trans (bel.mono HB1.out.size))
  have a0 := Go.Joins.cell_of_block kR 0
  have a1 := Go.Joins.cell_of_block kR 1
  have a2 := Go.Joins.cell_of_block kR 2
  simp only [List.getElem?_toArray, List.getElem?_cons_zero, List.getElem?_cons_succ] at a0 a1 a2
  have KR := hid kR
  clear bel kR
  go_wp2_with fail
  go_at_call 119
  refine isCountB.mono ?_
  rw [HT.out]
  rintro e w3 ⟨rfl, rfl⟩
  go_wp2_with fail
  go_at_call 102
  refine shapeOf.mono ?_
  rintro e w3 ⟨rfl, bel⟩
  have KR3 := hid (Box.heap_keep bel KR.out)
  have HB3 := hid (HB2.out.trans (bel.mono HB2.out.size))
  clear bel a0 a1 a2
  go_wp2_with fail
  go_at_call 126
  refine (ends HS.out.1 HS.out.2).mono ?_
  rw [← HEn.out]
  rintro e w4 ⟨rfl, bel⟩
  have KR4 := hid (Box.heap_keep bel KR3.out)
  have HB4 := hid (HB3.out.trans (bel.mono HB3.out.size))
  have b0 : ∀ o1 o2 o3, (((w4.alloc o1).alloc o2).alloc o3).cell? ⟨NRo, 0, none⟩ = some (.int .i64 (S : Int)) := fun o1 o2 o3 => cell_keep (below1 _ _) (cell_keep (below1 _ _) (cell_keep (below1 _ _) (Go.Joins.cell_of_block KR4.out 0)))
  have b1 : ∀ o1 o2 o3, (((w4.alloc o1).alloc o2).alloc o3).cell? ⟨NRo, 1, none⟩ = some (.int .i64 r) := fun o1 o2 o3 => cell_keep (below1 _ _) (cell_keep (below1 _ _) (cell_keep (below1 _ _) (Go.Joins.cell_of_block KR4.out 1)))
  have b2 : ∀ o1 o2 o3, (((w4.alloc o1).alloc o2).alloc o3).cell? ⟨NRo, 2, none⟩ = some (.slice (some ⟨bt, off, none⟩) N cap) := fun o1 o2 o3 => cell_keep (below1 _ _) (cell_keep (below1 _ _) (cell_keep (below1 _ _) (Go.Joins.cell_of_block KR4.out 2)))
  clear bel
  have hmk := HMK.out
  have hwn := HWN.out
  go_wp2_with fail
  obtain ⟨w5, hW⟩ : ∃ x, x = (((w4.alloc (Obj.cells #[.int .i64 (n : Int)] 2)).alloc (Obj.cells (madeCells #[.int .i64 0] q) 2)).alloc (Obj.cells #[.slice (some ⟨w4.heap.size + 1, 0, none⟩) q q] 22)) := ⟨_, rfl⟩
  obtain ⟨NEo, hE⟩ : ∃ x, x = w4.heap.size := ⟨_, rfl⟩
  obtain ⟨bT, hbT⟩ : ∃ x, x = NEo + 1 := ⟨_, rfl⟩
  obtain ⟨NTo, hT⟩ : ∃ x, x = bT + 1 := ⟨_, rfl⟩
  have bel : Below w4.heap.size w4 w5 := by rw [hW]; exact Go.Joins.below_alloc3 _ _ _ _
  have kE : w5.heap[NEo]? = some (Obj.cells #[.int .i64 (n : Int)] 2) := by rw [hW]; exact FNew.heap_old (FNew.heap_old (FNew.heap_top hE))
  have kT : w5.heap[NTo]? = some (Obj.cells #[(.slice (some ⟨bT, 0, none⟩) q q)] 22) := by rw [hW, hbT, hE]; exact FNew.heap_top (by rw [hT, hbT, hE]; simp)
  have oT : Rd.Own 2 w5 bT (.slice (some ⟨bT, 0, none⟩) q q) (List.replicate q 0) := by
    have h1 := Own.made 2 (w4.alloc (Obj.cells #[.int .i64 (n : Int)] 2)) q (by have := HQ.out; have := HNN.out; unfold maxLen; omega)
    have e : (w4.alloc (Obj.cells #[.int .i64 (n : Int)] 2)).heap.size = bT := by rw [hbT, hE]; simp
    rw [e] at h1
    rw [hW]
    exact h1.keep (below1 _ _)
  have HNs : Hid (w.heap.size ≤ NEo ∧ NEo < bT ∧ bT < NTo) := by have := HB4.out.size; simp only [Hid]; omega
  have HB5 := hid (HB4.out.trans (bel.mono HB4.out.size))
  simp only [← hW]
  simp only [← hE, ← hbT, ← hT]
  clear hW hE hbT hT b0 b1 b2 hmk hwn
  have HC5 : Hid (bt < w5.heap.size ∧ ∀ i, i < N → w5.cell? ⟨bt, off + i, none⟩ = some (.int .i64 (tbl.getD i 0))) := ⟨Nat.lt_of_lt_of_le HCB.out.1 HB5.out.size, fun i hi => (HB5.out.cell (p := ⟨bt, off + i, none⟩) HCB.out.1).trans (HCB.out.2 i hi)⟩
  have KE := hid kE
  have KT := hid kT
  have OT := hid oT
  clear bel kE kT oT
  go_at_call 127
  refine (linksTo HK.out HNt.out HC5.out.1 HC5.out.2).mono ?_
  rintro e w6 ⟨NR, NS, NE, rfl, hcap, hA, hBs, hCs, bel⟩
  have HCP := hid hcap
  have KE6 := hid (Box.heap_keep bel KE.out)
  have KT6 := hid (Box.heap_keep bel KT.out)
  have OT6 := hid (OT.out.keep bel)
  have HB6 := hid (HB5.out.trans (bel.mono HB5.out.size))
  have HKB : Hid (NR ≠ bT ∧ NS ≠ bT ∧ NE ≠ bT ∧ bt ≠ bT) := by
    have h1 := OT.out.lt
    have h2 := HCB.out.1
    have h3 := HNs.out
    simp only [Hid]; omega
  have HLT : Hid (NEo < w6.heap.size ∧ NTo < w6.heap.size ∧ bT < w6.heap.size) := ⟨Box.heap_lt KE6.out, Box.heap_lt KT6.out, OT6.out.lt⟩
  clear bel hA hBs hCs hcap
  go_wp2
  refine (wpIn_wide (n := 9)).1 ?_
  refine wpIn_rangeFunc_ownG (w := w6) rfl (by omega) (gf := 172) (lb := #[.pointer (some ⟨NR, 0, none⟩), .pointer (some ⟨NS, 0, none⟩), .pointer (some ⟨NE, 0, none⟩)]) rfl trivial (enters_of Try.func172 (by kernel_rfl) rfl)
    (stops HSn.out.1 HSn.out.2 HN2.out HCP.out) (fun h k => KpL.t h k) (KpL.b HCP.out.lt.1 HCP.out.lt.2.1 HCP.out.lt.2.2.1 HCP.out.lt.2.2.2) (Below.refl _ _) (fun _ => rfl)
    (fun pre W => Rd.Own 2 W bT (.slice (some ⟨bT, 0, none⟩) q q) (pt S n (pre.map (·.1))) ∧ W.heap[NEo]? = some (Obj.cells #[.int .i64 (n : Int)] 2) ∧ W.heap[NTo]? = some (Obj.cells #[(.slice (some ⟨bT, 0, none⟩) q q)] 22) ∧ Below w.heap.size w W ∧ w6.heap.size ≤ W.heap.size)
    (fun _ _ _ => False) ?own (fun _ _ _ _ _ hs _ _ => hs) ⟨by have h := OT6.out; rw [HQ.out] at h ⊢; exact h, KE6.out, KT6.out, HB6.out, Nat.le_refl _⟩ ?a1 ?assign ?body ?done ?stop
  case own =>
    refine ownFrom_of ?_ (fun s W hs => hs.2.2.2.2)
    rintro pre W W' ⟨h1, h2, h3, h4, h5⟩ hB bel
    exact ⟨h1.keepAt bel HLT.out.2.2, (bel.block NEo HLT.out.1).trans h2, (bel.block NTo HLT.out.2.1).trans h3, h4.trans (bel.mono HB6.out.size), Nat.le_trans hB bel.size⟩
  case assign =>
    intro l x W K hK
    simp only [encL]
    gi_wp2
    exact hK
  case body =>
    rintro l pre ⟨X, hX⟩ W ⟨h1, h2, h3, h4, h5⟩ hlen
    have e0 := Go.Joins.cell_of_block h2 0
    have t0 := Go.Joins.cell_of_block h3 0
    simp only [List.getElem?_toArray, List.getElem?_cons_zero] at e0 t0
    obtain ⟨a, ha⟩ : ∃ a, a = X / S := ⟨_, rfl⟩
    obtain ⟨b, hb⟩ : ∃ b, b = X % n := ⟨_, rfl⟩
    obtain ⟨I, hI⟩ : ∃ I, I = ix S n X := ⟨_, rfl⟩
    have hIe : I = a * n + b := by rw [hI, ha, hb]; rfl
    have hXn : X < n * S := by rw [← HNl.out]; exact hX
    have hIq : I < q := by rw [hI, HQ.out]; exact ix_lt HSn.out.2.1 hXn
    have hq6 : q ≤ 6561 := by rw [HQ.out]; exact HNN.out.2
    have hIi : (a : Int) * (n : Int) + (b : Int) = (I : Int) := by rw [hIe]; simp
    have han : (0 : Int) ≤ (a : Int) * (n : Int) ∧ (a : Int) * (n : Int) ≤ 6561 := by
      have e : (a : Int) * (n : Int) = ((a * n : Nat) : Int) := by simp
      rw [e]; omega
    have HW1 : Hid (wrap64 ((a : Int) * (n : Int)) = (a : Int) * (n : Int)) := wrap_id (by omega) (by omega)
    have HW2 : Hid (wrap64 ((a : Int) * (n : Int) + (b : Int)) = (I : Int)) := by simp only [Hid]; rw [hIi]; exact wrap_id (by omega) (by omega)
    have hmem : ∀ i, i ∈ pre.map (·.1) → i < n * S := fun i hi => by
      obtain ⟨⟨y, hy⟩, _, rfl⟩ := List.mem_map.1 hi
      rw [← HNl.out]; exact hy
    have hbd := pt_bd HSn.out.2.1 hmem (by simp; have := HN2.out; omega) I
    obtain ⟨x, hx⟩ : ∃ x, x = (pt S n (pre.map (·.1))).getD I 0 := ⟨_, rfl⟩
    have oc := h1.cell (i := I) (by rw [pt_len, ← HQ.out]; exact hIq)
    rw [← hx] at oc hbd
    have of := h1.free I
    have hIqi : (I : Int) < (q : Int) := by omega
    have H1 := hid h1
    have H2 := hid h2
    have H3 := hid h3
    have H4 := hid h4
    have H5 := hid h5
    have HIx := hid hI
    have HXx := hid hx
    have hw3 : wrap64 (x + 1) = x + 1 := wrap_id (by omega) (by omega)
    have hw1 := HW1.out
    have hw2 := HW2.out
    have haI : (a : Int) = (X : Int) / (S : Int) := by rw [ha]; exact Int.natCast_ediv X S
    have hbI : (b : Int) = (X : Int) % (n : Int) := by rw [hb]; exact Int.natCast_emod X n
    dsimp only
    rw [← haI, ← hbI]
    clear h1 h2 h3 h4 h5 hI hx hmem hIi han hIe ha hb hXn haI hbI hbd hlen hq6 hIq
    gi_wp2
    refine ⟨(KeepsOthers.setCell _ _ _).from _, KpL.set HKB.out _ _ _, ?_, (Below.heap_setCell W ⟨bT, I, none⟩ _ NEo (Nat.ne_of_lt HNs.out.2.1)).trans H2.out, (Below.heap_setCell W ⟨bT, I, none⟩ _ NTo (Nat.ne_of_gt HNs.out.2.2)).trans H3.out, H4.out.setCell (p := ⟨bT, I, none⟩) (by have := HNs.out; simp; omega) _, by have := H5.out; simp [World.setCell]; exact this⟩
    have hset := H1.out.set I (x + 1)
    have e : pt S n ((pre ++ [(⟨X, hX⟩ : Li N)]).map (·.1)) = (pt S n (pre.map (·.1))).set I (x + 1) := by
      rw [List.map_append]
      show pt S n (pre.map (·.1) ++ [X]) = _
      rw [pt_snoc, ← HIx.out, HXx.out]; rfl
    rw [e]; exact hset
  case done =>
    rintro D xs W hD hS2 ⟨h1, h2, h3, h4, h5⟩ hK
    rw [hS2] at h1
    have t0 := Go.Joins.cell_of_block h3 0
    simp only [List.getElem?_toArray, List.getElem?_cons_zero] at t0
    have H1 := hid h1
    have H4 := hid h4
    have HD := hid hD
    have HKk := hid hK
    clear h1 h2 h3 h4 h5 hD hK hS2
    go_wp2
    refine leaves_marks (B := w6.heap.size) [D] W ⟨by simp, by simpa using HKk.out⟩ (by simpa using HD.out) (fun w' hb hc => ?_)
    exact ⟨.tuple #[.slice (some ⟨bT, 0, none⟩) q q, .bool true], by simp [results, Try.f56, go_sem], bT, rfl, own_cells H1.out hc, by have := HNs.out; omega, H4.out.trans (hb.mono HB6.out.size)⟩
  case stop =>
    rintro D c pre W _ _ hh _
    exact hh.elim

theorem implNo {w : World} {s r to : Int} {b : Nat} {v : Value} {tbl : List Int} (h : Rd w b v tbl) (hv : ¬ (validB s r tbl = true ∧ 0 ≤ to ∧ to ≤ s - 1)) :
    Calls Try.prog 56 #[ruleV s r v, .int .i64 to] w fun e w' => e = .returned (.tuple #[.slice none 0 0, .bool false]) ∧ Below w.heap.size w w' := by
  have HH := hid h
  obtain ⟨ao, cap, rfl, _, _, _⟩ := h
  cases hq : validB s r tbl with
  | false =>
    have HV := hid hq
    clear hv hq
    go_enter Try.func56, Try.ntmps56
    go_wp2_with fail
    obtain ⟨w1, hW⟩ : ∃ x, x = w.alloc (Obj.cells #[.int .i64 s, .int .i64 r, (.slice ao tbl.length cap)] 33) := ⟨_, rfl⟩
    have HB1 : Hid (Below w.heap.size w w1) := by simp only [Hid]; rw [hW]; exact below1 _ _
    simp only [← hW]
    clear hW
    go_at_call 73
    refine (Rule.implValid (HH.out.keep HB1.out (Nat.le_refl _))).mono ?_
    rw [HV.out]
    rintro e w2 ⟨rfl, bel⟩
    have HF := hid (HB1.out.trans (bel.mono HB1.out.size))
    clear bel
    go_wp2
    go_ret2
    exact ⟨rfl, HF.out⟩
  | true =>
    have HV := hid hq
    obtain ⟨hs, hr, _, _⟩ := Al.valid_parts hq
    have HT : Hid (decide (0 ≤ to ∧ to ≤ s - 1) = false) := decide_eq_false (fun h => hv ⟨hq, h⟩)
    obtain ⟨s1, s2⟩ := hs
    clear hv hq
    go_enter Try.func56, Try.ntmps56
    go_wp2_with fail
    obtain ⟨w1, hW⟩ : ∃ x, x = w.alloc (Obj.cells #[.int .i64 s, .int .i64 r, (.slice ao tbl.length cap)] 33) := ⟨_, rfl⟩
    obtain ⟨NR, hN⟩ : ∃ x, x = w.heap.size := ⟨_, rfl⟩
    have HB1 : Hid (Below w.heap.size w w1) := by simp only [Hid]; rw [hW]; exact below1 _ _
    have kR : w1.heap[NR]? = some (Obj.cells #[.int .i64 s, .int .i64 r, (.slice ao tbl.length cap)] 33) := by rw [hW]; exact FNew.heap_top hN
    simp only [← hW, ← hN]
    clear hW hN
    go_at_call 73
    refine (Rule.implValid (HH.out.keep HB1.out (Nat.le_refl _))).mono ?_
    rw [HV.out]
    rintro e w2 ⟨rfl, bel⟩
    replace kR := Box.heap_keep bel kR
    have HF := hid (HB1.out.trans (bel.mono HB1.out.size))
    have a0 := Go.Joins.cell_of_block kR 0
    simp only [List.getElem?_toArray, List.getElem?_cons_zero, List.getElem?_cons_succ] at a0
    clear bel kR
    go_wp2_with fail
    go_at_call 119
    refine isCountB.mono ?_
    rw [HT.out]
    rintro e w3 ⟨rfl, rfl⟩
    go_wp2
    go_ret2
    exact ⟨rfl, HF.out⟩

theorem specNo {w : World} {s r to : Int} {b : Nat} {v : Value} {tbl : List Int} (h : Rd w b v tbl) (hv : ¬ (validB s r tbl = true ∧ 0 ≤ to ∧ to ≤ s - 1)) :
    Calls Try.prog 55 #[ruleV s r v, .int .i64 to] w fun e w' => e = .returned (.tuple #[.slice none 0 0, .bool false]) ∧ Below w.heap.size w w' := by
  have HH := hid h
  obtain ⟨ao, cap, rfl, _, _, _⟩ := h
  cases hq : validB s r tbl with
  | false =>
    have HV := hid hq
    clear hv hq
    go_enter Try.func55, Try.ntmps55
    go_wp2_with fail
    obtain ⟨w1, hW⟩ : ∃ x, x = w.alloc (Obj.cells #[.int .i64 s, .int .i64 r, (.slice ao tbl.length cap)] 33) := ⟨_, rfl⟩
    obtain ⟨NR, hN⟩ : ∃ x, x = w.heap.size := ⟨_, rfl⟩
    have HB1 : Hid (Below w.heap.size w w1) := by simp only [Hid]; rw [hW]; exact below1 _ _
    have kR : w1.heap[NR]? = some (Obj.cells #[.int .i64 s, .int .i64 r, (.slice ao tbl.length cap)] 33) := by rw [hW]; exact FNew.heap_top hN
    simp only [← hW, ← hN]
    clear hW hN
    go_at_call 99
    refine (SpO.is (o := 0) (HH.out.keep HB1.out (Nat.le_refl _)) (Go.Joins.cell_of_block kR 0) (Go.Joins.cell_of_block kR 1) (Go.Joins.cell_of_block kR 2)).mono ?_
    rw [HV.out]
    rintro e w2 ⟨rfl, m, hm⟩
    have HF : Hid (Below w.heap.size w w2) := by simp only [Hid]; rw [hm]; exact HB1.out.trans (Spec.below_drewN' _ _ _)
    clear hm kR
    go_wp2
    go_ret2
    exact ⟨rfl, HF.out⟩
  | true =>
    have HV := hid hq
    obtain ⟨hs, hr, _, _⟩ := Al.valid_parts hq
    have HT : Hid (decide (0 ≤ to ∧ to ≤ s - 1) = false) := decide_eq_false (fun h => hv ⟨hq, h⟩)
    obtain ⟨s1, s2⟩ := hs
    clear hv hq
    go_enter Try.func55, Try.ntmps55
    go_wp2_with fail
    obtain ⟨w1, hW⟩ : ∃ x, x = w.alloc (Obj.cells #[.int .i64 s, .int .i64 r, (.slice ao tbl.length cap)] 33) := ⟨_, rfl⟩
    obtain ⟨NR, hN⟩ : ∃ x, x = w.heap.size := ⟨_, rfl⟩
    have HB1 : Hid (Below w.heap.size w w1) := by simp only [Hid]; rw [hW]; exact below1 _ _
    have kR : w1.heap[NR]? = some (Obj.cells #[.int .i64 s, .int .i64 r, (.slice ao tbl.length cap)] 33) := by rw [hW]; exact FNew.heap_top hN
    simp only [← hW, ← hN]
    clear hW hN
    go_at_call 99
    refine (SpO.is (o := 0) (HH.out.keep HB1.out (Nat.le_refl _)) (Go.Joins.cell_of_block kR 0) (Go.Joins.cell_of_block kR 1) (Go.Joins.cell_of_block kR 2)).mono ?_
    rw [HV.out]
    rintro e w2 ⟨rfl, m, hm⟩
    have bel : Below w1.heap.size w1 w2 := by rw [hm]; exact Spec.below_drewN' _ _ _
    replace kR := Box.heap_keep bel kR
    have HF := hid (HB1.out.trans (bel.mono HB1.out.size))
    have a0 := Go.Joins.cell_of_block kR 0
    simp only [List.getElem?_toArray, List.getElem?_cons_zero, List.getElem?_cons_succ] at a0
    clear bel kR hm
    go_wp2_with fail
    go_at_call 113
    refine (Spec.quietIn HT.out).mono ?_
    rintro e w3 ⟨rfl, rfl⟩
    go_wp2
    go_ret2
    exact ⟨rfl, HF.out⟩

set_option maxHeartbeats 8000000 in
theorem specOk {w : World} {S n b : Nat} {r to : Int} {v : Value} {tbl : List Int} (hk : Lk S n r tbl) (hv : validB (S : Int) r tbl = true) (h : Rd w b v tbl) (hto : 0 ≤ to ∧ to ≤ (S : Int) - 1) :
    Calls Try.prog 55 #[ruleV (S : Int) r v, .int .i64 to] w fun e w' => ∃ bT, e = .returned (.tuple #[(.slice (some ⟨bT, 0, none⟩) (n * n) (n * n)), .bool true]) ∧ Rd.Own 2 w' bT (.slice (some ⟨bT, 0, none⟩) (n * n) (n * n)) (pt S n (lkL tbl to tbl.length)) ∧ w.heap.size ≤ bT ∧ Below w.heap.size w w' := by
  have HK := hid hk
  have HV := hid hv
  have HH := hid h
  obtain ⟨hS, hr, hn, hl, hn1⟩ := hk
  obtain ⟨ao, cap, rfl, _, _, _⟩ := h
  have HS : Hid ((2 ≤ (S : Int) ∧ (S : Int) ≤ 3) ∧ (0 ≤ r ∧ r ≤ 2)) := ⟨⟨Int.ofNat_le.2 hS.1, Int.ofNat_le.2 hS.2⟩, hr⟩
  have HSn : Hid ((2 ≤ S ∧ S ≤ 3) ∧ (1 ≤ n ∧ n ≤ 81)) := ⟨hS, hn1⟩
  have HEn := hid hn
  have HNl := hid hl
  have HT : Hid (decide (0 ≤ to ∧ to ≤ (S : Int) - 1) = true) := decide_eq_true hto
  have hnn := nn_bd hn1
  have HNN := hid hnn
  have hmk := run_make_row' (P := Try.prog) 22 2 (.int .i64 0) 8 Try.underlying22 infoI rfl .i64 .i64 (n * n) (by omega) (by omega)
  have hcast : (n : Int) * (n : Int) = ((n * n : Nat) : Int) := by simp
  have hwn : wrap64 ((n : Int) * (n : Int)) = ((n * n : Nat) : Int) := by
    rw [hcast]
    exact wrap_id (x := ((n * n : Nat) : Int)) (by omega) (by omega)
  obtain ⟨q, hq⟩ : ∃ q, q = n * n := ⟨_, rfl⟩
  rw [← hq] at hmk hwn
  rw [← hq]
  have HQ := hid hq
  obtain ⟨sb1, sb2⟩ := HS.out.1
  have HMK := hid hmk
  have HWN := hid hwn
  clear hmk hwn hv hS hr hn hl hn1 hto hcast hq hnn
  go_enter Try.func55, Try.ntmps55
  go_wp2_with fail
  obtain ⟨w1, hW⟩ : ∃ x, x = w.alloc (Obj.cells #[.int .i64 (S : Int), .int .i64 r, (.slice ao tbl.length cap)] 33) := ⟨_, rfl⟩
  obtain ⟨NR, hN⟩ : ∃ x, x = w.heap.size := ⟨_, rfl⟩
  have HB1 : Hid (Below w.heap.size w w1) := by simp only [Hid]; rw [hW]; exact below1 _ _
  have kR : w1.heap[NR]? = some (Obj.cells #[.int .i64 (S : Int), .int .i64 r, (.slice ao tbl.length cap)] 33) := by rw [hW]; exact FNew.heap_top hN
  simp only [← hW, ← hN]
  clear hW hN
  go_at_call 99
  refine (SpO.is (o := 0) (HH.out.keep HB1.out (Nat.le_refl _)) (Go.Joins.cell_of_block kR 0) (Go.Joins.cell_of_block kR 1) (Go.Joins.cell_of_block kR 2)).mono ?_
  rw [HV.out]
  rintro e w2 ⟨rfl, m, hm⟩
  have bel : Below w1.heap.size w1 w2 := by rw [hm]; exact Spec.below_drewN' _ _ _
  replace kR := Box.heap_keep bel kR
  have HB2 := hid (HB1.out.trans (bel.mono HB1.out.size))
  have a0 := Go.Joins.cell_of_block kR 0
  simp only [List.getElem?_toArray, List.getElem?_cons_zero, List.getElem?_cons_succ] at a0
  have KR := hid kR
  clear bel kR hm
  go_wp2_with fail
  go_at_call 113
  refine (Spec.quietIn HT.out).mono ?_
  rintro e w3 ⟨rfl, rfl⟩
  go_wp2_with fail
  go_at_call 124
  refine (ends3 (Go.Joins.cell_of_block KR.out 0) (Go.Joins.cell_of_block KR.out 1) HS.out.1 HS.out.2).mono ?_
  rw [← HEn.out]
  rintro e w4 ⟨rfl, m, hm⟩
  have bel : Below w3.heap.size w3 w4 := by rw [hm]; exact Spec.below_drewN' _ _ _
  have KR4 := hid (Box.heap_keep bel KR.out)
  have HB4 := hid (HB2.out.trans (bel.mono HB2.out.size))
  clear bel hm a0
  have hmk := HMK.out
  have hwn := HWN.out
  go_wp2
  obtain ⟨w5, hW⟩ : ∃ x, x = w4.alloc (Obj.cells (madeCells #[.int .i64 0] q) 2) := ⟨_, rfl⟩
  obtain ⟨bT, hbT⟩ : ∃ x, x = w4.heap.size := ⟨_, rfl⟩
  have oT : Rd.Own 2 w5 bT (.slice (some ⟨bT, 0, none⟩) q q) (List.replicate q 0) := by
    have := Own.made 2 w4 q (by have := HQ.out; have := HNN.out; unfold maxLen; omega)
    rw [hW, hbT]; exact this
  have bel : Below w4.heap.size w4 w5 := by rw [hW]; exact (Below.refl _ _).alloc (Nat.le_refl _) _
  have HNE : Hid (NR ≠ bT) := by have h1 := (Array.getElem?_eq_some_iff.1 KR4.out).1; simp only [Hid]; omega
  have HLO : Hid (w.heap.size ≤ bT) := by simp only [Hid]; rw [hbT]; exact HB4.out.size
  have KR5 := hid (Box.heap_keep bel KR4.out)
  have HB5 := hid (HB4.out.trans (bel.mono HB4.out.size))
  have OT : Hid (Rd.Own 2 w5 bT (.slice (some ⟨bT, 0, none⟩) q q) (pt S n (lkL tbl to 0))) := by simp only [Hid]; rw [HQ.out] at oT ⊢; exact oT
  simp only [← hW, ← hbT]
  clear hW hbT oT bel hmk hwn
  have hn81 : n ≤ 81 := HSn.out.2.2
  go_loopw [8] (fun i wr => ∃ a : Nat, a ≤ n ∧ i = .int .i64 (a : Int) ∧ Below w.heap.size w wr ∧ wr.heap[NR]? = some (Obj.cells #[.int .i64 (S : Int), .int .i64 r, (.slice ao tbl.length cap)] 33) ∧ Rd.Own 2 wr bT (.slice (some ⟨bT, 0, none⟩) q q) (pt S n (lkL tbl to (a * S)))) (fun i _ => n - (intOf i).toNat)
  case atStart => exact ⟨0, Nat.zero_le _, rfl, HB5.out, KR5.out, by rw [Nat.zero_mul]; exact OT.out⟩
  case round =>
    clear HB5 KR5 OT
    obtain ⟨a, ha, rfl, hB, hR, hO⟩ := hrel
    have KB := hid hB
    have KR := hid hR
    have KO := hid hO
    clear hB hR hO
    by_cases hlt : a < n
    · go_wp2
      go_loopw [9] (fun i wr => ∃ x : Nat, x ≤ S ∧ i = .int .i64 (x : Int) ∧ Below w.heap.size w wr ∧ wr.heap[NR]? = some (Obj.cells #[.int .i64 (S : Int), .int .i64 r, (.slice ao tbl.length cap)] 33) ∧ Rd.Own 2 wr bT (.slice (some ⟨bT, 0, none⟩) q q) (pt S n (lkL tbl to (a * S + x)))) (fun i _ => S - (intOf i).toNat)
      case atStart => exact ⟨0, Nat.zero_le _, rfl, KB.out, KR.out, KO.out⟩
      case round =>
        clear KB KR KO
        obtain ⟨x, hx, rfl, hB, hR, hO⟩ := hrel
        have KB := hid hB
        have KR := hid hR
        have KO := hid hO
        have c0 := Go.Joins.cell_of_block hR 0
        simp only [List.getElem?_toArray, List.getElem?_cons_zero, List.getElem?_cons_succ] at c0
        clear hB hR hO
        by_cases hxS : x < S
        · obtain ⟨i, hi⟩ : ∃ i, i = a * S + x := ⟨_, rfl⟩
          obtain ⟨b2, hb2⟩ : ∃ b2, b2 = i % n := ⟨_, rfl⟩
          obtain ⟨y, hy⟩ : ∃ y, y = tbl.getD i 0 := ⟨_, rfl⟩
          obtain ⟨I, hI⟩ : ∃ I, I = ix S n i := ⟨_, rfl⟩
          have hin : i < n * S := by
            have h3 : (a + 1) * S ≤ n * S := Nat.mul_le_mul_right _ hlt
            rw [Nat.add_mul] at h3; omega
          have hdiv : i / S = a := by rw [hi, Nat.add_comm, Nat.add_mul_div_right _ _ (by have := HSn.out.1.1; omega), Nat.div_eq_of_lt hxS, Nat.zero_add]
          have hIe : I = a * n + b2 := by rw [hI, hb2]; unfold ix; rw [hdiv]
          have hIq : I < q := by rw [hI, HQ.out]; exact ix_lt HSn.out.2.1 hin
          have hq6 : q ≤ 6561 := by rw [HQ.out]; exact HNN.out.2
          have hIi : (a : Int) * (n : Int) + (b2 : Int) = (I : Int) := by rw [hIe]; simp
          have han : (0 : Int) ≤ (a : Int) * (n : Int) ∧ (a : Int) * (n : Int) ≤ 6561 := by
            have e : (a : Int) * (n : Int) = ((a * n : Nat) : Int) := by simp
            rw [e]; omega
          have HW1 : Hid (wrap64 ((a : Int) * (n : Int)) = (a : Int) * (n : Int)) := wrap_id (by omega) (by omega)
          have HW2 : Hid (wrap64 ((a : Int) * (n : Int) + (b2 : Int)) = (I : Int)) := by simp only [Hid]; rw [hIi]; exact wrap_id (by omega) (by omega)
          have hN243 : n * S ≤ 243 := Nat.le_trans (Nat.mul_le_mul HSn.out.2.2 HSn.out.1.2) (by decide)
          have hbd := pt_bd (S := S) HSn.out.2.1 (xs := lkL tbl to i) (fun j hj => Nat.lt_trans (lk_mem hj) hin) (by have := lk_len tbl to i; omega) I
          obtain ⟨z, hz⟩ : ∃ z, z = (pt S n (lkL tbl to i)).getD I 0 := ⟨_, rfl⟩
          rw [← hz] at hbd
          have HW3 : Hid (wrap64 (z + 1) = z + 1) := wrap_id (by omega) (by omega)
          have hIqi : (I : Int) < (q : Int) := by omega
          have HKO : Hid (Rd.Own 2 wr bT (.slice (some ⟨bT, 0, none⟩) q q) (pt S n (lkL tbl to i))) := by simp only [Hid]; rw [hi]; exact KO.out
          have hsucc : a * S + (x + 1) = i + 1 := by omega
          have HSU := hid hsucc
          have HZ := hid hz
          have HI2 := hid hI
          have HY := hid hy
          have HIL : Hid (I < (pt S n (lkL tbl to i)).length) := by simp only [Hid]; rw [pt_len, ← HQ.out]; exact hIq
          have hPairs : Calls Try.prog 125 #[.pointer (some ⟨NR, 0, none⟩), .int .i64 (a : Int), .int .i64 (x : Int)] wr fun e w' => e = .returned (.tuple #[.int .i64 (b2 : Int), .int .i64 y]) ∧ ∃ m, w' = wr.drewN m := by
            rw [hb2, hy, hi]
            exact pairs3 HK.out (HH.out.keep KB.out (Nat.le_refl _)) (Go.Joins.cell_of_block KR.out 0) (Go.Joins.cell_of_block KR.out 1) (Go.Joins.cell_of_block KR.out 2) hlt hxS
          have HPr := hid hPairs
          have HX1 : Hid (a < n ∧ x < S) := ⟨hlt, hxS⟩
          clear hPairs hi hb2 hy hI hin hdiv hIe hIq hq6 hIi han hN243 hbd hz hsucc KO
          go_wp2_with fail
          go_at_call 125
          refine HPr.out.mono ?_
          rintro e w6 ⟨rfl, m, hm⟩
          have bel : Below wr.heap.size wr w6 := by rw [hm]; exact Spec.below_drewN' _ _ _
          have KR6 := hid (Box.heap_keep bel KR.out)
          have KO6 := hid (HKO.out.keep bel)
          have KB6 := hid (KB.out.trans (bel.mono KB.out.size))
          clear hm bel c0
          by_cases hyt : y = to
          · subst hyt
            have y1 := KO6.out.cell (i := I) HIL.out
            rw [← HZ.out] at y1
            have y2 := KO6.out.free I
            have hw1 := HW1.out
            have hw2 := HW2.out
            have hw3 := HW3.out
            go_wp2
            have oS := KO6.out.set I (z + 1)
            have bS := KB6.out.setCell (p := ⟨bT, I, none⟩) HLO.out (.int .i64 (z + 1))
            have rS := (Below.heap_setCell w6 ⟨bT, I, none⟩ (.int .i64 (z + 1)) NR HNE.out).trans KR6.out
            have HO : Hid (Rd.Own 2 (w6.setCell ⟨bT, I, none⟩ (.int .i64 (z + 1))) bT (.slice (some ⟨bT, 0, none⟩) q q) (pt S n (lkL tbl y (a * S + (x + 1))))) := by
              simp only [Hid]
              rw [HSU.out, lk_yes HY.out.symm, pt_snoc, ← HI2.out]
              unfold updL
              rw [← HZ.out]; exact oS
            clear y1 y2 hw1 hw2 hw3
            go_roundw
            case rel => exact ⟨x + 1, HX1.out.2, by go_num, bS, rS, HO.out⟩
            case measure => have := HX1.out.2; simp [intOf]; omega
          · have hne : (y == to) = false := by simpa using hyt
            have HO : Hid (Rd.Own 2 w6 bT (.slice (some ⟨bT, 0, none⟩) q q) (pt S n (lkL tbl to (a * S + (x + 1))))) := by
              simp only [Hid]
              rw [HSU.out, lk_no (by rw [← HY.out]; exact hyt)]; exact KO6.out
            clear hyt
            go_wp2
            go_roundw
            case rel => exact ⟨x + 1, HX1.out.2, by go_num, KB6.out, KR6.out, HO.out⟩
            case measure => have := HX1.out.2; simp [intOf]; omega
        · have hxe : x = S := by omega
          subst hxe
          go_wp2
          go_roundw
          case rel => exact ⟨a + 1, by omega, by go_num, KB.out, KR.out, by rw [Nat.add_mul, Nat.one_mul]; exact KO.out⟩
          case measure => simp [intOf]; omega
    · have han : a = n := by omega
      subst han
      have hend : a * S = tbl.length := HNl.out.symm
      have HF : Hid (Rd.Own 2 wr bT (.slice (some ⟨bT, 0, none⟩) q q) (pt S a (lkL tbl to tbl.length))) := by simp only [Hid]; rw [← hend]; exact KO.out
      clear hend KO
      go_wp2
      go_ret2
      exact ⟨bT, rfl, HF.out, HLO.out, KB.out⟩

end Go.Proofs.Ytonghkooncmjgaa.Ptb
