/- How many words lead to a word: impl.WordsBack. -/
import Derived.Test.YtjeoccjemkdbiaaBkw
import Derived.Test.YtjeoccjemkdbiaaRep
namespace Go.Proofs.Ytjeoccjemkdbiaa.Wbi
open Go.RowKit Go.Shelf Go.Proofs.Ytjeoccjemkdbiaa.Rd Go.Proofs.Ytjeoccjemkdbiaa.Help Go.Proofs.Ytjeoccjemkdbiaa.Ring Go.Proofs.Ytjeoccjemkdbiaa.Small Go.Proofs.Ytjeoccjemkdbiaa.Num Go.Proofs.Ytjeoccjemkdbiaa.Keep Go.Proofs.Ytjeoccjemkdbiaa.Rule Go.Proofs.Ytjeoccjemkdbiaa.Lnk Go.Proofs.Ytjeoccjemkdbiaa.LnkP Go.Proofs.Ytjeoccjemkdbiaa.LnkI Go.Proofs.Ytjeoccjemkdbiaa.Box Go.Proofs.Ytjeoccjemkdbiaa.Bkw Go.Proofs.Ytjeoccjemkdbiaa.FVal
set_option linter.unusedVariables false
set_option linter.unusedSimpArgs false
attribute [local go_sem] Oper.semAt_some

/-- A word of states. -/
def wordB (zs : List Int) (st : Int) : Bool := decide (1 ≤ zs.length ∧ zs.length ≤ 12) && allB zs st
set_option maxHeartbeats 1000000 in
theorem isWord {w : World} {b : Nat} {v : Value} {zs : List Int} {st : Int} (h : Rd w b v zs) (hst : -1000 ≤ st ∧ st ≤ 1000000) :
    Calls Try.prog 31 #[v, .int .i64 st] w fun e w' => e = .returned (.bool (wordB zs st)) ∧ Below w.heap.size w w' := by
  have HH := hid h
  have HS := hid hst
  obtain ⟨ao, cap, rfl, hc, hm, _⟩ := h
  obtain ⟨n, hn⟩ : ∃ n, n = zs.length := ⟨_, rfl⟩
  rw [← hn] at hc HH ⊢
  have hsz : n ≤ 9223372036854775807 := by unfold maxLen at hm; omega
  have Hn := hid hn
  clear hn hc hm hst
  by_cases hq : 1 ≤ n ∧ n ≤ 12
  · have HF : Hid (decide ((1 : Int) ≤ (n : Int) ∧ (n : Int) ≤ 12) = true) := decide_eq_true (by omega)
    have e : wordB zs st = allB zs st := by unfold wordB; rw [← Hn.out, decide_eq_true hq, Bool.true_and]
    rw [e]
    clear e hq
    go_enter Try.func31, Try.ntmps31
    go_wp2_with (first | (go_at_call 34; refine isFromB.mono ?_; rw [HF.out]; rintro e w' ⟨rfl, rfl⟩) | (go_at_call 59; refine (areStates HH.out HS.out).mono ?_; rintro e w' ⟨rfl, hbel⟩))
    go_ret
    exact ⟨rfl, hbel⟩
  · have HF : Hid (decide ((1 : Int) ≤ (n : Int) ∧ (n : Int) ≤ 12) = false) := decide_eq_false (by omega)
    have e : wordB zs st = false := by unfold wordB; rw [← Hn.out, decide_eq_false hq, Bool.false_and]
    rw [e]
    clear e hq
    go_enter Try.func31, Try.ntmps31
    go_wp2_with (first | (go_at_call 34; refine isFromB.mono ?_; rw [HF.out]; rintro e w' ⟨rfl, rfl⟩))
    go_ret
    exact ⟨rfl, Below.refl _ _⟩

/-- What is before some letters, one after another. -/
def bkf (T : List Int) (S n : Nat) (zs : List Int) (a : List Int) (pre : List Nat) : List Int := pre.foldl (fun a x => bwdA T S n (zs.getD x 0) a) a
theorem bkf_snoc (T : List Int) (S n : Nat) (zs a : List Int) (pre : List Nat) (x : Nat) : bkf T S n zs a (pre ++ [x]) = bwdA T S n (zs.getD x 0) (bkf T S n zs a pre) := by simp [bkf]
theorem bkf_len (T : List Int) (S n : Nat) (zs : List Int) : ∀ (pre : List Nat) (a : List Int), a.length = n → (bkf T S n zs a pre).length = n
  | [], _, h => h
  | x :: pre, a, h => bkf_len T S n zs pre _ (bwd_len T S n _ _ _)
theorem bkf_sm (T : List Int) (S n : Nat) (zs : List Int) (hn : 0 < n) : ∀ (pre : List Nat) (a : List Int) (M : Int), a.length = n → Sm M a → Sm ((S : Int) ^ pre.length * M) (bkf T S n zs a pre)
  | [], a, M, _, hm => by simpa [bkf] using hm
  | x :: pre, a, M, h, hm => by
    have := bkf_sm T S n zs hn pre (bwdA T S n (zs.getD x 0) a) (S * M) (bwd_len T S n _ _ _) (bwd_sm T S n hn h hm)
    rw [List.length_cons, Int.pow_succ, Int.mul_assoc]
    exact this
theorem bkf_bk (T : List Int) (S n : Nat) (zs a : List Int) : ∀ k, k ≤ zs.length → bkf T S n zs a (bkL zs.length k) = bwds T S n (zs.drop (zs.length - k)) a
  | 0, _ => by simp [bkf, bkL, bwds]
  | k + 1, h => by
    rw [bk_succ, bkf_snoc, bkf_bk T S n zs a k (by omega)]
    have e : zs.drop (zs.length - (k + 1)) = zs.getD (zs.length - 1 - k) 0 :: zs.drop (zs.length - k) := by
      have h1 : zs.length - (k + 1) < zs.length := by omega
      rw [List.drop_eq_getElem_cons h1, show zs.length - (k + 1) + 1 = zs.length - k by omega, show zs.length - 1 - k = zs.length - (k + 1) by omega, List.getD_eq_getElem?_getD, List.getElem?_eq_getElem h1]; rfl
    rw [e]; rfl
theorem pow_bd {S j : Nat} {M : Int} (hS : S ≤ 3) (hj : j ≤ 16) (hM : 0 ≤ M ∧ M ≤ 81) : (S : Int) ^ j * M ≤ 3486784401 := by
  have h1 : S ^ j ≤ 3 ^ 16 := Nat.le_trans (Nat.pow_le_pow_left hS j) (Nat.pow_le_pow_right (by decide) hj)
  have h2 : (S : Int) ^ j = ((S ^ j : Nat) : Int) := by simp
  rw [h2]
  have h5 : (3 : Nat) ^ 16 = 43046721 := by decide
  have h3 : ((S ^ j : Nat) : Int) ≤ 43046721 := by omega
  have h4 : ((S ^ j : Nat) : Int) * M ≤ 43046721 * M := Int.mul_le_mul_of_nonneg_right h3 hM.1
  omega
theorem Sm.le {M M' : Int} {l : List Int} (h : Sm M l) (hm : M ≤ M') : Sm M' l := ⟨h.1, Int.le_trans h.2 hm⟩
theorem one_sm {n : Nat} : Sm (n : Int) (List.replicate n 1) := by
  refine ⟨fun i => by simp only [List.getD_eq_getElem?_getD, List.getElem?_replicate]; split <;> simp, ?_⟩
  induction n with
  | zero => simp
  | succ n ih => rw [List.replicate_succ, List.sum_cons]; omega
theorem ownFrom_cells {β : Type} {B : Nat} {I : β → World → Prop} (h : ∀ s W W', I s W → B ≤ W.heap.size → Below B W W' → (∀ (k : Nat) (o : Obj), W.heap[k]? = some o → o.isCells = true → W'.heap[k]? = some o) → I s W') (hs : ∀ s W, I s W → B ≤ W.heap.size) : OwnFrom B I :=
  fun s W W' row hi hg hr => h s W W' hi (hs s W hi) ((Below.refl B W).grown hg (hs s W hi) (fun k e => (hr k e).1)) (fun k o hk ho => by
    by_cases e : row = some k
    · obtain ⟨_, o', h1, h2⟩ := hr k e
      rw [hk] at h1; cases h1; rw [ho] at h2; cases h2
    · exact (hg.block k (Box.heap_lt hk) (fun e2 => e e2.symm)).trans hk)
theorem keeps_bel {W W' : World} (h : Below W.heap.size W W') : KeepsOthers W W' := ⟨h.size, fun k o hk _ => (h.block k (Box.heap_lt hk)).trans hk⟩
theorem kp_bel {NR NS NE bt : Nat} {W W' : World} (h : Below W.heap.size W W') (h1 : NR < W.heap.size ∧ NS < W.heap.size ∧ NE < W.heap.size ∧ bt < W.heap.size) : KpL NR NS NE bt W W' :=
  ⟨h.size, fun k hk => h.block k (by rcases hk with rfl | rfl | rfl | rfl <;> omega)⟩
theorem lk_n {S n : Nat} {r : Int} {tbl : List Int} (h : Lk S n r tbl) : n = 1 ∨ n = 4 ∨ n = 9 ∨ n = 16 ∨ n = 81 := by
  obtain ⟨hS, hr, hn, _, _⟩ := h
  have hS' : (S : Int) = 2 ∨ (S : Int) = 3 := by omega
  have hr' : r = 0 ∨ r = 1 ∨ r = 2 := by omega
  rcases hS' with e | e <;> rcases hr' with rfl | rfl | rfl <;> rw [e] at hn <;> simp at hn <;> omega

theorem own_set {E : TypeId} {w : World} {b n cap : Nat} {zs : List Int} (h : Rd.Own E w b (.slice (some ⟨b, 0, none⟩) n cap) zs) (a : Addr) (v : Value) (hne : b ≠ a.block) : Rd.Own E (w.setCell a v) b (.slice (some ⟨b, 0, none⟩) n cap) zs := by
  obtain ⟨⟨h1, h2⟩, h3⟩ := h
  refine ⟨⟨h1, ?_⟩, h3⟩
  rcases h2 with h2 | ⟨g, cp, cur, h2, hb, hg, r⟩
  · exact .inl h2
  · have e : b = g := by simp at h2; exact h2.1
    exact .inr ⟨g, cp, cur, h2, hb, (Below.heap_setCell w a v g (by rw [← e]; exact hne)).trans hg, r⟩

set_option maxHeartbeats 8000000 in
set_option maxRecDepth 100000 in
theorem implOk {w : World} {S n bt bw : Nat} {r : Int} {vt vw : Value} {tbl zs : List Int} (hk : Lk S n r tbl) (hv : validB (S : Int) r tbl = true) (h : Rd w bt vt tbl) (hw : Rd w bw vw zs) (hz : wordB zs (S : Int) = true) :
    Calls Try.prog 16 #[ruleV (S : Int) r vt, vw] w fun e w' => e = .returned (.tuple #[.int .i64 (bwds tbl S n zs (List.replicate n 1)).sum, .bool true]) ∧ Below w.heap.size w w' := by
  have HK := hid hk
  have HV := hid hv
  have HH := hid h
  have HW := hid hw
  have HZ := hid hz
  have HN5 := hid (lk_n hk)
  obtain ⟨hS, hr, hn, hl, hn1⟩ := hk
  obtain ⟨ao, cap, rfl, hc, hm, h4⟩ := h
  obtain ⟨off, rfl, hb, hcell⟩ := h4 (by rw [hl]; exact Nat.mul_pos hn1.1 (by omega))
  obtain ⟨ao, cw, rfl, hcw, hmw, hw4⟩ := hw
  have hL : 1 ≤ zs.length ∧ zs.length ≤ 12 := by unfold wordB at hz; rw [Bool.and_eq_true] at hz; exact of_decide_eq_true hz.1
  obtain ⟨ow, rfl, hbw, hwcell⟩ := hw4 (by omega)
  obtain ⟨N, hN⟩ : ∃ N, N = tbl.length := ⟨_, rfl⟩
  obtain ⟨L, hLe⟩ : ∃ L, L = zs.length := ⟨_, rfl⟩
  rw [← hN] at HH hc hl ⊢
  rw [← hLe] at HW hcw hwcell hL ⊢
  have HL : Hid (1 ≤ L ∧ L ≤ 12 ∧ L = zs.length) := ⟨hL.1, hL.2, hLe⟩
  have HCW : Hid (bw < w.heap.size ∧ ∀ i, i < L → w.cell? ⟨bw, ow + i, none⟩ = some (.int .i64 (zs.getD i 0))) := ⟨hbw, hwcell⟩
  have HBT : Hid (bt < w.heap.size) := hb
  have HS : Hid ((2 ≤ (S : Int) ∧ (S : Int) ≤ 3) ∧ (0 ≤ r ∧ r ≤ 2)) := ⟨⟨Int.ofNat_le.2 hS.1, Int.ofNat_le.2 hS.2⟩, hr⟩
  have HSn : Hid ((2 ≤ S ∧ S ≤ 3) ∧ (1 ≤ n ∧ n ≤ 81)) := ⟨hS, hn1⟩
  have HEn := hid hn
  clear hv hz hS hr hn hl hn1 hc hm h4 hb hcell hcw hmw hw4 hL hbw hwcell hN hLe
  obtain ⟨q, hq⟩ : ∃ q, q = (bwds tbl S n zs (List.replicate n 1)).sum := ⟨_, rfl⟩
  have HQ := hid hq
  rw [← hq]
  clear hq
  refine (callsIn_wide (n := 19)).1 ?_
  refine callsIn_of_wp_marks Try.func16 rfl trivial ?_ rfl
  refine wpIn_wide.2 ?_
  simp only [Try.ntmps16, List.size_toArray, List.length_cons, List.length_nil, Nat.reduceAdd, Nat.reduceSub, Array.replicate_succ, Array.replicate_zero, List.push_toArray, List.append_toArray, List.nil_append, List.cons_append]
  go_wp2_with fail
  obtain ⟨w1, hW⟩ : ∃ x, x = w.alloc (Obj.cells #[.int .i64 (S : Int), .int .i64 r, (.slice (some ⟨bt, off, none⟩) N cap)] 28) := ⟨_, rfl⟩
  obtain ⟨NRo, hR⟩ : ∃ x, x = w.heap.size := ⟨_, rfl⟩
  have HB1 : Hid (Below w.heap.size w w1) := by simp only [Hid]; rw [hW]; exact below1 _ _
  have kR : w1.heap[NRo]? = some (Obj.cells #[.int .i64 (S : Int), .int .i64 r, (.slice (some ⟨bt, off, none⟩) N cap)] 28) := by rw [hW]; exact FNew.heap_top hR
  have HNRo : Hid (w.heap.size ≤ NRo) := by simp only [Hid]; omega
  simp only [← hW, ← hR]
  clear hW hR
  go_at_call 30
  refine (Rule.implValid (HH.out.keep HB1.out (Nat.le_refl _))).mono ?_
  rw [HV.out]
  rintro e w2 ⟨rfl, bel⟩
  replace kR := Box.heap_keep bel kR
  have HB2 := hid (HB1.out.trans (bel.mono HB1.out.size))
  have a0 := Go.Joins.cell_of_block kR 0
  simp only [List.getElem?_toArray, List.getElem?_cons_zero, List.getElem?_cons_succ] at a0
  have KR := hid kR
  clear bel kR
  go_wp2_with fail
  go_at_call 31
  refine (isWord (HW.out.keep HB2.out (Nat.le_refl _)) (by have := HS.out; omega)).mono ?_
  rw [HZ.out]
  rintro e w3 ⟨rfl, bel⟩
  have KR3 := hid (Box.heap_keep bel KR.out)
  have HB3 := hid (HB2.out.trans (bel.mono HB2.out.size))
  clear bel a0
  have b0 : ∀ o, (w3.alloc o).cell? ⟨NRo, 0, none⟩ = some (.int .i64 (S : Int)) := fun o => cell_keep (below1 _ _) (Go.Joins.cell_of_block KR3.out 0)
  have b1 : ∀ o, (w3.alloc o).cell? ⟨NRo, 1, none⟩ = some (.int .i64 r) := fun o => cell_keep (below1 _ _) (Go.Joins.cell_of_block KR3.out 1)
  have b2 : ∀ o, (w3.alloc o).cell? ⟨NRo, 2, none⟩ = some (.slice (some ⟨bt, off, none⟩) N cap) := fun o => cell_keep (below1 _ _) (Go.Joins.cell_of_block KR3.out 2)
  go_wp2_with fail
  obtain ⟨w4, hW⟩ : ∃ x, x = w3.alloc (Obj.cells #[.int .i64 1] 2) := ⟨_, rfl⟩
  obtain ⟨b1s, hb1⟩ : ∃ x, x = w3.heap.size := ⟨_, rfl⟩
  have bel : Below w3.heap.size w3 w4 := by rw [hW]; exact below1 _ _
  have k1 : w4.heap[b1s]? = some (Obj.cells #[.int .i64 1] 2) := by rw [hW]; exact FNew.heap_top hb1
  have R1 : Hid (Rd w4 b1s (.slice (some ⟨b1s, 0, none⟩) 1 1) [1]) := ⟨_, 1, rfl, by simp, by unfold maxLen; decide, fun _ => ⟨0, rfl, Box.heap_lt k1, fun i hi => by
    have : i = 0 := by simp at hi; omega
    subst this
    have := Go.Joins.cell_of_block k1 0
    simpa using this⟩⟩
  have KR4 := hid (Box.heap_keep bel KR3.out)
  have HB4 := hid (HB3.out.trans (bel.mono HB3.out.size))
  simp only [← hW, ← hb1]
  clear hW hb1 bel k1 b0 b1 b2
  go_at_call 32
  refine shapeOf.mono ?_
  rintro e w5 ⟨rfl, bel⟩
  have KR5 := hid (Box.heap_keep bel KR4.out)
  have HB5 := hid (HB4.out.trans (bel.mono HB4.out.size))
  have R5 := hid (R1.out.keep bel (Nat.le_refl _))
  clear bel
  go_wp2_with fail
  go_at_call 42
  refine (ends HS.out.1 HS.out.2).mono ?_
  rw [← HEn.out]
  rintro e w6 ⟨rfl, bel⟩
  have KR6 := hid (Box.heap_keep bel KR5.out)
  have HB6 := hid (HB5.out.trans (bel.mono HB5.out.size))
  have R6 := hid (R5.out.keep bel (Nat.le_refl _))
  clear bel
  go_wp2_with fail
  go_at_call 41
  refine (Rep.repeat1 R6.out HN5.out).mono ?_
  rintro e w7 ⟨bO, rfl, oO, hlo, bel⟩
  have KR7 := hid (Box.heap_keep bel KR6.out)
  have HB7 := hid (HB6.out.trans (bel.mono HB6.out.size))
  have O7 := hid oO
  clear bel oO hlo
  go_wp2_with fail
  obtain ⟨w8, hW⟩ : ∃ x, x = w7.alloc (Obj.cells #[(.slice (some ⟨bO, 0, none⟩) n n)] 22) := ⟨_, rfl⟩
  obtain ⟨NWo, hE⟩ : ∃ x, x = w7.heap.size := ⟨_, rfl⟩
  have bel : Below w7.heap.size w7 w8 := by rw [hW]; exact below1 _ _
  have KW8 : Hid (w8.heap[NWo]? = some (Obj.cells #[(.slice (some ⟨bO, 0, none⟩) n n)] 22)) := by simp only [Hid]; rw [hW]; exact FNew.heap_top hE
  have KR8 := hid (Box.heap_keep bel KR7.out)
  have HB8 := hid (HB7.out.trans (bel.mono HB7.out.size))
  have O8 := hid (O7.out.keep bel)
  have HNW : Hid (w.heap.size ≤ NWo ∧ NRo ≠ NWo) := by
    have h1 := HB7.out.size
    have h2 := Box.heap_lt KR7.out
    simp only [Hid]; omega
  simp only [← hW, ← hE]
  clear hW hE bel
  go_at_call 43
  refine (backward (zs := zs) (Nat.lt_of_lt_of_le HCW.out.1 HB8.out.size) (fun i hi => (HB8.out.cell (p := ⟨bw, ow + i, none⟩) HCW.out.1).trans (HCW.out.2 i hi))).mono ?_
  rintro e w9 ⟨NS, rfl, hcap, hlo, bel⟩
  have HCP := hid hcap
  have KW9 := hid (Box.heap_keep bel KW8.out)
  have KR9 := hid (Box.heap_keep bel KR8.out)
  have HB9 := hid (HB8.out.trans (bel.mono HB8.out.size))
  have O9 := hid (O8.out.keep bel)
  have HNS : Hid (NS ≠ NWo ∧ bw ≠ NWo ∧ NS < w9.heap.size ∧ bw < w9.heap.size) := by
    have h1 := Box.heap_lt KW8.out
    have h2 := HCW.out.1
    have h3 := HNW.out.1
    have h4 := Box.heap_lt hcap.1
    have h5 := HB9.out.size
    simp only [Hid]; omega
  clear bel hlo hcap
  go_wp2
  refine (wpIn_wide (n := 19)).1 ?_
  refine wpIn_rangeFunc_ownG (w := w9) rfl (by omega) (gf := 67) (lb := #[.pointer (some ⟨NS, 0, none⟩)]) rfl trivial (enters_of Try.func67 (by kernel_rfl) rfl)
    (stopsB (by have := HL.out; omega) HCP.out) (fun h k => KpL.t h k) (KpL.b HNS.out.2.2.1 HNS.out.2.2.1 HNS.out.2.2.1 HNS.out.2.2.2) (Below.refl _ _) (fun _ => rfl)
    (fun pre W => ∃ bV, W.heap[NWo]? = some (Obj.cells #[(.slice (some ⟨bV, 0, none⟩) n n)] 22) ∧ Rd.Own 2 W bV (.slice (some ⟨bV, 0, none⟩) n n) (bkf tbl S n zs (List.replicate n 1) (pre.map (·.1))) ∧ W.heap[NRo]? = some (Obj.cells #[.int .i64 (S : Int), .int .i64 r, (.slice (some ⟨bt, off, none⟩) N cap)] 28) ∧ Below w.heap.size w W ∧ w9.heap.size ≤ W.heap.size)
    (fun _ _ _ => False) ?own (fun _ _ _ _ _ hs _ _ => hs) ⟨bO, KW9.out, O9.out, KR9.out, HB9.out, Nat.le_refl _⟩ ?a1 ?assign ?body ?done ?stop
  case own =>
    refine ownFrom_cells ?_ (fun s W hs => by obtain ⟨bV, h1, h2, h3, h4, h5⟩ := hs; exact h5)
    rintro pre W W' ⟨bV, h1, h2, h3, h4, h5⟩ hB bel hc
    exact ⟨bV, hc _ _ h1 rfl, own_cells h2 hc, hc _ _ h3 rfl, h4.trans (bel.mono HB9.out.size), Nat.le_trans hB bel.size⟩
  case assign =>
    intro l x W K hK
    simp only [encB]
    gi_wp2
    exact hK
  case body =>
    rintro l pre ⟨X, hX⟩ W ⟨bV, h1, h2, h3, h4, h5⟩ hlen
    have c0 := Go.Joins.cell_of_block h1 0
    have r0 := Go.Joins.cell_of_block h3 0
    have r1 := Go.Joins.cell_of_block h3 1
    have r2 := Go.Joins.cell_of_block h3 2
    simp only [List.getElem?_toArray, List.getElem?_cons_zero, List.getElem?_cons_succ] at c0 r0 r1 r2
    have HX : Hid ((pre.map (·.1)).length ≤ 12) := by simp only [Hid]; simp; have := HL.out; omega
    have H1 := hid h1
    have H2 := hid h2
    have H3 := hid h3
    have H4 := hid h4
    have H5 := hid h5
    obtain ⟨y, hy⟩ : ∃ y, y = zs.getD X 0 := ⟨_, rfl⟩
    have HY := hid hy
    have hy2 : zs[X]?.getD 0 = y := by rw [hy, List.getD_eq_getElem?_getD]
    dsimp only
    (try rw [hy2])
    have hcall := Wbf.waysBefore (to := y) HK.out (HH.out.keep h4 (Nat.le_refl _)) h2.rd (bkf_len tbl S n zs _ _ (by simp)) (Sm.le (bkf_sm tbl S n zs (by have := HSn.out; omega) (pre.map (·.1)) _ _ (by simp) one_sm) (pow_bd HSn.out.1.2 (by have := HX.out; omega) (by have := HSn.out; omega))).bd
    have HCL := hid hcall
    clear h1 h2 h3 h4 h5 hlen hy hy2 hcall
    gi_wp2_with fail
    refine ⟨trivial, (CallsIn.inRound l (callsIn_wide.2 HCL.out)).mono ?_⟩
    rintro e W2 ⟨bT, rfl, oT, hlo, bel⟩
    have HOT := hid oT
    have HBE := hid bel
    have kW := Box.heap_keep bel H1.out
    have kR := Box.heap_keep bel H3.out
    have t0 := Go.Joins.cell_of_block kW 0
    have t1 := Go.Joins.unfrozen_of_block kW 0
    simp only [List.getElem?_toArray, List.getElem?_cons_zero] at t0
    have HKW := hid kW
    have HKR := hid kR
    have HLT := hid (And.intro hlo (Box.heap_lt kW))
    clear bel oT hlo kW kR c0 r0 r1 r2
    gi_wp2
    have hne : bT ≠ NWo := by have h1 := HLT.out.1; have h2 := Box.heap_lt H1.out; omega
    refine ⟨((keeps_bel HBE.out).trans (KeepsOthers.setCell _ _ _)).from _, (kp_bel HBE.out (by have := HNS.out; have := H5.out; omega)).t (KpL.set ⟨HNS.out.1, HNS.out.1, HNS.out.1, HNS.out.2.1⟩ _ _ _), bT, ?_, ?_, (Below.heap_setCell W2 ⟨NWo, 0, none⟩ _ NRo HNW.out.2).trans HKR.out, (H4.out.trans (HBE.out.mono H4.out.size)).setCell (p := ⟨NWo, 0, none⟩) HNW.out.1 _, by have h1 := H5.out; have h2 := HBE.out.size; simp [World.setCell]; omega⟩
    · exact one_setCell HKW.out
    · have e : bkf tbl S n zs (List.replicate n 1) ((pre ++ [(⟨X, hX⟩ : Li L)]).map (·.1)) = bwdA tbl S n y (bkf tbl S n zs (List.replicate n 1) (pre.map (·.1))) := by
        rw [List.map_append]
        show bkf tbl S n zs (List.replicate n 1) (pre.map (·.1) ++ [X]) = _
        rw [bkf_snoc, HY.out]
      rw [e]
      exact own_set HOT.out _ _ hne
  case done =>
    rintro D xs W hD hS2 ⟨bV, h1, h2, h3, h4, h5⟩ hK
    have hbk := bkf_bk tbl S n zs (List.replicate n 1) L (by have := HL.out; omega)
    rw [hS2] at h2
    have hsm := bkf_sm tbl S n zs (by have := HSn.out; omega) (bkL L L) (List.replicate n 1) n (by simp) one_sm
    have e : bkf tbl S n zs (List.replicate n 1) (bkL L L) = bwds tbl S n zs (List.replicate n 1) := by
      have h5 := hbk
      rw [← HL.out.2.2, Nat.sub_self, List.drop_zero] at h5
      exact h5
    have hle := pow_bd (S := S) (j := (bkL L L).length) (M := n) HSn.out.1.2 (by simp [bkL]; have := HL.out; omega) (by have := HSn.out; omega)
    rw [e] at h2 hsm
    have t0 := Go.Joins.cell_of_block h1 0
    simp only [List.getElem?_toArray, List.getElem?_cons_zero] at t0
    have H2 := hid h2
    have H4 := hid h4
    have HD := hid hD
    have HKk := hid hK
    have HSM : Hid ((∀ i, 0 ≤ (bwds tbl S n zs (List.replicate n 1)).getD i 0) ∧ (bwds tbl S n zs (List.replicate n 1)).sum ≤ 1000000000000) := ⟨hsm.1, by have := hsm.2; omega⟩
    clear h1 h2 h3 h4 h5 hD hK hS2 hbk hsm hle e
    go_wp2_with fail
    go_at_call 45
    refine (sumNN H2.out.rd HSM.out.1 HSM.out.2).mono ?_
    rw [← HQ.out]
    rintro e w' ⟨rfl, rfl⟩
    go_wp2
    refine leaves_marks (B := w9.heap.size) [D] W ⟨by simp, by simpa using HKk.out⟩ (by simpa using HD.out) (fun w' hb hc => ?_)
    exact ⟨.tuple #[.int .i64 q, .bool true], by simp [results, Try.f16, go_sem], rfl, H4.out.trans (hb.mono HB9.out.size)⟩
  case stop =>
    rintro D c pre W _ _ hh _
    exact hh.elim

theorem implNo {w : World} {s r : Int} {b bw : Nat} {v vw : Value} {tbl zs : List Int} (h : Rd w b v tbl) (hw : Rd w bw vw zs) (hv : ¬ (validB s r tbl = true ∧ wordB zs s = true)) :
    Calls Try.prog 16 #[ruleV s r v, vw] w fun e w' => e = .returned (.tuple #[.int .i64 0, .bool false]) ∧ Below w.heap.size w w' := by
  have HH := hid h
  have HW := hid hw
  obtain ⟨ao, cap, rfl, _, _, _⟩ := h
  cases hq : validB s r tbl with
  | false =>
    have HV := hid hq
    clear hv hq
    go_enter Try.func16, Try.ntmps16
    go_wp2_with fail
    obtain ⟨w1, hW⟩ : ∃ x, x = w.alloc (Obj.cells #[.int .i64 s, .int .i64 r, (.slice ao tbl.length cap)] 28) := ⟨_, rfl⟩
    have HB1 : Hid (Below w.heap.size w w1) := by simp only [Hid]; rw [hW]; exact below1 _ _
    simp only [← hW]
    clear hW
    go_at_call 30
    refine (Rule.implValid (HH.out.keep HB1.out (Nat.le_refl _))).mono ?_
    rw [HV.out]
    rintro e w2 ⟨rfl, bel⟩
    have HF := hid (HB1.out.trans (bel.mono HB1.out.size))
    clear bel
    go_wp2
    go_ret2
    exact ⟨rfl, HF.out⟩
  | true =>
    have HV := hid hq
    obtain ⟨hs, hr, _, _⟩ := Al.valid_parts hq
    have HS := hid hs
    have ht : wordB zs s = false := by
      cases h5 : wordB zs s with
      | false => rfl
      | true => exact absurd ⟨hq, h5⟩ hv
    have HT := hid ht
    clear hv hq ht
    go_enter Try.func16, Try.ntmps16
    go_wp2_with fail
    obtain ⟨w1, hW⟩ : ∃ x, x = w.alloc (Obj.cells #[.int .i64 s, .int .i64 r, (.slice ao tbl.length cap)] 28) := ⟨_, rfl⟩
    obtain ⟨NR, hN⟩ : ∃ x, x = w.heap.size := ⟨_, rfl⟩
    have HB1 : Hid (Below w.heap.size w w1) := by simp only [Hid]; rw [hW]; exact below1 _ _
    have kR : w1.heap[NR]? = some (Obj.cells #[.int .i64 s, .int .i64 r, (.slice ao tbl.length cap)] 28) := by rw [hW]; exact FNew.heap_top hN
    simp only [← hW, ← hN]
    clear hW hN
    go_at_call 30
    refine (Rule.implValid (HH.out.keep HB1.out (Nat.le_refl _))).mono ?_
    rw [HV.out]
    rintro e w2 ⟨rfl, bel⟩
    replace kR := Box.heap_keep bel kR
    have HF := hid (HB1.out.trans (bel.mono HB1.out.size))
    have a0 := Go.Joins.cell_of_block kR 0
    simp only [List.getElem?_toArray, List.getElem?_cons_zero, List.getElem?_cons_succ] at a0
    clear bel kR
    go_wp2_with fail
    go_at_call 31
    refine (isWord (HW.out.keep HF.out (Nat.le_refl _)) (by have := HS.out; omega)).mono ?_
    rw [HT.out]
    rintro e w3 ⟨rfl, bel⟩
    have HF3 := hid (HF.out.trans (bel.mono HF.out.size))
    clear bel
    go_wp2
    go_ret2
    exact ⟨rfl, HF3.out⟩
end Go.Proofs.Ytjeoccjemkdbiaa.Wbi
