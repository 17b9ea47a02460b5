/- impl.settle: heaps that fall, the program. -/
import Derived.Test.YtmhonhkiakjdjaaDoorSet
import Derived.Test.YtmhonhkiakjdjaaDoorBox
import Derived.Test.YtmhonhkiakjdjaaDoorBes
import Derived.ScopeJumps
import Derived.WalkMore
import Derived.Deep.Cut
namespace Go.Proofs.YtmhonhkiakjdjaaDoor.Stt
open Go.RowKit Go.Shelf Go.Proofs.YtmhonhkiakjdjaaDoor.Rd Go.Proofs.YtmhonhkiakjdjaaDoor.Help Go.Proofs.YtmhonhkiakjdjaaDoor.Small Go.Proofs.YtmhonhkiakjdjaaDoor.FVal Go.Proofs.YtmhonhkiakjdjaaDoor.Keep Go.Proofs.YtmhonhkiakjdjaaDoor.Rule Go.Proofs.YtmhonhkiakjdjaaDoor.Grow Go.Proofs.YtmhonhkiakjdjaaDoor.Bes Go.Proofs.YtmhonhkiakjdjaaDoor.Box Go.Proofs.YtmhonhkiakjdjaaDoor.Sbe Go.Proofs.YtmhonhkiakjdjaaDoor.Sfi Go.Proofs.YtmhonhkiakjdjaaDoor.Hea Go.Proofs.YtmhonhkiakjdjaaDoor.Heb Go.Proofs.YtmhonhkiakjdjaaDoor.Set
set_option linter.unusedVariables false
set_option linter.unusedSimpArgs false
attribute [local go_sem] Oper.semAt_some

theorem wp_scope_again {P : Program} {c rest : Code} {Q : Exit → Act → World → Prop} {a : Act} {w : World} (l : Nat) (J : Act → World → Prop) (μ : Act → World → Nat) (hf : findLabel c l = some (Code.seq Code.skip rest))
    (pass : ∀ a w, J a w → rest.wp P (Exit.jump l (fun a' w' => J a' w' ∧ μ a' w' < μ a w) Q) a w)
    (first : (∀ a w, J a w → rest.wp P (Exit.jump l J Q) a w) → c.wp P (Exit.jump l J Q) a w) : (Code.scope c).wp P Q a w := by
  refine wp_scope_jumps l J μ hf (first fun a w h => wp_mono (pass a w h) ?_) (fun a w h => wp_seq (wp_skip (pass a w h)))
  intro e a' w' hq
  cases e with
  | goto l' => exact ⟨hq.1, hq.2.1⟩
  | normal => exact hq
  | exit id => exact hq
  | ret => exact hq
  | panic ch => exact hq
  | outgrown => exact hq
theorem below_g {w w' : World} {b : Nat} (bel : Below w.heap.size w w') : w.grownBy w' (some b) := ⟨bel.os, bel.tape, bel.output, bel.size, fun k hk _ => bel.block k hk⟩
theorem heap_lt' {w : World} {n : Nat} {o : Obj} (h : w.heap[n]? = some o) : n < w.heap.size := (Array.getElem?_eq_some_iff.1 h).1
theorem gw_g {w w' : World} {b : Nat} (h : GW w) (g : w.grownBy w' (some b)) (hb : 0 ≠ b) : GW w' := by
  obtain ⟨t, fr, h3⟩ := h
  exact ⟨t, fr, g_heap g h3 hb⟩
theorem bes_ge {R C a i : Nat} (hC : 1 ≤ C) (ha : a < R * C) (h : i ∈ besL R C a 4) : a - C ≤ i := by
  have hi := mem_bes_lt h
  have h2 := (Adj.bes_iff hC hi).1 h
  have h3 : a ∈ sbL R C i := (Adj.sb_iff hC hi ha).2 h2
  rcases Adj.mem_sbL.1 h3 with ⟨_, h4⟩ | ⟨_, h4⟩ | ⟨_, h4⟩ | ⟨_, h4⟩ <;> omega
theorem heavy {w : World} {NF R C n k b' a : Nat} {x : Int} (k2 : w.cell? ⟨NF, 2, none⟩ = some (.slice (some ⟨b', 0, none⟩) n k)) (hc : w.cell? ⟨b', a, none⟩ = some (.int .i64 x)) (ha : a < n) (hn : n ≤ 1000) :
    Calls Tryd.prog 58 #[.int .i64 (a : Int), .pointer (some ⟨NF, 0, none⟩)] w fun e w' => e = .returned (.bool (decide (4 ≤ x))) ∧ w = w' := by
  have hai : (a : Int) < (n : Int) := by omega
  go_enter Tryd.func58, Tryd.ntmps58
  go_wp2
  go_ret
  exact ⟨rfl, rfl⟩
theorem hv_ge {y : List Int} {m : Nat} (hm : m ≤ y.length) (h : ∀ i, i < m → y.getD i 0 < 4) : m ≤ hv y := by
  rcases Nat.lt_or_ge (hv y) m with h1 | h1
  · have h2 := h _ h1
    have h3 := hv_get (y := y) (by omega)
    omega
  · exact h1
set_option maxHeartbeats 1000000 in
theorem leastYes {w : World} {NF n k b' fr : Nat} {ys : List Int} (k2 : w.cell? ⟨NF, 2, none⟩ = some (.slice (some ⟨b', 0, none⟩) n k)) (ho : Rd.Own 2 w b' (.slice (some ⟨b', 0, none⟩) n k) ys) (hl : ys.length = n) (hn : n ≤ 1000) (hf : fr ≤ hv ys) (hh : hv ys < n) :
    Calls Tryd.prog 59 #[.int .i64 (fr : Int), .int .i64 ((n : Int) - 1), (.func (.func 58) #[] #[.pointer (some ⟨NF, 0, none⟩)])] w fun e w' => e = .returned (.tuple #[.int .i64 ((hv ys : Nat) : Int), .bool true]) ∧ w = w' := by
  have HO := hid ho
  have HL := hid hl
  obtain ⟨A, hA⟩ : ∃ A, A = hv ys := ⟨_, rfl⟩
  have HA := hid hA
  rw [← hA] at hf hh ⊢
  clear ho hl hA
  go_enter Tryd.func59, Tryd.ntmps59
  go_wp2
  go_loop [8] (fun i => ∃ p : Nat, p ≤ A ∧ i = .int .i64 (p : Int)) (fun i => n - (intOf i).toNat)
  case atStart => exact ⟨fr, hf, rfl⟩
  case round =>
    obtain ⟨p, hp, rfl⟩ := hrel
    have hpn : p < n := by omega
    have hpi : (p : Int) ≤ (n : Int) - 1 := by omega
    have hcell := HO.out.cell (i := p) (by rw [HL.out]; exact hpn)
    have HC := hid hcell
    clear hcell
    by_cases hpA : p = A
    · have h4 : 4 ≤ ys.getD p 0 := by rw [hpA, HA.out]; exact hv_get (by rw [← HA.out, HL.out]; exact hh)
      have HD : Hid (decide (4 ≤ ys.getD p 0) = true) := decide_eq_true h4
      clear h4
      subst hpA
      go_wp2_with fail
      go_at_call 58
      refine (heavy (R := 0) (C := 0) k2 HC.out hpn hn).mono ?_
      rw [HD.out]
      rintro e w2 ⟨rfl, rfl⟩
      go_wp2
      go_ret2
      exact ⟨rfl, rfl⟩
    · have h4 : ys.getD p 0 < 4 := hv_before (by rw [← HA.out]; omega)
      have HD : Hid (decide (4 ≤ ys.getD p 0) = false) := decide_eq_false (by omega)
      clear h4
      go_wp2_with fail
      go_at_call 58
      refine (heavy (R := 0) (C := 0) k2 HC.out hpn hn).mono ?_
      rw [HD.out]
      rintro e w2 ⟨rfl, rfl⟩
      go_wp2
      go_round
      case rel => exact ⟨p + 1, by omega, by go_num⟩
      case measure => simp [intOf]; omega
set_option maxHeartbeats 1000000 in
theorem leastNo {w : World} {NF n k b' fr : Nat} {ys : List Int} (k2 : w.cell? ⟨NF, 2, none⟩ = some (.slice (some ⟨b', 0, none⟩) n k)) (ho : Rd.Own 2 w b' (.slice (some ⟨b', 0, none⟩) n k) ys) (hl : ys.length = n) (hn : n ≤ 1000) (hf : fr ≤ hv ys) (hh : hv ys = n) :
    Calls Tryd.prog 59 #[.int .i64 (fr : Int), .int .i64 ((n : Int) - 1), (.func (.func 58) #[] #[.pointer (some ⟨NF, 0, none⟩)])] w fun e w' => e = .returned (.tuple #[.int .i64 0, .bool false]) ∧ w = w' := by
  have HO := hid ho
  have HL := hid hl
  have HH := hid hh
  rw [hh] at hf
  clear ho hl hh
  go_enter Tryd.func59, Tryd.ntmps59
  go_wp2
  go_loop [8] (fun i => ∃ p : Nat, p ≤ n ∧ i = .int .i64 (p : Int)) (fun i => n - (intOf i).toNat)
  case atStart => exact ⟨fr, hf, rfl⟩
  case round =>
    obtain ⟨p, hp, rfl⟩ := hrel
    by_cases hpn : p < n
    · have hpi : (p : Int) ≤ (n : Int) - 1 := by omega
      have hcell := HO.out.cell (i := p) (by rw [HL.out]; exact hpn)
      have HC := hid hcell
      clear hcell
      have h4 : ys.getD p 0 < 4 := hv_before (by rw [HH.out]; exact hpn)
      have HD : Hid (decide (4 ≤ ys.getD p 0) = false) := decide_eq_false (by omega)
      clear h4
      go_wp2_with fail
      go_at_call 58
      refine (heavy (R := 0) (C := 0) k2 HC.out hpn hn).mono ?_
      rw [HD.out]
      rintro e w2 ⟨rfl, rfl⟩
      go_wp2
      go_round
      case rel => exact ⟨p + 1, by omega, by go_num⟩
      case measure => simp [intOf]; omega
    · have hpe : p = n := by omega
      subst hpe
      go_wp2
      go_ret2
      exact ⟨rfl, rfl⟩

set_option maxHeartbeats 16000000 in
set_option maxRecDepth 100000 in
theorem settle {w : World} {R C n k MM b' : Nat} {T : Int} {zs : List Int} (ho : Rd.Own 2 w b' (.slice (some ⟨b', 0, none⟩) n k) zs) (hR : 1 ≤ R ∧ R ≤ 24) (hC : 1 ≤ C ∧ C ≤ 24) (hn : n = R * C) (hgd : Hgd n T zs) (hT : T ≤ 20000) (hMM : MM ≤ 100000000) (hN : hv (hseq R C zs MM) = n) (hj : ∀ j, j < MM → hv (hseq R C zs j) < n) (hg : GW w) (hbg : 0 ≠ b') (hk : n ≤ k ∧ k ≤ maxLen) :
    Calls Tryd.prog 41 #[ruleV R C (.slice (some ⟨b', 0, none⟩) n k)] w fun e w' => e = .returned (.int .i64 (MM : Int)) ∧ Rd.Own 2 w' b' (.slice (some ⟨b', 0, none⟩) n k) (hseq R C zs MM) ∧ w.grownBy w' (some b') := by
  have hle : n ≤ 576 := by rw [hn]; exact Nat.le_trans (Nat.mul_le_mul hR.2 hC.2) (by decide)
  have hpos : 0 < n := by rw [hn]; exact Nat.mul_pos hR.1 hC.1
  have hk5 : n ≤ k ∧ k ≤ 9223372036854775807 := by unfold maxLen at hk; omega
  have HGD : Hid (∀ j, j ≤ MM → Hgd n T (hseq R C zs j)) := hseq_good hC.1 hn hgd hj
  have HE := hid (And.intro hN hj)
  have HN := hid hn
  have HO0 := hid ho
  have HGW := hid hg
  have HBG := hid hbg
  have HFb : Hid (w.heap.size ≠ b') := Nat.ne_of_gt ho.lt
  clear hgd hN hj hn ho hg hk hbg
  refine (callsIn_wide (n := 9)).1 ?_
  refine callsIn_of_wp_marks Tryd.func41 rfl trivial ?_ rfl
  refine wpIn_wide.2 ?_
  simp only [Tryd.ntmps41, List.size_toArray, List.length_cons, List.length_nil, Nat.reduceAdd, Nat.reduceSub, Array.replicate_succ, Array.replicate_zero, List.push_toArray, List.append_toArray, List.nil_append, List.cons_append]
  go_wp2
  obtain ⟨w1, hW1⟩ : ∃ w1, w1 = w.alloc (Obj.cells #[.int .i64 R, .int .i64 C, .slice (some ⟨b', 0, none⟩) n k] 26) := ⟨_, rfl⟩
  have HW1 := hid hW1
  simp only [← hW1]
  clear hW1
  refine wp_scope_again (rest := ?rest) 0 (fun a' wr => ∃ (j fr NE : Nat) (ds : List Nat) (x7 x8 x9 x10 x11 x12 x13 x14 x15 x16 x17 x18 x19 x20 x21 x22 x23 x24 x25 x26 x27 x28 x29 x30 x31 x32 x33 x34 x35 x36 x37 x38 x39 x40 x41 x42 x43 x44 x45 x46 x47 x48 x49 : Value), (j ≤ MM ∧ fr ≤ hv (hseq R C zs j) ∧ w.grownBy wr (some b') ∧ Rd.Own 2 wr b' (.slice (some ⟨b', 0, none⟩) n k) (hseq R C zs j) ∧ Marks wr ds ∧ (∀ D ∈ ds, w.heap.size ≤ D) ∧ wr.heap[w.heap.size]? = some (Obj.cells #[.int .i64 R, .int .i64 C, .slice (some ⟨b', 0, none⟩) n k] 26) ∧ wr.heap[NE]? = some (Obj.cells #[.int .i64 R, .int .i64 C] 49) ∧ NE ≠ b') ∧ a' = { tmps := #[ruleV (R : Int) (C : Int) (.slice (some ⟨b', 0, none⟩) n k), .pointer (some ⟨w.heap.size, 0, none⟩), .int .i64 0, .int .i64 (j : Int), .int .i64 (fr : Int), .pointer (some ⟨NE, 0, none⟩), (.func (.func 58) #[] #[.pointer (some ⟨w.heap.size, 0, none⟩)]), x7, x8, x9, x10, x11, x12, x13, x14, x15, x16, x17, x18, x19, x20, x21, x22, x23, x24, x25, x26, x27, x28, x29, x30, x31, x32, x33, x34, x35, x36, x37, x38, x39, x40, x41, x42, x43, x44, x45, x46, x47, x48, x49], defers := ds.map mk }) (fun a' _ => MM - (intOf (a'.tmps.getD 3 undef)).toNat) ?hf ?pass ?first
  case hf => rfl
  case first =>
    intro again
    have HAG := hid again
    clear again
    have bel1 : Below w.heap.size w w1 := by rw [HW1.out]; exact below1 _ _
    have kF : w1.heap[w.heap.size]? = some (Obj.cells #[.int .i64 R, .int .i64 C, .slice (some ⟨b', 0, none⟩) n k] 26) := by rw [HW1.out]; exact FNew.heap_top rfl
    have f0 : w1.cell? ⟨w.heap.size, 0, none⟩ = some (.int .i64 R) := Go.Joins.cell_of_block kF 0
    have f1 : w1.cell? ⟨w.heap.size, 1, none⟩ = some (.int .i64 C) := Go.Joins.cell_of_block kF 1
    have f2 : w1.cell? ⟨w.heap.size, 2, none⟩ = some (.slice (some ⟨b', 0, none⟩) n k) := Go.Joins.cell_of_block kF 2
    have HKF := hid kF
    have HB1 := hid bel1
    clear kF bel1
    go_wp2_with fail
    go_at_call 30
    refine extentOf.mono ?_
    rintro e w2 ⟨rfl, bel⟩
    have HKF2 := hid (Box.heap_keep bel HKF.out)
    have HB2 := hid (HB1.out.trans (bel.mono HB1.out.size))
    clear bel f0 f1 f2
    go_wp2
    obtain ⟨w3, hW3⟩ : ∃ w3, w3 = w2.alloc (Obj.cells #[.int .i64 R, .int .i64 C] 49) := ⟨_, rfl⟩
    obtain ⟨NE, hNE⟩ : ∃ NE, NE = w2.heap.size := ⟨_, rfl⟩
    have bel : Below w2.heap.size w2 w3 := by rw [hW3]; exact below1 _ _
    have HF3 : Hid ((0 ≤ MM ∧ 0 ≤ hv (hseq R C zs 0) ∧ w.grownBy w3 (some b') ∧ Rd.Own 2 w3 b' (.slice (some ⟨b', 0, none⟩) n k) (hseq R C zs 0) ∧ Marks w3 [] ∧ (∀ D ∈ [], w.heap.size ≤ D) ∧ w3.heap[w.heap.size]? = some (Obj.cells #[.int .i64 R, .int .i64 C, .slice (some ⟨b', 0, none⟩) n k] 26) ∧ w3.heap[NE]? = some (Obj.cells #[.int .i64 R, .int .i64 C] 49) ∧ NE ≠ b')) := ⟨Nat.zero_le _, Nat.zero_le _, below_g (HB2.out.trans (bel.mono HB2.out.size)), (HO0.out.keep HB2.out).keep bel, ⟨List.nodup_nil, by simp⟩, by simp, Box.heap_keep bel HKF2.out, by rw [hW3]; exact FNew.heap_top hNE, by rw [hNE]; exact Nat.ne_of_gt (HO0.out.keep HB2.out).lt⟩
    simp only [← hW3, ← hNE]
    clear hW3 hNE bel
    go_step3
    rename_i K hK
    exact hK _ _ (HAG.out _ _ ⟨0, 0, NE, [], _, _, _, _, _, _, _, _, _, _, _, _, _, _, _, _, _, _, _, _, _, _, _, _, _, _, _, _, _, _, _, _, _, _, _, _, _, _, _, _, _, _, _, HF3.out, rfl⟩)
  case pass =>
    rintro _ wr ⟨j, fr, NE, ds, x7, x8, x9, x10, x11, x12, x13, x14, x15, x16, x17, x18, x19, x20, x21, x22, x23, x24, x25, x26, x27, x28, x29, x30, x31, x32, x33, x34, x35, x36, x37, x38, x39, x40, x41, x42, x43, x44, x45, x46, x47, x48, x49, ⟨hj, hfr, hg, hown, hmk, hlo, kF, kE, hNE⟩, rfl⟩
    have HG := hid hg
    have HOW := hid hown
    have HMK := hid hmk
    have HLO := hid hlo
    have HKF := hid kF
    have HKE := hid kE
    have HNEb := hid hNE
    have HY := hid (HGD.out j hj)
    have f2 : wr.cell? ⟨w.heap.size, 2, none⟩ = some (.slice (some ⟨b', 0, none⟩) n k) := Go.Joins.cell_of_block kF 2
    have e0 : wr.cell? ⟨NE, 0, none⟩ = some (.int .i64 R) := Go.Joins.cell_of_block kE 0
    have e1 : wr.cell? ⟨NE, 1, none⟩ = some (.int .i64 C) := Go.Joins.cell_of_block kE 1
    clear hg hown hmk hlo kF kE hNE
    go_wp2_with fail
    go_at_call 57
    refine (FVal.size (by omega) (by omega)).mono ?_
    rw [show (R : Int) * (C : Int) = (n : Int) by rw [HN.out]; simp]
    rintro e w2 ⟨rfl, bel⟩
    have HG2 := hid (g_bel HG.out bel)
    have HOW2 := hid (HOW.out.keep bel)
    have HMK2 := hid (marks_bel HMK.out bel)
    have HKF2 := hid (Box.heap_keep bel HKF.out)
    have HKE2 := hid (Box.heap_keep bel HKE.out)
    clear bel f2 e0 e1
    have f2 : w2.cell? ⟨w.heap.size, 2, none⟩ = some (.slice (some ⟨b', 0, none⟩) n k) := Go.Joins.cell_of_block HKF2.out 2
    have e0 : w2.cell? ⟨NE, 0, none⟩ = some (.int .i64 R) := Go.Joins.cell_of_block HKE2.out 0
    have e1 : w2.cell? ⟨NE, 1, none⟩ = some (.int .i64 C) := Go.Joins.cell_of_block HKE2.out 1
    have HF2 := hid f2
    by_cases hM : j < MM
    · have hlt := HE.out.2 j hM
      obtain ⟨a, ha⟩ : ∃ a, a = hv (hseq R C zs j) := ⟨_, rfl⟩
      have HA := hid ha
      go_wp2_with fail
      go_at_call 59
      refine (leastYes HF2.out HOW2.out HY.out.1 (by omega) hfr hlt).mono ?_
      rw [← HA.out]
      rw [← ha] at hlt hfr
      clear ha
      rintro e w3 ⟨rfl, rfl⟩
      obtain ⟨z, hz⟩ : ∃ z, z = (hseq R C zs j).getD a 0 := ⟨_, rfl⟩
      have oc : w2.cell? ⟨b', a, none⟩ = some (.int .i64 z) := by rw [hz]; exact HOW2.out.cell (by rw [HY.out.1]; exact hlt)
      have of := HOW2.out.free a
      have h4 : 4 ≤ z := by rw [hz, HA.out]; exact hv_get (by rw [← HA.out, HY.out.1]; exact hlt)
      have hzb : z ≤ 20000 := by rw [hz]; have := HY.out.le a; omega
      have HZZ := hid hz
      have hai : (a : Int) < (n : Int) := by omega
      clear hz
      go_upto_region 8 with fail
      obtain ⟨w4, hw4⟩ : ∃ w4, w4 = w2.setCell ⟨b', a, none⟩ (.int .i64 (z - 4)) := ⟨_, rfl⟩
      have qo := HOW2.out.set a (z - 4)
      have qg := g_set HG2.out a (.int .i64 (z - 4))
      have qm : Marks w4 ds := by rw [hw4]; exact marks_set HMK2.out HOW2.out a _
      have qF : w4.heap[w.heap.size]? = some (Obj.cells #[.int .i64 R, .int .i64 C, .slice (some ⟨b', 0, none⟩) n k] 26) := by rw [hw4]; exact (Below.heap_setCell _ ⟨b', a, none⟩ _ _ HFb.out).trans HKF2.out
      have qE : w4.heap[NE]? = some (Obj.cells #[.int .i64 R, .int .i64 C] 49) := by rw [hw4]; exact (Below.heap_setCell _ ⟨b', a, none⟩ _ _ HNEb.out).trans HKE2.out
      rw [← hw4] at qo qg
      simp only [← hw4]
      clear hw4 f2 e0 e1 oc of HF2
      have HQ := hid (And.intro qo (And.intro qg (And.intro qm (And.intro qF qE))))
      have e0 : w4.cell? ⟨NE, 0, none⟩ = some (.int .i64 (R : Int)) := Go.Joins.cell_of_block qE 0
      have e1 : w4.cell? ⟨NE, 1, none⟩ = some (.int .i64 (C : Int)) := Go.Joins.cell_of_block qE 1
      have HGW4 : Hid (GW w4) := gw_g HGW.out qg HBG.out
      clear qo qg qm qF qE
      go_wp2_with fail
      go_at_call 60
      refine (beside (R := R) (C := C) (A := a) HGW4.out).mono ?_
      rintro e w5 ⟨NA, NS, rfl, hcap, hA, hS, bel⟩
      have HCP := hid hcap
      have HKB : Hid (NA ≠ b' ∧ NS ≠ b' ∧ 0 ≠ b') := ⟨Nat.ne_of_gt (Nat.lt_of_lt_of_le HQ.out.1.lt hA), Nat.ne_of_gt (Nat.lt_of_lt_of_le HQ.out.1.lt hS), HBG.out⟩
      have HI0 : Hid (Rd.Own 2 w5 b' (.slice (some ⟨b', 0, none⟩) n k) (addAll ((hseq R C zs j).set a (z - 4)) []) ∧ w.grownBy w5 (some b') ∧ Marks w5 ds ∧ w5.heap[w.heap.size]? = some (Obj.cells #[.int .i64 R, .int .i64 C, .slice (some ⟨b', 0, none⟩) n k] 26) ∧ w5.heap[NE]? = some (Obj.cells #[.int .i64 R, .int .i64 C] 49)) :=
        ⟨HQ.out.1.keep bel, g_bel HQ.out.2.1 bel, marks_bel HQ.out.2.2.1 bel, Box.heap_keep bel HQ.out.2.2.2.1, Box.heap_keep bel HQ.out.2.2.2.2⟩
      clear bel hA hS e0 e1
      go_wp2
      refine (wpIn_wide (n := 9)).1 ?_
      refine wpIn_rangeFunc_ownG (w := w5) rfl (by omega) (gf := 65) (lb := #[.pointer (some ⟨NA, 0, none⟩), .pointer (some ⟨NS, 0, none⟩)]) rfl trivial (enters_of Tryd.func65 (by kernel_rfl) rfl)
        (beside_stops hR hC (by have := HN.out; omega) HCP.out) (fun h k => KpB.t h k) (KpB.b (heap_lt' HCP.out.1) (heap_lt' HCP.out.2.1) (gw_lt HCP.out.2.2)) (Below.refl _ _) (fun _ => rfl)
        (fun pre W => (Rd.Own 2 W b' (.slice (some ⟨b', 0, none⟩) n k) (addAll ((hseq R C zs j).set a (z - 4)) (pre.map (·.1))) ∧ w.grownBy W (some b') ∧ Marks W ds ∧ W.heap[w.heap.size]? = some (Obj.cells #[.int .i64 R, .int .i64 C, .slice (some ⟨b', 0, none⟩) n k] 26) ∧ W.heap[NE]? = some (Obj.cells #[.int .i64 R, .int .i64 C] 49)) ∧ w5.heap.size ≤ W.heap.size)
        (fun _ _ _ => False) ?own (fun _ _ _ _ _ hs _ _ => hs) ⟨HI0.out, Nat.le_refl _⟩ ?a1 ?assign ?body ?done ?stop
      case own =>
        refine ownFrom_of ?_ (fun s W hs => hs.2)
        rintro pre W W' ⟨⟨h1, h2, h3, h4, h5⟩, h6⟩ hB bel
        exact ⟨⟨h1.keepAt bel HI0.out.1.lt, g_keep h2 HI0.out.2.1.size bel, marks_at h3 bel (fun D hD => heap_lt' (HI0.out.2.2.1.2 D hD)), (bel.block _ (heap_lt' HI0.out.2.2.2.1)).trans h4, (bel.block _ (heap_lt' HI0.out.2.2.2.2)).trans h5⟩, Nat.le_trans hB bel.size⟩
      case assign =>
        intro l x W K hK
        simp only [encP]
        gi_wp2
        exact hK
      case body =>
        rintro l pre ⟨X, hX⟩ W ⟨⟨h1, h2, h3, h4, h5⟩, h6⟩ hpl
        have hXn : X < n := by have := HN.out; omega
        have f2 : W.cell? ⟨w.heap.size, 2, none⟩ = some (.slice (some ⟨b', 0, none⟩) n k) := Go.Joins.cell_of_block h4 2
        have hcb := cell_bd (x := X) (L := pre.map (·.1)) HY.out (by rw [← HZZ.out]; exact ‹4 ≤ z›) hlt (fun y hy => by obtain ⟨u, _, rfl⟩ := List.mem_map.1 hy; have := u.2; have := HN.out; omega) (by rw [List.length_map]; omega)
        rw [← HZZ.out] at hcb
        obtain ⟨c, hc⟩ : ∃ c, c = (addAll ((hseq R C zs j).set a (z - 4)) (pre.map (·.1))).getD X 0 := ⟨_, rfl⟩
        rw [← hc] at hcb
        have hcb2 : 0 ≤ c ∧ c ≤ 20004 := by omega
        have oc : W.cell? ⟨b', X, none⟩ = some (.int .i64 c) := by rw [hc]; exact h1.cell (by rw [addAll_len, List.length_set, HY.out.1]; exact hXn)
        have of := h1.free X
        have HCc := hid hc
        have HI := hid (And.intro h1 (And.intro h2 (And.intro h3 (And.intro h4 (And.intro h5 h6)))))
        have hXi : (X : Int) < (n : Int) := by omega
        clear hc hcb h1 h2 h3 h4 h5 h6
        gi_wp2
        refine ⟨(KeepsOthers.setCell _ _ _).from _, KpB.set HKB.out _ _ _, ⟨?_, g_set HI.out.2.1 X _, marks_set HI.out.2.2.1 HI.out.1 X _, (Below.heap_setCell _ ⟨b', X, none⟩ _ _ HFb.out).trans HI.out.2.2.2.1, (Below.heap_setCell _ ⟨b', X, none⟩ _ _ HNEb.out).trans HI.out.2.2.2.2.1⟩, by have := HI.out.2.2.2.2.2; simp [World.setCell]; exact this⟩
        rw [List.map_append]
        show Rd.Own 2 _ b' _ (addAll _ (pre.map (·.1) ++ [X]))
        rw [addAll_snoc]
        show Rd.Own 2 _ b' _ (List.set _ X (_ + 1))
        rw [← HCc.out]
        exact HI.out.1.set X (c + 1)
      case done =>
        rintro D xs W hD hS ⟨⟨h1, h2, h3, h4, h5⟩, h6⟩ hK
        have hS2 : xs.map (·.1) = besL R C a 4 := hS
        rw [hS2] at h1
        have hseq1 : addAll ((hseq R C zs j).set a (z - 4)) (besL R C a 4) = hseq R C zs (j + 1) := by
          have e := topple_eq (y := hseq R C zs j) hC.1 HN.out HY.out.1 hlt
          show _ = topple (hseq R C zs j) (hv (hseq R C zs j)) (sbL R C (hv (hseq R C zs j)))
          rw [← HA.out, ← e, HZZ.out]; rfl
        rw [hseq1] at h1
        have hDn : D ∉ ds := fun hh => by have h6 := heap_lt' (HI0.out.2.2.1.2 D hh); omega
        have HF := hid (And.intro h1 (And.intro h2 (And.intro (show Marks W (D :: ds) from ⟨List.nodup_cons.2 ⟨hDn, h3.1⟩, fun G hG => by
          rcases List.mem_cons.1 hG with rfl | hG
          · exact hK
          · exact h3.2 G hG⟩) (And.intro h4 h5))))
        have HLO2 : Hid (∀ G ∈ D :: ds, w.heap.size ≤ G) := fun G hG => by
          rcases List.mem_cons.1 hG with rfl | hG
          · exact Nat.le_trans HI0.out.2.1.size hD
          · exact HLO.out G hG
        have HFR : Hid (a - C ≤ hv (hseq R C zs (j + 1))) := by
          have hg1 := HGD.out (j + 1) (by omega)
          refine hv_ge (by rw [hg1.1]; omega) (fun i hi => ?_)
          rw [← hseq1, addAll_get i _ _ (fun y hy => by rw [List.length_set, HY.out.1, HN.out]; exact mem_bes_lt hy), getD_set, if_neg (fun e => by omega)]
          have hni : i ∉ besL R C a 4 := fun hm => by
            have := bes_ge hC.1 (by have := HN.out; omega) hm
            omega
          rw [List.count_eq_zero.2 hni]
          have := hv_before (y := hseq R C zs j) (j := i) (by rw [← HA.out]; omega)
          simpa using this
        have e1 : W.cell? ⟨NE, 1, none⟩ = some (.int .i64 (C : Int)) := Go.Joins.cell_of_block h5 1
        clear h1 h2 h3 h4 h5 h6 hS hS2 hK hDn hseq1
        by_cases hca : C ≤ a
        · have hcai : (0 : Int) ≤ (a : Int) - (C : Int) := by omega
          have hcan : ¬ (a : Int) - (C : Int) < 0 := by omega
          go_wp2
          go_step3
          have hfr2 : ((a - C : Nat) : Int) = (a : Int) - (C : Int) := by omega
          rw [← hfr2]
          refine ⟨rfl, ⟨j + 1, a - C, NE, D :: ds, _, _, _, _, _, _, _, _, _, _, _, _, _, _, _, _, _, _, _, _, _, _, _, _, _, _, _, _, _, _, _, _, _, _, _, _, _, _, _, _, _, _, _, ⟨by omega, HFR.out, HF.out.2.1, HF.out.1, HF.out.2.2.1, HLO2.out, HF.out.2.2.2.1, HF.out.2.2.2.2, HNEb.out⟩, rfl⟩, ?_⟩
          simp [intOf]; omega
        · have hcai : (a : Int) - (C : Int) < 0 := by omega
          go_wp2
          go_step3
          refine ⟨rfl, ⟨j + 1, 0, NE, D :: ds, _, _, _, _, _, _, _, _, _, _, _, _, _, _, _, _, _, _, _, _, _, _, _, _, _, _, _, _, _, _, _, _, _, _, _, _, _, _, _, _, _, _, _, ⟨by omega, Nat.zero_le _, HF.out.2.1, HF.out.1, HF.out.2.2.1, HLO2.out, HF.out.2.2.2.1, HF.out.2.2.2.2, HNEb.out⟩, rfl⟩, ?_⟩
          simp [intOf]; omega
      case stop =>
        rintro D c pre W _ _ hh _
        exact hh.elim
    · have hjM : j = MM := by omega
      have hall := HE.out.1
      rw [← hjM] at hall
      go_wp2_with fail
      go_at_call 59
      refine (leastNo HF2.out HOW2.out HY.out.1 (by omega) hfr hall).mono ?_
      rintro e w3 ⟨rfl, rfl⟩
      clear f2 e0 e1
      go_wp2
      refine leaves_marks (B := w.heap.size) ds w2 HMK2.out HLO.out (fun w' hb hc => ?_)
      subst hjM
      exact ⟨_, results_tmp rfl _ _ _, rfl, own_cells HOW2.out hc, g_keep HG2.out (Nat.le_refl _) hb⟩

end Go.Proofs.YtmhonhkiakjdjaaDoor.Stt
