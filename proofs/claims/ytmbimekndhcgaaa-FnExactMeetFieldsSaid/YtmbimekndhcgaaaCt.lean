/- spec.l05Cut: a part of a field. -/
import Derived.Test.YtmbimekndhcgaaaFCut
import Derived.StillTailTactics
namespace Go.Proofs.Ytmbimekndhcgaaa.Ct
open Go.RowKit Go.Proofs.Ytmbimekndhcgaaa.Rd Go.Proofs.Ytmbimekndhcgaaa.Help Go.Proofs.Ytmbimekndhcgaaa.Ring Go.Proofs.Ytmbimekndhcgaaa.Small Go.Proofs.Ytmbimekndhcgaaa.FVal Go.Proofs.Ytmbimekndhcgaaa.Keep Go.Proofs.Ytmbimekndhcgaaa.Rule Go.Proofs.Ytmbimekndhcgaaa.Grow Go.Proofs.Ytmbimekndhcgaaa.FCut
set_option linter.unusedVariables false
set_option linter.unusedSimpArgs false

set_option maxRecDepth 4000 in
set_option maxHeartbeats 8000000 in
theorem l05Cut {w : World} {R C n N ra rb rc rd mt : Nat} {b : Nat} {v : Value} {zs : List Int} (k0 : w.cell? ⟨N, 0, none⟩ = some (.int .i64 R)) (k1 : w.cell? ⟨N, 1, none⟩ = some (.int .i64 C)) (k2 : w.cell? ⟨N, 2, none⟩ = some v) (h : Rd w b v zs) (hq : fieldB R C zs = true) (hn : n = R * C) (hk : ra + rc ≤ R ∧ rb + rd ≤ C ∧ 1 ≤ rc ∧ 1 ≤ rd) (hmt : mt = rc * rd) :
    Calls Try.prog 89 #[.pointer (some ⟨N, 0, none⟩), .int .i64 ra, .int .i64 rb, .int .i64 rc, .int .i64 rd] w fun e w' => ∃ b', e = .returned ((ruleV rc rd (.slice (some ⟨b', 0, none⟩) mt mt))) ∧ Own 2 w' b' (.slice (some ⟨b', 0, none⟩) mt mt) (cutL zs C ra rb rc rd) ∧ w.heap.size ≤ b' ∧ Below w.heap.size w w' := by
  obtain ⟨hR, hC, hl, hle⟩ := field_nat hq
  have HH := hid h
  have HQ := hid hq
  obtain ⟨ao, cap, rfl, hc, hm, h4⟩ := h
  rw [← hn] at hle
  have hpos : 0 < zs.length := by rw [hl]; exact Nat.mul_pos hR.1 hC.1
  obtain ⟨off, rfl, hb, hcell⟩ := h4 hpos
  have hln : zs.length = n := by rw [hn]; exact hl
  rw [hln] at HH hc hcell k2
  have hsz : n ≤ cap ∧ cap ≤ 9223372036854775807 := by unfold maxLen at hm; omega
  have HCap := hid (show n ≤ cap ∧ cap ≤ maxLen from ⟨hc, hm⟩)
  have HL : Hid (zs.length = n) := by simp only [Hid]; rw [hn]; exact hl
  have HN := hid hn
  have HR := hid hR
  have HC := hid hC
  have HB0 := hid hb
  have HCell := hid hcell
  have HLE := hid hle
  clear hc hm h4 hq hn hl hpos hb hcell hln
  have HM := hid hmt
  have HK := hid hk
  have HW1 : Hid (cutB R C ra rb rc rd = true) := decide_eq_true (by omega)
  have HLE2 : Hid (rc * rd ≤ 576) := by
    have h1 : rc * rd ≤ 24 * 24 := Nat.mul_le_mul (by have := HR.out; omega) (by have := HC.out; omega)
    simp only [Hid]; omega
  have HLE3 : Hid (mt ≤ 576) := by have := HLE2.out; have := HM.out; simp only [Hid]; omega
  have HRI : Hid (1 ≤ (R : Int) ∧ (R : Int) ≤ 24) := by have := HR.out; simp only [Hid]; omega
  have HCI : Hid (1 ≤ (C : Int) ∧ (C : Int) ≤ 24) := by have := HC.out; simp only [Hid]; omega
  have hB4 : rc ≤ 24 ∧ rd ≤ 24 := by have := HR.out; have := HC.out; omega
  clear hmt hk
  have HKN := hid (And.intro k0 (And.intro k1 k2))
  have HNw : Hid (N < w.heap.size) := World.block_lt_of_cell? w _ k0
  clear k0 k1 k2
  go_enter Try.func89, Try.ntmps89
  go_wp2_with fail
  obtain ⟨w1, hW⟩ : ∃ w1, w1 = w.alloc (Obj.cells #[.int .i64 0, .int .i64 0, .slice none 0 0] 26) := ⟨_, rfl⟩
  obtain ⟨NT, hM⟩ : ∃ NT, NT = w.heap.size := ⟨_, rfl⟩
  have bw : Below w.heap.size w w1 := by rw [hW]; exact below1 _ _
  have kT : w1.heap[NT]? = some (Obj.cells #[.int .i64 0, .int .i64 0, .slice none 0 0] 26) := by rw [hW]; exact FNew.heap_top hM
  have HNT : Hid (w.heap.size ≤ NT) := by simp only [Hid]; omega
  have HNN : Hid (N < NT ∧ NT = w.heap.size) := ⟨by have := HNw.out; omega, hM⟩
  have st : Below w.heap.size w w1 ∧ w1.cell? ⟨N, 0, none⟩ = some (.int .i64 R) ∧ w1.cell? ⟨N, 1, none⟩ = some (.int .i64 C) ∧ w1.cell? ⟨N, 2, none⟩ = some (.slice (some ⟨b, off, none⟩) n cap) ∧ Rd w1 b (.slice (some ⟨b, off, none⟩) n cap) zs ∧ w.heap.size ≤ w1.heap.size := ⟨bw, cell_keep bw HKN.out.1, cell_keep bw HKN.out.2.1, cell_keep bw HKN.out.2.2, HH.out.keep bw (Nat.le_refl _), bw.size⟩
  simp only [← hW, ← hM]
  clear hW hM bw
  go_wp2_with fail
  go_at_call 44
  refine (FNew.l04New HM.out HLE3.out).mono ?_
  rintro e w3 ⟨b', rfl, ow, lo, bel⟩
  have hNTb : NT < b' := Nat.lt_of_lt_of_le (Array.getElem?_eq_some_iff.1 kT).1 lo
  have lob : w.heap.size ≤ b' := Nat.le_trans st.1.size lo
  replace st := next3_1 bel st
  replace kT := (bel.block NT (Array.getElem?_eq_some_iff.1 kT).1).trans kT
  have hb3 : b' < w3.heap.size := ow.lt
  clear bel lo
  obtain ⟨w4, hW⟩ : ∃ w4, w4 = w3.alloc (Obj.cells #[.int .i64 rc, .int .i64 rd, .slice (some ⟨b', 0, none⟩) mt mt] 26) := ⟨_, rfl⟩
  obtain ⟨NO, hO⟩ : ∃ NO, NO = w3.heap.size := ⟨_, rfl⟩
  have bel : Below w3.heap.size w3 w4 := by rw [hW]; exact below1 _ _
  replace st := next3_1 bel st
  have hTO : NT < NO := by rw [hO]; exact (Array.getElem?_eq_some_iff.1 kT).1
  replace kT := (bel.block NT (Array.getElem?_eq_some_iff.1 kT).1).trans kT
  replace ow := ow.keep bel
  have kO : w4.heap[NO]? = some (Obj.cells #[.int .i64 rc, .int .i64 rd, .slice (some ⟨b', 0, none⟩) mt mt] 26) := by rw [hW]; exact FNew.heap_top hO
  have hbO : b' < NO := by rw [hO]; exact hb3
  have hNb : N < b' := by have := HNN.out; omega
  have HSX := hid st
  have HOW := hid ow
  have HKT := hid kT
  have HKO := hid kO
  have HAp := hid (show N < NT ∧ NT < b' ∧ b' < NO ∧ w.heap.size ≤ b' from ⟨by have := HNN.out; omega, hNTb, hbO, lob⟩)
  clear st ow kT kO bel hb3 hNTb hTO hbO hNb lob
  go_wp2
  simp only [← hW, ← hO]
  clear hW hO
  have HCLX : Hid (∀ i, i < n → w4.cell? ⟨b, off + i, none⟩ = some (.int .i64 (zs.getD i 0))) := fun i hi => (HSX.out.1.cell (p := ⟨b, off + i, none⟩) HB0.out).trans (HCell.out i hi)
  have HTL : Hid ((cutL zs C ra rb rc rd).length = mt) := by simp only [Hid, cutL]; rw [grid_len, HM.out]
  go_loopw [12] (fun i wr => ∃ p : Nat, p ≤ rc ∧ i = .int .i64 p ∧ Own 2 wr b' (.slice (some ⟨b', 0, none⟩) mt mt) (filN (cutL zs C ra rb rc rd) mt (p * rd)) ∧ w4.grownBy wr (some b')) (fun i _ => rc - (intOf i).toNat)
  case atStart => exact ⟨0, Nat.zero_le _, rfl, by rw [Nat.zero_mul, filN_zero]; exact HOW.out, g_refl _ _⟩
  case round =>
    obtain ⟨p, hp, rfl, hown, hg⟩ := hrel
    have c0 := g_cell hg HSX.out.2.1 (Nat.ne_of_lt (Nat.lt_trans HAp.out.1 HAp.out.2.1))
    have c1 := g_cell hg HSX.out.2.2.1 (Nat.ne_of_lt (Nat.lt_trans HAp.out.1 HAp.out.2.1))
    have c2 := g_cell hg HSX.out.2.2.2.1 (Nat.ne_of_lt (Nat.lt_trans HAp.out.1 HAp.out.2.1))
    have d0 := g_cell hg (Go.Joins.cell_of_block HKO.out 0) (Nat.ne_of_gt HAp.out.2.2.1)
    have d1 := g_cell hg (Go.Joins.cell_of_block HKO.out 1) (Nat.ne_of_gt HAp.out.2.2.1)
    have d2 := g_cell hg (Go.Joins.cell_of_block HKO.out 2) (Nat.ne_of_gt HAp.out.2.2.1)
    by_cases hlt : p < rc
    · have HO1 := hid hown
      have HG1 := hid hg
      have hpi : (p : Int) < (rc : Int) := by omega
      clear hown hg
      go_wp2
      clear c0 c1 c2 d0 d1 d2
      go_loopw [13] (fun k wx => ∃ q : Nat, q ≤ rd ∧ k = .int .i64 q ∧ Own 2 wx b' (.slice (some ⟨b', 0, none⟩) mt mt) (filN (cutL zs C ra rb rc rd) mt (p * rd + q)) ∧ w4.grownBy wx (some b')) (fun k _ => rd - (intOf k).toNat)
      case atStart => exact ⟨0, Nat.zero_le _, rfl, HO1.out, HG1.out⟩
      case round =>
        obtain ⟨q, hq2, rfl, hown, hg⟩ := hrel
        have c0 := g_cell hg HSX.out.2.1 (Nat.ne_of_lt (Nat.lt_trans HAp.out.1 HAp.out.2.1))
        have c1 := g_cell hg HSX.out.2.2.1 (Nat.ne_of_lt (Nat.lt_trans HAp.out.1 HAp.out.2.1))
        have c2 := g_cell hg HSX.out.2.2.2.1 (Nat.ne_of_lt (Nat.lt_trans HAp.out.1 HAp.out.2.1))
        have d0 := g_cell hg (Go.Joins.cell_of_block HKO.out 0) (Nat.ne_of_gt HAp.out.2.2.1)
        have d1 := g_cell hg (Go.Joins.cell_of_block HKO.out 1) (Nat.ne_of_gt HAp.out.2.2.1)
        have d2 := g_cell hg (Go.Joins.cell_of_block HKO.out 2) (Nat.ne_of_gt HAp.out.2.2.1)
        by_cases hlt2 : q < rd
        · obtain ⟨S, hS⟩ : ∃ S, S = (ra + p) * C + (rb + q) := ⟨_, rfl⟩
          obtain ⟨T, hT⟩ : ∃ T, T = p * rd + q := ⟨_, rfl⟩
          have hSn : S < n := by rw [hS]; rw [HN.out]; exact pos_bd (by have := HK.out; omega) (by have := HK.out; omega)
          have hTn : T < mt := by rw [hT, HM.out]; exact pos_bd hlt hlt2
          obtain ⟨P1, hP1⟩ : ∃ P1, P1 = (ra + p) * C := ⟨_, rfl⟩
          have hin : P1 + C ≤ n := by rw [hP1, HN.out]; exact Row.row_in (C := C) (show ra + p < R by have := HK.out; omega)
          have hle := HLE.out
          have hkk := HK.out
          have hCb := HC.out
          have hRb := HR.out
          have e0 : IntKind.i64.wrap ((ra : Int) + (p : Int)) = (ra : Int) + (p : Int) := by rw [IntKind.wrap_i64]; omega
          have e1 : IntKind.i64.wrap (((ra : Int) + (p : Int)) * (C : Int)) = (P1 : Int) := by rw [show ((ra : Int) + (p : Int)) * (C : Int) = (P1 : Int) by rw [hP1]; simp, IntKind.wrap_i64]; omega
          have e2 : IntKind.i64.wrap ((P1 : Int) + (rb : Int)) = (P1 : Int) + (rb : Int) := by rw [IntKind.wrap_i64]; omega
          have e3 : IntKind.i64.wrap ((P1 : Int) + (rb : Int) + (q : Int)) = (S : Int) := by rw [IntKind.wrap_i64, hS, ← hP1]; omega
          clear hP1 hin hle hkk hCb hRb
          have e4 := (wrap_pos (i := p) (C := rd) (k := q) (by have := HLE2.out; have := HM.out; omega)).1
          have e5 := (wrap_pos (i := p) (C := rd) (k := q) (by have := HLE2.out; have := HM.out; omega)).2
          rw [← hT] at e5 hown
          obtain ⟨x, hx⟩ : ∃ x, x = zs.getD S 0 := ⟨_, rfl⟩
          have hcx : wr.cell? ⟨b, off + S, none⟩ = some (.int .i64 x) := by rw [hx]; exact g_cell hg ((HCLX.out S hSn)) (Nat.ne_of_lt (Nat.lt_of_lt_of_le HB0.out HAp.out.2.2.2))
          have hox := hown.cell (i := T) (by rw [filN_len _ _ _ HTL.out (Nat.le_of_lt hTn)]; exact hTn)
          have hof := hown.free T
          have HTX : Hid ((cutL zs C ra rb rc rd).getD T 0 = x) := by simp only [Hid, cutL]; rw [hT, grid_get _ hlt hlt2, hx, hS]
          have HO2 := hid hown
          have HG2 := hid hg
          have HT := hid hT
          have hpi : (p : Int) < (rc : Int) := by omega
          have hqi : (q : Int) < (rd : Int) := by omega
          clear hS hx hown hg
          obtain ⟨P2, hP2⟩ : ∃ P2, P2 = p * rd := ⟨_, rfl⟩
          rw [← hP2] at e4 e5
          skip
          clear hP2 hT
          go_wp2_with fail
          go_still_tail 26, (by kernel_rfl)
          change wpList _ _ _ _ _ wr.drew
          have hoxd : wr.drew.cell? ⟨b', T, none⟩ = some (.int .i64 ((filN (cutL zs C ra rb rc rd) mt T).getD T 0)) := hox
          have hofd : wr.drew.frozen? ⟨b', T, none⟩ = false := hof
          obtain ⟨wd, hwd⟩ : ∃ wd, wd = wr.drew := ⟨_, rfl⟩
          have HG3 : Hid (w4.grownBy wd (some b')) := by rw [hwd]; exact g_drew HG2.out
          have HO3 : Hid (Own 2 wd b' (.slice (some ⟨b', 0, none⟩) mt mt) (filN (cutL zs C ra rb rc rd) mt T)) := by rw [hwd]; exact HO2.out
          rw [← hwd] at hoxd hofd ⊢
          clear hwd hox hof hcx c0 c1 c2 d0 d1 d2
          go_wp2
          go_roundw
          case rel =>
            refine ⟨q + 1, by omega, by go_num, ?_, g_set HG3.out T _⟩
            have hs := filN_set (cutL zs C ra rb rc rd) mt T HTL.out hTn
            rw [HTX.out] at hs
            rw [show p * rd + (q + 1) = T + 1 by have := HT.out; omega, ← hs]
            exact HO3.out.set T x
          case measure => simp [intOf]; omega
        · have hqR : rd = q := by omega
          have HO2 := hid hown
          have HG2 := hid hg
          clear hown hg
          subst hqR
          go_wp2
          go_roundw
          case rel =>
            refine ⟨p + 1, by omega, by go_num, ?_, HG2.out⟩
            rw [Nat.succ_mul]
            exact HO2.out
          case measure => simp [intOf]; omega
    · have hpC : rc = p := by omega
      subst hpC
      rw [show rc * rd = mt by rw [HM.out], filN_all _ _ HTL.out] at hown
      have hg2 := hg
      have kTr := g_heap hg HKT.out (Nat.ne_of_lt HAp.out.2.1)
      have HB := hid (g_below HSX.out.1 hg HAp.out.2.2.2)
      have HLo : Hid (w.heap.size ≤ b') := HAp.out.2.2.2
      have HNB : Hid (NT ≠ b') := Nat.ne_of_lt HAp.out.2.1
      have HO := hid hown
      clear hown hg hg2
      have y0 : wr.cell? ⟨NT, 0, none⟩ = some (.int .i64 0) := Go.Joins.cell_of_block kTr 0
      have y1 : wr.cell? ⟨NT, 1, none⟩ = some (.int .i64 0) := Go.Joins.cell_of_block kTr 1
      have y2 : wr.cell? ⟨NT, 2, none⟩ = some (.slice none 0 0) := Go.Joins.cell_of_block kTr 2
      have g0 : wr.frozen? ⟨NT, 0, none⟩ = false := Go.Joins.unfrozen_of_block kTr 0
      have g1 : wr.frozen? ⟨NT, 1, none⟩ = false := Go.Joins.unfrozen_of_block kTr 1
      have g2 : wr.frozen? ⟨NT, 2, none⟩ = false := Go.Joins.unfrozen_of_block kTr 2
      have HKx := hid kTr
      clear kTr
      go_wp2
      obtain ⟨W5, hW⟩ : ∃ W5, W5 = (((wr.setCell ⟨NT, 0, none⟩ (.int .i64 rc)).setCell ⟨NT, 1, none⟩ (.int .i64 rd)).setCell ⟨NT, 2, none⟩ (.slice (some ⟨b', 0, none⟩) mt mt)) := ⟨_, rfl⟩
      have q0 := (Go.Joins.block_setCell (i := 2) (Go.Joins.block_setCell (i := 1) (Go.Joins.block_setCell (i := 0) HKx.out (.int .i64 rc)) (.int .i64 rd)) (.slice (some ⟨b', 0, none⟩) mt mt))
      rw [← hW] at q0
      have z0 : W5.cell? ⟨NT, 0, none⟩ = some (.int .i64 rc) := Go.Joins.cell_of_block q0 0
      have z1 : W5.cell? ⟨NT, 1, none⟩ = some (.int .i64 rd) := Go.Joins.cell_of_block q0 1
      have z2 : W5.cell? ⟨NT, 2, none⟩ = some (.slice (some ⟨b', 0, none⟩) mt mt) := Go.Joins.cell_of_block q0 2
      have O5 := (own_set (own_set (own_set HO.out ⟨NT, 0, none⟩ (.int .i64 rc) HNB.out) ⟨NT, 1, none⟩ (.int .i64 rd) HNB.out) ⟨NT, 2, none⟩ (.slice (some ⟨b', 0, none⟩) mt mt) HNB.out)
      rw [← hW] at O5
      have B5 : Below w.heap.size w W5 := by
        have h1 := HNT.out
        rw [hW]
        exact ((HB.out.setCell (by simp; omega) _).setCell (by simp; omega) _).setCell (by simp; omega) _
      simp only [← hW]
      clear hW q0
      simp [bodyPost, results, Try.results89, go_sem, z0, z1, z2]
      exact ⟨O5, HLo.out, B5⟩

end Go.Proofs.Ytmbimekndhcgaaa.Ct
