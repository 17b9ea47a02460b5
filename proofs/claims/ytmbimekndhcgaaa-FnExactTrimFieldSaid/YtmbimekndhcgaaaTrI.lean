/- TrimField of both sides. -/
import Derived.Test.YtmbimekndhcgaaaTr
namespace Go.Proofs.Ytmbimekndhcgaaa.TrI
open Go.RowKit Go.Proofs.Ytmbimekndhcgaaa.Rd Go.Proofs.Ytmbimekndhcgaaa.Help Go.Proofs.Ytmbimekndhcgaaa.Ring Go.Proofs.Ytmbimekndhcgaaa.Small Go.Proofs.Ytmbimekndhcgaaa.FVal Go.Proofs.Ytmbimekndhcgaaa.Keep Go.Proofs.Ytmbimekndhcgaaa.Rule Go.Proofs.Ytmbimekndhcgaaa.Grow Go.Proofs.Ytmbimekndhcgaaa.FCut Go.Proofs.Ytmbimekndhcgaaa.Tr
set_option linter.unusedVariables false
set_option linter.unusedSimpArgs false

set_option maxHeartbeats 8000000 in
theorem trimmed {w : World} {R C n ra rb rc rd mt : Nat} {b : Nat} {v : Value} {zs : List Int} (h : Rd w b v zs) (hq : fieldB R C zs = true) (hn : n = R * C) (ht : tS zs R C n = ((ra : Int), ((ra + rc - 1 : Nat) : Int), (rb : Int), ((rb + rd - 1 : Nat) : Int))) (hk : ra + rc ≤ R ∧ rb + rd ≤ C ∧ 1 ≤ rc ∧ 1 ≤ rd) (hmt : mt = rc * rd) :
    Calls Try.prog 59 #[ruleV R C v] w fun e w' => ∃ b', e = .returned (.tuple #[ruleV rc rd (.slice (some ⟨b', 0, none⟩) mt mt), .int .i64 ra, .int .i64 rb]) ∧ Own 2 w' b' (.slice (some ⟨b', 0, none⟩) mt mt) (cutL zs C ra rb rc rd) ∧ w.heap.size ≤ b' ∧ Below w.heap.size w w' := by
  obtain ⟨hR, hC, hl, hle⟩ := field_nat hq
  have HH := hid h
  have HQ := hid hq
  obtain ⟨ao, cap, rfl, hc, hm, h4⟩ := h
  rw [← hn] at hle
  have hpos : 0 < zs.length := by rw [hl]; exact Nat.mul_pos hR.1 hC.1
  obtain ⟨off, rfl, hb, hcell⟩ := h4 hpos
  have hln : zs.length = n := by rw [hn]; exact hl
  rw [hln] at HH hc hcell ⊢
  have hsz : n ≤ cap ∧ cap ≤ 9223372036854775807 := by unfold maxLen at hm; omega
  have HCap := hid (show n ≤ cap ∧ cap ≤ maxLen from ⟨hc, hm⟩)
  have HL : Hid (zs.length = n) := by simp only [Hid]; rw [hn]; exact hl
  have HN := hid hn
  have HR := hid hR
  have HC := hid hC
  have HB0 := hid hb
  have HCell := hid hcell
  have HLE := hid hle
  clear hc hm h4 hq hn hl hpos hb hcell hln
  have HM := hid hmt
  have HK := hid hk
  have HTT := hid ht
  clear hmt hk ht
  go_enter Try.func59, Try.ntmps59
  go_wp2_with fail
  obtain ⟨w1, hW⟩ : ∃ w1, w1 = (w.alloc (Obj.cells #[.int .i64 R, .int .i64 C, .slice (some ⟨b, off, none⟩) n cap] 26)).alloc (Obj.cells #[.int .i64 0, .int .i64 0, .slice none 0 0] 26) := ⟨_, rfl⟩
  obtain ⟨N, hN⟩ : ∃ N, N = w.heap.size := ⟨_, rfl⟩
  obtain ⟨NT, hM⟩ : ∃ NT, NT = N + 1 := ⟨_, rfl⟩
  have st : Below w.heap.size w w1 ∧ w1.cell? ⟨N, 0, none⟩ = some (.int .i64 R) ∧ w1.cell? ⟨N, 1, none⟩ = some (.int .i64 C) ∧ w1.cell? ⟨N, 2, none⟩ = some (.slice (some ⟨b, off, none⟩) n cap) ∧ Rd w1 b (.slice (some ⟨b, off, none⟩) n cap) zs ∧ w.heap.size ≤ w1.heap.size := by
    rw [hW, hN]
    exact ⟨Go.Joins.below_alloc2 _ _ _, by simp, by simp, by simp, HH.out.keep (Go.Joins.below_alloc2 _ _ _) (Nat.le_refl _), by simp; omega⟩
  have kT : w1.heap[NT]? = some (Obj.cells #[.int .i64 0, .int .i64 0, .slice none 0 0] 26) := by rw [hW]; exact FNew.heap_top (by rw [hM, hN]; simp)
  have HNT : Hid (w.heap.size ≤ NT) := by simp only [Hid]; omega
  have HNN : Hid (NT = N + 1 ∧ N = w.heap.size) := ⟨hM, hN⟩
  simp only [← hW, ← hN, ← hM]
  clear hW hN hM
  go_at_call 79
  refine extentOf.mono ?_
  rintro e w2 ⟨rfl, bel⟩
  replace st := next3_1 bel st
  replace kT := (bel.block NT (Array.getElem?_eq_some_iff.1 kT).1).trans kT
  clear bel
  have cx2 : ((w2.alloc (Obj.cells #[.int .i64 R, .int .i64 C] 96)).alloc (Obj.cells #[.int .i64 0, .int .i64 0] 96)).cell? ⟨N, 2, none⟩ = some (.slice (some ⟨b, off, none⟩) n cap) := cell_keep (Go.Joins.below_alloc2 _ _ _) st.2.2.2.1
  have HST := hid st
  have HKT := hid kT
  clear st kT
  go_wp2
  clear cx2
  obtain ⟨w3, hW⟩ : ∃ w3, w3 = (w2.alloc (Obj.cells #[.int .i64 R, .int .i64 C] 96)).alloc (Obj.cells #[.int .i64 0, .int .i64 0] 96) := ⟨_, rfl⟩
  obtain ⟨E1, hE1⟩ : ∃ E1, E1 = w2.heap.size := ⟨_, rfl⟩
  obtain ⟨E2, hE2⟩ : ∃ E2, E2 = E1 + 1 := ⟨_, rfl⟩
  have HB3 : Hid (Below w2.heap.size w2 w3) := by simp only [Hid]; rw [hW]; exact Go.Joins.below_alloc2 _ _ _
  have K1 : Hid (w3.heap[E1]? = some (Obj.cells #[.int .i64 R, .int .i64 C] 96)) := by simp only [Hid]; rw [hW]; exact FNew.heap_old (FNew.heap_top hE1)
  have K2 : Hid (w3.heap[E2]? = some (Obj.cells #[.int .i64 0, .int .i64 0] 96)) := by simp only [Hid]; rw [hW]; exact FNew.heap_top (by rw [hE2, hE1]; simp)
  have HE : Hid (w2.heap.size ≤ E1 ∧ w2.heap.size ≤ E2 ∧ E1 ≠ E2) := by simp only [Hid]; omega
  simp only [← hW, ← hE1, ← hE2]
  clear hW hE1 hE2
  have HCLX : Hid (∀ i, i < n → w2.cell? ⟨b, off + i, none⟩ = some (.int .i64 (zs.getD i 0))) := fun i hi => (HST.out.1.cell (p := ⟨b, off + i, none⟩) HB0.out).trans (HCell.out i hi)
  have hB4 : R ≤ 24 ∧ C ≤ 24 := ⟨HR.out.2, HC.out.2⟩
  go_loopw [21] (fun i wr => ∃ k : Nat, k ≤ n ∧ i = .int .i64 k ∧ ∃ A B L D : Int, tS zs R C k = (A, B, L, D) ∧ wr.heap[E1]? = some (Obj.cells #[.int .i64 A, .int .i64 L] 96) ∧ wr.heap[E2]? = some (Obj.cells #[.int .i64 (max B 0), .int .i64 (max D 0)] 96) ∧ Below w2.heap.size w2 wr) (fun i _ => n - (intOf i).toNat)
  case atStart => exact ⟨0, Nat.zero_le _, rfl, _, _, _, _, rfl, K1.out, K2.out, HB3.out⟩
  case round =>
    obtain ⟨k, hk, rfl, A, B, L, D, ht, k1, k2, hb⟩ := hrel
    by_cases hlt : k < n
    · have hki : (k : Int) < (n : Int) := by omega
      obtain ⟨x, hx⟩ : ∃ x, x = zs.getD k 0 := ⟨_, rfl⟩
      have hcx : wr.cell? ⟨b, off + k, none⟩ = some (.int .i64 x) := by rw [hx]; exact cell_keep hb (HCLX.out k hlt)
      have c1 : wr.cell? ⟨N, 1, none⟩ = some (.int .i64 (C : Int)) := cell_keep hb HST.out.2.2.1
      have HT1 := hid ht
      have HX := hid hx
      have HKA := hid k1
      have HKB := hid k2
      have HBW := hid hb
      clear ht hx k1 k2 hb
      by_cases hx1 : x = 1
      · have HX1 := hid hx1
        obtain ⟨X, hX⟩ : ∃ X, X = k / C := ⟨_, rfl⟩
        obtain ⟨Y, hY⟩ : ∃ Y, Y = k % C := ⟨_, rfl⟩
        have hC0 : ¬ (C : Int) = 0 := by have := HC.out; omega
        have eq : (k : Int) / (C : Int) = (X : Int) := by rw [hX, Int.natCast_ediv]
        have em : (k : Int) % (C : Int) = (Y : Int) := by rw [hY, Int.natCast_emod]
        have hXb : X < 24 := by
          have h1 : k / C < R := by rw [Nat.div_lt_iff_lt_mul (by have := HC.out; omega)]; have := HN.out; omega
          omega
        have hYb : Y < 24 := by
          have h1 : k % C < C := Nat.mod_lt _ (by have := HC.out; omega)
          omega
        have HST2 : Hid (tS zs R C (k + 1) = (min A (X : Int), max B (X : Int), min L (Y : Int), max D (Y : Int))) := tS_one HT1.out (by rw [← HX.out]; exact HX1.out) hX.symm hY.symm
        clear hX hY
        subst hx1
        go_wp2_with fail
        go_quiet (fail)
        simp only [em]
        obtain ⟨w5, hw5⟩ : ∃ w5, w5 = wr.drewN nq := ⟨_, rfl⟩
        have HK1 : Hid (w5.heap[E1]? = some (Obj.cells #[.int .i64 A, .int .i64 L] 96)) := by simp only [Hid]; rw [hw5]; exact HKA.out
        have HK2 : Hid (w5.heap[E2]? = some (Obj.cells #[.int .i64 (max B 0), .int .i64 (max D 0)] 96)) := by simp only [Hid]; rw [hw5]; exact HKB.out
        have HB5 : Hid (Below w2.heap.size w2 w5) := by simp only [Hid]; rw [hw5]; exact HBW.out.trans (FSpec.below_drewN' _ _ _)
        simp only [← hw5]
        clear hw5 HKA HKB HBW c1 hcx eq em
        have a0 : w5.cell? ⟨E1, 0, none⟩ = some (.int .i64 A) := Go.Joins.cell_of_block HK1.out 0
        have a1 : w5.cell? ⟨E1, 1, none⟩ = some (.int .i64 L) := Go.Joins.cell_of_block HK1.out 1
        have a2 : w5.cell? ⟨E2, 0, none⟩ = some (.int .i64 (max B 0)) := Go.Joins.cell_of_block HK2.out 0
        have a3 : w5.cell? ⟨E2, 1, none⟩ = some (.int .i64 (max D 0)) := Go.Joins.cell_of_block HK2.out 1
        have f0 : w5.frozen? ⟨E1, 0, none⟩ = false := Go.Joins.unfrozen_of_block HK1.out 0
        have f1 : w5.frozen? ⟨E1, 1, none⟩ = false := Go.Joins.unfrozen_of_block HK1.out 1
        have f2 : w5.frozen? ⟨E2, 0, none⟩ = false := Go.Joins.unfrozen_of_block HK2.out 0
        have f3 : w5.frozen? ⟨E2, 1, none⟩ = false := Go.Joins.unfrozen_of_block HK2.out 1
        have hne := HE.out.2.2
        have v1 : (if (X : Int) < A then (X : Int) else A) = min A (X : Int) := by split <;> omega
        have v2 : (if (Y : Int) < L then (Y : Int) else L) = min L (Y : Int) := by split <;> omega
        have v3 : (if max B 0 < (X : Int) then (X : Int) else max B 0) = max (max B (X : Int)) 0 := by split <;> omega
        have v4 : (if max D 0 < (Y : Int) then (Y : Int) else max D 0) = max (max D (Y : Int)) 0 := by split <;> omega
        have HV := hid (And.intro v1 (And.intro v2 (And.intro v3 v4)))
        clear v1 v2 v3 v4
        go_wp2
        go_roundw
        case rel =>
          simp only [HV.out.1, HV.out.2.1, HV.out.2.2.1, HV.out.2.2.2]
          refine ⟨k + 1, by omega, by go_num, _, _, _, _, HST2.out, ?_, ?_, ?_⟩
          · exact (Below.heap_setCell _ ⟨E2, 1, none⟩ _ E1 hne).trans ((Below.heap_setCell _ ⟨E2, 0, none⟩ _ E1 hne).trans (Go.Joins.block_setCell (i := 1) (Go.Joins.block_setCell (i := 0) HK1.out _) _))
          · exact Go.Joins.block_setCell (i := 1) (Go.Joins.block_setCell (i := 0) ((Below.heap_setCell _ ⟨E1, 1, none⟩ _ E2 (Ne.symm hne)).trans ((Below.heap_setCell _ ⟨E1, 0, none⟩ _ E2 (Ne.symm hne)).trans HK2.out)) _) _
          · exact (((HB5.out.setCell (p := ⟨E1, 0, none⟩) HE.out.1 _).setCell (p := ⟨E1, 1, none⟩) HE.out.1 _).setCell (p := ⟨E2, 0, none⟩) HE.out.2.1 _).setCell (p := ⟨E2, 1, none⟩) HE.out.2.1 _
        case measure => simp [intOf]; omega
      · have hx2 : (x == 1) = false := by simpa using hx1
        have HST2 : Hid (tS zs R C (k + 1) = (A, B, L, D)) := tS_not HT1.out (by rw [← HX.out]; exact hx1)
        clear hx1
        go_wp2
        go_roundw
        case rel => exact ⟨k + 1, by omega, by go_num, A, B, L, D, HST2.out, HKA.out, HKB.out, HBW.out⟩
        case measure => simp [intOf]; omega
    · have hkn : n = k := by omega
      subst hkn
      have hA : A = (ra : Int) ∧ B = ((ra + rc - 1 : Nat) : Int) ∧ L = (rb : Int) ∧ D = ((rb + rd - 1 : Nat) : Int) := by
        have h1 := HTT.out
        rw [ht] at h1
        simpa only [Prod.mk.injEq] using h1
      obtain ⟨rfl, rfl, rfl, rfl⟩ := hA
      have hkk := HK.out
      have hbd := And.intro HR.out.2 HC.out.2
      have q1 : max ((ra + rc - 1 : Nat) : Int) 0 = ((ra + rc - 1 : Nat) : Int) := by omega
      have q2 : max ((rb + rd - 1 : Nat) : Int) 0 = ((rb + rd - 1 : Nat) : Int) := by omega
      have f1 : IntKind.i64.wrap (((ra + rc - 1 : Nat) : Int) - (ra : Int)) = ((ra + rc - 1 : Nat) : Int) - (ra : Int) := by rw [IntKind.wrap_i64]; omega
      have f2 : IntKind.i64.wrap (((ra + rc - 1 : Nat) : Int) - (ra : Int) + 1) = (rc : Int) := by rw [IntKind.wrap_i64]; omega
      have f3 : IntKind.i64.wrap (((rb + rd - 1 : Nat) : Int) - (rb : Int)) = ((rb + rd - 1 : Nat) : Int) - (rb : Int) := by rw [IntKind.wrap_i64]; omega
      have f4 : IntKind.i64.wrap (((rb + rd - 1 : Nat) : Int) - (rb : Int) + 1) = (rd : Int) := by rw [IntKind.wrap_i64]; omega
      rw [q1, q2] at k2
      obtain ⟨U1, hU1⟩ : ∃ U, U = ((ra + rc - 1 : Nat) : Int) := ⟨_, rfl⟩
      obtain ⟨U2, hU2⟩ : ∃ U, U = ((rb + rd - 1 : Nat) : Int) := ⟨_, rfl⟩
      rw [← hU1] at f1 f2 k2
      rw [← hU2] at f3 f4 k2
      have a0 : wr.cell? ⟨E1, 0, none⟩ = some (.int .i64 ra) := Go.Joins.cell_of_block k1 0
      have a1 : wr.cell? ⟨E1, 1, none⟩ = some (.int .i64 rb) := Go.Joins.cell_of_block k1 1
      have a2 : wr.cell? ⟨E2, 0, none⟩ = some (.int .i64 U1) := Go.Joins.cell_of_block k2 0
      have a3 : wr.cell? ⟨E2, 1, none⟩ = some (.int .i64 U2) := Go.Joins.cell_of_block k2 1
      have HBW := hid hb
      have HKA := hid k1
      clear ht hkk hU1 hU2 q1 q2 k1 k2 hb
      go_wp2_with fail
      go_quiet (fail)
      obtain ⟨w5, hw5⟩ : ∃ w5, w5 = wr.drewN nq := ⟨_, rfl⟩
      have HK1 : Hid (w5.heap[E1]? = some (Obj.cells #[.int .i64 ra, .int .i64 rb] 96)) := by simp only [Hid]; rw [hw5]; exact HKA.out
      have HB5 : Hid (Below w2.heap.size w2 w5) := by simp only [Hid]; rw [hw5]; exact HBW.out.trans (FSpec.below_drewN' _ _ _)
      simp only [← hw5]
      clear hw5 HKA HBW a0 a1 a2 a3 f1 f3
      have st := next3_1 HB5.out HST.out
      have HKT5 : Hid (w5.heap[NT]? = some (Obj.cells #[.int .i64 0, .int .i64 0, .slice none 0 0] 26)) := (HB5.out.block NT (Array.getElem?_eq_some_iff.1 HKT.out).1).trans HKT.out
      have HTE : Hid (NT < E1) := by have h1 := (Array.getElem?_eq_some_iff.1 HKT.out).1; have h2 := HE.out; simp only [Hid]; omega
      have a0 : w5.cell? ⟨E1, 0, none⟩ = some (.int .i64 ra) := Go.Joins.cell_of_block HK1.out 0
      have a1 : w5.cell? ⟨E1, 1, none⟩ = some (.int .i64 rb) := Go.Joins.cell_of_block HK1.out 1
      have c0 := st.2.1
      have c1 := st.2.2.1
      have c2 := st.2.2.2.1
      have HST5 := hid st
      clear st
      go_wp2_with fail
      go_at_call 91
      refine (FCut.implOk (rd3_1_0 HST5.out) HQ.out HN.out HK.out HM.out).mono ?_
      rintro e w6 ⟨b', rfl, ow, lo, bel⟩
      have HBb := hid (HST5.out.1.trans (bel.mono HST5.out.1.size))
      have HLo : Hid (w.heap.size ≤ b') := Nat.le_trans HST5.out.2.2.2.2.2 lo
      have HNB : Hid (NT ≠ b') := Nat.ne_of_lt (Nat.lt_of_lt_of_le (Array.getElem?_eq_some_iff.1 HKT5.out).1 lo)
      have kT := (bel.block NT (Array.getElem?_eq_some_iff.1 HKT5.out).1).trans HKT5.out
      have k1 := (bel.block E1 (Array.getElem?_eq_some_iff.1 HK1.out).1).trans HK1.out
      have HO := hid ow
      clear a0 a1 c0 c1 c2 ow lo bel
      go_wp2_with fail
      obtain ⟨w7, hW⟩ : ∃ w7, w7 = w6.alloc (Obj.cells #[.int .i64 rc, .int .i64 rd, .slice (some ⟨b', 0, none⟩) mt mt] 26) := ⟨_, rfl⟩
      obtain ⟨NO, hO⟩ : ∃ NO, NO = w6.heap.size := ⟨_, rfl⟩
      have bel : Below w6.heap.size w6 w7 := by rw [hW]; exact below1 _ _
      have kO : w7.heap[NO]? = some (Obj.cells #[.int .i64 rc, .int .i64 rd, .slice (some ⟨b', 0, none⟩) mt mt] 26) := by rw [hW]; exact FNew.heap_top hO
      have hTO : NT < NO := by rw [hO]; exact (Array.getElem?_eq_some_iff.1 kT).1
      replace kT := (bel.block NT (Array.getElem?_eq_some_iff.1 kT).1).trans kT
      replace k1 := (bel.block E1 (Array.getElem?_eq_some_iff.1 k1).1).trans k1
      have HB7 := hid (HBb.out.trans (bel.mono HBb.out.size))
      have HO7 := hid (HO.out.keep bel)
      simp only [← hW, ← hO]
      clear hW hO bel
      have o0 : w7.cell? ⟨NO, 0, none⟩ = some (.int .i64 rc) := Go.Joins.cell_of_block kO 0
      have o1 : w7.cell? ⟨NO, 1, none⟩ = some (.int .i64 rd) := Go.Joins.cell_of_block kO 1
      have o2 : w7.cell? ⟨NO, 2, none⟩ = some (.slice (some ⟨b', 0, none⟩) mt mt) := Go.Joins.cell_of_block kO 2
      have a0 : w7.cell? ⟨E1, 0, none⟩ = some (.int .i64 ra) := Go.Joins.cell_of_block k1 0
      have a1 : w7.cell? ⟨E1, 1, none⟩ = some (.int .i64 rb) := Go.Joins.cell_of_block k1 1
      have HTO := hid hTO
      have HKT7 := hid kT
      clear kT k1 kO hTO
      refine wp_region_held_drew (S := (fun ww => ww.cell? ⟨NO, 0, none⟩ = some (.int .i64 rc) ∧ ww.cell? ⟨NO, 1, none⟩ = some (.int .i64 rd) ∧ ww.cell? ⟨NO, 2, none⟩ = some (.slice (some ⟨b', 0, none⟩) mt mt) ∧ ww.cell? ⟨E1, 0, none⟩ = some (.int .i64 ra) ∧ ww.cell? ⟨E1, 1, none⟩ = some (.int .i64 rb))) (by kernel_rfl) ?_ (fun hHeld => ?_)
      · ((try dsimp only); exact ⟨o0, o1, o2, a0, a1⟩)
      generalize hD : w7.drew = wD at hHeld ⊢
      have HKD : Hid (wD.heap[NT]? = some (Obj.cells #[.int .i64 0, .int .i64 0, .slice none 0 0] 26)) := by simp only [Hid]; rw [← hD]; exact HKT7.out
      have HBD : Hid (Below w.heap.size w wD) := by simp only [Hid]; rw [← hD]; exact HB7.out.drew
      have HOD : Hid (Own 2 wD b' (.slice (some ⟨b', 0, none⟩) mt mt) (cutL zs C ra rb rc rd)) := by simp only [Hid]; rw [← hD]; exact HO7.out
      clear hD o0 o1 o2 a0 a1
      (refine wpAnyH_take (i := 0) (v := ?_) rfl ?_ ?_ ?_ (fun _ _ _ h => h) (Or.inl ⟨?_, ?_⟩) ?_ ?_; rotate_left 1; (focus decide +kernel); (focus decide +kernel); (focus decide +kernel); (focus rfl); (focus (intro w hSw; (try dsimp only at hSw); go_simp; (try (with_reducible rfl)); done)); (focus assumption); (try simp only [Act.put, List.setIfInBounds_toArray, List.set_cons_zero, List.set_cons_succ, List.getElem_toArray, List.getElem_cons_succ, List.getElem_cons_zero]))
      (refine wpAnyH_take (i := 1) (v := ?_) rfl ?_ ?_ ?_ (fun _ _ _ h => h) (Or.inl ⟨?_, ?_⟩) ?_ ?_; rotate_left 1; (focus decide +kernel); (focus decide +kernel); (focus decide +kernel); (focus rfl); (focus (intro w hSw; (try dsimp only at hSw); go_simp; (try (with_reducible rfl)); done)); (focus assumption); (try simp only [Act.put, List.setIfInBounds_toArray, List.set_cons_zero, List.set_cons_succ, List.getElem_toArray, List.getElem_cons_succ, List.getElem_cons_zero]))
      (refine wpAnyH_take (i := 2) (v := ?_) rfl ?_ ?_ ?_ (fun _ _ _ h => h) (Or.inl ⟨?_, ?_⟩) ?_ ?_; rotate_left 1; (focus decide +kernel); (focus decide +kernel); (focus decide +kernel); (focus rfl); (focus (intro w hSw; (try dsimp only at hSw); go_simp; (try (with_reducible rfl)); done)); (focus assumption); (try simp only [Act.put, List.setIfInBounds_toArray, List.set_cons_zero, List.set_cons_succ, List.getElem_toArray, List.getElem_cons_succ, List.getElem_cons_zero]))
      (refine wpAnyH_take (i := 3) (v := ?_) rfl ?_ ?_ ?_ (fun _ _ _ h => h) (Or.inl ⟨?_, ?_⟩) ?_ ?_; rotate_left 1; (focus decide +kernel); (focus decide +kernel); (focus decide +kernel); (focus rfl); (focus (intro w hSw; (try dsimp only at hSw); go_simp; (try (with_reducible rfl)); done)); (focus assumption); (try simp only [Act.put, List.setIfInBounds_toArray, List.set_cons_zero, List.set_cons_succ, List.getElem_toArray, List.getElem_cons_succ, List.getElem_cons_zero]))
      (refine wpAnyH_take (i := 4) (v := ?_) rfl ?_ ?_ ?_ (fun _ _ _ h => h) (Or.inl ⟨?_, ?_⟩) ?_ ?_; rotate_left 1; (focus decide +kernel); (focus decide +kernel); (focus decide +kernel); (focus rfl); (focus (intro w hSw; (try dsimp only at hSw); go_simp; (try (with_reducible rfl)); done)); (focus assumption); (try simp only [Act.put, List.setIfInBounds_toArray, List.set_cons_zero, List.set_cons_succ, List.getElem_toArray, List.getElem_cons_succ, List.getElem_cons_zero]))
      refine wpAnyH_ready (rs := [5]) ?_ (by simp) ?_
      · decide +kernel
      refine AllReadyH.cons rfl (fun K hK => ?_) AllReadyH.nil
      have y0 : wD.cell? ⟨NT, 0, none⟩ = some (.int .i64 0) := Go.Joins.cell_of_block HKD.out 0
      have y1 : wD.cell? ⟨NT, 1, none⟩ = some (.int .i64 0) := Go.Joins.cell_of_block HKD.out 1
      have y2 : wD.cell? ⟨NT, 2, none⟩ = some (.slice none 0 0) := Go.Joins.cell_of_block HKD.out 2
      have g0 : wD.frozen? ⟨NT, 0, none⟩ = false := Go.Joins.unfrozen_of_block HKD.out 0
      have g1 : wD.frozen? ⟨NT, 1, none⟩ = false := Go.Joins.unfrozen_of_block HKD.out 1
      have g2 : wD.frozen? ⟨NT, 2, none⟩ = false := Go.Joins.unfrozen_of_block HKD.out 2
      have HHx := hid hHeld
      clear hHeld
      go_simp
      obtain ⟨W5, hW⟩ : ∃ W5, W5 = (((wD.setCell ⟨NT, 0, none⟩ (.int .i64 rc)).setCell ⟨NT, 1, none⟩ (.int .i64 rd)).setCell ⟨NT, 2, none⟩ (.slice (some ⟨b', 0, none⟩) mt mt)) := ⟨_, rfl⟩
      have q0 := (Go.Joins.block_setCell (i := 2) (Go.Joins.block_setCell (i := 1) (Go.Joins.block_setCell (i := 0) HKD.out (.int .i64 rc)) (.int .i64 rd)) (.slice (some ⟨b', 0, none⟩) mt mt))
      rw [← hW] at q0
      have z0 : W5.cell? ⟨NT, 0, none⟩ = some (.int .i64 rc) := Go.Joins.cell_of_block q0 0
      have z1 : W5.cell? ⟨NT, 1, none⟩ = some (.int .i64 rd) := Go.Joins.cell_of_block q0 1
      have z2 : W5.cell? ⟨NT, 2, none⟩ = some (.slice (some ⟨b', 0, none⟩) mt mt) := Go.Joins.cell_of_block q0 2
      have O5 := (own_set (own_set (own_set HOD.out ⟨NT, 0, none⟩ (.int .i64 rc) HNB.out) ⟨NT, 1, none⟩ (.int .i64 rd) HNB.out) ⟨NT, 2, none⟩ (.slice (some ⟨b', 0, none⟩) mt mt) HNB.out)
      rw [← hW] at O5
      have B5 : Below w.heap.size w W5 := by
        have h1 := HNT.out
        rw [hW]
        exact ((HBD.out.setCell (by simp; omega) _).setCell (by simp; omega) _).setCell (by simp; omega) _
      refine hK.out _ _ ?_ (fun hHeld5 => ?_)
      · (try dsimp only); exact ⟨FNew.set_cell (FNew.set_cell (FNew.set_cell HHx.out.1 (Nat.ne_of_gt HTO.out)) (Nat.ne_of_gt HTO.out)) (Nat.ne_of_gt HTO.out), FNew.set_cell (FNew.set_cell (FNew.set_cell HHx.out.2.1 (Nat.ne_of_gt HTO.out)) (Nat.ne_of_gt HTO.out)) (Nat.ne_of_gt HTO.out), FNew.set_cell (FNew.set_cell (FNew.set_cell HHx.out.2.2.1 (Nat.ne_of_gt HTO.out)) (Nat.ne_of_gt HTO.out)) (Nat.ne_of_gt HTO.out), FNew.set_cell (FNew.set_cell (FNew.set_cell HHx.out.2.2.2.1 (Nat.ne_of_gt HTE.out)) (Nat.ne_of_gt HTE.out)) (Nat.ne_of_gt HTE.out), FNew.set_cell (FNew.set_cell (FNew.set_cell HHx.out.2.2.2.2 (Nat.ne_of_gt HTE.out)) (Nat.ne_of_gt HTE.out)) (Nat.ne_of_gt HTE.out)⟩
      clear hK K
      simp only [← hW] at hHeld5 ⊢
      clear hW q0 y0 y1 y2 g0 g1 g2
      (try simp only [Act.put, List.setIfInBounds_toArray, List.set_cons_zero, List.set_cons_succ, List.getElem_toArray, List.getElem_cons_succ, List.getElem_cons_zero])
      (refine wpAnyH_take (i := 6) (v := ?_) rfl ?_ ?_ ?_ (fun _ _ _ h => h) (Or.inl ⟨?_, ?_⟩) ?_ ?_; rotate_left 1; (focus decide +kernel); (focus decide +kernel); (focus decide +kernel); (focus rfl); (focus (intro w hSw; (try dsimp only at hSw); go_simp; (try (with_reducible rfl)); done)); (focus assumption); (try simp only [Act.put, List.setIfInBounds_toArray, List.set_cons_zero, List.set_cons_succ, List.getElem_toArray, List.getElem_cons_succ, List.getElem_cons_zero]))
      (refine wpAnyH_take (i := 7) (v := ?_) rfl ?_ ?_ ?_ (fun _ _ _ h => h) (Or.inl ⟨?_, ?_⟩) ?_ ?_; rotate_left 1; (focus decide +kernel); (focus decide +kernel); (focus decide +kernel); (focus rfl); (focus (intro w hSw; (try dsimp only at hSw); go_simp; (try (with_reducible rfl)); done)); (focus assumption); (try simp only [Act.put, List.setIfInBounds_toArray, List.set_cons_zero, List.set_cons_succ, List.getElem_toArray, List.getElem_cons_succ, List.getElem_cons_zero]))
      refine wpAnyH_done (by kernel_rfl) ?_ _
      have HFin := hid (And.intro O5 B5)
      clear O5 B5
      go_wp2
      simp [bodyPost, results, Try.results59, go_sem, z0, z1, z2]
      exact ⟨HFin.out.1, HLo.out, HFin.out.2⟩

set_option maxHeartbeats 4000000 in
theorem specNo1 {w : World} {s r : Int} {b : Nat} {v : Value} {zs : List Int} (h : Rd w b v zs) (h1 : (fieldB s r zs && allB zs 2) = false) :
    Calls Try.prog 22 #[ruleV s r v] w fun e w' => e = .returned (.tuple #[ruleV 0 0 (.slice none 0 0), .int .i64 0, .int .i64 0, .bool false]) ∧ Below w.heap.size w w' := by
  have HH := hid h
  have HQ1 := hid h1
  obtain ⟨ao, cap, rfl, hc, hm, _⟩ := h
  clear hc hm h1
  go_enter Try.func22, Try.ntmps22
  go_wp2_with fail
  obtain ⟨w1, hW⟩ : ∃ w1, w1 = (w.alloc (Obj.cells #[.int .i64 s, .int .i64 r, .slice ao zs.length cap] 26)).alloc (Obj.cells #[.int .i64 0, .int .i64 0, .slice none 0 0] 26) := ⟨_, rfl⟩
  obtain ⟨N, hN⟩ : ∃ N, N = w.heap.size := ⟨_, rfl⟩
  obtain ⟨NT, hM⟩ : ∃ NT, NT = N + 1 := ⟨_, rfl⟩
  have st : Below w.heap.size w w1 ∧ w1.cell? ⟨N, 0, none⟩ = some (.int .i64 s) ∧ w1.cell? ⟨N, 1, none⟩ = some (.int .i64 r) ∧ w1.cell? ⟨N, 2, none⟩ = some (.slice ao zs.length cap) ∧ Rd w1 b (.slice ao zs.length cap) zs ∧ w.heap.size ≤ w1.heap.size := by
    rw [hW, hN]
    exact ⟨Go.Joins.below_alloc2 _ _ _, by simp, by simp, by simp, HH.out.keep (Go.Joins.below_alloc2 _ _ _) (Nat.le_refl _), by simp; omega⟩
  have kT : w1.heap[NT]? = some (Obj.cells #[.int .i64 0, .int .i64 0, .slice none 0 0] 26) := by rw [hW]; exact FNew.heap_top (by rw [hM, hN]; simp)
  have HNT : Hid (w.heap.size ≤ NT) := by simp only [Hid]; omega
  have HNN : Hid (NT = N + 1 ∧ N = w.heap.size) := ⟨hM, hN⟩
  simp only [← hW, ← hN, ← hM]
  clear hW hN hM
  go_at_call 49
  refine (Can.l04Plain (rd3_1_0 st) st.2.1 st.2.2.1 st.2.2.2.1).mono ?_
  rw [HQ1.out]
  rintro e w2 ⟨rfl, m, hw2⟩
  have bel : Below w1.heap.size w1 w2 := by rw [hw2]; exact FSpec.below_drewN' _ _ _
  clear hw2
  replace st := next3_1 bel st
  replace kT := (bel.block NT (Array.getElem?_eq_some_iff.1 kT).1).trans kT
  clear bel

  have HB := hid st.1
  have y0 : w2.cell? ⟨NT, 0, none⟩ = some (.int .i64 0) := Go.Joins.cell_of_block kT 0
  have y1 : w2.cell? ⟨NT, 1, none⟩ = some (.int .i64 0) := Go.Joins.cell_of_block kT 1
  have y2 : w2.cell? ⟨NT, 2, none⟩ = some (.slice none 0 0) := Go.Joins.cell_of_block kT 2
  have g0 : w2.frozen? ⟨NT, 0, none⟩ = false := Go.Joins.unfrozen_of_block kT 0
  have g1 : w2.frozen? ⟨NT, 1, none⟩ = false := Go.Joins.unfrozen_of_block kT 1
  have g2 : w2.frozen? ⟨NT, 2, none⟩ = false := Go.Joins.unfrozen_of_block kT 2
  have HKx := hid kT
  clear kT
  go_wp2
  obtain ⟨W5, hW⟩ : ∃ W5, W5 = (((w2.setCell ⟨NT, 0, none⟩ (.int .i64 0)).setCell ⟨NT, 1, none⟩ (.int .i64 0)).setCell ⟨NT, 2, none⟩ (.slice none 0 0)) := ⟨_, rfl⟩
  have q0 := (Go.Joins.block_setCell (i := 2) (Go.Joins.block_setCell (i := 1) (Go.Joins.block_setCell (i := 0) HKx.out (.int .i64 0)) (.int .i64 0)) (.slice none 0 0))
  rw [← hW] at q0
  have z0 : W5.cell? ⟨NT, 0, none⟩ = some (.int .i64 0) := Go.Joins.cell_of_block q0 0
  have z1 : W5.cell? ⟨NT, 1, none⟩ = some (.int .i64 0) := Go.Joins.cell_of_block q0 1
  have z2 : W5.cell? ⟨NT, 2, none⟩ = some (.slice none 0 0) := Go.Joins.cell_of_block q0 2
  have B5 : Below w.heap.size w W5 := by
    have h1 := HNT.out
    rw [hW]
    exact ((HB.out.setCell (by simp; omega) _).setCell (by simp; omega) _).setCell (by simp; omega) _
  simp only [← hW]
  clear hW q0
  simp [bodyPost, results, Try.results22, go_sem, z0, z1, z2]
  exact B5

set_option maxHeartbeats 4000000 in
theorem specNo2 {w : World} {R C n : Nat} {b : Nat} {v : Value} {zs : List Int} (h : Rd w b v zs) (h1 : (fieldB R C zs && allB zs 2) = true) (hn : n = R * C) (hz : zs.contains 1 = false) :
    Calls Try.prog 22 #[ruleV R C v] w fun e w' => e = .returned (.tuple #[ruleV 0 0 (.slice none 0 0), .int .i64 0, .int .i64 0, .bool false]) ∧ Below w.heap.size w w' := by
  have hf : fieldB R C zs = true := by simp only [Bool.and_eq_true] at h1; exact h1.1
  have HQ1 := hid h1
  have HF := hid hf
  have HH := hid h
  have HN := hid hn
  have HZ := hid hz
  obtain ⟨ao, cap, rfl, hc, hm, _⟩ := h
  have HT : Hid (tS zs R C n = ((R : Int), -1, (C : Int), -1)) := by
    obtain ⟨hR, hC, hl, _⟩ := field_nat hf
    simp only [Hid]; rw [hn]; exact trim_no hR.1 hC.1 hl hz
  clear hc hm h1 hf hn hz
  go_enter Try.func22, Try.ntmps22
  go_wp2_with fail
  obtain ⟨w1, hW⟩ : ∃ w1, w1 = (w.alloc (Obj.cells #[.int .i64 R, .int .i64 C, .slice ao zs.length cap] 26)).alloc (Obj.cells #[.int .i64 0, .int .i64 0, .slice none 0 0] 26) := ⟨_, rfl⟩
  obtain ⟨N, hN⟩ : ∃ N, N = w.heap.size := ⟨_, rfl⟩
  obtain ⟨NT, hM⟩ : ∃ NT, NT = N + 1 := ⟨_, rfl⟩
  have st : Below w.heap.size w w1 ∧ w1.cell? ⟨N, 0, none⟩ = some (.int .i64 R) ∧ w1.cell? ⟨N, 1, none⟩ = some (.int .i64 C) ∧ w1.cell? ⟨N, 2, none⟩ = some (.slice ao zs.length cap) ∧ Rd w1 b (.slice ao zs.length cap) zs ∧ w.heap.size ≤ w1.heap.size := by
    rw [hW, hN]
    exact ⟨Go.Joins.below_alloc2 _ _ _, by simp, by simp, by simp, HH.out.keep (Go.Joins.below_alloc2 _ _ _) (Nat.le_refl _), by simp; omega⟩
  have kT : w1.heap[NT]? = some (Obj.cells #[.int .i64 0, .int .i64 0, .slice none 0 0] 26) := by rw [hW]; exact FNew.heap_top (by rw [hM, hN]; simp)
  have HNT : Hid (w.heap.size ≤ NT) := by simp only [Hid]; omega
  have HNN : Hid (NT = N + 1 ∧ N = w.heap.size) := ⟨hM, hN⟩
  simp only [← hW, ← hN, ← hM]
  clear hW hN hM
  go_at_call 49
  refine (Can.l04Plain (rd3_1_0 st) st.2.1 st.2.2.1 st.2.2.2.1).mono ?_
  rw [HQ1.out]
  rintro e w2 ⟨rfl, m, hw2⟩
  have bel : Below w1.heap.size w1 w2 := by rw [hw2]; exact FSpec.below_drewN' _ _ _
  clear hw2
  replace st := next3_1 bel st
  replace kT := (bel.block NT (Array.getElem?_eq_some_iff.1 kT).1).trans kT
  clear bel
  go_wp2_with fail
  go_at_call 57
  refine (trimNo st.2.1 st.2.2.1 st.2.2.2.1 (rd3_1_0 st) HF.out HN.out HT.out).mono ?_
  rintro e w3 ⟨rfl, bel⟩
  have HB := hid (st.1.trans (bel.mono st.1.size))
  replace kT := (bel.block NT (Array.getElem?_eq_some_iff.1 kT).1).trans kT
  clear st bel
  have y0 : w3.cell? ⟨NT, 0, none⟩ = some (.int .i64 0) := Go.Joins.cell_of_block kT 0
  have y1 : w3.cell? ⟨NT, 1, none⟩ = some (.int .i64 0) := Go.Joins.cell_of_block kT 1
  have y2 : w3.cell? ⟨NT, 2, none⟩ = some (.slice none 0 0) := Go.Joins.cell_of_block kT 2
  have g0 : w3.frozen? ⟨NT, 0, none⟩ = false := Go.Joins.unfrozen_of_block kT 0
  have g1 : w3.frozen? ⟨NT, 1, none⟩ = false := Go.Joins.unfrozen_of_block kT 1
  have g2 : w3.frozen? ⟨NT, 2, none⟩ = false := Go.Joins.unfrozen_of_block kT 2
  have HKx := hid kT
  clear kT
  go_wp2
  obtain ⟨W5, hW⟩ : ∃ W5, W5 = (((w3.setCell ⟨NT, 0, none⟩ (.int .i64 0)).setCell ⟨NT, 1, none⟩ (.int .i64 0)).setCell ⟨NT, 2, none⟩ (.slice none 0 0)) := ⟨_, rfl⟩
  have q0 := (Go.Joins.block_setCell (i := 2) (Go.Joins.block_setCell (i := 1) (Go.Joins.block_setCell (i := 0) HKx.out (.int .i64 0)) (.int .i64 0)) (.slice none 0 0))
  rw [← hW] at q0
  have z0 : W5.cell? ⟨NT, 0, none⟩ = some (.int .i64 0) := Go.Joins.cell_of_block q0 0
  have z1 : W5.cell? ⟨NT, 1, none⟩ = some (.int .i64 0) := Go.Joins.cell_of_block q0 1
  have z2 : W5.cell? ⟨NT, 2, none⟩ = some (.slice none 0 0) := Go.Joins.cell_of_block q0 2
  have B5 : Below w.heap.size w W5 := by
    have h1 := HNT.out
    rw [hW]
    exact ((HB.out.setCell (by simp; omega) _).setCell (by simp; omega) _).setCell (by simp; omega) _
  simp only [← hW]
  clear hW q0
  simp [bodyPost, results, Try.results22, go_sem, z0, z1, z2]
  exact B5

set_option maxHeartbeats 4000000 in
theorem specOk {w : World} {R C n ra rb rc rd mt : Nat} {b : Nat} {v : Value} {zs : List Int} (h : Rd w b v zs) (h1 : (fieldB R C zs && allB zs 2) = true) (hn : n = R * C) (hz : zs.contains 1 = true) (ht : tS zs R C n = ((ra : Int), ((ra + rc - 1 : Nat) : Int), (rb : Int), ((rb + rd - 1 : Nat) : Int))) (hk : ra + rc ≤ R ∧ rb + rd ≤ C ∧ 1 ≤ rc ∧ 1 ≤ rd) (hmt : mt = rc * rd) :
    Calls Try.prog 22 #[ruleV R C v] w fun e w' => ∃ b', e = .returned (.tuple #[ruleV rc rd (.slice (some ⟨b', 0, none⟩) mt mt), .int .i64 ra, .int .i64 rb, .bool true]) ∧ Own 2 w' b' (.slice (some ⟨b', 0, none⟩) mt mt) (cutL zs C ra rb rc rd) ∧ w.heap.size ≤ b' ∧ Below w.heap.size w w' := by
  have hf : fieldB R C zs = true := by simp only [Bool.and_eq_true] at h1; exact h1.1
  have HQ1 := hid h1
  have HF := hid hf
  have HH := hid h
  have HN := hid hn
  have HZ := hid hz
  obtain ⟨ao, cap, rfl, hc, hm, _⟩ := h
  have HT := hid ht
  have HK := hid hk
  have HM := hid hmt
  clear ht hk hmt
  clear hc hm h1 hf hn hz
  go_enter Try.func22, Try.ntmps22
  go_wp2_with fail
  obtain ⟨w1, hW⟩ : ∃ w1, w1 = (w.alloc (Obj.cells #[.int .i64 R, .int .i64 C, .slice ao zs.length cap] 26)).alloc (Obj.cells #[.int .i64 0, .int .i64 0, .slice none 0 0] 26) := ⟨_, rfl⟩
  obtain ⟨N, hN⟩ : ∃ N, N = w.heap.size := ⟨_, rfl⟩
  obtain ⟨NT, hM⟩ : ∃ NT, NT = N + 1 := ⟨_, rfl⟩
  have st : Below w.heap.size w w1 ∧ w1.cell? ⟨N, 0, none⟩ = some (.int .i64 R) ∧ w1.cell? ⟨N, 1, none⟩ = some (.int .i64 C) ∧ w1.cell? ⟨N, 2, none⟩ = some (.slice ao zs.length cap) ∧ Rd w1 b (.slice ao zs.length cap) zs ∧ w.heap.size ≤ w1.heap.size := by
    rw [hW, hN]
    exact ⟨Go.Joins.below_alloc2 _ _ _, by simp, by simp, by simp, HH.out.keep (Go.Joins.below_alloc2 _ _ _) (Nat.le_refl _), by simp; omega⟩
  have kT : w1.heap[NT]? = some (Obj.cells #[.int .i64 0, .int .i64 0, .slice none 0 0] 26) := by rw [hW]; exact FNew.heap_top (by rw [hM, hN]; simp)
  have HNT : Hid (w.heap.size ≤ NT) := by simp only [Hid]; omega
  have HNN : Hid (NT = N + 1 ∧ N = w.heap.size) := ⟨hM, hN⟩
  simp only [← hW, ← hN, ← hM]
  clear hW hN hM
  go_at_call 49
  refine (Can.l04Plain (rd3_1_0 st) st.2.1 st.2.2.1 st.2.2.2.1).mono ?_
  rw [HQ1.out]
  rintro e w2 ⟨rfl, m, hw2⟩
  have bel : Below w1.heap.size w1 w2 := by rw [hw2]; exact FSpec.below_drewN' _ _ _
  clear hw2
  replace st := next3_1 bel st
  replace kT := (bel.block NT (Array.getElem?_eq_some_iff.1 kT).1).trans kT
  clear bel
  go_wp2_with fail
  go_at_call 57
  refine (trimOk st.2.1 st.2.2.1 st.2.2.2.1 (rd3_1_0 st) HF.out HN.out HT.out HK.out HM.out).mono ?_
  rintro e w3 ⟨b', rfl, ow, lo, bel⟩
  have HNB : Hid (NT ≠ b') := Nat.ne_of_lt (Nat.lt_of_lt_of_le (Array.getElem?_eq_some_iff.1 kT).1 lo)
  have HLo : Hid (w.heap.size ≤ b') := Nat.le_trans st.1.size lo
  have HB := hid (st.1.trans (bel.mono st.1.size))
  replace kT := (bel.block NT (Array.getElem?_eq_some_iff.1 kT).1).trans kT
  have HO := hid ow
  clear st ow lo bel
  have y0 : w3.cell? ⟨NT, 0, none⟩ = some (.int .i64 0) := Go.Joins.cell_of_block kT 0
  have y1 : w3.cell? ⟨NT, 1, none⟩ = some (.int .i64 0) := Go.Joins.cell_of_block kT 1
  have y2 : w3.cell? ⟨NT, 2, none⟩ = some (.slice none 0 0) := Go.Joins.cell_of_block kT 2
  have g0 : w3.frozen? ⟨NT, 0, none⟩ = false := Go.Joins.unfrozen_of_block kT 0
  have g1 : w3.frozen? ⟨NT, 1, none⟩ = false := Go.Joins.unfrozen_of_block kT 1
  have g2 : w3.frozen? ⟨NT, 2, none⟩ = false := Go.Joins.unfrozen_of_block kT 2
  have HKx := hid kT
  clear kT
  go_wp2
  obtain ⟨W5, hW⟩ : ∃ W5, W5 = (((w3.setCell ⟨NT, 0, none⟩ (.int .i64 rc)).setCell ⟨NT, 1, none⟩ (.int .i64 rd)).setCell ⟨NT, 2, none⟩ (.slice (some ⟨b', 0, none⟩) mt mt)) := ⟨_, rfl⟩
  have q0 := (Go.Joins.block_setCell (i := 2) (Go.Joins.block_setCell (i := 1) (Go.Joins.block_setCell (i := 0) HKx.out (.int .i64 rc)) (.int .i64 rd)) (.slice (some ⟨b', 0, none⟩) mt mt))
  rw [← hW] at q0
  have z0 : W5.cell? ⟨NT, 0, none⟩ = some (.int .i64 rc) := Go.Joins.cell_of_block q0 0
  have z1 : W5.cell? ⟨NT, 1, none⟩ = some (.int .i64 rd) := Go.Joins.cell_of_block q0 1
  have z2 : W5.cell? ⟨NT, 2, none⟩ = some (.slice (some ⟨b', 0, none⟩) mt mt) := Go.Joins.cell_of_block q0 2
  have O5 := (own_set (own_set (own_set HO.out ⟨NT, 0, none⟩ (.int .i64 rc) HNB.out) ⟨NT, 1, none⟩ (.int .i64 rd) HNB.out) ⟨NT, 2, none⟩ (.slice (some ⟨b', 0, none⟩) mt mt) HNB.out)
  rw [← hW] at O5
  have B5 : Below w.heap.size w W5 := by
    have h1 := HNT.out
    rw [hW]
    exact ((HB.out.setCell (by simp; omega) _).setCell (by simp; omega) _).setCell (by simp; omega) _
  simp only [← hW]
  clear hW q0
  simp [bodyPost, results, Try.results22, go_sem, z0, z1, z2]
  exact ⟨O5, HLo.out, B5⟩

set_option maxHeartbeats 4000000 in
theorem implNo1 {w : World} {s r : Int} {b : Nat} {v : Value} {zs : List Int} (h : Rd w b v zs) (h1 : (fieldB s r zs && allB zs 2) = false) :
    Calls Try.prog 23 #[ruleV s r v] w fun e w' => e = .returned (.tuple #[ruleV 0 0 (.slice none 0 0), .int .i64 0, .int .i64 0, .bool false]) ∧ Below w.heap.size w w' := by
  have HH := hid h
  have HQ1 := hid h1
  obtain ⟨ao, cap, rfl, hc, hm, _⟩ := h
  clear hc hm h1
  go_enter Try.func23, Try.ntmps23
  go_wp2_with fail
  obtain ⟨w1, hW⟩ : ∃ w1, w1 = (w.alloc (Obj.cells #[.int .i64 s, .int .i64 r, .slice ao zs.length cap] 26)).alloc (Obj.cells #[.int .i64 0, .int .i64 0, .slice none 0 0] 26) := ⟨_, rfl⟩
  obtain ⟨N, hN⟩ : ∃ N, N = w.heap.size := ⟨_, rfl⟩
  obtain ⟨NT, hM⟩ : ∃ NT, NT = N + 1 := ⟨_, rfl⟩
  have st : Below w.heap.size w w1 ∧ w1.cell? ⟨N, 0, none⟩ = some (.int .i64 s) ∧ w1.cell? ⟨N, 1, none⟩ = some (.int .i64 r) ∧ w1.cell? ⟨N, 2, none⟩ = some (.slice ao zs.length cap) ∧ Rd w1 b (.slice ao zs.length cap) zs ∧ w.heap.size ≤ w1.heap.size := by
    rw [hW, hN]
    exact ⟨Go.Joins.below_alloc2 _ _ _, by simp, by simp, by simp, HH.out.keep (Go.Joins.below_alloc2 _ _ _) (Nat.le_refl _), by simp; omega⟩
  have kT : w1.heap[NT]? = some (Obj.cells #[.int .i64 0, .int .i64 0, .slice none 0 0] 26) := by rw [hW]; exact FNew.heap_top (by rw [hM, hN]; simp)
  have HNT : Hid (w.heap.size ≤ NT) := by simp only [Hid]; omega
  have HNN : Hid (NT = N + 1 ∧ N = w.heap.size) := ⟨hM, hN⟩
  simp only [← hW, ← hN, ← hM]
  clear hW hN hM
  go_at_call 53
  refine (Can.isPlain (rd3_1_0 st)).mono ?_
  rw [HQ1.out]
  rintro e w2 ⟨rfl, bel⟩
  replace st := next3_1 bel st
  replace kT := (bel.block NT (Array.getElem?_eq_some_iff.1 kT).1).trans kT
  clear bel

  have HB := hid st.1
  have y0 : w2.cell? ⟨NT, 0, none⟩ = some (.int .i64 0) := Go.Joins.cell_of_block kT 0
  have y1 : w2.cell? ⟨NT, 1, none⟩ = some (.int .i64 0) := Go.Joins.cell_of_block kT 1
  have y2 : w2.cell? ⟨NT, 2, none⟩ = some (.slice none 0 0) := Go.Joins.cell_of_block kT 2
  have g0 : w2.frozen? ⟨NT, 0, none⟩ = false := Go.Joins.unfrozen_of_block kT 0
  have g1 : w2.frozen? ⟨NT, 1, none⟩ = false := Go.Joins.unfrozen_of_block kT 1
  have g2 : w2.frozen? ⟨NT, 2, none⟩ = false := Go.Joins.unfrozen_of_block kT 2
  have HKx := hid kT
  clear kT
  go_wp2
  obtain ⟨W5, hW⟩ : ∃ W5, W5 = (((w2.setCell ⟨NT, 0, none⟩ (.int .i64 0)).setCell ⟨NT, 1, none⟩ (.int .i64 0)).setCell ⟨NT, 2, none⟩ (.slice none 0 0)) := ⟨_, rfl⟩
  have q0 := (Go.Joins.block_setCell (i := 2) (Go.Joins.block_setCell (i := 1) (Go.Joins.block_setCell (i := 0) HKx.out (.int .i64 0)) (.int .i64 0)) (.slice none 0 0))
  rw [← hW] at q0
  have z0 : W5.cell? ⟨NT, 0, none⟩ = some (.int .i64 0) := Go.Joins.cell_of_block q0 0
  have z1 : W5.cell? ⟨NT, 1, none⟩ = some (.int .i64 0) := Go.Joins.cell_of_block q0 1
  have z2 : W5.cell? ⟨NT, 2, none⟩ = some (.slice none 0 0) := Go.Joins.cell_of_block q0 2
  have B5 : Below w.heap.size w W5 := by
    have h1 := HNT.out
    rw [hW]
    exact ((HB.out.setCell (by simp; omega) _).setCell (by simp; omega) _).setCell (by simp; omega) _
  simp only [← hW]
  clear hW q0
  simp [bodyPost, results, Try.results23, go_sem, z0, z1, z2]
  exact B5

set_option maxHeartbeats 4000000 in
theorem implNo2 {w : World} {R C n : Nat} {b : Nat} {v : Value} {zs : List Int} (h : Rd w b v zs) (h1 : (fieldB R C zs && allB zs 2) = true) (hn : n = R * C) (hz : zs.contains 1 = false) :
    Calls Try.prog 23 #[ruleV R C v] w fun e w' => e = .returned (.tuple #[ruleV 0 0 (.slice none 0 0), .int .i64 0, .int .i64 0, .bool false]) ∧ Below w.heap.size w w' := by
  have hf : fieldB R C zs = true := by simp only [Bool.and_eq_true] at h1; exact h1.1
  have HQ1 := hid h1
  have HF := hid hf
  have HH := hid h
  have HN := hid hn
  have HZ := hid hz
  obtain ⟨ao, cap, rfl, hc, hm, _⟩ := h
  clear hc hm h1 hf hn hz
  go_enter Try.func23, Try.ntmps23
  go_wp2_with fail
  obtain ⟨w1, hW⟩ : ∃ w1, w1 = (w.alloc (Obj.cells #[.int .i64 R, .int .i64 C, .slice ao zs.length cap] 26)).alloc (Obj.cells #[.int .i64 0, .int .i64 0, .slice none 0 0] 26) := ⟨_, rfl⟩
  obtain ⟨N, hN⟩ : ∃ N, N = w.heap.size := ⟨_, rfl⟩
  obtain ⟨NT, hM⟩ : ∃ NT, NT = N + 1 := ⟨_, rfl⟩
  have st : Below w.heap.size w w1 ∧ w1.cell? ⟨N, 0, none⟩ = some (.int .i64 R) ∧ w1.cell? ⟨N, 1, none⟩ = some (.int .i64 C) ∧ w1.cell? ⟨N, 2, none⟩ = some (.slice ao zs.length cap) ∧ Rd w1 b (.slice ao zs.length cap) zs ∧ w.heap.size ≤ w1.heap.size := by
    rw [hW, hN]
    exact ⟨Go.Joins.below_alloc2 _ _ _, by simp, by simp, by simp, HH.out.keep (Go.Joins.below_alloc2 _ _ _) (Nat.le_refl _), by simp; omega⟩
  have kT : w1.heap[NT]? = some (Obj.cells #[.int .i64 0, .int .i64 0, .slice none 0 0] 26) := by rw [hW]; exact FNew.heap_top (by rw [hM, hN]; simp)
  have HNT : Hid (w.heap.size ≤ NT) := by simp only [Hid]; omega
  have HNN : Hid (NT = N + 1 ∧ N = w.heap.size) := ⟨hM, hN⟩
  simp only [← hW, ← hN, ← hM]
  clear hW hN hM
  go_at_call 53
  refine (Can.isPlain (rd3_1_0 st)).mono ?_
  rw [HQ1.out]
  rintro e w2 ⟨rfl, bel⟩
  replace st := next3_1 bel st
  replace kT := (bel.block NT (Array.getElem?_eq_some_iff.1 kT).1).trans kT
  clear bel
  have c2 := st.2.2.2.1
  go_wp2_with fail
  go_at_call 58
  refine (Con.contains (rd3_1_0 st)).mono ?_
  rw [HZ.out]
  rintro e w3 ⟨rfl, rfl⟩
  clear c2
  have HB := hid st.1
  have y0 : w2.cell? ⟨NT, 0, none⟩ = some (.int .i64 0) := Go.Joins.cell_of_block kT 0
  have y1 : w2.cell? ⟨NT, 1, none⟩ = some (.int .i64 0) := Go.Joins.cell_of_block kT 1
  have y2 : w2.cell? ⟨NT, 2, none⟩ = some (.slice none 0 0) := Go.Joins.cell_of_block kT 2
  have g0 : w2.frozen? ⟨NT, 0, none⟩ = false := Go.Joins.unfrozen_of_block kT 0
  have g1 : w2.frozen? ⟨NT, 1, none⟩ = false := Go.Joins.unfrozen_of_block kT 1
  have g2 : w2.frozen? ⟨NT, 2, none⟩ = false := Go.Joins.unfrozen_of_block kT 2
  have HKx := hid kT
  clear kT
  go_wp2
  obtain ⟨W5, hW⟩ : ∃ W5, W5 = (((w2.setCell ⟨NT, 0, none⟩ (.int .i64 0)).setCell ⟨NT, 1, none⟩ (.int .i64 0)).setCell ⟨NT, 2, none⟩ (.slice none 0 0)) := ⟨_, rfl⟩
  have q0 := (Go.Joins.block_setCell (i := 2) (Go.Joins.block_setCell (i := 1) (Go.Joins.block_setCell (i := 0) HKx.out (.int .i64 0)) (.int .i64 0)) (.slice none 0 0))
  rw [← hW] at q0
  have z0 : W5.cell? ⟨NT, 0, none⟩ = some (.int .i64 0) := Go.Joins.cell_of_block q0 0
  have z1 : W5.cell? ⟨NT, 1, none⟩ = some (.int .i64 0) := Go.Joins.cell_of_block q0 1
  have z2 : W5.cell? ⟨NT, 2, none⟩ = some (.slice none 0 0) := Go.Joins.cell_of_block q0 2
  have B5 : Below w.heap.size w W5 := by
    have h1 := HNT.out
    rw [hW]
    exact ((HB.out.setCell (by simp; omega) _).setCell (by simp; omega) _).setCell (by simp; omega) _
  simp only [← hW]
  clear hW q0
  simp [bodyPost, results, Try.results23, go_sem, z0, z1, z2]
  exact B5

set_option maxHeartbeats 4000000 in
theorem implOk {w : World} {R C n ra rb rc rd mt : Nat} {b : Nat} {v : Value} {zs : List Int} (h : Rd w b v zs) (h1 : (fieldB R C zs && allB zs 2) = true) (hn : n = R * C) (hz : zs.contains 1 = true) (ht : tS zs R C n = ((ra : Int), ((ra + rc - 1 : Nat) : Int), (rb : Int), ((rb + rd - 1 : Nat) : Int))) (hk : ra + rc ≤ R ∧ rb + rd ≤ C ∧ 1 ≤ rc ∧ 1 ≤ rd) (hmt : mt = rc * rd) :
    Calls Try.prog 23 #[ruleV R C v] w fun e w' => ∃ b', e = .returned (.tuple #[ruleV rc rd (.slice (some ⟨b', 0, none⟩) mt mt), .int .i64 ra, .int .i64 rb, .bool true]) ∧ Own 2 w' b' (.slice (some ⟨b', 0, none⟩) mt mt) (cutL zs C ra rb rc rd) ∧ w.heap.size ≤ b' ∧ Below w.heap.size w w' := by
  have hf : fieldB R C zs = true := by simp only [Bool.and_eq_true] at h1; exact h1.1
  have HQ1 := hid h1
  have HF := hid hf
  have HH := hid h
  have HN := hid hn
  have HZ := hid hz
  obtain ⟨ao, cap, rfl, hc, hm, _⟩ := h
  have HT := hid ht
  have HK := hid hk
  have HM := hid hmt
  clear ht hk hmt
  clear hc hm h1 hf hn hz
  go_enter Try.func23, Try.ntmps23
  go_wp2_with fail
  obtain ⟨w1, hW⟩ : ∃ w1, w1 = (w.alloc (Obj.cells #[.int .i64 R, .int .i64 C, .slice ao zs.length cap] 26)).alloc (Obj.cells #[.int .i64 0, .int .i64 0, .slice none 0 0] 26) := ⟨_, rfl⟩
  obtain ⟨N, hN⟩ : ∃ N, N = w.heap.size := ⟨_, rfl⟩
  obtain ⟨NT, hM⟩ : ∃ NT, NT = N + 1 := ⟨_, rfl⟩
  have st : Below w.heap.size w w1 ∧ w1.cell? ⟨N, 0, none⟩ = some (.int .i64 R) ∧ w1.cell? ⟨N, 1, none⟩ = some (.int .i64 C) ∧ w1.cell? ⟨N, 2, none⟩ = some (.slice ao zs.length cap) ∧ Rd w1 b (.slice ao zs.length cap) zs ∧ w.heap.size ≤ w1.heap.size := by
    rw [hW, hN]
    exact ⟨Go.Joins.below_alloc2 _ _ _, by simp, by simp, by simp, HH.out.keep (Go.Joins.below_alloc2 _ _ _) (Nat.le_refl _), by simp; omega⟩
  have kT : w1.heap[NT]? = some (Obj.cells #[.int .i64 0, .int .i64 0, .slice none 0 0] 26) := by rw [hW]; exact FNew.heap_top (by rw [hM, hN]; simp)
  have HNT : Hid (w.heap.size ≤ NT) := by simp only [Hid]; omega
  have HNN : Hid (NT = N + 1 ∧ N = w.heap.size) := ⟨hM, hN⟩
  simp only [← hW, ← hN, ← hM]
  clear hW hN hM
  go_at_call 53
  refine (Can.isPlain (rd3_1_0 st)).mono ?_
  rw [HQ1.out]
  rintro e w2 ⟨rfl, bel⟩
  replace st := next3_1 bel st
  replace kT := (bel.block NT (Array.getElem?_eq_some_iff.1 kT).1).trans kT
  clear bel
  have c2 := st.2.2.2.1
  go_wp2_with fail
  go_at_call 58
  refine (Con.contains (rd3_1_0 st)).mono ?_
  rw [HZ.out]
  rintro e w3 ⟨rfl, rfl⟩
  clear c2
  have c0 := st.2.1
  have c1 := st.2.2.1
  have c2 := st.2.2.2.1
  go_wp2_with fail
  go_at_call 59
  refine (trimmed (rd3_1_0 st) HF.out HN.out HT.out HK.out HM.out).mono ?_
  rintro e w3 ⟨b', rfl, ow, lo, bel⟩
  clear c0 c1 c2
  have HNB : Hid (NT ≠ b') := Nat.ne_of_lt (Nat.lt_of_lt_of_le (Array.getElem?_eq_some_iff.1 kT).1 lo)
  have HLo : Hid (w.heap.size ≤ b') := Nat.le_trans st.1.size lo
  have HB := hid (st.1.trans (bel.mono st.1.size))
  replace kT := (bel.block NT (Array.getElem?_eq_some_iff.1 kT).1).trans kT
  have HO := hid ow
  clear st ow lo bel
  have HO2 := hid (HO.out.keep (below1 _ (Obj.cells #[.int .i64 rc, .int .i64 rd, .slice (some ⟨b', 0, none⟩) mt mt] 26)))
  have HB2 := hid (HB.out.alloc HB.out.size (Obj.cells #[.int .i64 rc, .int .i64 rd, .slice (some ⟨b', 0, none⟩) mt mt] 26))
  replace kT := FNew.heap_old (o' := Obj.cells #[.int .i64 rc, .int .i64 rd, .slice (some ⟨b', 0, none⟩) mt mt] 26) kT
  clear HB
  have HB := HB2
  have y0 : (w3.alloc (Obj.cells #[.int .i64 rc, .int .i64 rd, .slice (some ⟨b', 0, none⟩) mt mt] 26)).cell? ⟨NT, 0, none⟩ = some (.int .i64 0) := Go.Joins.cell_of_block kT 0
  have y1 : (w3.alloc (Obj.cells #[.int .i64 rc, .int .i64 rd, .slice (some ⟨b', 0, none⟩) mt mt] 26)).cell? ⟨NT, 1, none⟩ = some (.int .i64 0) := Go.Joins.cell_of_block kT 1
  have y2 : (w3.alloc (Obj.cells #[.int .i64 rc, .int .i64 rd, .slice (some ⟨b', 0, none⟩) mt mt] 26)).cell? ⟨NT, 2, none⟩ = some (.slice none 0 0) := Go.Joins.cell_of_block kT 2
  have g0 : (w3.alloc (Obj.cells #[.int .i64 rc, .int .i64 rd, .slice (some ⟨b', 0, none⟩) mt mt] 26)).frozen? ⟨NT, 0, none⟩ = false := Go.Joins.unfrozen_of_block kT 0
  have g1 : (w3.alloc (Obj.cells #[.int .i64 rc, .int .i64 rd, .slice (some ⟨b', 0, none⟩) mt mt] 26)).frozen? ⟨NT, 1, none⟩ = false := Go.Joins.unfrozen_of_block kT 1
  have g2 : (w3.alloc (Obj.cells #[.int .i64 rc, .int .i64 rd, .slice (some ⟨b', 0, none⟩) mt mt] 26)).frozen? ⟨NT, 2, none⟩ = false := Go.Joins.unfrozen_of_block kT 2
  have HKx := hid kT
  clear kT
  go_wp2
  obtain ⟨W5, hW⟩ : ∃ W5, W5 = ((((w3.alloc (Obj.cells #[.int .i64 rc, .int .i64 rd, .slice (some ⟨b', 0, none⟩) mt mt] 26)).setCell ⟨NT, 0, none⟩ (.int .i64 rc)).setCell ⟨NT, 1, none⟩ (.int .i64 rd)).setCell ⟨NT, 2, none⟩ (.slice (some ⟨b', 0, none⟩) mt mt)) := ⟨_, rfl⟩
  have q0 := (Go.Joins.block_setCell (i := 2) (Go.Joins.block_setCell (i := 1) (Go.Joins.block_setCell (i := 0) HKx.out (.int .i64 rc)) (.int .i64 rd)) (.slice (some ⟨b', 0, none⟩) mt mt))
  rw [← hW] at q0
  have z0 : W5.cell? ⟨NT, 0, none⟩ = some (.int .i64 rc) := Go.Joins.cell_of_block q0 0
  have z1 : W5.cell? ⟨NT, 1, none⟩ = some (.int .i64 rd) := Go.Joins.cell_of_block q0 1
  have z2 : W5.cell? ⟨NT, 2, none⟩ = some (.slice (some ⟨b', 0, none⟩) mt mt) := Go.Joins.cell_of_block q0 2
  have O5 := (own_set (own_set (own_set HO2.out ⟨NT, 0, none⟩ (.int .i64 rc) HNB.out) ⟨NT, 1, none⟩ (.int .i64 rd) HNB.out) ⟨NT, 2, none⟩ (.slice (some ⟨b', 0, none⟩) mt mt) HNB.out)
  rw [← hW] at O5
  have B5 : Below w.heap.size w W5 := by
    have h1 := HNT.out
    rw [hW]
    exact ((HB.out.setCell (by simp; omega) _).setCell (by simp; omega) _).setCell (by simp; omega) _
  simp only [← hW]
  clear hW q0
  simp [bodyPost, results, Try.results23, go_sem, z0, z1, z2]
  exact ⟨O5, HLo.out, B5⟩

theorem agree (s r : Int) (zs : List Int) : ∃ (qs qr : Int) (rs : List Int) (i1 i2 : Int) (ok : Bool), rs.length ≤ 1000000 ∧
    (∀ (w : World) (b : Nat) (v : Value), Rd w b v zs → Calls Try.prog 22 #[ruleV s r v] w fun e w' => ∃ ao c b', e = .returned (.tuple #[ruleV qs qr (.slice ao rs.length c), .int .i64 i1, .int .i64 i2, .bool ok]) ∧ Own 2 w' b' (.slice ao rs.length c) rs ∧ w.heap.size ≤ b' ∧ Below w.heap.size w w') ∧
    (∀ (w : World) (b : Nat) (v : Value), Rd w b v zs → Calls Try.prog 23 #[ruleV s r v] w fun e w' => ∃ ao c b', e = .returned (.tuple #[ruleV qs qr (.slice ao rs.length c), .int .i64 i1, .int .i64 i2, .bool ok]) ∧ Own 2 w' b' (.slice ao rs.length c) rs ∧ w.heap.size ≤ b' ∧ Below w.heap.size w w') := by
  have fail : ∀ {w w' : World} {e : Ending}, e = .returned (.tuple #[ruleV 0 0 (.slice none 0 0), .int .i64 0, .int .i64 0, .bool false]) ∧ Below w.heap.size w w' → ∃ ao c b', e = .returned (.tuple #[ruleV 0 0 (.slice ao ([] : List Int).length c), .int .i64 0, .int .i64 0, .bool false]) ∧ Own 2 w' b' (.slice ao ([] : List Int).length c) [] ∧ w.heap.size ≤ b' ∧ Below w.heap.size w w' := by
    rintro w w' e ⟨rfl, bel⟩
    exact ⟨none, 0, w.heap.size, rfl, Own.nil _ _ _, Nat.le_refl _, bel⟩
  cases q1 : (fieldB s r zs && allB zs 2) with
  | false => exact ⟨0, 0, [], 0, 0, false, by simp, fun w b v h => (specNo1 h q1).mono fun _ _ => fail, fun w b v h => (implNo1 h q1).mono fun _ _ => fail⟩
  | true =>
    have hf : fieldB s r zs = true := by simp only [Bool.and_eq_true] at q1; exact q1.1
    have hb : (1 ≤ s ∧ s ≤ 24) ∧ 1 ≤ r ∧ r ≤ 24 := by
      have hq2 := hf
      simp only [fieldB, Bool.and_eq_true] at hq2
      have := hq2.1
      simp [sidesB] at this; omega
    obtain ⟨R, rfl⟩ := Int.eq_ofNat_of_zero_le (show 0 ≤ s by omega)
    obtain ⟨C, rfl⟩ := Int.eq_ofNat_of_zero_le (show 0 ≤ r by omega)
    obtain ⟨hR, hC, hl, hle⟩ := field_nat hf
    cases q2 : zs.contains 1 with
    | false => exact ⟨0, 0, [], 0, 0, false, by simp, fun w b v h => (specNo2 h q1 rfl q2).mono fun _ _ => fail, fun w b v h => (implNo2 h q1 rfl q2).mono fun _ _ => fail⟩
    | true =>
      obtain ⟨ra, rb, rc, rd, ht, hk⟩ := trim_ok hR.1 hC.1 hl q2
      have hlen : (cutL zs C ra rb rc rd).length = rc * rd := by unfold cutL; rw [grid_len]
      have h5 : rc * rd ≤ 24 * 24 := Nat.mul_le_mul (by omega) (by omega)
      refine ⟨rc, rd, _, ra, rb, true, by rw [hlen]; omega, fun w b v h => (specOk h q1 rfl q2 ht hk rfl).mono ?_, fun w b v h => (implOk h q1 rfl q2 ht hk rfl).mono ?_⟩
      · rintro e w' ⟨b', rfl, ow, lo, bel⟩
        exact ⟨some ⟨b', 0, none⟩, _, b', by rw [hlen], by rw [hlen]; exact ow, lo, bel⟩
      · rintro e w' ⟨b', rfl, ow, lo, bel⟩
        exact ⟨some ⟨b', 0, none⟩, _, b', by rw [hlen], by rw [hlen]; exact ow, lo, bel⟩

end Go.Proofs.Ytmbimekndhcgaaa.TrI
