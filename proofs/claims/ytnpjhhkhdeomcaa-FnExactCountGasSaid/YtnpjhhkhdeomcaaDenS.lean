/- DenseBlocks of the model, where it does not fail. -/
import Derived.Test.YtnpjhhkhdeomcaaGOwn
import Derived.Test.YtnpjhhkhdeomcaaIsV
import Derived.Test.YtnpjhhkhdeomcaaTrn
import Derived.Test.YtnpjhhkhdeomcaaGrow
import Derived.Test.YtnpjhhkhdeomcaaBlk
namespace Go.Proofs.Ytnpjhhkhdeomcaa.Den
open Go.RowKit Go.Proofs.Ytnpjhhkhdeomcaa.Rd Go.Proofs.Ytnpjhhkhdeomcaa.Rdb Go.Proofs.Ytnpjhhkhdeomcaa.Help Go.Proofs.Ytnpjhhkhdeomcaa.Ring Go.Proofs.Ytnpjhhkhdeomcaa.Small Go.Proofs.Ytnpjhhkhdeomcaa.FVal Go.Proofs.Ytnpjhhkhdeomcaa.Keep Go.Proofs.Ytnpjhhkhdeomcaa.Rule Go.Proofs.Ytnpjhhkhdeomcaa.GVal Go.Proofs.Ytnpjhhkhdeomcaa.GOwn Go.Proofs.Ytnpjhhkhdeomcaa.Trn Go.Proofs.Ytnpjhhkhdeomcaa.Rev Go.Proofs.Ytnpjhhkhdeomcaa.Blk Go.Proofs.Ytnpjhhkhdeomcaa.Ones
set_option linter.unusedVariables false
set_option linter.unusedSimpArgs false
theorem w64s {n : Nat} (h : n ≤ 1000) : wrap64 (n : Int) = (n : Int) := by unfold wrap64; omega
theorem i64s {n : Nat} (h : n ≤ 1000) : IntKind.i64.wrap (n : Int) = (n : Int) := by rw [IntKind.wrap_i64]; omega
theorem w64m {a b : Nat} (h : a * b ≤ 1000) : wrap64 ((a : Int) * (b : Int)) = ((a * b : Nat) : Int) := by
  rw [← Int.natCast_mul]; exact w64s h
theorem i64m {a b : Nat} (h : a * b ≤ 1000) : IntKind.i64.wrap ((a : Int) * (b : Int)) = ((a * b : Nat) : Int) := by
  rw [← Int.natCast_mul]; exact i64s h
theorem i64a {a b c : Nat} (hc : c = a + b) (h : c ≤ 1000) : IntKind.i64.wrap ((a : Int) + (b : Int)) = (c : Int) := by
  rw [hc, ← Int.natCast_add]; exact i64s (by omega)
theorem i64v {y : Int} (h : 0 ≤ y ∧ y ≤ 100000) : IntKind.i64.wrap y = y := by rw [IntKind.wrap_i64]; omega
theorem div_le16 {a b : Nat} (h : a ≤ 16) : a / b ≤ 16 := Nat.le_trans (Nat.div_le_self _ _) h
theorem mul_le16 {a b : Nat} (h : a ≤ 16) (h2 : b ≤ 16) : a * b ≤ 256 := Nat.le_trans (Nat.mul_le_mul h h2) (by decide)
/-- The block of the cell t. -/
def fB (C A B t : Nat) : Nat := t / C / A * (C / B) + t % C / B
theorem fB_lt {R C A B t : Nat} (hA : 1 ≤ A) (hB : 1 ≤ B) (hC : 1 ≤ C) (hr : R % A = 0) (hc : C % B = 0) (ht : t < R * C) : fB C A B t < R / A * (C / B) := by
  unfold fB
  have h1 : t / C < R := Nat.div_lt_of_lt_mul (by rw [Nat.mul_comm]; exact ht)
  have h2 : t / C / A < R / A := Nat.div_lt_of_lt_mul (by rw [Nat.mul_comm, Nat.div_mul_cancel (Nat.dvd_of_mod_eq_zero hr)]; exact h1)
  have h3 : t % C / B < C / B := Nat.div_lt_of_lt_mul (by rw [Nat.mul_comm, Nat.div_mul_cancel (Nat.dvd_of_mod_eq_zero hc)]; exact Nat.mod_lt _ (by omega))
  exact Grow.pos_bd h2 h3
theorem fB_at {C A B p q : Nat} (hq : q < C) : fB C A B (p * C + q) = p / A * (C / B) + q / B := by
  unfold fB
  rw [(Grow.pos_div hq).1, (Grow.pos_div hq).2]
set_option maxHeartbeats 16000000 in
set_option maxRecDepth 8000 in
theorem sOk {w : World} {g : Int} {R C A B : Nat} {b1 b2 : Nat} {v1 v2 : Value} {xs : List Int} {ys : List Bool} (h1 : Rd w b1 v1 xs) (h2 : RdB w b2 v2 ys) (hq : gasB g R C xs ys = true) (hA : 1 ≤ A ∧ A ≤ 16) (hB : 1 ≤ B ∧ B ≤ 16) (hr : R % A = 0) (hc : C % B = 0) :
    Calls Try.prog 29 #[gasV g R C v1 v2, .int .i64 A, .int .i64 B] w fun e w' => ∃ p, e = .returned (.tuple #[.slice (some ⟨p, 0, none⟩) (R / A * (C / B)) (R / A * (C / B)), .bool true]) ∧ Own 2 w' p (.slice (some ⟨p, 0, none⟩) (R / A * (C / B)) (R / A * (C / B))) (blk xs (fB C A B) (R / A * (C / B)) (R * C)) ∧ w.heap.size ≤ p ∧ Below w.heap.size w w' := by
  obtain ⟨hg4, hn, hn256, hym, hcb⟩ := gas_parts hq
  have hRC : (1 ≤ R ∧ R ≤ 16) ∧ (1 ≤ C ∧ C ≤ 16) ∧ xs.length = R * C := by
    simp only [gasB, Bool.and_eq_true, decide_eq_true_eq] at hq
    obtain ⟨_, h2, h3, _, _⟩ := hq
    simp [sd16] at h2
    exact ⟨by omega, by omega, by have e3 : ((R * C : Nat) : Int) = (R : Int) * C := by simp
                                  omega⟩
  have H1 := hid h1
  have H2 := hid h2
  have HQ := hid hq
  have HCB := hid hcb
  have HTP : Hid (top g ≤ 63) := by rcases hg4 with rfl | rfl <;> simp [Hid, top]
  obtain ⟨ao1, cap1, rfl, hc1, hm1, h41⟩ := h1
  obtain ⟨ao2, cap2, rfl, hc2, hm2, h42⟩ := h2
  obtain ⟨off1, rfl, hb1, hcell1⟩ := h41 (by omega)
  have HC1 := hid hcell1
  have HBL := hid hb1
  obtain ⟨hR, hC, hnn⟩ := hRC
  have HRR := hid hR
  have HCC := hid hC
  have HNX := hid hnn
  have HLE : Hid (1 ≤ xs.length ∧ xs.length ≤ 256) := ⟨hn, hn256⟩
  have hA0 : ¬ A = 0 := Nat.ne_of_gt hA.1
  have hB0 : ¬ B = 0 := Nat.ne_of_gt hB.1
  have HAB := hid (And.intro hA (And.intro hB (And.intro hr hc)))
  obtain ⟨W, hW⟩ : ∃ W, W = C / B := ⟨_, rfl⟩
  obtain ⟨H, hH⟩ : ∃ H, H = R / A := ⟨_, rfl⟩
  have hWb : W ≤ 16 := by rw [hW]; exact div_le16 hC.2
  have hHb : H ≤ 16 := by rw [hH]; exact div_le16 hR.2
  have hHW : H * W ≤ 256 := mul_le16 hHb hWb
  obtain ⟨M, hM⟩ : ∃ M, M = H * W := ⟨_, rfl⟩
  have hM256 : M ≤ 256 := by rw [hM]; exact hHW
  have HMM := hid hM
  have HM6 := hid hM256
  have HWE := hid hW
  have HHE := hid hH
  have eW : ((C : Int) / (B : Int)) = (W : Int) := by rw [hW]; simp
  have eH : ((R : Int) / (A : Int)) = (H : Int) := by rw [hH]; simp
  have eHW : IntKind.i64.wrap ((H : Int) * (W : Int)) = (M : Int) := by rw [hM]; exact i64m (Nat.le_trans hHW (by decide))
  have vHW : wrap64 ((H : Int) * (W : Int)) = (M : Int) := by rw [hM]; exact w64m (Nat.le_trans hHW (by decide))
  have iW : IntKind.i64.wrap (W : Int) = (W : Int) := i64s (Nat.le_trans hWb (by decide))
  have iH : IntKind.i64.wrap (H : Int) = (H : Int) := i64s (Nat.le_trans hHb (by decide))
  rw [← hW, ← hH, ← hM]
  clear hM hM256 hHW hq hcb hg4 hc1 hm1 h41 hc2 hm2 h42 hb1 hcell1 hn hn256 hym hW hH hnn
  have HSD : Hid (sd16 A B = true) := by simp [Hid, sd16]; omega
  have hrT : (((R : Int) % (A : Int)) != 0) = false := by
    have : ((R % A : Nat) : Int) = (R : Int) % A := by simp
    rw [← this, hr]; rfl
  have hcT : (((C : Int) % (B : Int)) != 0) = false := by
    have : ((C % B : Nat) : Int) = (C : Int) % B := by simp
    rw [← this, hc]; rfl
  have hmk := run_make_row' (P := Try.prog) 22 2 (.int .i64 0) 8 Try.underlying22 infoI rfl .i64 .i64 M (show 8 * M ≤ 281474976710656 from Nat.le_trans (Nat.mul_le_mul_left 8 HM6.out) (by decide)) (show M ≤ 9223372036854775807 from Nat.le_trans HM6.out (by decide))
  go_enter Try.func29, Try.ntmps29
  go_wp2_with fail
  obtain ⟨w1, hW⟩ : ∃ w1, w1 = w.alloc (Obj.cells #[.int .i64 g, .int .i64 R, .int .i64 C, (Value.slice (some ⟨b1, off1, none⟩) xs.length cap1), (Value.slice ao2 ys.length cap2)] 31) := ⟨_, rfl⟩
  obtain ⟨N, hN⟩ : ∃ N, N = w.heap.size := ⟨_, rfl⟩
  have st : Below w.heap.size w w1 ∧ w1.cell? ⟨N, 0, none⟩ = some (.int .i64 g) ∧ w1.cell? ⟨N, 1, none⟩ = some (.int .i64 R) ∧ w1.cell? ⟨N, 2, none⟩ = some (.int .i64 C) ∧ w1.cell? ⟨N, 3, none⟩ = some ((Value.slice (some ⟨b1, off1, none⟩) xs.length cap1)) ∧ w1.cell? ⟨N, 4, none⟩ = some ((Value.slice ao2 ys.length cap2)) ∧ Rd w1 b1 (Value.slice (some ⟨b1, off1, none⟩) xs.length cap1) xs ∧ RdB w1 b2 (Value.slice ao2 ys.length cap2) ys ∧ w.heap.size ≤ w1.heap.size := by
    rw [hW, hN]
    exact ⟨below1 _ _, by simp, by simp, by simp, by simp, by simp, H1.out.keep (below1 _ _) (Nat.le_refl _), H2.out.keep (below1 _ _) (Nat.le_refl _), by simp⟩
  have HNN : Hid (N < w1.heap.size ∧ N = w.heap.size) := ⟨by rw [hW, hN]; simp, hN⟩
  simp only [← hW, ← hN]
  clear hW hN
  go_at_call 39
  refine (GVal.l06Is st.2.1 st.2.2.1 st.2.2.2.1 st.2.2.2.2.1 st.2.2.2.2.2.1 (rdx5_IB_0 st) (rdx5_IB_1 st)).mono ?_
  rw [HQ.out]
  rintro e w2 ⟨rfl, hm⟩
  have bel : Below w1.heap.size w1 w2 := by obtain ⟨m, hm⟩ := hm; rw [hm]; exact Help.below_drewN _ _ _
  clear hm
  replace st := nx5_IB bel st
  have HNN2 := hid (Nat.lt_of_lt_of_le HNN.out.1 bel.size)
  clear bel
  have c1 := st.2.2.1
  have c2 := st.2.2.2.1
  have c1m : (w2.alloc (.cells (madeCells #[.int .i64 0] M) 2)).cell? ⟨N, 1, none⟩ = some (.int .i64 R) := cell_keep (below1 _ _) c1
  go_wp2_with (go_at_call 58; refine GVal.l06Sides.mono ?_; rw [HSD.out]; rintro e w' ⟨rfl, rfl⟩)
  clear c1 c2 c1m vHW hrT hcT eH eHW iH
  obtain ⟨w4, hW4⟩ : ∃ w4, w4 = (w2.alloc (.cells (madeCells #[.int .i64 0] M) 2)) := ⟨_, rfl⟩
  obtain ⟨p, hp⟩ : ∃ p, p = w2.heap.size := ⟨_, rfl⟩
  have bel : Below w2.heap.size w2 w4 := by rw [hW4]; exact below1 _ _
  have HOP : Hid (Own 2 w4 p (Value.slice (some ⟨p, 0, none⟩) M M) (List.replicate M 0)) := by rw [hW4, hp]; exact Own.made 2 w2 M (Nat.le_trans HM6.out (by decide))
  have HAp : Hid (N < p ∧ w.heap.size ≤ p) := ⟨by rw [hp]; exact HNN2.out, by rw [hp]; exact st.1.size⟩
  replace st := nx5_IB bel st
  have HSX := hid st
  simp only [← hW4, ← hp]
  clear st bel hW4 hp
  go_loopw [10] (fun i wr => ∃ k : Nat, k ≤ R ∧ i = .int .i64 k ∧ Own 2 wr p (Value.slice (some ⟨p, 0, none⟩) M M) (blk xs (fB C A B) M (k * C)) ∧ w4.grownBy wr (some p)) (fun i _ => R - (intOf i).toNat)
  case atStart => exact ⟨0, Nat.zero_le _, rfl, by rw [Nat.zero_mul]; exact HOP.out, World.grownBy.refl _ _⟩
  case round =>
    obtain ⟨k, hk, rfl, hown, hg⟩ := hrel
    have hpN : N ≠ p := Nat.ne_of_lt HAp.out.1
    have c0 := Grow.g_cell hg HSX.out.2.1 hpN
    have c1 := Grow.g_cell hg HSX.out.2.2.1 hpN
    have c2 := Grow.g_cell hg HSX.out.2.2.2.1 hpN
    have c3 := Grow.g_cell hg HSX.out.2.2.2.2.1 hpN
    have c4 := Grow.g_cell hg HSX.out.2.2.2.2.2.1 hpN
    by_cases hlt : k < R
    · have HO0 := hid hown
      have HG0 := hid hg
      have hki : (k : Int) < (R : Int) := by omega
      clear hown hg
      go_wp2
      clear c0 c1 c2 c3 c4
      go_loopw [11] (fun j wx => ∃ l : Nat, l ≤ C ∧ j = .int .i64 l ∧ Own 2 wx p (Value.slice (some ⟨p, 0, none⟩) M M) (blk xs (fB C A B) M (k * C + l)) ∧ w4.grownBy wx (some p)) (fun j _ => C - (intOf j).toNat)
      case atStart => exact ⟨0, Nat.zero_le _, rfl, HO0.out, HG0.out⟩
      case round =>
        obtain ⟨l, hl, rfl, hown, hg⟩ := hrel
        have c0 := Grow.g_cell hg HSX.out.2.1 hpN
        have c1 := Grow.g_cell hg HSX.out.2.2.1 hpN
        have c2 := Grow.g_cell hg HSX.out.2.2.2.1 hpN
        have c3 := Grow.g_cell hg HSX.out.2.2.2.2.1 hpN
        have c4 := Grow.g_cell hg HSX.out.2.2.2.2.2.1 hpN
        by_cases hll : l < C
        · obtain ⟨T, hT⟩ : ∃ T, T = k * C + l := ⟨_, rfl⟩
          have HT := hid hT
          have hTn : T < xs.length := by rw [hT, HNX.out]; exact Grow.pos_bd hlt hll
          obtain ⟨z, hz⟩ : ∃ z, z = xs.getD T 0 := ⟨_, rfl⟩
          have hzb := cell_bd HCB.out hTn
          rw [← hz] at hzb
          obtain ⟨x, rfl⟩ := Int.eq_ofNat_of_zero_le hzb.1
          have HXB : Hid (x < 64) := by have := HTP.out; simp only [Hid]; omega
          have HX : Hid ((xs.getD T 0).toNat = x) := by simp only [Hid]; rw [← hz]; rfl
          have hpb : b1 ≠ p := Nat.ne_of_lt (Nat.lt_of_lt_of_le HBL.out HAp.out.2)
          have hcx : wr.cell? ⟨b1, off1 + T, none⟩ = some (.int .i64 (x : Int)) := Grow.g_cell hg (by rw [hz]; exact (HSX.out.1.cell (p := ⟨b1, off1 + T, none⟩) HBL.out).trans (HC1.out T hTn)) hpb
          obtain ⟨IDX, hI⟩ : ∃ IDX, IDX = k / A * W + l / B := ⟨_, rfl⟩
          have HFT : Hid (fB C A B T = IDX) := by simp only [Hid]; rw [hT, fB_at hll, hI, HWE.out]
          have HIX : Hid (IDX < M) := by simp only [Hid]; rw [HMM.out, ← HFT.out, HHE.out, HWE.out]; exact fB_lt HAB.out.1.1 HAB.out.2.1.1 HCC.out.1 HAB.out.2.2.1 HAB.out.2.2.2 (by rw [← HNX.out]; exact hTn)
          obtain ⟨y, hy⟩ : ∃ y, y = (blk xs (fB C A B) M T).getD IDX 0 := ⟨_, rfl⟩
          have hyb := blk_bd xs (fB C A B) M T IDX
          rw [← hy] at hyb
          have HY := hid hy
          obtain ⟨KA, hKA⟩ : ∃ KA, KA = k / A := ⟨_, rfl⟩
          obtain ⟨LB, hLB⟩ : ∃ LB, LB = l / B := ⟨_, rfl⟩
          obtain ⟨KW, hKW⟩ : ∃ KW, KW = KA * W := ⟨_, rfl⟩
          obtain ⟨KC, hKC⟩ : ∃ KC, KC = k * C := ⟨_, rfl⟩
          have d1 : ((k : Int) / (A : Int)) = (KA : Int) := by rw [hKA]; simp
          have d2 : ((l : Int) / (B : Int)) = (LB : Int) := by rw [hLB]; simp
          have hI2 : IDX = KW + LB := by rw [hI, hKW, hKA, hLB]
          have hT2 : T = KC + l := by rw [hT, hKC]
          have hk16 : KA ≤ 16 := by rw [hKA]; exact div_le16 (Nat.le_trans (Nat.le_of_lt hlt) HRR.out.2)
          have hl16 : LB ≤ 16 := by rw [hLB]; exact div_le16 (Nat.le_trans (Nat.le_of_lt hll) HCC.out.2)
          have hI256 : IDX ≤ 1000 := Nat.le_trans (Nat.le_of_lt HIX.out) (Nat.le_trans HM6.out (by decide))
          have hT256 : T ≤ 1000 := Nat.le_trans (Nat.le_of_lt hTn) (Nat.le_trans HLE.out.2 (by decide))
          have d3 : IntKind.i64.wrap ((KA : Int) * (W : Int)) = (KW : Int) := by rw [hKW]; exact i64m (by rw [← hKW]; exact Nat.le_trans (Nat.le_trans (Nat.le_add_right _ _) (Nat.le_of_eq hI2.symm)) hI256)
          have d4 : IntKind.i64.wrap ((KW : Int) + (LB : Int)) = (IDX : Int) := i64a hI2 hI256
          have d5 : IntKind.i64.wrap ((k : Int) * (C : Int)) = (KC : Int) := by rw [hKC]; exact i64m (by rw [← hKC]; exact Nat.le_trans (Nat.le_trans (Nat.le_add_right _ _) (Nat.le_of_eq hT2.symm)) hT256)
          have d6 : IntKind.i64.wrap ((KC : Int) + (l : Int)) = (T : Int) := i64a hT2 hT256
          have d7 : IntKind.i64.wrap (y + (popN x : Int)) = y + (popN x : Int) := i64v (by have hpp := pop_le (m := x); clear hT hI d1 d2 d3 d4 d5 d6 hI2 hT2 hKA hLB hKW hKC; omega)
          have d8 : IntKind.i64.wrap (KA : Int) = (KA : Int) := i64s (Nat.le_trans hk16 (by decide))
          have d9 : IntKind.i64.wrap (LB : Int) = (LB : Int) := i64s (Nat.le_trans hl16 (by decide))
          have hIi : (IDX : Int) < (M : Int) := Int.ofNat_lt.2 HIX.out
          have hTi : (T : Int) < (xs.length : Int) := Int.ofNat_lt.2 hTn
          have hli : (l : Int) < (C : Int) := Int.ofNat_lt.2 hll
          rw [← hT] at hown
          have HO1 := hid hown
          have HG1 := hid hg
          clear hown hg hz hzb hy hyb hT hI hk16 hl16 hI256 hT256 hKA hLB hKW hKC hI2 hT2
          go_wp2_with fail
          refine wp_region_held_drew (S := (fun ww => w4.grownBy ww (some p) ∧ ww.cell? ⟨N, 2, none⟩ = some (.int .i64 C) ∧ ww.cell? ⟨N, 3, none⟩ = some ((Value.slice (some ⟨b1, off1, none⟩) xs.length cap1)) ∧ ww.cell? ⟨b1, off1 + T, none⟩ = some (.int .i64 (x : Int)) ∧ w4.heap.size ≤ ww.heap.size)) (by kernel_rfl) ?_ (fun hHeld => ?_)
          · ((try dsimp only); exact ⟨Grow.g_drew HG1.out, c2, c3, hcx, HG1.out.size⟩)
          have ow : Own 2 wr.drew p (Value.slice (some ⟨p, 0, none⟩) M M) (blk xs (fB C A B) M T) := HO1.out
          generalize hD : wr.drew = wD at hHeld ow ⊢
          clear hcx c0 c1 c2 c3 c4 hD
          (refine wpAnyH_take (i := 0) (v := ?_) rfl ?_ ?_ ?_ (fun _ _ _ h => h) (Or.inl ⟨?_, ?_⟩) ?_ ?_; rotate_left 1; (focus decide +kernel); (focus decide +kernel); (focus decide +kernel); (focus rfl); (focus (intro w hSw; (try dsimp only at hSw); go_simp; (try (with_reducible rfl)); done)); (focus assumption); (try simp only [Act.put, List.setIfInBounds_toArray, List.set_cons_zero, List.set_cons_succ, List.getElem_toArray, List.getElem_cons_succ, List.getElem_cons_zero]))
          (refine wpAnyH_take (i := 1) (v := ?_) rfl ?_ ?_ ?_ (fun _ _ _ h => h) (Or.inl ⟨?_, ?_⟩) ?_ ?_; rotate_left 1; (focus decide +kernel); (focus decide +kernel); (focus decide +kernel); (focus rfl); (focus (intro w hSw; (try dsimp only at hSw); go_simp; (try (with_reducible rfl)); done)); (focus assumption); (try simp only [Act.put, List.setIfInBounds_toArray, List.set_cons_zero, List.set_cons_succ, List.getElem_toArray, List.getElem_cons_succ, List.getElem_cons_zero]))
          (refine wpAnyH_take (i := 2) (v := ?_) rfl ?_ ?_ ?_ (fun _ _ _ h => h) (Or.inl ⟨?_, ?_⟩) ?_ ?_; rotate_left 1; (focus decide +kernel); (focus decide +kernel); (focus decide +kernel); (focus rfl); (focus (intro w hSw; (try dsimp only at hSw); go_simp; (try (with_reducible rfl)); done)); (focus assumption); (try simp only [Act.put, List.setIfInBounds_toArray, List.set_cons_zero, List.set_cons_succ, List.getElem_toArray, List.getElem_cons_succ, List.getElem_cons_zero]))
          (refine wpAnyH_take (i := 3) (v := ?_) rfl ?_ ?_ ?_ (fun _ _ _ h => h) (Or.inl ⟨?_, ?_⟩) ?_ ?_; rotate_left 1; (focus decide +kernel); (focus decide +kernel); (focus decide +kernel); (focus rfl); (focus (intro w hSw; (try dsimp only at hSw); go_simp; (try (with_reducible rfl)); done)); (focus assumption); (try simp only [Act.put, List.setIfInBounds_toArray, List.set_cons_zero, List.set_cons_succ, List.getElem_toArray, List.getElem_cons_succ, List.getElem_cons_zero]))
          (refine wpAnyH_take (i := 4) (v := ?_) rfl ?_ ?_ ?_ (fun _ _ _ h => h) (Or.inl ⟨?_, ?_⟩) ?_ ?_; rotate_left 1; (focus decide +kernel); (focus decide +kernel); (focus decide +kernel); (focus rfl); (focus (intro w hSw; (try dsimp only at hSw); go_simp; (try (with_reducible rfl)); done)); (focus assumption); (try simp only [Act.put, List.setIfInBounds_toArray, List.set_cons_zero, List.set_cons_succ, List.getElem_toArray, List.getElem_cons_succ, List.getElem_cons_zero]))
          (refine wpAnyH_take (i := 5) (v := ?_) rfl ?_ ?_ ?_ (fun _ _ _ h => h) (Or.inl ⟨?_, ?_⟩) ?_ ?_; rotate_left 1; (focus decide +kernel); (focus decide +kernel); (focus decide +kernel); (focus rfl); (focus (intro w hSw; (try dsimp only at hSw); go_simp; (try (with_reducible rfl)); done)); (focus assumption); (try simp only [Act.put, List.setIfInBounds_toArray, List.set_cons_zero, List.set_cons_succ, List.getElem_toArray, List.getElem_cons_succ, List.getElem_cons_zero]))
          (refine wpAnyH_take (i := 6) (v := ?_) rfl ?_ ?_ ?_ (fun _ _ _ h => h) (Or.inl ⟨?_, ?_⟩) ?_ ?_; rotate_left 1; (focus decide +kernel); (focus decide +kernel); (focus decide +kernel); (focus rfl); (focus (intro w hSw; (try dsimp only at hSw); go_simp; (try (with_reducible rfl)); done)); (focus assumption); (try simp only [Act.put, List.setIfInBounds_toArray, List.set_cons_zero, List.set_cons_succ, List.getElem_toArray, List.getElem_cons_succ, List.getElem_cons_zero]))
          (refine wpAnyH_take (i := 7) (v := ?_) rfl ?_ ?_ ?_ (fun _ _ _ h => h) (Or.inl ⟨?_, ?_⟩) ?_ ?_; rotate_left 1; (focus decide +kernel); (focus decide +kernel); (focus decide +kernel); (focus rfl); (focus (intro w hSw; (try dsimp only at hSw); go_simp; (try (with_reducible rfl)); done)); (focus assumption); (try simp only [Act.put, List.setIfInBounds_toArray, List.set_cons_zero, List.set_cons_succ, List.getElem_toArray, List.getElem_cons_succ, List.getElem_cons_zero]))
          (refine wpAnyH_take (i := 8) (v := ?_) rfl ?_ ?_ ?_ (fun _ _ _ h => h) (Or.inl ⟨?_, ?_⟩) ?_ ?_; rotate_left 1; (focus decide +kernel); (focus decide +kernel); (focus decide +kernel); (focus rfl); (focus (intro w hSw; (try dsimp only at hSw); go_simp; (try (with_reducible rfl)); done)); (focus assumption); (try simp only [Act.put, List.setIfInBounds_toArray, List.set_cons_zero, List.set_cons_succ, List.getElem_toArray, List.getElem_cons_succ, List.getElem_cons_zero]))
          (refine wpAnyH_take (i := 9) (v := ?_) rfl ?_ ?_ ?_ (fun _ _ _ h => h) (Or.inl ⟨?_, ?_⟩) ?_ ?_; rotate_left 1; (focus decide +kernel); (focus decide +kernel); (focus decide +kernel); (focus rfl); (focus (intro w hSw; (try dsimp only at hSw); go_simp; (try (with_reducible rfl)); done)); (focus assumption); (try simp only [Act.put, List.setIfInBounds_toArray, List.set_cons_zero, List.set_cons_succ, List.getElem_toArray, List.getElem_cons_succ, List.getElem_cons_zero]))
          (refine wpAnyH_take (i := 10) (v := ?_) rfl ?_ ?_ ?_ (fun _ _ _ h => h) (Or.inl ⟨?_, ?_⟩) ?_ ?_; rotate_left 1; (focus decide +kernel); (focus decide +kernel); (focus decide +kernel); (focus rfl); (focus (intro w hSw; (try dsimp only at hSw); go_simp; (try (with_reducible rfl)); done)); (focus assumption); (try simp only [Act.put, List.setIfInBounds_toArray, List.set_cons_zero, List.set_cons_succ, List.getElem_toArray, List.getElem_cons_succ, List.getElem_cons_zero]))
          (refine wpAnyH_take (i := 12) (v := ?_) rfl ?_ ?_ ?_ (fun _ _ _ h => h) (Or.inl ⟨?_, ?_⟩) ?_ ?_; rotate_left 1; (focus decide +kernel); (focus decide +kernel); (focus decide +kernel); (focus rfl); (focus (intro w hSw; (try dsimp only at hSw); go_simp; (try (with_reducible rfl)); done)); (focus assumption); (try simp only [Act.put, List.setIfInBounds_toArray, List.set_cons_zero, List.set_cons_succ, List.getElem_toArray, List.getElem_cons_succ, List.getElem_cons_zero]))
          (refine wpAnyH_take (i := 13) (v := ?_) rfl ?_ ?_ ?_ (fun _ _ _ h => h) (Or.inl ⟨?_, ?_⟩) ?_ ?_; rotate_left 1; (focus decide +kernel); (focus decide +kernel); (focus decide +kernel); (focus rfl); (focus (intro w hSw; (try dsimp only at hSw); go_simp; (try (with_reducible rfl)); done)); (focus assumption); (try simp only [Act.put, List.setIfInBounds_toArray, List.set_cons_zero, List.set_cons_succ, List.getElem_toArray, List.getElem_cons_succ, List.getElem_cons_zero]))
          (refine wpAnyH_take (i := 14) (v := ?_) rfl ?_ ?_ ?_ (fun _ _ _ h => h) (Or.inl ⟨?_, ?_⟩) ?_ ?_; rotate_left 1; (focus decide +kernel); (focus decide +kernel); (focus decide +kernel); (focus rfl); (focus (intro w hSw; (try dsimp only at hSw); go_simp; (try (with_reducible rfl)); done)); (focus assumption); (try simp only [Act.put, List.setIfInBounds_toArray, List.set_cons_zero, List.set_cons_succ, List.getElem_toArray, List.getElem_cons_succ, List.getElem_cons_zero]))
          (refine wpAnyH_take (i := 15) (v := ?_) rfl ?_ ?_ ?_ (fun _ _ _ h => h) (Or.inl ⟨?_, ?_⟩) ?_ ?_; rotate_left 1; (focus decide +kernel); (focus decide +kernel); (focus decide +kernel); (focus rfl); (focus (intro w hSw; (try dsimp only at hSw); go_simp; (try (with_reducible rfl)); done)); (focus assumption); (try simp only [Act.put, List.setIfInBounds_toArray, List.set_cons_zero, List.set_cons_succ, List.getElem_toArray, List.getElem_cons_succ, List.getElem_cons_zero]))
          (refine wpAnyH_take (i := 16) (v := ?_) rfl ?_ ?_ ?_ (fun _ _ _ h => h) (Or.inl ⟨?_, ?_⟩) ?_ ?_; rotate_left 1; (focus decide +kernel); (focus decide +kernel); (focus decide +kernel); (focus rfl); (focus (intro w hSw; (try dsimp only at hSw); go_simp; (try (with_reducible rfl)); done)); (focus assumption); (try simp only [Act.put, List.setIfInBounds_toArray, List.set_cons_zero, List.set_cons_succ, List.getElem_toArray, List.getElem_cons_succ, List.getElem_cons_zero]))
          (refine wpAnyH_take (i := 17) (v := ?_) rfl ?_ ?_ ?_ (fun _ _ _ h => h) (Or.inl ⟨?_, ?_⟩) ?_ ?_; rotate_left 1; (focus decide +kernel); (focus decide +kernel); (focus decide +kernel); (focus rfl); (focus (intro w hSw; (try dsimp only at hSw); go_simp; (try (with_reducible rfl)); done)); (focus assumption); (try simp only [Act.put, List.setIfInBounds_toArray, List.set_cons_zero, List.set_cons_succ, List.getElem_toArray, List.getElem_cons_succ, List.getElem_cons_zero]))
          (refine wpAnyH_take (i := 18) (v := ?_) rfl ?_ ?_ ?_ (fun _ _ _ h => h) (Or.inl ⟨?_, ?_⟩) ?_ ?_; rotate_left 1; (focus decide +kernel); (focus decide +kernel); (focus decide +kernel); (focus rfl); (focus (intro w hSw; (try dsimp only at hSw); go_simp; (try (with_reducible rfl)); done)); (focus assumption); (try simp only [Act.put, List.setIfInBounds_toArray, List.set_cons_zero, List.set_cons_succ, List.getElem_toArray, List.getElem_cons_succ, List.getElem_cons_zero]))
          (refine wpAnyH_take (i := 19) (v := ?_) rfl ?_ ?_ ?_ (fun _ _ _ h => h) (Or.inl ⟨?_, ?_⟩) ?_ ?_; rotate_left 1; (focus decide +kernel); (focus decide +kernel); (focus decide +kernel); (focus rfl); (focus (intro w hSw; (try dsimp only at hSw); go_simp; (try (with_reducible rfl)); done)); (focus assumption); (try simp only [Act.put, List.setIfInBounds_toArray, List.set_cons_zero, List.set_cons_succ, List.getElem_toArray, List.getElem_cons_succ, List.getElem_cons_zero]))
          (refine wpAnyH_take (i := 20) (v := ?_) rfl ?_ ?_ ?_ (fun _ _ _ h => h) (Or.inl ⟨?_, ?_⟩) ?_ ?_; rotate_left 1; (focus decide +kernel); (focus decide +kernel); (focus decide +kernel); (focus rfl); (focus (intro w hSw; (try dsimp only at hSw); go_simp; (try (with_reducible rfl)); done)); (focus assumption); (try simp only [Act.put, List.setIfInBounds_toArray, List.set_cons_zero, List.set_cons_succ, List.getElem_toArray, List.getElem_cons_succ, List.getElem_cons_zero]))
          (refine wpAnyH_take (i := 21) (v := ?_) rfl ?_ ?_ ?_ (fun _ _ _ h => h) (Or.inl ⟨?_, ?_⟩) ?_ ?_; rotate_left 1; (focus decide +kernel); (focus decide +kernel); (focus decide +kernel); (focus rfl); (focus (intro w hSw; (try dsimp only at hSw); go_simp; (try (with_reducible rfl)); done)); (focus assumption); (try simp only [Act.put, List.setIfInBounds_toArray, List.set_cons_zero, List.set_cons_succ, List.getElem_toArray, List.getElem_cons_succ, List.getElem_cons_zero]))
          refine wpAnyH_ready (rs := [11, 22]) ?_ (by simp) ?_
          · decide +kernel
          refine AllReadyH.cons rfl (fun K hK => ?_) (AllReadyH.cons rfl (fun K hK => ?_) AllReadyH.nil)
          · have hcy : wD.cell? ⟨p, IDX, none⟩ = some (.int .i64 y) := by rw [HY.out]; exact ow.cell (i := IDX) (by rw [blk_len]; exact HIX.out)
            go_simp
            clear hcy
            refine hK.out _ _ ?_ (fun hHeld2 => ?_)
            · (try dsimp only); exact hHeld
            clear hK K hHeld
            have hHeld := hHeld2
            clear hHeld2
            (try simp only [Act.put, List.setIfInBounds_toArray, List.set_cons_zero, List.set_cons_succ, List.getElem_toArray, List.getElem_cons_succ, List.getElem_cons_zero])
            refine wpAnyH_ready (rs := [22]) ?_ (by simp) ?_
            · decide +kernel
            refine AllReadyH.cons rfl (fun K hK => ?_) AllReadyH.nil
            go_simp
            go_at_call 48
            refine (l06Ones HXB.out).mono ?_
            rintro e w' ⟨rfl, rfl⟩
            refine hK.out _ _ ?_ (fun hHeld2 => ?_)
            · (try dsimp only); exact hHeld
            clear hK K hHeld
            have hHeld := hHeld2
            clear hHeld2
            (try simp only [Act.put, List.setIfInBounds_toArray, List.set_cons_zero, List.set_cons_succ, List.getElem_toArray, List.getElem_cons_succ, List.getElem_cons_zero])
            (refine wpAnyH_take (i := 23) (v := ?_) rfl ?_ ?_ ?_ (fun _ _ _ h => h) (Or.inl ⟨?_, ?_⟩) ?_ ?_; rotate_left 1; (focus decide +kernel); (focus decide +kernel); (focus decide +kernel); (focus rfl); (focus (intro w hSw; (try dsimp only at hSw); go_simp; (try (with_reducible rfl)); done)); (focus assumption); (try simp only [Act.put, List.setIfInBounds_toArray, List.set_cons_zero, List.set_cons_succ, List.getElem_toArray, List.getElem_cons_succ, List.getElem_cons_zero]))
            (refine wpAnyH_take (i := 24) (v := ?_) rfl ?_ ?_ ?_ (fun _ _ _ h => h) (Or.inl ⟨?_, ?_⟩) ?_ ?_; rotate_left 1; (focus decide +kernel); (focus decide +kernel); (focus decide +kernel); (focus rfl); (focus (intro w hSw; (try dsimp only at hSw); go_simp; (try (with_reducible rfl)); done)); (focus assumption); (try simp only [Act.put, List.setIfInBounds_toArray, List.set_cons_zero, List.set_cons_succ, List.getElem_toArray, List.getElem_cons_succ, List.getElem_cons_zero]))
            refine wpAnyH_ready (rs := [25]) ?_ (by simp) ?_
            · decide +kernel
            refine AllReadyH.cons rfl (fun K hK => ?_) AllReadyH.nil
            have hox := ow.cell (i := IDX) (by rw [blk_len]; exact HIX.out)
            have hof := ow.free IDX
            go_simp
            have ow2 := ow.set IDX (y + (popN x : Int))
            have g2 := Grow.g_set hHeld.1 IDX (.int .i64 (y + (popN x : Int)))
            refine hK.out _ _ ?_ (fun hHeld5 => ?_)
            · (try dsimp only); obtain ⟨h0, h1, h2, h3, h4⟩ := hHeld; exact ⟨g2, FNew.set_cell h1 hpN, FNew.set_cell h2 hpN, FNew.set_cell h3 hpb, by simpa [World.setCell] using h4⟩
            clear hK K hHeld5
            obtain ⟨wz, hz⟩ : ∃ wz, wz = wD.setCell ⟨p, IDX, none⟩ (.int .i64 (y + (popN x : Int))) := ⟨_, rfl⟩
            rw [← hz] at ow2 g2
            simp only [← hz]
            clear hz hox hof hHeld
            (try simp only [Act.put, List.setIfInBounds_toArray, List.set_cons_zero, List.set_cons_succ, List.getElem_toArray, List.getElem_cons_succ, List.getElem_cons_zero])
            refine wpAnyH_done (by kernel_rfl) ?_ _
            have HO3 := hid ow2
            have HG3 := hid g2
            clear ow ow2 g2
            go_wp2
            go_roundw
            case rel =>
              refine ⟨l + 1, by omega, by go_num, ?_, HG3.out⟩
              rw [show k * C + (l + 1) = T + 1 by have := HT.out; omega]
              show Own _ _ _ _ ((blk xs (fB C A B) M T).set (fB C A B T) ((blk xs (fB C A B) M T).getD (fB C A B T) 0 + (popN (xs.getD T 0).toNat : Int)))
              rw [HFT.out, ← HY.out, HX.out]
              exact HO3.out
            case measure => simp [intOf]; omega
          · go_simp
            go_at_call 48
            refine (l06Ones HXB.out).mono ?_
            rintro e w' ⟨rfl, rfl⟩
            refine hK.out _ _ ?_ (fun hHeld2 => ?_)
            · (try dsimp only); exact hHeld
            clear hK K hHeld
            have hHeld := hHeld2
            clear hHeld2
            (try simp only [Act.put, List.setIfInBounds_toArray, List.set_cons_zero, List.set_cons_succ, List.getElem_toArray, List.getElem_cons_succ, List.getElem_cons_zero])
            refine wpAnyH_ready (rs := [11]) ?_ (by simp) ?_
            · decide +kernel
            refine AllReadyH.cons rfl (fun K hK => ?_) AllReadyH.nil
            have hcy : wD.cell? ⟨p, IDX, none⟩ = some (.int .i64 y) := by rw [HY.out]; exact ow.cell (i := IDX) (by rw [blk_len]; exact HIX.out)
            go_simp
            clear hcy
            refine hK.out _ _ ?_ (fun hHeld2 => ?_)
            · (try dsimp only); exact hHeld
            clear hK K hHeld
            have hHeld := hHeld2
            clear hHeld2
            (try simp only [Act.put, List.setIfInBounds_toArray, List.set_cons_zero, List.set_cons_succ, List.getElem_toArray, List.getElem_cons_succ, List.getElem_cons_zero])
            (refine wpAnyH_take (i := 23) (v := ?_) rfl ?_ ?_ ?_ (fun _ _ _ h => h) (Or.inl ⟨?_, ?_⟩) ?_ ?_; rotate_left 1; (focus decide +kernel); (focus decide +kernel); (focus decide +kernel); (focus rfl); (focus (intro w hSw; (try dsimp only at hSw); go_simp; (try (with_reducible rfl)); done)); (focus assumption); (try simp only [Act.put, List.setIfInBounds_toArray, List.set_cons_zero, List.set_cons_succ, List.getElem_toArray, List.getElem_cons_succ, List.getElem_cons_zero]))
            (refine wpAnyH_take (i := 24) (v := ?_) rfl ?_ ?_ ?_ (fun _ _ _ h => h) (Or.inl ⟨?_, ?_⟩) ?_ ?_; rotate_left 1; (focus decide +kernel); (focus decide +kernel); (focus decide +kernel); (focus rfl); (focus (intro w hSw; (try dsimp only at hSw); go_simp; (try (with_reducible rfl)); done)); (focus assumption); (try simp only [Act.put, List.setIfInBounds_toArray, List.set_cons_zero, List.set_cons_succ, List.getElem_toArray, List.getElem_cons_succ, List.getElem_cons_zero]))
            refine wpAnyH_ready (rs := [25]) ?_ (by simp) ?_
            · decide +kernel
            refine AllReadyH.cons rfl (fun K hK => ?_) AllReadyH.nil
            have hox := ow.cell (i := IDX) (by rw [blk_len]; exact HIX.out)
            have hof := ow.free IDX
            go_simp
            have ow2 := ow.set IDX (y + (popN x : Int))
            have g2 := Grow.g_set hHeld.1 IDX (.int .i64 (y + (popN x : Int)))
            refine hK.out _ _ ?_ (fun hHeld5 => ?_)
            · (try dsimp only); obtain ⟨h0, h1, h2, h3, h4⟩ := hHeld; exact ⟨g2, FNew.set_cell h1 hpN, FNew.set_cell h2 hpN, FNew.set_cell h3 hpb, by simpa [World.setCell] using h4⟩
            clear hK K hHeld5
            obtain ⟨wz, hz⟩ : ∃ wz, wz = wD.setCell ⟨p, IDX, none⟩ (.int .i64 (y + (popN x : Int))) := ⟨_, rfl⟩
            rw [← hz] at ow2 g2
            simp only [← hz]
            clear hz hox hof hHeld
            (try simp only [Act.put, List.setIfInBounds_toArray, List.set_cons_zero, List.set_cons_succ, List.getElem_toArray, List.getElem_cons_succ, List.getElem_cons_zero])
            refine wpAnyH_done (by kernel_rfl) ?_ _
            have HO3 := hid ow2
            have HG3 := hid g2
            clear ow ow2 g2
            go_wp2
            go_roundw
            case rel =>
              refine ⟨l + 1, by omega, by go_num, ?_, HG3.out⟩
              rw [show k * C + (l + 1) = T + 1 by have := HT.out; omega]
              show Own _ _ _ _ ((blk xs (fB C A B) M T).set (fB C A B T) ((blk xs (fB C A B) M T).getD (fB C A B T) 0 + (popN (xs.getD T 0).toNat : Int)))
              rw [HFT.out, ← HY.out, HX.out]
              exact HO3.out
            case measure => simp [intOf]; omega
        · have hlC : l = C := by omega
          subst hlC
          have HO2 := hid hown
          have HG2 := hid hg
          clear hown hg
          go_wp2
          go_roundw
          case rel => exact ⟨k + 1, by omega, by go_num, by rw [Nat.succ_mul]; exact HO2.out, HG2.out⟩
          case measure => simp [intOf]; omega
    · have hkR : k = R := by omega
      subst hkR
      have HO2 := hid hown
      have HB2 := hid (Grow.g_below HSX.out.1 hg HAp.out.2)
      clear hown hg
      go_wp2
      go_ret2
      exact ⟨p, rfl, HO2.out, HAp.out.2, HB2.out⟩


end Go.Proofs.Ytnpjhhkhdeomcaa.Den
