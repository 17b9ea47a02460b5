/- One step of a word: the model's side. -/
import Derived.Test.YtbnndbciimfciaaCwI
import Derived.Test.YtbnndbciimfciaaTerms
namespace Go.Proofs.Ytbnndbciimfciaa.CwR
open Go.RowKit Go.Proofs.Ytbnndbciimfciaa.Rd Go.Proofs.Ytbnndbciimfciaa.Help Go.Proofs.Ytbnndbciimfciaa.App Go.Proofs.Ytbnndbciimfciaa.Ring Go.Proofs.Ytbnndbciimfciaa.Small Go.Proofs.Ytbnndbciimfciaa.Num Go.Proofs.Ytbnndbciimfciaa.Keep Go.Proofs.Ytbnndbciimfciaa.Rule Go.Proofs.Ytbnndbciimfciaa.Dig Go.Proofs.Ytbnndbciimfciaa.DigP Go.Proofs.Ytbnndbciimfciaa.CwP Go.Proofs.Ytbnndbciimfciaa.CwI
set_option linter.unusedVariables false
set_option linter.unusedSimpArgs false

theorem nx_take {tbl : List Int} {s r : Int} {zs : List Int} {M k : Nat} (hM : (nextW tbl s r zs).length = M) (hk : k < M) : (nextW tbl s r zs).take (k + 1) = (nextW tbl s r zs).take k ++ [tbl.getD (numL ((zs.drop k).take (2 * r + 1).toNat) s).toNat 0] := by
  have hl : k < (nextW tbl s r zs).length := by omega
  rw [List.take_succ_eq_append_getElem hl]
  congr 2
  simp [nextW]
theorem part_get {zs : List Int} {i k W : Nat} (hk : k < W) (h : i + W ≤ zs.length) : ((zs.drop i).take W).getD k 0 = zs.getD (i + k) 0 := by
  simp only [List.getD_eq_getElem?_getD, List.getElem?_take, hk, if_true, List.getElem?_drop]

set_option maxHeartbeats 4000000 in
set_option maxRecDepth 100000 in
theorem l03Row {w : World} {s : Int} {R g bt b : Nat} {vt v : Value} {tbl zs : List Int} (hk : Ok tbl s (R : Int)) (ht : Rd w bt vt tbl) (h : Rd w b v zs) (c0 : w.cell? ⟨g, 0, none⟩ = some (.int .i64 s)) (c1 : w.cell? ⟨g, 1, none⟩ = some (.int .i64 (R : Int))) (c2 : w.cell? ⟨g, 2, none⟩ = some vt) (hz : 2 * R + 1 ≤ zs.length ∧ zs.length ≤ 16) (ha : allB zs s = true) :
    Calls Try.prog 26 #[.pointer (some ⟨g, 0, none⟩), v] w fun e w' => ∃ v' b', e = .returned v' ∧ Rd.Own 2 w' b' v' (nextW tbl s (R : Int) zs) ∧ w.heap.size ≤ b' ∧ Below w.heap.size w w' := by
  have HK := hid hk
  have HA := hid ha
  have hs := hk.st
  have hr := hk.re
  have hg : g < w.heap.size := World.block_lt_of_cell? w _ c0
  obtain ⟨ao, cap, rfl, hc, hm, h4⟩ := ht
  have hN0 : 0 < tbl.length := by have h1 := hk.len; have h2 := pow_pos' hs (2 * (R : Int) + 1).toNat; omega
  obtain ⟨off, rfl, hb, hcell⟩ := h4 hN0
  obtain ⟨ao2, cw, rfl, hcw, hmw, hw4⟩ := h
  obtain ⟨ow, rfl, hbw, hwcell⟩ := hw4 (by omega)
  obtain ⟨L, hL⟩ : ∃ L, L = zs.length := ⟨_, rfl⟩
  obtain ⟨W, hW⟩ : ∃ W, W = 2 * R + 1 := ⟨_, rfl⟩
  obtain ⟨M, hM⟩ : ∃ M, M = L - 2 * R := ⟨_, rfl⟩
  obtain ⟨N, hN⟩ : ∃ N, N = tbl.length := ⟨_, rfl⟩
  have HML : Hid ((nextW tbl s (R : Int) zs).length = M) := by simp only [Hid]; rw [nextW_length, hM, hL]; omega
  have HWn : Hid ((2 * (R : Int) + 1).toNat = W) := by simp only [Hid]; omega
  have HWi : Hid (2 * (R : Int) + 1 = (W : Int)) := by simp only [Hid]; omega
  rw [← hL] at hwcell hz ⊢
  rw [← hN] at c2 hcell hN0
  have HL := hid hL
  have HNd := hid hN
  have HD : Hid (M + 2 * R = L ∧ R ≤ 2 ∧ L ≤ 16 ∧ 1 ≤ M ∧ W = 2 * R + 1) := by simp only [Hid]; omega
  have HC : Hid ((b < w.heap.size ∧ ∀ i, i < L → w.cell? ⟨b, ow + i, none⟩ = some (.int .i64 (zs.getD i 0))) ∧ (bt < w.heap.size ∧ ∀ i, i < N → w.cell? ⟨bt, off + i, none⟩ = some (.int .i64 (tbl.getD i 0)))) := ⟨⟨hbw, hwcell⟩, ⟨hb, hcell⟩⟩
  have HG : Hid (g < w.heap.size ∧ w.cell? ⟨g, 0, none⟩ = some (.int .i64 s) ∧ w.cell? ⟨g, 2, none⟩ = some (.slice (some ⟨bt, off, none⟩) N cap)) := ⟨hg, c0, c2⟩
  have HR := hid hr
  have HS := hid hs
  have hL16 : L ≤ 16 := hz.2
  have hW5 : W ≤ 5 := by have := HD.out; omega
  clear hc hm h4 hb hcell hcw hmw hw4 hbw hwcell hN hL hM hz hs hr hN0 ha hW c0 c2 hg hk
  go_enter Try.func26, Try.ntmps26
  go_wp2_with fail
  go_at_call 37
  refine (Terms.wide3 c1 HR.out).mono ?_
  rw [HWi.out]
  rintro e w' ⟨rfl, rfl⟩
  clear c1
  go_wp2
  go_loopw [6, 7] (fun v5 i wr => ∃ k : Nat, k ≤ M ∧ i = .int .i64 k ∧ wr.ownsRow w.heap.size 2 1 v5 ((nextW tbl s (R : Int) zs).take k).length (((nextW tbl s (R : Int) zs).take k).map (Value.int .i64)) ∧ Below w.heap.size w wr) (fun _ i _ => M - (intOf i).toNat)
  case atStart => exact ⟨0, Nat.zero_le _, rfl, by simpa using World.ownsRow_lit (base := w.heap.size) (e := 2) (size := 1) w #[] 0 (Nat.le_refl _) (by simp) (by simp), (Below.refl _ _).alloc (Nat.le_refl _) _⟩
  case round =>
    obtain ⟨i, hi, rfl, hown, hbel⟩ := hrel
    have HB := hid hbel
    have HO := hid hown
    clear hbel hown
    have hM16 : M ≤ 16 := by have := HD.out; omega
    by_cases hlt : i < M
    · have HI : Hid (i < M ∧ i + W ≤ L ∧ 1 ≤ W ∧ W ≤ 5) := by have := HD.out; simp only [Hid]; omega
      obtain ⟨ps, hps⟩ : ∃ ps, ps = (zs.drop i).take W := ⟨_, rfl⟩
      have hpa : allB ps s = true := by rw [hps]; exact all_take (all_drop HA.out i) W
      have hpl : ps.length = W := by rw [hps]; have := HL.out; have := HI.out; simp; omega
      have HPG : Hid (∀ k, k < W → ps.getD k 0 = zs.getD (i + k) 0) := fun k hk => by rw [hps]; exact part_get hk (by have := HL.out; have := HI.out; omega)
      have HNB : Hid (∀ k, 0 ≤ numL (ps.take k) s ∧ numL (ps.take k) s ≤ 43046721) := by
        intro k
        have h1 := numL_take_bd HS.out hpa k
        have h2 := pow_16 HS.out (show ps.length ≤ 16 by omega)
        omega
      have HCB : Hid (∀ k, k < ps.length → 0 ≤ ps.getD k 0 ∧ ps.getD k 0 ≤ s - 1) := fun k hk => all_get hpa hk
      have HPL := hid hpl
      have HLT : Hid (numL ps s < (N : Int) ∧ 0 ≤ numL ps s) := by
        have h1 := numL_bd HS.out hpa
        rw [hpl] at h1
        have h2 := HK.out.len
        rw [HWn.out, ← HNd.out] at h2
        exact ⟨by omega, h1.1⟩
      have HNX : Hid ((nextW tbl s (R : Int) zs).take (i + 1) = (nextW tbl s (R : Int) zs).take i ++ [tbl.getD (numL ps s).toNat 0]) := by
        simp only [Hid]; rw [hps, ← HWn.out]; exact nx_take HML.out hlt
      have hle : (i : Int) + (W : Int) ≤ (L : Int) := by have := HI.out; omega
      obtain ⟨wn, hwn⟩ : ∃ x, x = wr := ⟨_, rfl⟩
      rw [← hwn] at HB HO ⊢
      clear hps hpa hpl hi hwn
      go_wp2
      go_loopw [8, 9] (fun x j wx => ∃ k m : Nat, k ≤ W ∧ j = .int .i64 (k : Int) ∧ x = .int .i64 (numL (ps.take k) s) ∧ wx = wn.drewN m) (fun _ j _ => W - (intOf j).toNat)
      case atStart => exact ⟨0, 0, Nat.zero_le _, rfl, rfl, rfl⟩
      case round =>
        obtain ⟨k, m, hk, rfl, rfl, hwr⟩ := hrel
        have HW := hid hwr
        by_cases hkt : k < W
        · have hnx := numL_take ps s k (by rw [HPL.out]; exact hkt)
          obtain ⟨x1, x2⟩ := HNB.out k
          obtain ⟨c1, c2⟩ := HCB.out k (by rw [HPL.out]; exact hkt)
          have g0 : wr.cell? ⟨g, 0, none⟩ = some (.int .i64 s) := by rw [hwr]; exact (HB.out.cell (p := ⟨g, 0, none⟩) HG.out.1).trans HG.out.2.1
          have hcx : wr.cell? ⟨b, ow + (i + k), none⟩ = some (.int .i64 (ps.getD k 0)) := by
            rw [hwr, HPG.out k hkt]
            exact (HB.out.cell (p := ⟨b, ow + (i + k), none⟩) HC.out.1.1).trans (HC.out.1.2 (i + k) (by have := HI.out; omega))
          obtain ⟨X, hX⟩ : ∃ X, X = numL (ps.take k) s := ⟨_, rfl⟩
          obtain ⟨Y, hY⟩ : ∃ Y, Y = ps.getD k 0 := ⟨_, rfl⟩
          rw [← hX] at x1 x2 hnx ⊢
          rw [← hY] at c1 c2 hcx hnx
          obtain ⟨Z, hZ⟩ : ∃ Z, X * s = Z := ⟨_, rfl⟩
          have b7 : 0 ≤ Z ∧ Z ≤ 129140163 := by rw [← hZ]; rcases (show s = 2 ∨ s = 3 by have := HS.out; omega) with rfl | rfl <;> omega
          have hs3 : s ≤ 3 := HS.out.2
          have HNXn : Hid (numL (ps.take (k + 1)) s = Z + Y) := by rw [hZ] at hnx; exact hnx
          have hw1 : IntKind.i64.wrap (X * s) = Z := by
            have h5 := wrap_id (x := Z) (by omega) (by omega)
            rw [IntKind.wrap_i64, hZ]; unfold wrap64 at h5; exact h5
          have hw2 : IntKind.i64.wrap (Z + Y) = Z + Y := by
            have h5 := wrap_id (x := Z + Y) (by omega) (by omega)
            rw [IntKind.wrap_i64]; unfold wrap64 at h5; exact h5
          have hw3 : IntKind.i64.wrap ((i : Int) + (k : Int)) = ((i + k : Nat) : Int) := by
            have h5 := wrap_id (x := (i : Int) + (k : Int)) (by omega) (by omega)
            rw [IntKind.wrap_i64]; unfold wrap64 at h5; rw [h5]; simp
          have hik : ((i + k : Nat) : Int) < (L : Int) := by have := HI.out; omega
          have hkk := HI.out
          clear hX hY hnx hZ hwr
          go_wp2_with fail
          go_quiet (fail)
          go_wp2
          go_roundw
          case rel => exact ⟨k + 1, m + nq, by omega, by go_num, by rw [HNXn.out], by rw [HW.out, World.drewN_drewN]⟩
          case measure => simp [intOf]; omega
        · have hkn : W = k := by omega
          subst hkn
          have e : ps.take W = ps := by rw [← HPL.out]; exact List.take_length
          rw [e]
          obtain ⟨X, hX⟩ : ∃ X : Nat, numL ps s = (X : Int) := ⟨(numL ps s).toNat, by have := HLT.out; omega⟩
          have hXN : X < N := by have := HLT.out; omega
          have hXi : (X : Int) < (N : Int) := by omega
          have g2 : wr.cell? ⟨g, 2, none⟩ = some (.slice (some ⟨bt, off, none⟩) N cap) := by rw [hwr]; exact (HB.out.cell (p := ⟨g, 2, none⟩) HG.out.1).trans HG.out.2.2
          obtain ⟨y, hy⟩ : ∃ y, y = tbl.getD X 0 := ⟨_, rfl⟩
          have hcx : wr.cell? ⟨bt, off + X, none⟩ = some (.int .i64 y) := by rw [hwr, hy]; exact (HB.out.cell (p := ⟨bt, off + X, none⟩) HC.out.2.1).trans (HC.out.2.2 X hXN)
          have HNXy : Hid ((nextW tbl s (R : Int) zs).take (i + 1) = (nextW tbl s (R : Int) zs).take i ++ [y]) := by
            have h5 := HNX.out
            rw [hX] at h5
            simp only [Int.toNat_natCast] at h5
            simp only [Hid]; rw [h5, hy]
          have HO2 : Hid (wr.ownsRow w.heap.size 2 1 u6 ((nextW tbl s (R : Int) zs).take i).length (((nextW tbl s (R : Int) zs).take i).map (Value.int .i64))) := by simp only [Hid]; rw [hwr]; exact HO.out
          have HB2 : Hid (Below w.heap.size w wr) := by simp only [Hid]; rw [hwr]; exact HB.out.trans (Go.Proofs.Ytbnndbciimfciaa.Help.below_drewN _ _ _)
          rw [hX]
          clear hX hy hwr e
          go_wp2_with (at_builtin; refine append1 rfl _ _ rfl w.heap.size _ _ rfl HO2.out _ rfl ?c1 ?c2 ?_)
          case c1 => have := List.length_take_le i (nextW tbl s (R : Int) zs); omega
          case c2 => exact HB2.out.size
          · intro v' w1 hown1 hbel1
            have HO1 := hid hown1
            have HB1 := hid (HB2.out.trans hbel1)
            clear hown1 hbel1
            go_wp2
            go_roundw
            case rel => exact ⟨i + 1, by have := HI.out; omega, by go_num, by rw [HNXy.out]; simpa using HO1.out, HB1.out⟩
            case measure => have := HI.out; simp [intOf]; omega
    · have hkM : M = i := by omega
      subst hkM
      have e : (nextW tbl s (R : Int) zs).take M = nextW tbl s (R : Int) zs := by rw [← HML.out]; exact List.take_length
      have HOF : Hid (wr.ownsRow w.heap.size 2 1 u6 (nextW tbl s (R : Int) zs).length ((nextW tbl s (R : Int) zs).map (Value.int .i64))) := by have h5 := HO.out; rw [e] at h5; exact h5
      have hle : ¬ (M : Int) + (W : Int) ≤ (L : Int) := by have := HD.out; omega
      clear HO e
      go_wp2
      go_ret
      obtain ⟨b', hb', ho'⟩ := Own.of HOF.out
      exact ⟨u6, rfl, b', ho', hb', HB.out⟩
end Go.Proofs.Ytbnndbciimfciaa.CwR
