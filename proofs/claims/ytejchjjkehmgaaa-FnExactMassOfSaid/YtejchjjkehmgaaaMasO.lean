/- MassOf of the program. -/
import Derived.Test.YtejchjjkehmgaaaMasP
namespace Go.Proofs.Ytejchjjkehmgaaa.MasO
open Go.RowKit Go.Proofs.Ytejchjjkehmgaaa.Rd Go.Proofs.Ytejchjjkehmgaaa.Rdb Go.Proofs.Ytejchjjkehmgaaa.Rdf Go.Proofs.Ytejchjjkehmgaaa.Fl Go.Proofs.Ytejchjjkehmgaaa.Help Go.Proofs.Ytejchjjkehmgaaa.Ring Go.Proofs.Ytejchjjkehmgaaa.Small Go.Proofs.Ytejchjjkehmgaaa.FVal Go.Proofs.Ytejchjjkehmgaaa.Keep Go.Proofs.Ytejchjjkehmgaaa.Rule Go.Proofs.Ytejchjjkehmgaaa.WVal Go.Proofs.Ytejchjjkehmgaaa.MasS
open Go.Proofs.Ytejchjjkehmgaaa.MasP (row_keep)
open Go.Proofs.Ytejchjjkehmgaaa.Fsm (accF sumG is_word is_zero)
set_option linter.unusedVariables false
set_option linter.unusedSimpArgs false

theorem acc_congr {g g' : Nat → Option Nat} {n : Nat} (h : ∀ i, i < n → g i = g' i) : accF g n = accF g' n := by
  induction n with
  | zero => rfl
  | succ n ih =>
    show fop .add .f32 (accF g n) (g n) = fop .add .f32 (accF g' n) (g' n)
    rw [ih (fun i hi => h i (by omega)), h n (by omega)]
theorem w32_nine {x0 x1 x2 x3 x4 x5 x6 x7 x8 : Nat} (h0 : x0 < 2 ^ 32) (h1 : x1 < 2 ^ 32) (h2 : x2 < 2 ^ 32) (h3 : x3 < 2 ^ 32) (h4 : x4 < 2 ^ 32) (h5 : x5 < 2 ^ 32) (h6 : x6 < 2 ^ 32) (h7 : x7 < 2 ^ 32) (h8 : x8 < 2 ^ 32) : W32 [x0, x1, x2, x3, x4, x5, x6, x7, x8] := by
  intro i
  match i with
  | 0 => exact h0
  | 1 => exact h1
  | 2 => exact h2
  | 3 => exact h3
  | 4 => exact h4
  | 5 => exact h5
  | 6 => exact h6
  | 7 => exact h7
  | 8 => exact h8
  | _ + 9 => simp
theorem cell_sum {xs : List Nat} {k : Nat} : accF (sumG [xs.getD (9 * k + 0) 0, xs.getD (9 * k + 1) 0, xs.getD (9 * k + 2) 0, xs.getD (9 * k + 3) 0, xs.getD (9 * k + 4) 0, xs.getD (9 * k + 5) 0, xs.getD (9 * k + 6) 0, xs.getD (9 * k + 7) 0, xs.getD (9 * k + 8) 0]) 9 = massG xs k := by
  refine acc_congr fun i hi => ?_
  have e : ((xs.drop (9 * k)).take 9).getD i 0 = xs.getD (9 * k + i) 0 := by simp [List.getD, hi]
  show cn .f32 _ = cn .f32 _
  rw [e]
  rcases (show i = 0 ∨ i = 1 ∨ i = 2 ∨ i = 3 ∨ i = 4 ∨ i = 5 ∨ i = 6 ∨ i = 7 ∨ i = 8 by omega) with rfl | rfl | rfl | rfl | rfl | rfl | rfl | rfl | rfl <;> rfl

set_option maxHeartbeats 8000000 in
set_option maxRecDepth 100000 in
theorem implMass {w : World} {s r : Int} {b1 b2 : Nat} {v1 v2 : Value} {xs : List Nat} {ys : List Bool} (h1 : RdF w b1 v1 xs) (h2 : RdB w b2 v2 ys) :
    Calls Try.prog 25 #[flowV s r v1 v2] w fun e w' => ∃ q, e = .returned (.tuple #[.float .f32 q, .bool (massB s r xs ys)]) ∧ Is .f32 q (massV s r xs ys) ∧ Below w.heap.size w w' := by
  have H1 := hid h1
  have H2 := hid h2
  obtain ⟨ao1, cap1, e1, _, hm1, _⟩ := id h1
  obtain ⟨ao2, cap2, e2, _⟩ := id h2
  subst e1; subst e2
  have HW := hid hm1.2
  clear h1 h2 hm1
  cases hf : flowB s r xs ys with
  | false =>
    have hb : massB s r xs ys = false := by simp [massB, hf]
    rw [hb, show massV s r xs ys = some 0 by simp [massV, hb]]
    have HF := hid hf
    clear hb hf
    go_enter Try.func25, Try.ntmps25
    go_wp2_with fail
    go_at_call 28
    refine (WIs.implValid (H1.out.keep (below1 _ _) (Nat.le_refl _)) (H2.out.keep (below1 _ _) (Nat.le_refl _))).mono ?_
    rw [HF.out]
    rintro e w4 ⟨rfl, bel⟩
    have HB := hid bel
    clear bel
    go_wp2
    go_ret2
    exact ⟨_, rfl, is_zero, (below1 _ _).trans (HB.out.mono (below1 _ _).size)⟩
  | true =>
    obtain ⟨a1, a2, M, hM, hMt, hMb, hl⟩ := flow_facts hf
    have HF := hid hf
    have HM := hid hM
    have HMb := hid hMb
    have HLn := hid hl
    have HSD : Hid (sd16 s r = true) := by simp only [Hid, sd16]; exact decide_eq_true ⟨a1.1, a1.2, a2.1, a2.2⟩
    obtain ⟨vv, hvv⟩ : ∃ vv, vv = accF (massG xs) M := ⟨_, rfl⟩
    have hb : massB s r xs ys = finF vv := by rw [massB, hf, hMt, hvv]; rfl
    have hv : massV s r xs ys = if finF vv = true then vv else some 0 := by rw [massV, hb, hMt, hvv]
    rw [hb, hv]
    have HVV := hid hvv
    obtain ⟨pv, hpv⟩ : ∃ x, x = if finF vv = true then vv else some 0 := ⟨_, rfl⟩
    rw [← hpv]
    obtain ⟨pb, hpb⟩ : ∃ x, x = finF vv := ⟨_, rfl⟩
    rw [← hpb]
    have HPV := hid hpv
    have HPB := hid hpb
    clear hpv hpb hf hM hMt hMb hl hb hv hvv a1 a2
    go_enter Try.func25, Try.ntmps25
    go_wp2_with fail
    obtain ⟨w1, hW⟩ : ∃ w1, w1 = w.alloc (Obj.cells #[.int .i64 s, .int .i64 r, .slice ao1 xs.length cap1, .slice ao2 ys.length cap2] 37) := ⟨_, rfl⟩
    obtain ⟨N, hN⟩ : ∃ N, N = w.heap.size := ⟨_, rfl⟩
    have kF : w1.heap[N]? = some (Obj.cells #[.int .i64 s, .int .i64 r, .slice ao1 xs.length cap1, .slice ao2 ys.length cap2] 37) := by rw [hW]; exact FNew.heap_top hN
    have B1 : Below w.heap.size w w1 := by rw [hW]; exact below1 _ _
    simp only [← hW, ← hN]
    clear hW hN
    go_at_call 28
    refine (WIs.implValid (H1.out.keep B1 (Nat.le_refl _)) (H2.out.keep B1 (Nat.le_refl _))).mono ?_
    rw [HF.out]
    rintro e w4 ⟨rfl, bel⟩
    replace kF := heap_keep bel kF
    have B4 := B1.trans (bel.mono B1.size)
    have HB4 := hid B4
    have c0 : w4.cell? ⟨N, 0, none⟩ = some (.int .i64 s) := Go.Joins.cell_of_block kF 0
    have c1 : w4.cell? ⟨N, 1, none⟩ = some (.int .i64 r) := Go.Joins.cell_of_block kF 1
    have c2 : w4.cell? ⟨N, 2, none⟩ = some (.slice ao1 xs.length cap1) := Go.Joins.cell_of_block kF 2
    have c3 : w4.cell? ⟨N, 3, none⟩ = some (.slice ao2 ys.length cap2) := Go.Joins.cell_of_block kF 3
    clear bel B1 B4 kF
    go_wp2_with fail
    go_at_call 71
    refine (MasP.partsIn (H1.out.keep HB4.out (Nat.le_refl _)) HSD.out HM.out HMb.out HLn.out).mono ?_
    rintro e w5 ⟨p, rfl, kR, bel⟩
    have B5 := HB4.out.trans (bel.mono HB4.out.size)
    have hst : ∀ (a : Addr) (x : Nat) (m : Mode) (w : World), (store a (.float .f32 x) m).run Try.prog w = stored Try.prog w a (.float .f32 x) m := fun a x m w => run_store _ w a _ m rfl
    have hMn : M ≤ 256 := HMb.out.2
    have hfd : ∀ w : World, (Instr.field 93 (.agg #[.int .i64 s, .int .i64 r, .slice (some ⟨p, 0, none⟩) M M]) 1).run Try.prog w = .ok (.slice (some ⟨p, 0, none⟩) M M) w := fun _ => by kernel_rfl
    clear bel c0 c1 c2 c3
    go_wp2_with fail
    go_loopw [4, 14] (fun x i wr => ∃ k : Nat, k ≤ M ∧ i = .int .i64 k ∧ (∃ X : Nat, x = .float .f32 X ∧ Is .f32 X (accF (massG xs) k)) ∧ Below w.heap.size w wr ∧ wr.rowIs p 96 (M * 9) (fun i => .float .f32 (xs.getD i 0))) (fun _ i _ => M - (intOf i).toNat)
    case atStart => exact ⟨0, Nat.zero_le _, rfl, ⟨0, rfl, is_zero⟩, B5, kR⟩
    case round =>
      clear B5 kR
      obtain ⟨k, hk, rfl, ⟨X, rfl, HA⟩, bel, kR⟩ := hrel
      by_cases hlt : k < M
      · have hki : (k : Int) < (M : Int) := by omega
        have HMs : Hid (∀ ww : World, Calls Try.prog 72 #[.agg #[.float .f32 (xs.getD (9 * k + 0) 0), .float .f32 (xs.getD (9 * k + 1) 0), .float .f32 (xs.getD (9 * k + 2) 0), .float .f32 (xs.getD (9 * k + 3) 0), .float .f32 (xs.getD (9 * k + 4) 0), .float .f32 (xs.getD (9 * k + 5) 0), .float .f32 (xs.getD (9 * k + 6) 0), .float .f32 (xs.getD (9 * k + 7) 0), .float .f32 (xs.getD (9 * k + 8) 0)]] ww fun e w' => ∃ r, e = .returned (.float .f32 r) ∧ Is .f32 r (massG xs k) ∧ Below ww.heap.size ww w') := fun ww => by
          rw [← cell_sum]
          exact MasI.mass (w32_nine (HW.out _) (HW.out _) (HW.out _) (HW.out _) (HW.out _) (HW.out _) (HW.out _) (HW.out _) (HW.out _))
        obtain ⟨x0, hx0⟩ : ∃ x, x = xs.getD (9 * k + 0) 0 := ⟨_, rfl⟩
        have hd0 : wr.cell? ⟨p, k * 9 + 0, none⟩ = some (.float .f32 x0) := by rw [hx0, Nat.mul_comm k 9]; exact kR.cell (i := 9 * k + 0) (by omega)
        obtain ⟨x1, hx1⟩ : ∃ x, x = xs.getD (9 * k + 1) 0 := ⟨_, rfl⟩
        have hd1 : wr.cell? ⟨p, k * 9 + 1, none⟩ = some (.float .f32 x1) := by rw [hx1, Nat.mul_comm k 9]; exact kR.cell (i := 9 * k + 1) (by omega)
        obtain ⟨x2, hx2⟩ : ∃ x, x = xs.getD (9 * k + 2) 0 := ⟨_, rfl⟩
        have hd2 : wr.cell? ⟨p, k * 9 + 2, none⟩ = some (.float .f32 x2) := by rw [hx2, Nat.mul_comm k 9]; exact kR.cell (i := 9 * k + 2) (by omega)
        obtain ⟨x3, hx3⟩ : ∃ x, x = xs.getD (9 * k + 3) 0 := ⟨_, rfl⟩
        have hd3 : wr.cell? ⟨p, k * 9 + 3, none⟩ = some (.float .f32 x3) := by rw [hx3, Nat.mul_comm k 9]; exact kR.cell (i := 9 * k + 3) (by omega)
        obtain ⟨x4, hx4⟩ : ∃ x, x = xs.getD (9 * k + 4) 0 := ⟨_, rfl⟩
        have hd4 : wr.cell? ⟨p, k * 9 + 4, none⟩ = some (.float .f32 x4) := by rw [hx4, Nat.mul_comm k 9]; exact kR.cell (i := 9 * k + 4) (by omega)
        obtain ⟨x5, hx5⟩ : ∃ x, x = xs.getD (9 * k + 5) 0 := ⟨_, rfl⟩
        have hd5 : wr.cell? ⟨p, k * 9 + 5, none⟩ = some (.float .f32 x5) := by rw [hx5, Nat.mul_comm k 9]; exact kR.cell (i := 9 * k + 5) (by omega)
        obtain ⟨x6, hx6⟩ : ∃ x, x = xs.getD (9 * k + 6) 0 := ⟨_, rfl⟩
        have hd6 : wr.cell? ⟨p, k * 9 + 6, none⟩ = some (.float .f32 x6) := by rw [hx6, Nat.mul_comm k 9]; exact kR.cell (i := 9 * k + 6) (by omega)
        obtain ⟨x7, hx7⟩ : ∃ x, x = xs.getD (9 * k + 7) 0 := ⟨_, rfl⟩
        have hd7 : wr.cell? ⟨p, k * 9 + 7, none⟩ = some (.float .f32 x7) := by rw [hx7, Nat.mul_comm k 9]; exact kR.cell (i := 9 * k + 7) (by omega)
        obtain ⟨x8, hx8⟩ : ∃ x, x = xs.getD (9 * k + 8) 0 := ⟨_, rfl⟩
        have hd8 : wr.cell? ⟨p, k * 9 + 8, none⟩ = some (.float .f32 x8) := by rw [hx8, Nat.mul_comm k 9]; exact kR.cell (i := 9 * k + 8) (by omega)
        rw [← hx0, ← hx1, ← hx2, ← hx3, ← hx4, ← hx5, ← hx6, ← hx7, ← hx8] at HMs
        rw [Nat.add_zero] at hd0
        have HkR := hid kR
        have HB := hid bel
        clear kR bel hx0 hx1 hx2 hx3 hx4 hx5 hx6 hx7 hx8
        go_wp2_with fail
        go_at_call 72
        refine (HMs.out _).mono ?_
        rintro e w7 ⟨q, rfl, hq, bel⟩
        have HB7 : Hid (Below w.heap.size w w7) := (HB.out.trans ((below1 _ _).mono HB.out.size)).trans (bel.mono (HB.out.trans ((below1 _ _).mono HB.out.size)).size)
        have HR7 := hid (row_keep bel (HkR.out.alloc _))
        clear bel
        go_wp2_with (refine wpList_fop rfl .add _ _ _ _ rfl _ _ _ rfl rfl rfl HA hq ?_; intro r1 m1 h1)
        go_roundw
        case rel => exact ⟨k + 1, by omega, by go_num, ⟨_, rfl, h1⟩, HB7.out.trans (below_n _ _ _), HR7.out⟩
        case measure => simp [intOf]; omega
      · have hkn : M = k := by omega
        subst hkn
        rw [← HVV.out] at HA
        have HB := hid bel
        have hki : ¬ (M : Int) < (M : Int) := by omega
        clear kR bel
        cases hfv : finF vv with
        | true =>
          have hpb : pb = true := by rw [HPB.out, hfv]
          have hpv : pv = vv := by rw [HPV.out, hfv]; rfl
          go_wp2_with (go_at_call 73; refine (implIsFinite _ HA).mono ?_; rw [hfv]; rintro e w' ⟨rfl, n, rfl⟩)
          go_ret2
          exact ⟨_, by rw [hpb]; rfl, by rw [hpv]; exact HA, HB.out.trans (below_n _ _ _)⟩
        | false =>
          have hpb : pb = false := by rw [HPB.out, hfv]
          have hpv : pv = some 0 := by rw [HPV.out, hfv]; rfl
          go_wp2_with (go_at_call 73; refine (implIsFinite _ HA).mono ?_; rw [hfv]; rintro e w' ⟨rfl, n, rfl⟩)
          go_ret2
          exact ⟨_, by rw [hpb]; rfl, by rw [hpv]; exact is_zero, HB.out.trans (below_n _ _ _)⟩

end Go.Proofs.Ytejchjjkehmgaaa.MasO
