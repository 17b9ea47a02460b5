/- RunLife of both sides. -/
import Derived.Test.YtmhonhkiakjdjaaLs
import Derived.Test.YtmhonhkiakjdjaaNf
import Derived.Test.YtmhonhkiakjdjaaCan
import Derived.Test.YtmhonhkiakjdjaaStp
import Derived.Test.YtmhonhkiakjdjaaSOwn
import Derived.Test.YtmhonhkiakjdjaaClone
import Derived.Deep.Cut
namespace Go.Proofs.Ytmhonhkiakjdjaa.Rnl
open Go.RowKit Go.Proofs.Ytmhonhkiakjdjaa.Rd Go.Proofs.Ytmhonhkiakjdjaa.Help Go.Proofs.Ytmhonhkiakjdjaa.Ring Go.Proofs.Ytmhonhkiakjdjaa.Small Go.Proofs.Ytmhonhkiakjdjaa.FVal Go.Proofs.Ytmhonhkiakjdjaa.Keep Go.Proofs.Ytmhonhkiakjdjaa.Rule Go.Proofs.Ytmhonhkiakjdjaa.Grow Go.Proofs.Ytmhonhkiakjdjaa.Arr Go.Proofs.Ytmhonhkiakjdjaa.Lf Go.Proofs.Ytmhonhkiakjdjaa.Can Go.Proofs.Ytmhonhkiakjdjaa.Nf
set_option linter.unusedVariables false
set_option linter.unusedSimpArgs false

/-- A step, so many times. -/
def itL (f : List Int → List Int) (z : List Int) : Nat → List Int
  | 0 => z
  | k + 1 => f (itL f z k)
theorem nxt_01 (xs ys zs : List Int) (R C : Nat) (rd : Bool) (i k : Nat) : nxt xs ys zs R C rd i k = 0 ∨ nxt xs ys zs R C rd i k = 1 := by
  unfold nxt; split <;> simp
theorem life_all (xs ys zs : List Int) (R C : Nat) (rd : Bool) (p : Int → Bool) (h0 : p 0 = true) (h1 : p 1 = true) : (lifeL xs ys zs R C rd).all p = true := by
  unfold lifeL grid
  rw [List.all_map, List.all_eq_true]
  intro t _
  rcases nxt_01 xs ys zs R C rd (t / C) (t % C) with h | h <;> simp [h, h0, h1]
theorem life_len (xs ys zs : List Int) (R C : Nat) (rd : Bool) : (lifeL xs ys zs R C rd).length = R * C := by unfold lifeL; rw [grid_len]
theorem life_field {R C : Nat} {zs : List Int} (h : fieldB R C zs = true) (xs ys z : List Int) (rd : Bool) : fieldB R C (lifeL xs ys z R C rd) = true := by
  simp only [fieldB, Bool.and_eq_true] at h ⊢
  refine ⟨h.1, ?_, ?_⟩
  · rw [life_len]; simp
  · unfold allB; exact life_all xs ys z R C rd _ (by decide) (by decide)
theorem life_plain (xs ys z : List Int) (R C : Nat) (rd : Bool) : plainB (lifeL xs ys z R C rd) = true := by
  unfold plainB; exact life_all xs ys z R C rd _ (by decide) (by decide)
theorem it_ok {xs ys zs : List Int} {R C : Nat} {rd : Bool} (hf : fieldB R C zs = true) (hp : plainB zs = true) (j : Nat) :
    fieldB R C (itL (fun z => lifeL xs ys z R C rd) zs j) = true ∧ plainB (itL (fun z => lifeL xs ys z R C rd) zs j) = true := by
  cases j with
  | zero => exact ⟨hf, hp⟩
  | succ j => exact ⟨life_field hf _ _ _ _, life_plain _ _ _ _ _ _⟩
theorem it_len {xs ys zs : List Int} {R C n : Nat} {rd : Bool} (hl : zs.length = n) (hn : n = R * C) (j : Nat) : (itL (fun z => lifeL xs ys z R C rd) zs j).length = n := by
  cases j with
  | zero => exact hl
  | succ j => show (lifeL _ _ _ _ _ _).length = n; rw [life_len, hn]

theorem cell_keep0 {w w' : World} {p : Addr} {c : Value} (bel : Below w.heap.size w w') (h : w.cell? p = some c) : w'.cell? p = some c := (bel.cell (World.block_lt_of_cell? w p h)).trans h
set_option maxHeartbeats 4000000 in
theorem l04Run {w : World} {N LB R C n S : Nat} {rd : Bool} {b bx by2 : Nat} {v vx vy : Value} {xs ys zs : List Int} (kl0 : w.cell? ⟨LB, 0, none⟩ = some vx) (kl1 : w.cell? ⟨LB, 1, none⟩ = some vy) (hx : Rd w bx vx xs) (hy : Rd w by2 vy ys) (k0 : w.cell? ⟨N, 0, none⟩ = some (.int .i64 R)) (k1 : w.cell? ⟨N, 1, none⟩ = some (.int .i64 C)) (k2 : w.cell? ⟨N, 2, none⟩ = some v) (h : Rd w b v zs) (hq : fieldB R C zs = true) (hn : n = R * C) (hpl : plainB zs = true) (hS : S ≤ 512) :
    Calls Try.prog 52 #[.pointer (some ⟨LB, 0, none⟩), .pointer (some ⟨N, 0, none⟩), .bool rd, .int .i64 S] w fun e w' => ∃ b' k, e = .returned (ruleV R C (.slice (some ⟨b', 0, none⟩) n k)) ∧ Own 2 w' b' (.slice (some ⟨b', 0, none⟩) n k) (itL (fun z => lifeL xs ys z R C rd) zs S) ∧ w.heap.size ≤ b' ∧ Below w.heap.size w w' := by
  obtain ⟨hR, hC, hl, hle⟩ := field_nat hq
  have HZ : Hid (1 ≤ zs.length ∧ zs.length ≤ 1048576) := by simp only [Hid]; rw [hl]; exact ⟨Nat.mul_pos hR.1 hC.1, by omega⟩
  have HL : Hid (zs.length = n) := by simp only [Hid]; rw [hn]; exact hl
  have HK := hid (And.intro kl0 (And.intro kl1 (And.intro k0 (And.intro k1 k2))))
  have HX : Hid (Rd w bx vx xs) := hx
  have HY : Hid (Rd w by2 vy ys) := hy
  have HH : Hid (Rd w b v zs) := h
  have HQ := hid hq
  have HN := hid hn
  have HPL := hid hpl
  clear kl0 kl1 k0 k1 k2 hx hy h hq hn hpl hR hC hl hle
  go_enter Try.func52, Try.ntmps52
  go_wp2_with fail
  obtain ⟨w1, hW⟩ : ∃ w1, w1 = w.alloc (Obj.cells #[.int .i64 0, .int .i64 0, .slice none 0 0] 26) := ⟨_, rfl⟩
  obtain ⟨NT, hT⟩ : ∃ NT, NT = w.heap.size := ⟨_, rfl⟩
  have bw : Below w.heap.size w w1 := by rw [hW]; exact below1 _ _
  have kT : w1.heap[NT]? = some (Obj.cells #[.int .i64 0, .int .i64 0, .slice none 0 0] 26) := by rw [hW]; exact FNew.heap_top hT
  have HNT : Hid (w.heap.size ≤ NT) := by simp only [Hid]; omega
  simp only [← hW, ← hT]
  clear hW hT
  go_at_call 40
  refine (SOwn.l04Own (cell_keep bw HK.out.2.2.1) (cell_keep bw HK.out.2.2.2.1) (cell_keep bw HK.out.2.2.2.2) (HH.out.keep bw (Nat.le_refl _)) HZ.out).mono ?_
  rw [HL.out]
  rintro e w2 ⟨b0, k, rfl, ow, lo, hk1, hk2, bel⟩
  have HNTb : Hid (NT ≠ b0) := Nat.ne_of_lt (Nat.lt_of_lt_of_le (heap_lt kT) lo)
  have HLO : Hid (w.heap.size ≤ b0) := Nat.le_trans bw.size lo
  replace kT := heap_keep bel kT
  have HB2 := hid (bw.trans (bel.mono bw.size))
  have HOW := hid ow
  have HKT := hid kT
  clear bel bw lo ow kT hk1 hk2
  go_wp2_with fail
  obtain ⟨w4, hW⟩ : ∃ w4, w4 = w2.alloc (Obj.cells #[.int .i64 R, .int .i64 C, .slice (some ⟨b0, 0, none⟩) n k] 26) := ⟨_, rfl⟩
  obtain ⟨NW, hN⟩ : ∃ NW, NW = w2.heap.size := ⟨_, rfl⟩
  have bel : Below w2.heap.size w2 w4 := by rw [hW]; exact below1 _ _
  have HKW : Hid (w4.heap[NW]? = some (Obj.cells #[.int .i64 R, .int .i64 C, .slice (some ⟨b0, 0, none⟩) n k] 26)) := by simp only [Hid]; rw [hW]; exact FNew.heap_top hN
  have HNW : Hid (w.heap.size ≤ NW) := by simp only [Hid]; rw [hN]; exact HB2.out.size
  have HWT : Hid (NW ≠ NT) := by simp only [Hid]; rw [hN]; exact Nat.ne_of_gt (heap_lt HKT.out)
  have HWb : Hid (NW ≠ b0) := by simp only [Hid]; rw [hN]; exact Nat.ne_of_gt HOW.out.lt
  have HKT4 := hid (heap_keep bel HKT.out)
  have HOW4 := hid (HOW.out.keep bel)
  have HB4 := hid (HB2.out.trans (bel.mono HB2.out.size))
  simp only [← hW, ← hN]
  clear hW hN bel HKT HOW HB2
  go_loopw [3] (fun t wr => ∃ j : Nat, j ≤ S ∧ t = .int .i64 ((S - j : Nat) : Int) ∧ ∃ bc kc : Nat, Own 2 wr bc (.slice (some ⟨bc, 0, none⟩) n kc) (itL (fun z => lifeL xs ys z R C rd) zs j) ∧ wr.heap[NW]? = some (Obj.cells #[.int .i64 R, .int .i64 C, .slice (some ⟨bc, 0, none⟩) n kc] 26) ∧ wr.heap[NT]? = some (Obj.cells #[.int .i64 0, .int .i64 0, .slice none 0 0] 26) ∧ w.heap.size ≤ bc ∧ NW ≠ bc ∧ NT ≠ bc ∧ Below w.heap.size w wr) (fun t _ => (intOf t).toNat)
  case atStart => exact ⟨0, Nat.zero_le _, rfl, b0, k, HOW4.out, HKW.out, HKT4.out, HLO.out, HWb.out, HNTb.out, HB4.out⟩
  case round =>
    clear HOW4 HKW HKT4 HLO HWb HNTb HB4
    obtain ⟨j, hj, rfl, bc, kc, ow, kW, kT, hlo, hWb0, hTb0, hbel⟩ := hrel
    obtain ⟨D, hD⟩ : ∃ D, D = S - j := ⟨_, rfl⟩
    have HD := hid hD
    rw [← hD]
    have hD5 : D ≤ 512 := by omega
    by_cases hlt : 0 < D
    · clear hD
      have c0 : wr.cell? ⟨NW, 0, none⟩ = some (.int .i64 R) := Go.Joins.cell_of_block kW 0
      have c1 : wr.cell? ⟨NW, 1, none⟩ = some (.int .i64 C) := Go.Joins.cell_of_block kW 1
      have c2 : wr.cell? ⟨NW, 2, none⟩ = some (.slice (some ⟨bc, 0, none⟩) n kc) := Go.Joins.cell_of_block kW 2
      have HC := hid (And.intro c0 (And.intro c1 c2))
      have HKW0 := hid kW
      have HKT0 := hid kT
      have HB := hid hbel
      have HOW := hid ow
      clear c0 c1 c2 kW kT hbel ow hlo hWb0 hTb0
      go_wp2_with fail
      go_at_call 47
      refine (Ls.specNext (cell_keep0 HB.out HK.out.1) (cell_keep0 HB.out HK.out.2.1) (HX.out.keep HB.out (Nat.le_refl _)) (HY.out.keep HB.out (Nat.le_refl _)) HC.out.1 HC.out.2.1 HC.out.2.2 HOW.out.rd (it_ok HQ.out HPL.out j).1 HN.out (it_ok HQ.out HPL.out j).2).mono ?_
      rintro e w5 ⟨b2, rfl, ow2, lo2, bel⟩
      have HWB : Hid (NW ≠ b2) := Nat.ne_of_lt (Nat.lt_of_lt_of_le (heap_lt HKW0.out) lo2)
      have HTB : Hid (NT ≠ b2) := Nat.ne_of_lt (Nat.lt_of_lt_of_le (heap_lt HKT0.out) lo2)
      have HLO2 : Hid (w.heap.size ≤ b2) := Nat.le_trans HB.out.size lo2
      have HKW := hid (heap_keep bel HKW0.out)
      have HKT := hid (heap_keep bel HKT0.out)
      have HB5 := hid (HB.out.trans (bel.mono HB.out.size))
      have HO2 := hid ow2
      have y0 : w5.cell? ⟨NW, 0, none⟩ = some (.int .i64 R) := Go.Joins.cell_of_block HKW.out 0
      have y1 : w5.cell? ⟨NW, 1, none⟩ = some (.int .i64 C) := Go.Joins.cell_of_block HKW.out 1
      have y2 : w5.cell? ⟨NW, 2, none⟩ = some (.slice (some ⟨bc, 0, none⟩) n kc) := Go.Joins.cell_of_block HKW.out 2
      have g0 : w5.frozen? ⟨NW, 0, none⟩ = false := Go.Joins.unfrozen_of_block HKW.out 0
      have g1 : w5.frozen? ⟨NW, 1, none⟩ = false := Go.Joins.unfrozen_of_block HKW.out 1
      have g2 : w5.frozen? ⟨NW, 2, none⟩ = false := Go.Joins.unfrozen_of_block HKW.out 2
      clear HC HKW0 HKT0 HB HOW ow2 lo2 bel
      go_wp2
      have hWb := HWB.out
      have qk := (Go.Joins.block_setCell (i := 2) (Go.Joins.block_setCell (i := 1) (Go.Joins.block_setCell (i := 0) HKW.out (.int .i64 R)) (.int .i64 C)) (.slice (some ⟨b2, 0, none⟩) n n))
      have qo := (own_set (own_set (own_set HO2.out ⟨NW, 0, none⟩ (.int .i64 R) hWb) ⟨NW, 1, none⟩ (.int .i64 C) hWb) ⟨NW, 2, none⟩ (.slice (some ⟨b2, 0, none⟩) n n) hWb)
      have qb := (((HB5.out.setCell (p := ⟨NW, 0, none⟩) HNW.out (.int .i64 R)).setCell (p := ⟨NW, 1, none⟩) HNW.out (.int .i64 C)).setCell (p := ⟨NW, 2, none⟩) HNW.out (.slice (some ⟨b2, 0, none⟩) n n))
      have qt := ((Below.heap_setCell _ ⟨NW, 2, none⟩ (.slice (some ⟨b2, 0, none⟩) n n) _ HWT.out.symm).trans ((Below.heap_setCell _ ⟨NW, 1, none⟩ (.int .i64 C) _ HWT.out.symm).trans ((Below.heap_setCell _ ⟨NW, 0, none⟩ (.int .i64 R) _ HWT.out.symm).trans HKT.out)))
      obtain ⟨w6, hW6⟩ : ∃ w6, w6 = (((w5.setCell ⟨NW, 0, none⟩ (.int .i64 R)).setCell ⟨NW, 1, none⟩ (.int .i64 C)).setCell ⟨NW, 2, none⟩ (.slice (some ⟨b2, 0, none⟩) n n)) := ⟨_, rfl⟩
      rw [← hW6] at qk qo qb qt
      simp only [← hW6]
      have HF := hid (And.intro qo (And.intro qk (And.intro qt qb)))
      clear hW6 qk qo qb qt y0 y1 y2 g0 g1 g2 hWb HKW HKT HB5 HO2
      go_roundw
      case rel =>
        have h1 := HD.out
        have h2 : ((S - (j + 1) : Nat) : Int) = (D : Int) - 1 := by omega
        have h3 : j + 1 ≤ S := by omega
        rw [← h2]
        exact ⟨j + 1, h3, rfl, b2, n, HF.out.1, HF.out.2.1, HF.out.2.2.1, HLO2.out, HWB.out, HTB.out, HF.out.2.2.2⟩
      case measure => simp [intOf]; omega
    · have hj2 : j = S := by omega
      subst hj2
      have hD0 : D = 0 := by omega
      subst hD0
      have HNB := hid hTb0
      have HLo := hid hlo
      have HB := hid hbel
      have HO := hid ow
      have x0 : wr.cell? ⟨NW, 0, none⟩ = some (.int .i64 R) := Go.Joins.cell_of_block kW 0
      have x1 : wr.cell? ⟨NW, 1, none⟩ = some (.int .i64 C) := Go.Joins.cell_of_block kW 1
      have x2 : wr.cell? ⟨NW, 2, none⟩ = some (.slice (some ⟨bc, 0, none⟩) n kc) := Go.Joins.cell_of_block kW 2
      clear HD hD hlt hj hWb0 hTb0 hlo hbel ow kW
      have y0 : wr.cell? ⟨NT, 0, none⟩ = some (.int .i64 0) := Go.Joins.cell_of_block kT 0
      have y1 : wr.cell? ⟨NT, 1, none⟩ = some (.int .i64 0) := Go.Joins.cell_of_block kT 1
      have y2 : wr.cell? ⟨NT, 2, none⟩ = some (.slice none 0 0) := Go.Joins.cell_of_block kT 2
      have g0 : wr.frozen? ⟨NT, 0, none⟩ = false := Go.Joins.unfrozen_of_block kT 0
      have g1 : wr.frozen? ⟨NT, 1, none⟩ = false := Go.Joins.unfrozen_of_block kT 1
      have g2 : wr.frozen? ⟨NT, 2, none⟩ = false := Go.Joins.unfrozen_of_block kT 2
      have HKx := hid kT
      clear kT
      go_wp2
      obtain ⟨W5, hW⟩ : ∃ W5, W5 = (((wr.setCell ⟨NT, 0, none⟩ (.int .i64 R)).setCell ⟨NT, 1, none⟩ (.int .i64 C)).setCell ⟨NT, 2, none⟩ (.slice (some ⟨bc, 0, none⟩) n kc)) := ⟨_, rfl⟩
      have q0 := (Go.Joins.block_setCell (i := 2) (Go.Joins.block_setCell (i := 1) (Go.Joins.block_setCell (i := 0) HKx.out (.int .i64 R)) (.int .i64 C)) (.slice (some ⟨bc, 0, none⟩) n kc))
      rw [← hW] at q0
      have z0 : W5.cell? ⟨NT, 0, none⟩ = some (.int .i64 R) := Go.Joins.cell_of_block q0 0
      have z1 : W5.cell? ⟨NT, 1, none⟩ = some (.int .i64 C) := Go.Joins.cell_of_block q0 1
      have z2 : W5.cell? ⟨NT, 2, none⟩ = some (.slice (some ⟨bc, 0, none⟩) n kc) := Go.Joins.cell_of_block q0 2
      have O5 := (own_set (own_set (own_set HO.out ⟨NT, 0, none⟩ (.int .i64 R) HNB.out) ⟨NT, 1, none⟩ (.int .i64 C) HNB.out) ⟨NT, 2, none⟩ (.slice (some ⟨bc, 0, none⟩) n kc) HNB.out)
      rw [← hW] at O5
      have B5 : Below w.heap.size w W5 := by
        have h1 := HNT.out
        rw [hW]
        exact ((HB.out.setCell (by simp; omega) _).setCell (by simp; omega) _).setCell (by simp; omega) _
      simp only [← hW]
      clear hW q0
      simp [bodyPost, results, Try.results52, go_sem, z0, z1, z2]
      exact ⟨bc, kc, ⟨rfl, rfl⟩, O5, HLo.out, B5⟩

set_option maxHeartbeats 4000000 in
theorem specNo1 {w : World} {s r : Int} {rd : Bool} {st : Int} {b1 b2 b : Nat} {v1 v2 v : Value} {xs ys zs : List Int} (h1 : Rd w b1 v1 xs) (h2 : Rd w b2 v2 ys) (h : Rd w b v zs) (hq : canB xs ys s r zs = false) :
    Calls Try.prog 23 #[lifeV v1 v2, ruleV s r v, .bool rd, .int .i64 st] w fun e w' => e = .returned (.tuple #[ruleV 0 0 (.slice none 0 0), .bool false]) ∧ Below w.heap.size w w' := by
  have H1 := hid h1
  have H2 := hid h2
  have HH := hid h
  have HQ := hid hq
  obtain ⟨ao, cap, rfl, hc, hm, _⟩ := h
  obtain ⟨ao1, cap1, rfl, hc1, hm1, _⟩ := h1
  obtain ⟨ao2, cap2, rfl, hc2, hm2, _⟩ := h2
  clear hc hm hc1 hm1 hc2 hm2 hq
  go_enter Try.func23, Try.ntmps23
  go_wp2_with fail
  obtain ⟨w1, hW⟩ : ∃ w1, w1 = (((w.alloc (Obj.cells #[.slice ao1 xs.length cap1, .slice ao2 ys.length cap2] 37)).alloc (Obj.cells #[.int .i64 s, .int .i64 r, .slice ao zs.length cap] 26)).alloc (Obj.cells #[.int .i64 0, .int .i64 0, .slice none 0 0] 26)) := ⟨_, rfl⟩
  obtain ⟨LB, hL⟩ : ∃ LB, LB = w.heap.size := ⟨_, rfl⟩
  obtain ⟨N, hN⟩ : ∃ N, N = LB + 1 := ⟨_, rfl⟩
  obtain ⟨NT, hT⟩ : ∃ NT, NT = N + 1 := ⟨_, rfl⟩
  have st_ : Below w.heap.size w w1 ∧ w1.cell? ⟨LB, 0, none⟩ = some (.slice ao1 xs.length cap1) ∧ w1.cell? ⟨LB, 1, none⟩ = some (.slice ao2 ys.length cap2) ∧ w1.cell? ⟨N, 0, none⟩ = some (.int .i64 s) ∧ w1.cell? ⟨N, 1, none⟩ = some (.int .i64 r) ∧ w1.cell? ⟨N, 2, none⟩ = some (.slice ao zs.length cap) ∧ w.heap.size ≤ w1.heap.size := by
    rw [hW, hN, hL]
    exact ⟨Go.Joins.below_alloc3 _ _ _ _, cell_keep (Go.Joins.below_alloc2 _ _ _) (by simp), cell_keep (Go.Joins.below_alloc2 _ _ _) (by simp), cell_keep (below1 _ _) (by simp), cell_keep (below1 _ _) (by simp), cell_keep (below1 _ _) (by simp), by simp <;> omega⟩
  have kT : w1.heap[NT]? = some (Obj.cells #[.int .i64 0, .int .i64 0, .slice none 0 0] 26) := by rw [hW]; exact FNew.heap_top (by rw [hT, hN, hL]; simp)
  have HNT : Hid (w.heap.size ≤ NT) := by simp only [Hid]; omega
  simp only [← hW, ← hL, ← hN, ← hT]
  clear hW hL hN hT
  go_at_call 46
  refine (l04Can st_.2.1 st_.2.2.1 (H1.out.keep st_.1 (Nat.le_refl _)) (H2.out.keep st_.1 (Nat.le_refl _)) (HH.out.keep st_.1 (Nat.le_refl _)) st_.2.2.2.1 st_.2.2.2.2.1 st_.2.2.2.2.2.1).mono ?_
  rw [HQ.out]
  rintro e w2 ⟨rfl, hm2⟩
  have bel := Can.below_m hm2
  clear hm2
  replace st_ := next5_0 bel st_
  replace kT := (bel.block NT (Array.getElem?_eq_some_iff.1 kT).1).trans kT
  clear bel
  have HB := hid st_.1
  have y0 : w2.cell? ⟨NT, 0, none⟩ = some (.int .i64 0) := Go.Joins.cell_of_block kT 0
  have y1 : w2.cell? ⟨NT, 1, none⟩ = some (.int .i64 0) := Go.Joins.cell_of_block kT 1
  have y2 : w2.cell? ⟨NT, 2, none⟩ = some (.slice none 0 0) := Go.Joins.cell_of_block kT 2
  have g0 : w2.frozen? ⟨NT, 0, none⟩ = false := Go.Joins.unfrozen_of_block kT 0
  have g1 : w2.frozen? ⟨NT, 1, none⟩ = false := Go.Joins.unfrozen_of_block kT 1
  have g2 : w2.frozen? ⟨NT, 2, none⟩ = false := Go.Joins.unfrozen_of_block kT 2
  have HKx := hid kT
  clear kT
  go_wp2
  obtain ⟨W5, hW⟩ : ∃ W5, W5 = (((w2.setCell ⟨NT, 0, none⟩ (.int .i64 0)).setCell ⟨NT, 1, none⟩ (.int .i64 0)).setCell ⟨NT, 2, none⟩ (.slice none 0 0)) := ⟨_, rfl⟩
  have q0 := (Go.Joins.block_setCell (i := 2) (Go.Joins.block_setCell (i := 1) (Go.Joins.block_setCell (i := 0) HKx.out (.int .i64 0)) (.int .i64 0)) (.slice none 0 0))
  rw [← hW] at q0
  have z0 : W5.cell? ⟨NT, 0, none⟩ = some (.int .i64 0) := Go.Joins.cell_of_block q0 0
  have z1 : W5.cell? ⟨NT, 1, none⟩ = some (.int .i64 0) := Go.Joins.cell_of_block q0 1
  have z2 : W5.cell? ⟨NT, 2, none⟩ = some (.slice none 0 0) := Go.Joins.cell_of_block q0 2
  have B5 : Below w.heap.size w W5 := by
    have h1 := HNT.out
    rw [hW]
    exact ((HB.out.setCell (by simp; omega) _).setCell (by simp; omega) _).setCell (by simp; omega) _
  simp only [← hW]
  clear hW q0
  simp [bodyPost, results, Try.results23, go_sem, z0, z1, z2]
  exact B5

set_option maxHeartbeats 4000000 in
theorem specNo2 {w : World} {s r : Int} {rd : Bool} {st : Int} {b1 b2 b : Nat} {v1 v2 v : Value} {xs ys zs : List Int} (h1 : Rd w b1 v1 xs) (h2 : Rd w b2 v2 ys) (h : Rd w b v zs) (hq : canB xs ys s r zs = true) (hsr : ¬ (0 ≤ st ∧ st ≤ 512)) :
    Calls Try.prog 23 #[lifeV v1 v2, ruleV s r v, .bool rd, .int .i64 st] w fun e w' => e = .returned (.tuple #[ruleV 0 0 (.slice none 0 0), .bool false]) ∧ Below w.heap.size w w' := by
  have HSB : Hid (decide (0 ≤ st ∧ st ≤ 512) = false) := decide_eq_false hsr
  clear hsr
  have H1 := hid h1
  have H2 := hid h2
  have HH := hid h
  have HQ := hid hq
  obtain ⟨ao, cap, rfl, hc, hm, _⟩ := h
  obtain ⟨ao1, cap1, rfl, hc1, hm1, _⟩ := h1
  obtain ⟨ao2, cap2, rfl, hc2, hm2, _⟩ := h2
  clear hc hm hc1 hm1 hc2 hm2 hq
  go_enter Try.func23, Try.ntmps23
  go_wp2_with fail
  obtain ⟨w1, hW⟩ : ∃ w1, w1 = (((w.alloc (Obj.cells #[.slice ao1 xs.length cap1, .slice ao2 ys.length cap2] 37)).alloc (Obj.cells #[.int .i64 s, .int .i64 r, .slice ao zs.length cap] 26)).alloc (Obj.cells #[.int .i64 0, .int .i64 0, .slice none 0 0] 26)) := ⟨_, rfl⟩
  obtain ⟨LB, hL⟩ : ∃ LB, LB = w.heap.size := ⟨_, rfl⟩
  obtain ⟨N, hN⟩ : ∃ N, N = LB + 1 := ⟨_, rfl⟩
  obtain ⟨NT, hT⟩ : ∃ NT, NT = N + 1 := ⟨_, rfl⟩
  have st_ : Below w.heap.size w w1 ∧ w1.cell? ⟨LB, 0, none⟩ = some (.slice ao1 xs.length cap1) ∧ w1.cell? ⟨LB, 1, none⟩ = some (.slice ao2 ys.length cap2) ∧ w1.cell? ⟨N, 0, none⟩ = some (.int .i64 s) ∧ w1.cell? ⟨N, 1, none⟩ = some (.int .i64 r) ∧ w1.cell? ⟨N, 2, none⟩ = some (.slice ao zs.length cap) ∧ w.heap.size ≤ w1.heap.size := by
    rw [hW, hN, hL]
    exact ⟨Go.Joins.below_alloc3 _ _ _ _, cell_keep (Go.Joins.below_alloc2 _ _ _) (by simp), cell_keep (Go.Joins.below_alloc2 _ _ _) (by simp), cell_keep (below1 _ _) (by simp), cell_keep (below1 _ _) (by simp), cell_keep (below1 _ _) (by simp), by simp <;> omega⟩
  have kT : w1.heap[NT]? = some (Obj.cells #[.int .i64 0, .int .i64 0, .slice none 0 0] 26) := by rw [hW]; exact FNew.heap_top (by rw [hT, hN, hL]; simp)
  have HNT : Hid (w.heap.size ≤ NT) := by simp only [Hid]; omega
  simp only [← hW, ← hL, ← hN, ← hT]
  clear hW hL hN hT
  go_at_call 46
  refine (l04Can st_.2.1 st_.2.2.1 (H1.out.keep st_.1 (Nat.le_refl _)) (H2.out.keep st_.1 (Nat.le_refl _)) (HH.out.keep st_.1 (Nat.le_refl _)) st_.2.2.2.1 st_.2.2.2.2.1 st_.2.2.2.2.2.1).mono ?_
  rw [HQ.out]
  rintro e w2 ⟨rfl, hm2⟩
  have bel := Can.below_m hm2
  clear hm2
  replace st_ := next5_0 bel st_
  replace kT := (bel.block NT (Array.getElem?_eq_some_iff.1 kT).1).trans kT
  clear bel
  go_wp2_with fail
  go_at_call 51
  refine (inB (lo := 0) (hi := 512)).mono ?_
  rw [HSB.out]
  rintro e w3 ⟨rfl, rfl⟩
  have HB := hid st_.1
  have y0 : w2.cell? ⟨NT, 0, none⟩ = some (.int .i64 0) := Go.Joins.cell_of_block kT 0
  have y1 : w2.cell? ⟨NT, 1, none⟩ = some (.int .i64 0) := Go.Joins.cell_of_block kT 1
  have y2 : w2.cell? ⟨NT, 2, none⟩ = some (.slice none 0 0) := Go.Joins.cell_of_block kT 2
  have g0 : w2.frozen? ⟨NT, 0, none⟩ = false := Go.Joins.unfrozen_of_block kT 0
  have g1 : w2.frozen? ⟨NT, 1, none⟩ = false := Go.Joins.unfrozen_of_block kT 1
  have g2 : w2.frozen? ⟨NT, 2, none⟩ = false := Go.Joins.unfrozen_of_block kT 2
  have HKx := hid kT
  clear kT
  go_wp2
  obtain ⟨W5, hW⟩ : ∃ W5, W5 = (((w2.setCell ⟨NT, 0, none⟩ (.int .i64 0)).setCell ⟨NT, 1, none⟩ (.int .i64 0)).setCell ⟨NT, 2, none⟩ (.slice none 0 0)) := ⟨_, rfl⟩
  have q0 := (Go.Joins.block_setCell (i := 2) (Go.Joins.block_setCell (i := 1) (Go.Joins.block_setCell (i := 0) HKx.out (.int .i64 0)) (.int .i64 0)) (.slice none 0 0))
  rw [← hW] at q0
  have z0 : W5.cell? ⟨NT, 0, none⟩ = some (.int .i64 0) := Go.Joins.cell_of_block q0 0
  have z1 : W5.cell? ⟨NT, 1, none⟩ = some (.int .i64 0) := Go.Joins.cell_of_block q0 1
  have z2 : W5.cell? ⟨NT, 2, none⟩ = some (.slice none 0 0) := Go.Joins.cell_of_block q0 2
  have B5 : Below w.heap.size w W5 := by
    have h1 := HNT.out
    rw [hW]
    exact ((HB.out.setCell (by simp; omega) _).setCell (by simp; omega) _).setCell (by simp; omega) _
  simp only [← hW]
  clear hW q0
  simp [bodyPost, results, Try.results23, go_sem, z0, z1, z2]
  exact B5

set_option maxHeartbeats 4000000 in
theorem implNo1 {w : World} {s r : Int} {rd : Bool} {st : Int} {b1 b2 b : Nat} {v1 v2 v : Value} {xs ys zs : List Int} (h1 : Rd w b1 v1 xs) (h2 : Rd w b2 v2 ys) (h : Rd w b v zs) (hq : canB xs ys s r zs = false) :
    Calls Try.prog 24 #[lifeV v1 v2, ruleV s r v, .bool rd, .int .i64 st] w fun e w' => e = .returned (.tuple #[ruleV 0 0 (.slice none 0 0), .bool false]) ∧ Below w.heap.size w w' := by
  have H1 := hid h1
  have H2 := hid h2
  have HH := hid h
  have HQ := hid hq
  obtain ⟨ao, cap, rfl, hc, hm, _⟩ := h
  obtain ⟨ao1, cap1, rfl, hc1, hm1, _⟩ := h1
  obtain ⟨ao2, cap2, rfl, hc2, hm2, _⟩ := h2
  clear hc hm hc1 hm1 hc2 hm2 hq
  go_enter Try.func24, Try.ntmps24
  go_wp2_with fail
  obtain ⟨w1, hW⟩ : ∃ w1, w1 = (((w.alloc (Obj.cells #[.slice ao1 xs.length cap1, .slice ao2 ys.length cap2] 37)).alloc (Obj.cells #[.int .i64 s, .int .i64 r, .slice ao zs.length cap] 26)).alloc (Obj.cells #[.int .i64 0, .int .i64 0, .slice none 0 0] 26)) := ⟨_, rfl⟩
  obtain ⟨LB, hL⟩ : ∃ LB, LB = w.heap.size := ⟨_, rfl⟩
  obtain ⟨N, hN⟩ : ∃ N, N = LB + 1 := ⟨_, rfl⟩
  obtain ⟨NT, hT⟩ : ∃ NT, NT = N + 1 := ⟨_, rfl⟩
  have st_ : Below w.heap.size w w1 ∧ w1.cell? ⟨LB, 0, none⟩ = some (.slice ao1 xs.length cap1) ∧ w1.cell? ⟨LB, 1, none⟩ = some (.slice ao2 ys.length cap2) ∧ w1.cell? ⟨N, 0, none⟩ = some (.int .i64 s) ∧ w1.cell? ⟨N, 1, none⟩ = some (.int .i64 r) ∧ w1.cell? ⟨N, 2, none⟩ = some (.slice ao zs.length cap) ∧ w.heap.size ≤ w1.heap.size := by
    rw [hW, hN, hL]
    exact ⟨Go.Joins.below_alloc3 _ _ _ _, cell_keep (Go.Joins.below_alloc2 _ _ _) (by simp), cell_keep (Go.Joins.below_alloc2 _ _ _) (by simp), cell_keep (below1 _ _) (by simp), cell_keep (below1 _ _) (by simp), cell_keep (below1 _ _) (by simp), by simp <;> omega⟩
  have kT : w1.heap[NT]? = some (Obj.cells #[.int .i64 0, .int .i64 0, .slice none 0 0] 26) := by rw [hW]; exact FNew.heap_top (by rw [hT, hN, hL]; simp)
  have HNT : Hid (w.heap.size ≤ NT) := by simp only [Hid]; omega
  simp only [← hW, ← hL, ← hN, ← hT]
  clear hW hL hN hT
  go_at_call 48
  refine (canLive (H1.out.keep st_.1 (Nat.le_refl _)) (H2.out.keep st_.1 (Nat.le_refl _)) (HH.out.keep st_.1 (Nat.le_refl _))).mono ?_
  rw [HQ.out]
  rintro e w2 ⟨rfl, bel⟩
  replace st_ := next5_0 bel st_
  replace kT := (bel.block NT (Array.getElem?_eq_some_iff.1 kT).1).trans kT
  clear bel
  have HB := hid st_.1
  have y0 : w2.cell? ⟨NT, 0, none⟩ = some (.int .i64 0) := Go.Joins.cell_of_block kT 0
  have y1 : w2.cell? ⟨NT, 1, none⟩ = some (.int .i64 0) := Go.Joins.cell_of_block kT 1
  have y2 : w2.cell? ⟨NT, 2, none⟩ = some (.slice none 0 0) := Go.Joins.cell_of_block kT 2
  have g0 : w2.frozen? ⟨NT, 0, none⟩ = false := Go.Joins.unfrozen_of_block kT 0
  have g1 : w2.frozen? ⟨NT, 1, none⟩ = false := Go.Joins.unfrozen_of_block kT 1
  have g2 : w2.frozen? ⟨NT, 2, none⟩ = false := Go.Joins.unfrozen_of_block kT 2
  have HKx := hid kT
  clear kT
  go_wp2
  obtain ⟨W5, hW⟩ : ∃ W5, W5 = (((w2.setCell ⟨NT, 0, none⟩ (.int .i64 0)).setCell ⟨NT, 1, none⟩ (.int .i64 0)).setCell ⟨NT, 2, none⟩ (.slice none 0 0)) := ⟨_, rfl⟩
  have q0 := (Go.Joins.block_setCell (i := 2) (Go.Joins.block_setCell (i := 1) (Go.Joins.block_setCell (i := 0) HKx.out (.int .i64 0)) (.int .i64 0)) (.slice none 0 0))
  rw [← hW] at q0
  have z0 : W5.cell? ⟨NT, 0, none⟩ = some (.int .i64 0) := Go.Joins.cell_of_block q0 0
  have z1 : W5.cell? ⟨NT, 1, none⟩ = some (.int .i64 0) := Go.Joins.cell_of_block q0 1
  have z2 : W5.cell? ⟨NT, 2, none⟩ = some (.slice none 0 0) := Go.Joins.cell_of_block q0 2
  have B5 : Below w.heap.size w W5 := by
    have h1 := HNT.out
    rw [hW]
    exact ((HB.out.setCell (by simp; omega) _).setCell (by simp; omega) _).setCell (by simp; omega) _
  simp only [← hW]
  clear hW q0
  simp [bodyPost, results, Try.results24, go_sem, z0, z1, z2]
  exact B5

set_option maxHeartbeats 4000000 in
theorem implNo2 {w : World} {s r : Int} {rd : Bool} {st : Int} {b1 b2 b : Nat} {v1 v2 v : Value} {xs ys zs : List Int} (h1 : Rd w b1 v1 xs) (h2 : Rd w b2 v2 ys) (h : Rd w b v zs) (hq : canB xs ys s r zs = true) (hsr : ¬ (0 ≤ st ∧ st ≤ 512)) :
    Calls Try.prog 24 #[lifeV v1 v2, ruleV s r v, .bool rd, .int .i64 st] w fun e w' => e = .returned (.tuple #[ruleV 0 0 (.slice none 0 0), .bool false]) ∧ Below w.heap.size w w' := by
  have HSB : Hid (decide (0 ≤ st ∧ st ≤ 512) = false) := decide_eq_false hsr
  clear hsr
  have H1 := hid h1
  have H2 := hid h2
  have HH := hid h
  have HQ := hid hq
  obtain ⟨ao, cap, rfl, hc, hm, _⟩ := h
  obtain ⟨ao1, cap1, rfl, hc1, hm1, _⟩ := h1
  obtain ⟨ao2, cap2, rfl, hc2, hm2, _⟩ := h2
  clear hc hm hc1 hm1 hc2 hm2 hq
  go_enter Try.func24, Try.ntmps24
  go_wp2_with fail
  obtain ⟨w1, hW⟩ : ∃ w1, w1 = (((w.alloc (Obj.cells #[.slice ao1 xs.length cap1, .slice ao2 ys.length cap2] 37)).alloc (Obj.cells #[.int .i64 s, .int .i64 r, .slice ao zs.length cap] 26)).alloc (Obj.cells #[.int .i64 0, .int .i64 0, .slice none 0 0] 26)) := ⟨_, rfl⟩
  obtain ⟨LB, hL⟩ : ∃ LB, LB = w.heap.size := ⟨_, rfl⟩
  obtain ⟨N, hN⟩ : ∃ N, N = LB + 1 := ⟨_, rfl⟩
  obtain ⟨NT, hT⟩ : ∃ NT, NT = N + 1 := ⟨_, rfl⟩
  have st_ : Below w.heap.size w w1 ∧ w1.cell? ⟨LB, 0, none⟩ = some (.slice ao1 xs.length cap1) ∧ w1.cell? ⟨LB, 1, none⟩ = some (.slice ao2 ys.length cap2) ∧ w1.cell? ⟨N, 0, none⟩ = some (.int .i64 s) ∧ w1.cell? ⟨N, 1, none⟩ = some (.int .i64 r) ∧ w1.cell? ⟨N, 2, none⟩ = some (.slice ao zs.length cap) ∧ w.heap.size ≤ w1.heap.size := by
    rw [hW, hN, hL]
    exact ⟨Go.Joins.below_alloc3 _ _ _ _, cell_keep (Go.Joins.below_alloc2 _ _ _) (by simp), cell_keep (Go.Joins.below_alloc2 _ _ _) (by simp), cell_keep (below1 _ _) (by simp), cell_keep (below1 _ _) (by simp), cell_keep (below1 _ _) (by simp), by simp <;> omega⟩
  have kT : w1.heap[NT]? = some (Obj.cells #[.int .i64 0, .int .i64 0, .slice none 0 0] 26) := by rw [hW]; exact FNew.heap_top (by rw [hT, hN, hL]; simp)
  have HNT : Hid (w.heap.size ≤ NT) := by simp only [Hid]; omega
  simp only [← hW, ← hL, ← hN, ← hT]
  clear hW hL hN hT
  go_at_call 48
  refine (canLive (H1.out.keep st_.1 (Nat.le_refl _)) (H2.out.keep st_.1 (Nat.le_refl _)) (HH.out.keep st_.1 (Nat.le_refl _))).mono ?_
  rw [HQ.out]
  rintro e w2 ⟨rfl, bel⟩
  replace st_ := next5_0 bel st_
  replace kT := (bel.block NT (Array.getElem?_eq_some_iff.1 kT).1).trans kT
  clear bel
  go_wp2_with fail
  go_at_call 53
  refine (isCountB (hi := 512)).mono ?_
  rw [HSB.out]
  rintro e w3 ⟨rfl, rfl⟩
  have HB := hid st_.1
  have y0 : w2.cell? ⟨NT, 0, none⟩ = some (.int .i64 0) := Go.Joins.cell_of_block kT 0
  have y1 : w2.cell? ⟨NT, 1, none⟩ = some (.int .i64 0) := Go.Joins.cell_of_block kT 1
  have y2 : w2.cell? ⟨NT, 2, none⟩ = some (.slice none 0 0) := Go.Joins.cell_of_block kT 2
  have g0 : w2.frozen? ⟨NT, 0, none⟩ = false := Go.Joins.unfrozen_of_block kT 0
  have g1 : w2.frozen? ⟨NT, 1, none⟩ = false := Go.Joins.unfrozen_of_block kT 1
  have g2 : w2.frozen? ⟨NT, 2, none⟩ = false := Go.Joins.unfrozen_of_block kT 2
  have HKx := hid kT
  clear kT
  go_wp2
  obtain ⟨W5, hW⟩ : ∃ W5, W5 = (((w2.setCell ⟨NT, 0, none⟩ (.int .i64 0)).setCell ⟨NT, 1, none⟩ (.int .i64 0)).setCell ⟨NT, 2, none⟩ (.slice none 0 0)) := ⟨_, rfl⟩
  have q0 := (Go.Joins.block_setCell (i := 2) (Go.Joins.block_setCell (i := 1) (Go.Joins.block_setCell (i := 0) HKx.out (.int .i64 0)) (.int .i64 0)) (.slice none 0 0))
  rw [← hW] at q0
  have z0 : W5.cell? ⟨NT, 0, none⟩ = some (.int .i64 0) := Go.Joins.cell_of_block q0 0
  have z1 : W5.cell? ⟨NT, 1, none⟩ = some (.int .i64 0) := Go.Joins.cell_of_block q0 1
  have z2 : W5.cell? ⟨NT, 2, none⟩ = some (.slice none 0 0) := Go.Joins.cell_of_block q0 2
  have B5 : Below w.heap.size w W5 := by
    have h1 := HNT.out
    rw [hW]
    exact ((HB.out.setCell (by simp; omega) _).setCell (by simp; omega) _).setCell (by simp; omega) _
  simp only [← hW]
  clear hW q0
  simp [bodyPost, results, Try.results24, go_sem, z0, z1, z2]
  exact B5

set_option maxHeartbeats 4000000 in
theorem specOk {w : World} {R C n S : Nat} {rd : Bool} {b1 b2 b : Nat} {v1 v2 v : Value} {xs ys zs : List Int} (h1 : Rd w b1 v1 xs) (h2 : Rd w b2 v2 ys) (h : Rd w b v zs) (hq : canB xs ys R C zs = true) (hn : n = R * C) (hS : S ≤ 512) :
    Calls Try.prog 23 #[lifeV v1 v2, ruleV R C v, .bool rd, .int .i64 S] w fun e w' => ∃ b' k, e = .returned ((.tuple #[ruleV R C (.slice (some ⟨b', 0, none⟩) n k), .bool true])) ∧ Own 2 w' b' (.slice (some ⟨b', 0, none⟩) n k) (itL (fun z => lifeL xs ys z R C rd) zs S) ∧ w.heap.size ≤ b' ∧ Below w.heap.size w w' := by
  obtain ⟨hx, hy, hf, hpl⟩ := can_parts hq
  have HX := hid hx
  have HY := hid hy
  have HF := hid hf
  have HPL := hid hpl
  have HN := hid hn
  have HS := hid hS
  have HSB : Hid (decide (0 ≤ (S : Int) ∧ (S : Int) ≤ 512) = true) := decide_eq_true (by omega)
  clear hx hy hf hpl hn hS
  have H1 := hid h1
  have H2 := hid h2
  have HH := hid h
  have HQ := hid hq
  obtain ⟨ao, cap, rfl, hc, hm, _⟩ := h
  obtain ⟨ao1, cap1, rfl, hc1, hm1, _⟩ := h1
  obtain ⟨ao2, cap2, rfl, hc2, hm2, _⟩ := h2
  clear hc hm hc1 hm1 hc2 hm2 hq
  go_enter Try.func23, Try.ntmps23
  go_wp2_with fail
  obtain ⟨w1, hW⟩ : ∃ w1, w1 = (((w.alloc (Obj.cells #[.slice ao1 xs.length cap1, .slice ao2 ys.length cap2] 37)).alloc (Obj.cells #[.int .i64 R, .int .i64 C, .slice ao zs.length cap] 26)).alloc (Obj.cells #[.int .i64 0, .int .i64 0, .slice none 0 0] 26)) := ⟨_, rfl⟩
  obtain ⟨LB, hL⟩ : ∃ LB, LB = w.heap.size := ⟨_, rfl⟩
  obtain ⟨N, hN⟩ : ∃ N, N = LB + 1 := ⟨_, rfl⟩
  obtain ⟨NT, hT⟩ : ∃ NT, NT = N + 1 := ⟨_, rfl⟩
  have st : Below w.heap.size w w1 ∧ w1.cell? ⟨LB, 0, none⟩ = some (.slice ao1 xs.length cap1) ∧ w1.cell? ⟨LB, 1, none⟩ = some (.slice ao2 ys.length cap2) ∧ w1.cell? ⟨N, 0, none⟩ = some (.int .i64 R) ∧ w1.cell? ⟨N, 1, none⟩ = some (.int .i64 C) ∧ w1.cell? ⟨N, 2, none⟩ = some (.slice ao zs.length cap) ∧ w.heap.size ≤ w1.heap.size := by
    rw [hW, hN, hL]
    exact ⟨Go.Joins.below_alloc3 _ _ _ _, cell_keep (Go.Joins.below_alloc2 _ _ _) (by simp), cell_keep (Go.Joins.below_alloc2 _ _ _) (by simp), cell_keep (below1 _ _) (by simp), cell_keep (below1 _ _) (by simp), cell_keep (below1 _ _) (by simp), by simp <;> omega⟩
  have kT : w1.heap[NT]? = some (Obj.cells #[.int .i64 0, .int .i64 0, .slice none 0 0] 26) := by rw [hW]; exact FNew.heap_top (by rw [hT, hN, hL]; simp)
  have HNT : Hid (w.heap.size ≤ NT) := by simp only [Hid]; omega
  simp only [← hW, ← hL, ← hN, ← hT]
  clear hW hL hN hT
  go_at_call 46
  refine (l04Can st.2.1 st.2.2.1 (H1.out.keep st.1 (Nat.le_refl _)) (H2.out.keep st.1 (Nat.le_refl _)) (HH.out.keep st.1 (Nat.le_refl _)) st.2.2.2.1 st.2.2.2.2.1 st.2.2.2.2.2.1).mono ?_
  rw [HQ.out]
  rintro e w2 ⟨rfl, hm2⟩
  have bel := Can.below_m hm2
  clear hm2
  replace st := next5_0 bel st
  replace kT := (bel.block NT (Array.getElem?_eq_some_iff.1 kT).1).trans kT
  clear bel
  go_wp2_with fail
  go_at_call 51
  refine (inB (lo := 0) (hi := 512)).mono ?_
  rw [HSB.out]
  rintro e w3 ⟨rfl, rfl⟩
  go_wp2_with fail
  go_at_call 52
  refine (l04Run st.2.1 st.2.2.1 (H1.out.keep st.1 (Nat.le_refl _)) (H2.out.keep st.1 (Nat.le_refl _)) st.2.2.2.1 st.2.2.2.2.1 st.2.2.2.2.2.1 (HH.out.keep st.1 (Nat.le_refl _)) HF.out HN.out HPL.out HS.out).mono ?_
  rintro e w3 ⟨b', k, rfl, ow, lo, bel⟩
  have HLo : Hid (w.heap.size ≤ b') := Nat.le_trans st.1.size lo
  have HNB : Hid (NT ≠ b') := Nat.ne_of_lt (Nat.lt_of_lt_of_le (Array.getElem?_eq_some_iff.1 kT).1 lo)
  replace kT := (bel.block NT (Array.getElem?_eq_some_iff.1 kT).1).trans kT
  replace st := next5_0 bel st
  have HB := hid st.1
  have HO := hid ow
  clear bel ow lo st
  have y0 : w3.cell? ⟨NT, 0, none⟩ = some (.int .i64 0) := Go.Joins.cell_of_block kT 0
  have y1 : w3.cell? ⟨NT, 1, none⟩ = some (.int .i64 0) := Go.Joins.cell_of_block kT 1
  have y2 : w3.cell? ⟨NT, 2, none⟩ = some (.slice none 0 0) := Go.Joins.cell_of_block kT 2
  have g0 : w3.frozen? ⟨NT, 0, none⟩ = false := Go.Joins.unfrozen_of_block kT 0
  have g1 : w3.frozen? ⟨NT, 1, none⟩ = false := Go.Joins.unfrozen_of_block kT 1
  have g2 : w3.frozen? ⟨NT, 2, none⟩ = false := Go.Joins.unfrozen_of_block kT 2
  have HKx := hid kT
  clear kT
  go_wp2
  obtain ⟨W5, hW⟩ : ∃ W5, W5 = (((w3.setCell ⟨NT, 0, none⟩ (.int .i64 R)).setCell ⟨NT, 1, none⟩ (.int .i64 C)).setCell ⟨NT, 2, none⟩ (.slice (some ⟨b', 0, none⟩) n k)) := ⟨_, rfl⟩
  have q0 := (Go.Joins.block_setCell (i := 2) (Go.Joins.block_setCell (i := 1) (Go.Joins.block_setCell (i := 0) HKx.out (.int .i64 R)) (.int .i64 C)) (.slice (some ⟨b', 0, none⟩) n k))
  rw [← hW] at q0
  have z0 : W5.cell? ⟨NT, 0, none⟩ = some (.int .i64 R) := Go.Joins.cell_of_block q0 0
  have z1 : W5.cell? ⟨NT, 1, none⟩ = some (.int .i64 C) := Go.Joins.cell_of_block q0 1
  have z2 : W5.cell? ⟨NT, 2, none⟩ = some (.slice (some ⟨b', 0, none⟩) n k) := Go.Joins.cell_of_block q0 2
  have O5 := (own_set (own_set (own_set HO.out ⟨NT, 0, none⟩ (.int .i64 R) HNB.out) ⟨NT, 1, none⟩ (.int .i64 C) HNB.out) ⟨NT, 2, none⟩ (.slice (some ⟨b', 0, none⟩) n k) HNB.out)
  rw [← hW] at O5
  have B5 : Below w.heap.size w W5 := by
    have h1 := HNT.out
    rw [hW]
    exact ((HB.out.setCell (by simp; omega) _).setCell (by simp; omega) _).setCell (by simp; omega) _
  simp only [← hW]
  clear hW q0
  simp [bodyPost, results, Try.results23, go_sem, z0, z1, z2]
  exact ⟨b', k, ⟨rfl, rfl⟩, O5, HLo.out, B5⟩

theorem copyOfN {w : World} {s r : Int} {n : Nat} {b : Nat} {v : Value} {zs : List Int} (h : Rd w b v zs) (hz : 1 ≤ zs.length ∧ zs.length ≤ 1048576) (hl : zs.length = n) :
    Calls Try.prog 44 #[ruleV s r v] w fun e w' => ∃ b' k, e = .returned (ruleV s r (.slice (some ⟨b', 0, none⟩) n k)) ∧ Own 2 w' b' (.slice (some ⟨b', 0, none⟩) n k) zs ∧ w.heap.size ≤ b' ∧ Below w.heap.size w w' := by
  subst hl
  exact (Clone.copyOf h hz).mono (by rintro e w' ⟨b', k, h1, h2, h3, _, _, h4⟩; exact ⟨b', k, h1, h2, h3, h4⟩)

set_option maxHeartbeats 16000000 in
set_option maxRecDepth 4000 in
theorem implOk {w : World} {R C n S : Nat} {rd : Bool} {b1 b2 b : Nat} {v1 v2 v : Value} {xs ys zs : List Int} (h1 : Rd w b1 v1 xs) (h2 : Rd w b2 v2 ys) (h : Rd w b v zs) (hq : canB xs ys R C zs = true) (hn : n = R * C) (hS : S ≤ 512) :
    Calls Try.prog 24 #[lifeV v1 v2, ruleV R C v, .bool rd, .int .i64 S] w fun e w' => ∃ b' k, e = .returned ((.tuple #[ruleV R C (.slice (some ⟨b', 0, none⟩) n k), .bool true])) ∧ Own 2 w' b' (.slice (some ⟨b', 0, none⟩) n k) (itL (fun z => lifeL xs ys z R C rd) zs S) ∧ w.heap.size ≤ b' ∧ Below w.heap.size w w' := by
  obtain ⟨hx, hy, hf, hpl⟩ := can_parts hq
  obtain ⟨hR, hC, hl, hle⟩ := field_nat hf
  have HZ : Hid (1 ≤ zs.length ∧ zs.length ≤ 1048576) := by simp only [Hid]; rw [hl]; exact ⟨Nat.mul_pos hR.1 hC.1, by omega⟩
  have HL : Hid (zs.length = n) := by simp only [Hid]; rw [hn]; exact hl
  have HX := hid hx
  have HY := hid hy
  have HF := hid hf
  have HPL := hid hpl
  have HN := hid hn
  have HSB : Hid (decide (0 ≤ (S : Int) ∧ (S : Int) ≤ 512) = true) := decide_eq_true (by omega)
  have HZZ : Hid (#[.int .i64 0, .int .i64 0, .int .i64 0, .int .i64 0, .int .i64 0, .int .i64 0, .int .i64 0, .int .i64 0, .int .i64 0, .int .i64 0, .int .i64 0, .int .i64 0, .int .i64 0, .int .i64 0, .int .i64 0, .int .i64 0, .int .i64 0, .int .i64 0] = cellsA (List.replicate 18 0)) := by show _ = _; rfl
  clear hx hy hf hpl hn hR hC hl hle
  have H1 := hid h1
  have H2 := hid h2
  have HH := hid h
  have HQ := hid hq
  obtain ⟨ao, cap, rfl, hc, hm, _⟩ := h
  obtain ⟨ao1, cap1, rfl, hc1, hm1, _⟩ := h1
  obtain ⟨ao2, cap2, rfl, hc2, hm2, _⟩ := h2
  clear hc hm hc1 hm1 hc2 hm2 hq
  go_enter Try.func24, Try.ntmps24
  go_wp2_with fail
  obtain ⟨w1, hW⟩ : ∃ w1, w1 = (((w.alloc (Obj.cells #[.slice ao1 xs.length cap1, .slice ao2 ys.length cap2] 37)).alloc (Obj.cells #[.int .i64 R, .int .i64 C, .slice ao zs.length cap] 26)).alloc (Obj.cells #[.int .i64 0, .int .i64 0, .slice none 0 0] 26)) := ⟨_, rfl⟩
  obtain ⟨LB, hL⟩ : ∃ LB, LB = w.heap.size := ⟨_, rfl⟩
  obtain ⟨N, hN⟩ : ∃ N, N = LB + 1 := ⟨_, rfl⟩
  obtain ⟨NT, hT⟩ : ∃ NT, NT = N + 1 := ⟨_, rfl⟩
  have st : Below w.heap.size w w1 ∧ w1.cell? ⟨LB, 0, none⟩ = some (.slice ao1 xs.length cap1) ∧ w1.cell? ⟨LB, 1, none⟩ = some (.slice ao2 ys.length cap2) ∧ w1.cell? ⟨N, 0, none⟩ = some (.int .i64 R) ∧ w1.cell? ⟨N, 1, none⟩ = some (.int .i64 C) ∧ w1.cell? ⟨N, 2, none⟩ = some (.slice ao zs.length cap) ∧ w.heap.size ≤ w1.heap.size := by
    rw [hW, hN, hL]
    exact ⟨Go.Joins.below_alloc3 _ _ _ _, cell_keep (Go.Joins.below_alloc2 _ _ _) (by simp), cell_keep (Go.Joins.below_alloc2 _ _ _) (by simp), cell_keep (below1 _ _) (by simp), cell_keep (below1 _ _) (by simp), cell_keep (below1 _ _) (by simp), by simp <;> omega⟩
  have kT : w1.heap[NT]? = some (Obj.cells #[.int .i64 0, .int .i64 0, .slice none 0 0] 26) := by rw [hW]; exact FNew.heap_top (by rw [hT, hN, hL]; simp)
  have HNT : Hid (w.heap.size ≤ NT) := by simp only [Hid]; omega
  simp only [← hW, ← hL, ← hN, ← hT]
  clear hW hL hN hT
  go_at_call 48
  refine (canLive (H1.out.keep st.1 (Nat.le_refl _)) (H2.out.keep st.1 (Nat.le_refl _)) (HH.out.keep st.1 (Nat.le_refl _))).mono ?_
  rw [HQ.out]
  rintro e w2 ⟨rfl, bel⟩
  replace st := next5_0 bel st
  replace kT := (bel.block NT (Array.getElem?_eq_some_iff.1 kT).1).trans kT
  clear bel
  go_wp2_with fail
  go_at_call 53
  refine (isCountB (hi := 512)).mono ?_
  rw [HSB.out]
  rintro e w3 ⟨rfl, rfl⟩
  go_upto_region 3 with fail
  go_cut [10, 11] from 26 (fun p q wc => ∃ NO NA bc kc : Nat, p = .pointer (some ⟨NO, 0, none⟩) ∧ q = .pointer (some ⟨NA, 0, none⟩) ∧ Own 2 wc bc (.slice (some ⟨bc, 0, none⟩) n kc) (zs) ∧ wc.heap[NO]? = some (Obj.cells #[.int .i64 R, .int .i64 C, .slice (some ⟨bc, 0, none⟩) n kc] 26) ∧ wc.heap[NA]? = some (Obj.cells (cellsA (tabL xs ys xs.length ys.length)) 72) ∧ wc.heap[NT]? = some (Obj.cells #[.int .i64 0, .int .i64 0, .slice none 0 0] 26) ∧ w.heap.size ≤ bc ∧ NO ≠ bc ∧ NA ≠ bc ∧ NT ≠ bc ∧ NA ≠ NO ∧ NT ≠ NO ∧ w.heap.size ≤ NO ∧ Below w.heap.size w wc)
  case first =>
    refine wp_region_held_drew (S := (fun ww => Below w.heap.size w ww ∧ ww.cell? ⟨LB, 0, none⟩ = some (.slice ao1 xs.length cap1) ∧ ww.cell? ⟨LB, 1, none⟩ = some (.slice ao2 ys.length cap2) ∧ ww.cell? ⟨N, 0, none⟩ = some (.int .i64 R) ∧ ww.cell? ⟨N, 1, none⟩ = some (.int .i64 C) ∧ ww.cell? ⟨N, 2, none⟩ = some (.slice ao zs.length cap) ∧ w.heap.size ≤ ww.heap.size)) (by kernel_rfl) ?_ (fun hHeld => ?_)
    · ((try dsimp only); exact drew5_0 st)
    generalize hD : w2.drew = wD at hHeld ⊢
    have HKT : Hid (wD.heap[NT]? = some (Obj.cells #[.int .i64 0, .int .i64 0, .slice none 0 0] 26)) := by simp only [Hid]; rw [← hD]; exact kT
    have HD0 := hid hHeld
    clear hD st kT
    have belD : Below wD.heap.size wD wD := Below.refl _ _
    (refine wpAnyH_take (i := 0) (v := ?_) rfl ?_ ?_ ?_ (fun _ _ _ h => h) (Or.inl ⟨?_, ?_⟩) ?_ ?_; rotate_left 1; (focus decide +kernel); (focus decide +kernel); (focus decide +kernel); (focus rfl); (focus (intro w hSw; (try dsimp only at hSw); go_simp; (try (with_reducible rfl)); done)); (focus assumption); (try simp only [Act.put, List.setIfInBounds_toArray, List.set_cons_zero, List.set_cons_succ, List.getElem_toArray, List.getElem_cons_succ, List.getElem_cons_zero]))
    (refine wpAnyH_take (i := 2) (v := ?_) rfl ?_ ?_ ?_ (fun _ _ _ h => h) (Or.inl ⟨?_, ?_⟩) ?_ ?_; rotate_left 1; (focus decide +kernel); (focus decide +kernel); (focus decide +kernel); (focus rfl); (focus (intro w hSw; (try dsimp only at hSw); go_simp; (try (with_reducible rfl)); done)); (focus assumption); (try simp only [Act.put, List.setIfInBounds_toArray, List.set_cons_zero, List.set_cons_succ, List.getElem_toArray, List.getElem_cons_succ, List.getElem_cons_zero]))
    refine wpAnyH_ready (rs := [1, 4, 5]) ?_ (by simp) ?_
    · decide +kernel
    refine AllReadyH.cons rfl (fun K hK => ?_) (AllReadyH.cons rfl (fun K hK => ?_) (AllReadyH.cons rfl (fun K hK => ?_) AllReadyH.nil))
    · go_simp
      go_at_call 44
      refine (copyOfN (HH.out.keep (HD0.out.1.trans (belD.mono HD0.out.1.size)) (Nat.le_refl _)) HZ.out HL.out).mono ?_
      rintro e wc ⟨bc, kc, rfl, oC, loC, bel⟩
      have lmC : wD.heap.size ≤ bc := Nat.le_trans belD.size loC
      clear loC
      replace belD := belD.trans (bel.mono belD.size)
      refine hK.out _ _ ?_ (fun hHeld2 => ?_)
      · (try dsimp only); exact next5_0 belD HD0.out
      clear hK K hHeld bel
      have hHeld := hHeld2
      clear hHeld2
      (try simp only [Act.put, List.setIfInBounds_toArray, List.set_cons_zero, List.set_cons_succ, List.getElem_toArray, List.getElem_cons_succ, List.getElem_cons_zero])
      refine wpAnyH_ready (rs := [3, 4, 5]) ?_ (by simp) ?_
      · decide +kernel
      refine AllReadyH.cons rfl (fun K hK => ?_) (AllReadyH.cons rfl (fun K hK => ?_) (AllReadyH.cons rfl (fun K hK => ?_) AllReadyH.nil))
      · go_simp
        go_at_call 50
        refine (tableOfLife (H1.out.keep (HD0.out.1.trans (belD.mono HD0.out.1.size)) (Nat.le_refl _)) (H2.out.keep (HD0.out.1.trans (belD.mono HD0.out.1.size)) (Nat.le_refl _)) HX.out HY.out).mono ?_
        rintro e wt ⟨rfl, bel⟩
        replace belD := belD.trans (bel.mono belD.size)
        replace oC := oC.keep bel
        refine hK.out _ _ ?_ (fun hHeld2 => ?_)
        · (try dsimp only); exact next5_0 belD HD0.out
        clear hK K hHeld bel
        have hHeld := hHeld2
        clear hHeld2
        (try simp only [Act.put, List.setIfInBounds_toArray, List.set_cons_zero, List.set_cons_succ, List.getElem_toArray, List.getElem_cons_succ, List.getElem_cons_zero])
        refine wpAnyH_ready (rs := [4, 5]) ?_ (by simp) ?_
        · decide +kernel
        refine AllReadyH.cons rfl (fun K hK => ?_) (AllReadyH.cons rfl (fun K hK => ?_) AllReadyH.nil)
        · go_simp
          have bel := below1 wt (Obj.cells #[.int .i64 0, .int .i64 0, .slice none 0 0] 26)
          have lmS := belD.size
          have ltC := (oC.lt)
          replace belD := belD.trans (bel.mono belD.size)
          replace oC := oC.keep bel
          refine hK.out _ _ ?_ (fun hHeld2 => ?_)
          · (try dsimp only); exact next5_0 belD HD0.out
          clear hK K hHeld bel
          obtain ⟨vo, hWa⟩ : ∃ vo, vo = wt.alloc (Obj.cells #[.int .i64 0, .int .i64 0, .slice none 0 0] 26) := ⟨_, rfl⟩
          obtain ⟨NO, hNa⟩ : ∃ NO, NO = wt.heap.size := ⟨_, rfl⟩
          have kO : vo.heap[NO]? = some (Obj.cells #[.int .i64 0, .int .i64 0, .slice none 0 0] 26) := by rw [hWa]; exact FNew.heap_top hNa
          have lmO : wD.heap.size ≤ NO := by rw [hNa]; exact lmS
          clear lmS
          have nC_O : bc ≠ NO := by rw [hNa]; exact Nat.ne_of_lt ltC
          clear ltC
          rw [← hWa] at belD oC
          (try dsimp only at hHeld2)
          simp only [← hWa, ← hNa] at hHeld2 ⊢
          clear hWa hNa
          have hHeld := hHeld2
          clear hHeld2
          (try simp only [Act.put, List.setIfInBounds_toArray, List.set_cons_zero, List.set_cons_succ, List.getElem_toArray, List.getElem_cons_succ, List.getElem_cons_zero])
          refine wpAnyH_ready (rs := [5]) ?_ (by simp) ?_
          · decide +kernel
          refine AllReadyH.cons rfl (fun K hK => ?_) AllReadyH.nil
          go_simp
          have bel := below1 vo (Obj.cells #[.int .i64 0, .int .i64 0, .int .i64 0, .int .i64 0, .int .i64 0, .int .i64 0, .int .i64 0, .int .i64 0, .int .i64 0, .int .i64 0, .int .i64 0, .int .i64 0, .int .i64 0, .int .i64 0, .int .i64 0, .int .i64 0, .int .i64 0, .int .i64 0] 72)
          have lmS := belD.size
          have ltC := (oC.lt)
          have ltO := (heap_lt kO)
          replace belD := belD.trans (bel.mono belD.size)
          replace oC := oC.keep bel
          replace kO := heap_keep bel kO
          refine hK.out _ _ ?_ (fun hHeld2 => ?_)
          · (try dsimp only); exact next5_0 belD HD0.out
          clear hK K hHeld bel
          obtain ⟨va, hWa⟩ : ∃ va, va = vo.alloc (Obj.cells #[.int .i64 0, .int .i64 0, .int .i64 0, .int .i64 0, .int .i64 0, .int .i64 0, .int .i64 0, .int .i64 0, .int .i64 0, .int .i64 0, .int .i64 0, .int .i64 0, .int .i64 0, .int .i64 0, .int .i64 0, .int .i64 0, .int .i64 0, .int .i64 0] 72) := ⟨_, rfl⟩
          obtain ⟨NA, hNa⟩ : ∃ NA, NA = vo.heap.size := ⟨_, rfl⟩
          have kA : va.heap[NA]? = some (Obj.cells (cellsA (List.replicate 18 0)) 72) := by rw [hWa, ← HZZ.out]; exact FNew.heap_top hNa
          have lmA : wD.heap.size ≤ NA := by rw [hNa]; exact lmS
          clear lmS
          have nC_A : bc ≠ NA := by rw [hNa]; exact Nat.ne_of_lt ltC
          clear ltC
          have nO_A : NO ≠ NA := by rw [hNa]; exact Nat.ne_of_lt ltO
          clear ltO
          rw [← hWa] at belD oC kO
          (try dsimp only at hHeld2)
          simp only [← hWa, ← hNa] at hHeld2 ⊢
          clear hWa hNa
          have hHeld := hHeld2
          clear hHeld2
          (try simp only [Act.put, List.setIfInBounds_toArray, List.set_cons_zero, List.set_cons_succ, List.getElem_toArray, List.getElem_cons_succ, List.getElem_cons_zero])
          refine wpAnyH_ready (rs := [6]) ?_ (by simp) ?_
          · decide +kernel
          refine AllReadyH.cons rfl (fun K hK => ?_) AllReadyH.nil
          have y0 : va.cell? ⟨NO, 0, none⟩ = some (.int .i64 0) := Go.Joins.cell_of_block kO 0
          have y1 : va.cell? ⟨NO, 1, none⟩ = some (.int .i64 0) := Go.Joins.cell_of_block kO 1
          have y2 : va.cell? ⟨NO, 2, none⟩ = some (.slice none 0 0) := Go.Joins.cell_of_block kO 2
          have g0 : va.frozen? ⟨NO, 0, none⟩ = false := Go.Joins.unfrozen_of_block kO 0
          have g1 : va.frozen? ⟨NO, 1, none⟩ = false := Go.Joins.unfrozen_of_block kO 1
          have g2 : va.frozen? ⟨NO, 2, none⟩ = false := Go.Joins.unfrozen_of_block kO 2
          have HKO := hid kO
          clear kO
          have HKA := hid kA
          clear kA
          go_simp
          clear y0 g0 y1 g1 y2 g2
          have qO := (Go.Joins.block_setCell (i := 2) (Go.Joins.block_setCell (i := 1) (Go.Joins.block_setCell (i := 0) HKO.out (.int .i64 R)) (.int .i64 C)) (.slice (some ⟨bc, 0, none⟩) n kc))
          have bz := (((belD.setCell (p := ⟨NO, 0, none⟩) lmO (.int .i64 R)).setCell (p := ⟨NO, 1, none⟩) lmO (.int .i64 C)).setCell (p := ⟨NO, 2, none⟩) lmO (.slice (some ⟨bc, 0, none⟩) n kc))
          have qC := (own_set (own_set (own_set oC ⟨NO, 0, none⟩ (.int .i64 R) (Ne.symm nC_O)) ⟨NO, 1, none⟩ (.int .i64 C) (Ne.symm nC_O)) ⟨NO, 2, none⟩ (.slice (some ⟨bc, 0, none⟩) n kc) (Ne.symm nC_O))
          have qA := ((Below.heap_setCell _ ⟨NO, 2, none⟩ (.slice (some ⟨bc, 0, none⟩) n kc) _ (Ne.symm nO_A)).trans ((Below.heap_setCell _ ⟨NO, 1, none⟩ (.int .i64 C) _ (Ne.symm nO_A)).trans ((Below.heap_setCell _ ⟨NO, 0, none⟩ (.int .i64 R) _ (Ne.symm nO_A)).trans HKA.out)))
          obtain ⟨ws, hW5⟩ : ∃ ws, ws = (((va.setCell ⟨NO, 0, none⟩ (.int .i64 R)).setCell ⟨NO, 1, none⟩ (.int .i64 C)).setCell ⟨NO, 2, none⟩ (.slice (some ⟨bc, 0, none⟩) n kc)) := ⟨_, rfl⟩
          rw [← hW5] at qO bz qC qA
          clear HKO belD oC HKA
          have kO : ws.heap[NO]? = some (Obj.cells #[.int .i64 R, .int .i64 C, .slice (some ⟨bc, 0, none⟩) n kc] 26) := qO
          have belD := bz
          have oC := qC
          have kA := qA
          clear qO bz qC qA
          refine hK.out _ _ ?_ (fun hHeld2 => ?_)
          · (try dsimp only); rw [← hW5]; exact next5_0 belD HD0.out
          clear hK K hHeld
          (try dsimp only at hHeld2)
          simp only [← hW5] at hHeld2 ⊢
          clear hW5
          have hHeld := hHeld2
          clear hHeld2
          (try simp only [Act.put, List.setIfInBounds_toArray, List.set_cons_zero, List.set_cons_succ, List.getElem_toArray, List.getElem_cons_succ, List.getElem_cons_zero])
          refine wpAnyH_ready (rs := [7]) ?_ (by simp) ?_
          · decide +kernel
          refine AllReadyH.cons rfl (fun K hK => ?_) AllReadyH.nil
          refine Nf.step_storeA rfl 72 _ _ rfl NA (cellsA (tabL xs ys xs.length ys.length)) rfl rfl 72 _ kA (by rw [cellsA_size, tabL_len]; kernel_rfl) (by rw [cellsA_size, cellsA_size, tabL_len, List.length_replicate]) (cellsA_one _) ?_
          have qA := setRow_heap _ NA _ (cellsA (tabL xs ys xs.length ys.length)) 72 (0, 0) kA
          have qC := oC.grown (Nf.grown_setRow ws NA (cellsA (tabL xs ys xs.length ys.length))) (by simp; exact (Ne.symm nC_A))
          have qO := (setRow_other ws NA NO (cellsA (tabL xs ys xs.length ys.length)) nO_A).trans kO
          have bz := below_setRow (cs := (cellsA (tabL xs ys xs.length ys.length))) belD lmA
          obtain ⟨wz, hW6⟩ : ∃ wz, wz = ws.setRow NA (cellsA (tabL xs ys xs.length ys.length)) := ⟨_, rfl⟩
          rw [← hW6] at qA bz qC qO ⊢
          clear hW6 kA belD oC kO
          have kA := qA
          have belD := bz
          have oC := qC
          have kO := qO
          clear qA bz qC qO
          refine hK.out _ _ ?_ (fun hHeld2 => ?_)
          · (try dsimp only); exact next5_0 belD HD0.out
          clear hK K hHeld
          have hHeld := hHeld2
          clear hHeld2
          (try simp only [Act.put, List.setIfInBounds_toArray, List.set_cons_zero, List.set_cons_succ, List.getElem_toArray, List.getElem_cons_succ, List.getElem_cons_zero])
          refine wpAnyH_done (by kernel_rfl) ?_ _
          clear hHeld
          have hfin : Own 2 wz bc (.slice (some ⟨bc, 0, none⟩) n kc) (zs) ∧ wz.heap[NO]? = some (Obj.cells #[.int .i64 R, .int .i64 C, .slice (some ⟨bc, 0, none⟩) n kc] 26) ∧ wz.heap[NA]? = some (Obj.cells (cellsA (tabL xs ys xs.length ys.length)) 72) ∧ wz.heap[NT]? = some (Obj.cells #[.int .i64 0, .int .i64 0, .slice none 0 0] 26) ∧ w.heap.size ≤ bc ∧ NO ≠ bc ∧ NA ≠ bc ∧ NT ≠ bc ∧ NA ≠ NO ∧ NT ≠ NO ∧ w.heap.size ≤ NO ∧ Below w.heap.size w wz := ⟨oC, kO, kA, heap_keep belD HKT.out, Nat.le_trans HD0.out.1.size lmC, (Ne.symm nC_O), (Ne.symm nC_A), Nat.ne_of_lt (Nat.lt_of_lt_of_le (heap_lt HKT.out) lmC), (Ne.symm nO_A), Nat.ne_of_lt (Nat.lt_of_lt_of_le (heap_lt HKT.out) lmO), Nat.le_trans HD0.out.1.size lmO, (HD0.out.1.trans (belD.mono HD0.out.1.size))⟩
          have HFI := hid hfin
          clear hfin oC kO kA belD
          go_wp2_with fail
          go_meet
          case rel => exact ⟨NO, NA, bc, kc, rfl, rfl, HFI.out⟩
        · go_simp
          have bel := below1 wt (Obj.cells #[.int .i64 0, .int .i64 0, .int .i64 0, .int .i64 0, .int .i64 0, .int .i64 0, .int .i64 0, .int .i64 0, .int .i64 0, .int .i64 0, .int .i64 0, .int .i64 0, .int .i64 0, .int .i64 0, .int .i64 0, .int .i64 0, .int .i64 0, .int .i64 0] 72)
          have lmS := belD.size
          have ltC := (oC.lt)
          replace belD := belD.trans (bel.mono belD.size)
          replace oC := oC.keep bel
          refine hK.out _ _ ?_ (fun hHeld2 => ?_)
          · (try dsimp only); exact next5_0 belD HD0.out
          clear hK K hHeld bel
          obtain ⟨va, hWa⟩ : ∃ va, va = wt.alloc (Obj.cells #[.int .i64 0, .int .i64 0, .int .i64 0, .int .i64 0, .int .i64 0, .int .i64 0, .int .i64 0, .int .i64 0, .int .i64 0, .int .i64 0, .int .i64 0, .int .i64 0, .int .i64 0, .int .i64 0, .int .i64 0, .int .i64 0, .int .i64 0, .int .i64 0] 72) := ⟨_, rfl⟩
          obtain ⟨NA, hNa⟩ : ∃ NA, NA = wt.heap.size := ⟨_, rfl⟩
          have kA : va.heap[NA]? = some (Obj.cells (cellsA (List.replicate 18 0)) 72) := by rw [hWa, ← HZZ.out]; exact FNew.heap_top hNa
          have lmA : wD.heap.size ≤ NA := by rw [hNa]; exact lmS
          clear lmS
          have nC_A : bc ≠ NA := by rw [hNa]; exact Nat.ne_of_lt ltC
          clear ltC
          rw [← hWa] at belD oC
          (try dsimp only at hHeld2)
          simp only [← hWa, ← hNa] at hHeld2 ⊢
          clear hWa hNa
          have hHeld := hHeld2
          clear hHeld2
          (try simp only [Act.put, List.setIfInBounds_toArray, List.set_cons_zero, List.set_cons_succ, List.getElem_toArray, List.getElem_cons_succ, List.getElem_cons_zero])
          refine wpAnyH_ready (rs := [4]) ?_ (by simp) ?_
          · decide +kernel
          refine AllReadyH.cons rfl (fun K hK => ?_) AllReadyH.nil
          go_simp
          have bel := below1 va (Obj.cells #[.int .i64 0, .int .i64 0, .slice none 0 0] 26)
          have lmS := belD.size
          have ltC := (oC.lt)
          have ltA := (heap_lt kA)
          replace belD := belD.trans (bel.mono belD.size)
          replace oC := oC.keep bel
          replace kA := heap_keep bel kA
          refine hK.out _ _ ?_ (fun hHeld2 => ?_)
          · (try dsimp only); exact next5_0 belD HD0.out
          clear hK K hHeld bel
          obtain ⟨vo, hWa⟩ : ∃ vo, vo = va.alloc (Obj.cells #[.int .i64 0, .int .i64 0, .slice none 0 0] 26) := ⟨_, rfl⟩
          obtain ⟨NO, hNa⟩ : ∃ NO, NO = va.heap.size := ⟨_, rfl⟩
          have kO : vo.heap[NO]? = some (Obj.cells #[.int .i64 0, .int .i64 0, .slice none 0 0] 26) := by rw [hWa]; exact FNew.heap_top hNa
          have lmO : wD.heap.size ≤ NO := by rw [hNa]; exact lmS
          clear lmS
          have nC_O : bc ≠ NO := by rw [hNa]; exact Nat.ne_of_lt ltC
          clear ltC
          have nA_O : NA ≠ NO := by rw [hNa]; exact Nat.ne_of_lt ltA
          clear ltA
          rw [← hWa] at belD oC kA
          (try dsimp only at hHeld2)
          simp only [← hWa, ← hNa] at hHeld2 ⊢
          clear hWa hNa
          have hHeld := hHeld2
          clear hHeld2
          (try simp only [Act.put, List.setIfInBounds_toArray, List.set_cons_zero, List.set_cons_succ, List.getElem_toArray, List.getElem_cons_succ, List.getElem_cons_zero])
          refine wpAnyH_ready (rs := [6]) ?_ (by simp) ?_
          · decide +kernel
          refine AllReadyH.cons rfl (fun K hK => ?_) AllReadyH.nil
          have y0 : vo.cell? ⟨NO, 0, none⟩ = some (.int .i64 0) := Go.Joins.cell_of_block kO 0
          have y1 : vo.cell? ⟨NO, 1, none⟩ = some (.int .i64 0) := Go.Joins.cell_of_block kO 1
          have y2 : vo.cell? ⟨NO, 2, none⟩ = some (.slice none 0 0) := Go.Joins.cell_of_block kO 2
          have g0 : vo.frozen? ⟨NO, 0, none⟩ = false := Go.Joins.unfrozen_of_block kO 0
          have g1 : vo.frozen? ⟨NO, 1, none⟩ = false := Go.Joins.unfrozen_of_block kO 1
          have g2 : vo.frozen? ⟨NO, 2, none⟩ = false := Go.Joins.unfrozen_of_block kO 2
          have HKO := hid kO
          clear kO
          have HKA := hid kA
          clear kA
          go_simp
          clear y0 g0 y1 g1 y2 g2
          have qO := (Go.Joins.block_setCell (i := 2) (Go.Joins.block_setCell (i := 1) (Go.Joins.block_setCell (i := 0) HKO.out (.int .i64 R)) (.int .i64 C)) (.slice (some ⟨bc, 0, none⟩) n kc))
          have bz := (((belD.setCell (p := ⟨NO, 0, none⟩) lmO (.int .i64 R)).setCell (p := ⟨NO, 1, none⟩) lmO (.int .i64 C)).setCell (p := ⟨NO, 2, none⟩) lmO (.slice (some ⟨bc, 0, none⟩) n kc))
          have qC := (own_set (own_set (own_set oC ⟨NO, 0, none⟩ (.int .i64 R) (Ne.symm nC_O)) ⟨NO, 1, none⟩ (.int .i64 C) (Ne.symm nC_O)) ⟨NO, 2, none⟩ (.slice (some ⟨bc, 0, none⟩) n kc) (Ne.symm nC_O))
          have qA := ((Below.heap_setCell _ ⟨NO, 2, none⟩ (.slice (some ⟨bc, 0, none⟩) n kc) _ nA_O).trans ((Below.heap_setCell _ ⟨NO, 1, none⟩ (.int .i64 C) _ nA_O).trans ((Below.heap_setCell _ ⟨NO, 0, none⟩ (.int .i64 R) _ nA_O).trans HKA.out)))
          obtain ⟨ws, hW5⟩ : ∃ ws, ws = (((vo.setCell ⟨NO, 0, none⟩ (.int .i64 R)).setCell ⟨NO, 1, none⟩ (.int .i64 C)).setCell ⟨NO, 2, none⟩ (.slice (some ⟨bc, 0, none⟩) n kc)) := ⟨_, rfl⟩
          rw [← hW5] at qO bz qC qA
          clear HKO belD oC HKA
          have kO : ws.heap[NO]? = some (Obj.cells #[.int .i64 R, .int .i64 C, .slice (some ⟨bc, 0, none⟩) n kc] 26) := qO
          have belD := bz
          have oC := qC
          have kA := qA
          clear qO bz qC qA
          refine hK.out _ _ ?_ (fun hHeld2 => ?_)
          · (try dsimp only); rw [← hW5]; exact next5_0 belD HD0.out
          clear hK K hHeld
          (try dsimp only at hHeld2)
          simp only [← hW5] at hHeld2 ⊢
          clear hW5
          have hHeld := hHeld2
          clear hHeld2
          (try simp only [Act.put, List.setIfInBounds_toArray, List.set_cons_zero, List.set_cons_succ, List.getElem_toArray, List.getElem_cons_succ, List.getElem_cons_zero])
          refine wpAnyH_ready (rs := [7]) ?_ (by simp) ?_
          · decide +kernel
          refine AllReadyH.cons rfl (fun K hK => ?_) AllReadyH.nil
          refine Nf.step_storeA rfl 72 _ _ rfl NA (cellsA (tabL xs ys xs.length ys.length)) rfl rfl 72 _ kA (by rw [cellsA_size, tabL_len]; kernel_rfl) (by rw [cellsA_size, cellsA_size, tabL_len, List.length_replicate]) (cellsA_one _) ?_
          have qA := setRow_heap _ NA _ (cellsA (tabL xs ys xs.length ys.length)) 72 (0, 0) kA
          have qC := oC.grown (Nf.grown_setRow ws NA (cellsA (tabL xs ys xs.length ys.length))) (by simp; exact (Ne.symm nC_A))
          have qO := (setRow_other ws NA NO (cellsA (tabL xs ys xs.length ys.length)) (Ne.symm nA_O)).trans kO
          have bz := below_setRow (cs := (cellsA (tabL xs ys xs.length ys.length))) belD lmA
          obtain ⟨wz, hW6⟩ : ∃ wz, wz = ws.setRow NA (cellsA (tabL xs ys xs.length ys.length)) := ⟨_, rfl⟩
          rw [← hW6] at qA bz qC qO ⊢
          clear hW6 kA belD oC kO
          have kA := qA
          have belD := bz
          have oC := qC
          have kO := qO
          clear qA bz qC qO
          refine hK.out _ _ ?_ (fun hHeld2 => ?_)
          · (try dsimp only); exact next5_0 belD HD0.out
          clear hK K hHeld
          have hHeld := hHeld2
          clear hHeld2
          (try simp only [Act.put, List.setIfInBounds_toArray, List.set_cons_zero, List.set_cons_succ, List.getElem_toArray, List.getElem_cons_succ, List.getElem_cons_zero])
          refine wpAnyH_done (by kernel_rfl) ?_ _
          clear hHeld
          have hfin : Own 2 wz bc (.slice (some ⟨bc, 0, none⟩) n kc) (zs) ∧ wz.heap[NO]? = some (Obj.cells #[.int .i64 R, .int .i64 C, .slice (some ⟨bc, 0, none⟩) n kc] 26) ∧ wz.heap[NA]? = some (Obj.cells (cellsA (tabL xs ys xs.length ys.length)) 72) ∧ wz.heap[NT]? = some (Obj.cells #[.int .i64 0, .int .i64 0, .slice none 0 0] 26) ∧ w.heap.size ≤ bc ∧ NO ≠ bc ∧ NA ≠ bc ∧ NT ≠ bc ∧ NA ≠ NO ∧ NT ≠ NO ∧ w.heap.size ≤ NO ∧ Below w.heap.size w wz := ⟨oC, kO, kA, heap_keep belD HKT.out, Nat.le_trans HD0.out.1.size lmC, (Ne.symm nC_O), (Ne.symm nC_A), Nat.ne_of_lt (Nat.lt_of_lt_of_le (heap_lt HKT.out) lmC), nA_O, Nat.ne_of_lt (Nat.lt_of_lt_of_le (heap_lt HKT.out) lmO), Nat.le_trans HD0.out.1.size lmO, (HD0.out.1.trans (belD.mono HD0.out.1.size))⟩
          have HFI := hid hfin
          clear hfin oC kO kA belD
          go_wp2_with fail
          go_meet
          case rel => exact ⟨NO, NA, bc, kc, rfl, rfl, HFI.out⟩
      · go_simp
        have bel := below1 wc (Obj.cells #[.int .i64 0, .int .i64 0, .slice none 0 0] 26)
        have lmS := belD.size
        have ltC := (oC.lt)
        replace belD := belD.trans (bel.mono belD.size)
        replace oC := oC.keep bel
        refine hK.out _ _ ?_ (fun hHeld2 => ?_)
        · (try dsimp only); exact next5_0 belD HD0.out
        clear hK K hHeld bel
        obtain ⟨vo, hWa⟩ : ∃ vo, vo = wc.alloc (Obj.cells #[.int .i64 0, .int .i64 0, .slice none 0 0] 26) := ⟨_, rfl⟩
        obtain ⟨NO, hNa⟩ : ∃ NO, NO = wc.heap.size := ⟨_, rfl⟩
        have kO : vo.heap[NO]? = some (Obj.cells #[.int .i64 0, .int .i64 0, .slice none 0 0] 26) := by rw [hWa]; exact FNew.heap_top hNa
        have lmO : wD.heap.size ≤ NO := by rw [hNa]; exact lmS
        clear lmS
        have nC_O : bc ≠ NO := by rw [hNa]; exact Nat.ne_of_lt ltC
        clear ltC
        rw [← hWa] at belD oC
        (try dsimp only at hHeld2)
        simp only [← hWa, ← hNa] at hHeld2 ⊢
        clear hWa hNa
        have hHeld := hHeld2
        clear hHeld2
        (try simp only [Act.put, List.setIfInBounds_toArray, List.set_cons_zero, List.set_cons_succ, List.getElem_toArray, List.getElem_cons_succ, List.getElem_cons_zero])
        refine wpAnyH_ready (rs := [3, 5]) ?_ (by simp) ?_
        · decide +kernel
        refine AllReadyH.cons rfl (fun K hK => ?_) (AllReadyH.cons rfl (fun K hK => ?_) AllReadyH.nil)
        · go_simp
          go_at_call 50
          refine (tableOfLife (H1.out.keep (HD0.out.1.trans (belD.mono HD0.out.1.size)) (Nat.le_refl _)) (H2.out.keep (HD0.out.1.trans (belD.mono HD0.out.1.size)) (Nat.le_refl _)) HX.out HY.out).mono ?_
          rintro e wt ⟨rfl, bel⟩
          replace belD := belD.trans (bel.mono belD.size)
          replace oC := oC.keep bel
          replace kO := heap_keep bel kO
          refine hK.out _ _ ?_ (fun hHeld2 => ?_)
          · (try dsimp only); exact next5_0 belD HD0.out
          clear hK K hHeld bel
          have hHeld := hHeld2
          clear hHeld2
          (try simp only [Act.put, List.setIfInBounds_toArray, List.set_cons_zero, List.set_cons_succ, List.getElem_toArray, List.getElem_cons_succ, List.getElem_cons_zero])
          refine wpAnyH_ready (rs := [5]) ?_ (by simp) ?_
          · decide +kernel
          refine AllReadyH.cons rfl (fun K hK => ?_) AllReadyH.nil
          go_simp
          have bel := below1 wt (Obj.cells #[.int .i64 0, .int .i64 0, .int .i64 0, .int .i64 0, .int .i64 0, .int .i64 0, .int .i64 0, .int .i64 0, .int .i64 0, .int .i64 0, .int .i64 0, .int .i64 0, .int .i64 0, .int .i64 0, .int .i64 0, .int .i64 0, .int .i64 0, .int .i64 0] 72)
          have lmS := belD.size
          have ltC := (oC.lt)
          have ltO := (heap_lt kO)
          replace belD := belD.trans (bel.mono belD.size)
          replace oC := oC.keep bel
          replace kO := heap_keep bel kO
          refine hK.out _ _ ?_ (fun hHeld2 => ?_)
          · (try dsimp only); exact next5_0 belD HD0.out
          clear hK K hHeld bel
          obtain ⟨va, hWa⟩ : ∃ va, va = wt.alloc (Obj.cells #[.int .i64 0, .int .i64 0, .int .i64 0, .int .i64 0, .int .i64 0, .int .i64 0, .int .i64 0, .int .i64 0, .int .i64 0, .int .i64 0, .int .i64 0, .int .i64 0, .int .i64 0, .int .i64 0, .int .i64 0, .int .i64 0, .int .i64 0, .int .i64 0] 72) := ⟨_, rfl⟩
          obtain ⟨NA, hNa⟩ : ∃ NA, NA = wt.heap.size := ⟨_, rfl⟩
          have kA : va.heap[NA]? = some (Obj.cells (cellsA (List.replicate 18 0)) 72) := by rw [hWa, ← HZZ.out]; exact FNew.heap_top hNa
          have lmA : wD.heap.size ≤ NA := by rw [hNa]; exact lmS
          clear lmS
          have nC_A : bc ≠ NA := by rw [hNa]; exact Nat.ne_of_lt ltC
          clear ltC
          have nO_A : NO ≠ NA := by rw [hNa]; exact Nat.ne_of_lt ltO
          clear ltO
          rw [← hWa] at belD oC kO
          (try dsimp only at hHeld2)
          simp only [← hWa, ← hNa] at hHeld2 ⊢
          clear hWa hNa
          have hHeld := hHeld2
          clear hHeld2
          (try simp only [Act.put, List.setIfInBounds_toArray, List.set_cons_zero, List.set_cons_succ, List.getElem_toArray, List.getElem_cons_succ, List.getElem_cons_zero])
          refine wpAnyH_ready (rs := [6]) ?_ (by simp) ?_
          · decide +kernel
          refine AllReadyH.cons rfl (fun K hK => ?_) AllReadyH.nil
          have y0 : va.cell? ⟨NO, 0, none⟩ = some (.int .i64 0) := Go.Joins.cell_of_block kO 0
          have y1 : va.cell? ⟨NO, 1, none⟩ = some (.int .i64 0) := Go.Joins.cell_of_block kO 1
          have y2 : va.cell? ⟨NO, 2, none⟩ = some (.slice none 0 0) := Go.Joins.cell_of_block kO 2
          have g0 : va.frozen? ⟨NO, 0, none⟩ = false := Go.Joins.unfrozen_of_block kO 0
          have g1 : va.frozen? ⟨NO, 1, none⟩ = false := Go.Joins.unfrozen_of_block kO 1
          have g2 : va.frozen? ⟨NO, 2, none⟩ = false := Go.Joins.unfrozen_of_block kO 2
          have HKO := hid kO
          clear kO
          have HKA := hid kA
          clear kA
          go_simp
          clear y0 g0 y1 g1 y2 g2
          have qO := (Go.Joins.block_setCell (i := 2) (Go.Joins.block_setCell (i := 1) (Go.Joins.block_setCell (i := 0) HKO.out (.int .i64 R)) (.int .i64 C)) (.slice (some ⟨bc, 0, none⟩) n kc))
          have bz := (((belD.setCell (p := ⟨NO, 0, none⟩) lmO (.int .i64 R)).setCell (p := ⟨NO, 1, none⟩) lmO (.int .i64 C)).setCell (p := ⟨NO, 2, none⟩) lmO (.slice (some ⟨bc, 0, none⟩) n kc))
          have qC := (own_set (own_set (own_set oC ⟨NO, 0, none⟩ (.int .i64 R) (Ne.symm nC_O)) ⟨NO, 1, none⟩ (.int .i64 C) (Ne.symm nC_O)) ⟨NO, 2, none⟩ (.slice (some ⟨bc, 0, none⟩) n kc) (Ne.symm nC_O))
          have qA := ((Below.heap_setCell _ ⟨NO, 2, none⟩ (.slice (some ⟨bc, 0, none⟩) n kc) _ (Ne.symm nO_A)).trans ((Below.heap_setCell _ ⟨NO, 1, none⟩ (.int .i64 C) _ (Ne.symm nO_A)).trans ((Below.heap_setCell _ ⟨NO, 0, none⟩ (.int .i64 R) _ (Ne.symm nO_A)).trans HKA.out)))
          obtain ⟨ws, hW5⟩ : ∃ ws, ws = (((va.setCell ⟨NO, 0, none⟩ (.int .i64 R)).setCell ⟨NO, 1, none⟩ (.int .i64 C)).setCell ⟨NO, 2, none⟩ (.slice (some ⟨bc, 0, none⟩) n kc)) := ⟨_, rfl⟩
          rw [← hW5] at qO bz qC qA
          clear HKO belD oC HKA
          have kO : ws.heap[NO]? = some (Obj.cells #[.int .i64 R, .int .i64 C, .slice (some ⟨bc, 0, none⟩) n kc] 26) := qO
          have belD := bz
          have oC := qC
          have kA := qA
          clear qO bz qC qA
          refine hK.out _ _ ?_ (fun hHeld2 => ?_)
          · (try dsimp only); rw [← hW5]; exact next5_0 belD HD0.out
          clear hK K hHeld
          (try dsimp only at hHeld2)
          simp only [← hW5] at hHeld2 ⊢
          clear hW5
          have hHeld := hHeld2
          clear hHeld2
          (try simp only [Act.put, List.setIfInBounds_toArray, List.set_cons_zero, List.set_cons_succ, List.getElem_toArray, List.getElem_cons_succ, List.getElem_cons_zero])
          refine wpAnyH_ready (rs := [7]) ?_ (by simp) ?_
          · decide +kernel
          refine AllReadyH.cons rfl (fun K hK => ?_) AllReadyH.nil
          refine Nf.step_storeA rfl 72 _ _ rfl NA (cellsA (tabL xs ys xs.length ys.length)) rfl rfl 72 _ kA (by rw [cellsA_size, tabL_len]; kernel_rfl) (by rw [cellsA_size, cellsA_size, tabL_len, List.length_replicate]) (cellsA_one _) ?_
          have qA := setRow_heap _ NA _ (cellsA (tabL xs ys xs.length ys.length)) 72 (0, 0) kA
          have qC := oC.grown (Nf.grown_setRow ws NA (cellsA (tabL xs ys xs.length ys.length))) (by simp; exact (Ne.symm nC_A))
          have qO := (setRow_other ws NA NO (cellsA (tabL xs ys xs.length ys.length)) nO_A).trans kO
          have bz := below_setRow (cs := (cellsA (tabL xs ys xs.length ys.length))) belD lmA
          obtain ⟨wz, hW6⟩ : ∃ wz, wz = ws.setRow NA (cellsA (tabL xs ys xs.length ys.length)) := ⟨_, rfl⟩
          rw [← hW6] at qA bz qC qO ⊢
          clear hW6 kA belD oC kO
          have kA := qA
          have belD := bz
          have oC := qC
          have kO := qO
          clear qA bz qC qO
          refine hK.out _ _ ?_ (fun hHeld2 => ?_)
          · (try dsimp only); exact next5_0 belD HD0.out
          clear hK K hHeld
          have hHeld := hHeld2
          clear hHeld2
          (try simp only [Act.put, List.setIfInBounds_toArray, List.set_cons_zero, List.set_cons_succ, List.getElem_toArray, List.getElem_cons_succ, List.getElem_cons_zero])
          refine wpAnyH_done (by kernel_rfl) ?_ _
          clear hHeld
          have hfin : Own 2 wz bc (.slice (some ⟨bc, 0, none⟩) n kc) (zs) ∧ wz.heap[NO]? = some (Obj.cells #[.int .i64 R, .int .i64 C, .slice (some ⟨bc, 0, none⟩) n kc] 26) ∧ wz.heap[NA]? = some (Obj.cells (cellsA (tabL xs ys xs.length ys.length)) 72) ∧ wz.heap[NT]? = some (Obj.cells #[.int .i64 0, .int .i64 0, .slice none 0 0] 26) ∧ w.heap.size ≤ bc ∧ NO ≠ bc ∧ NA ≠ bc ∧ NT ≠ bc ∧ NA ≠ NO ∧ NT ≠ NO ∧ w.heap.size ≤ NO ∧ Below w.heap.size w wz := ⟨oC, kO, kA, heap_keep belD HKT.out, Nat.le_trans HD0.out.1.size lmC, (Ne.symm nC_O), (Ne.symm nC_A), Nat.ne_of_lt (Nat.lt_of_lt_of_le (heap_lt HKT.out) lmC), (Ne.symm nO_A), Nat.ne_of_lt (Nat.lt_of_lt_of_le (heap_lt HKT.out) lmO), Nat.le_trans HD0.out.1.size lmO, (HD0.out.1.trans (belD.mono HD0.out.1.size))⟩
          have HFI := hid hfin
          clear hfin oC kO kA belD
          go_wp2_with fail
          go_meet
          case rel => exact ⟨NO, NA, bc, kc, rfl, rfl, HFI.out⟩
        · go_simp
          have bel := below1 vo (Obj.cells #[.int .i64 0, .int .i64 0, .int .i64 0, .int .i64 0, .int .i64 0, .int .i64 0, .int .i64 0, .int .i64 0, .int .i64 0, .int .i64 0, .int .i64 0, .int .i64 0, .int .i64 0, .int .i64 0, .int .i64 0, .int .i64 0, .int .i64 0, .int .i64 0] 72)
          have lmS := belD.size
          have ltC := (oC.lt)
          have ltO := (heap_lt kO)
          replace belD := belD.trans (bel.mono belD.size)
          replace oC := oC.keep bel
          replace kO := heap_keep bel kO
          refine hK.out _ _ ?_ (fun hHeld2 => ?_)
          · (try dsimp only); exact next5_0 belD HD0.out
          clear hK K hHeld bel
          obtain ⟨va, hWa⟩ : ∃ va, va = vo.alloc (Obj.cells #[.int .i64 0, .int .i64 0, .int .i64 0, .int .i64 0, .int .i64 0, .int .i64 0, .int .i64 0, .int .i64 0, .int .i64 0, .int .i64 0, .int .i64 0, .int .i64 0, .int .i64 0, .int .i64 0, .int .i64 0, .int .i64 0, .int .i64 0, .int .i64 0] 72) := ⟨_, rfl⟩
          obtain ⟨NA, hNa⟩ : ∃ NA, NA = vo.heap.size := ⟨_, rfl⟩
          have kA : va.heap[NA]? = some (Obj.cells (cellsA (List.replicate 18 0)) 72) := by rw [hWa, ← HZZ.out]; exact FNew.heap_top hNa
          have lmA : wD.heap.size ≤ NA := by rw [hNa]; exact lmS
          clear lmS
          have nC_A : bc ≠ NA := by rw [hNa]; exact Nat.ne_of_lt ltC
          clear ltC
          have nO_A : NO ≠ NA := by rw [hNa]; exact Nat.ne_of_lt ltO
          clear ltO
          rw [← hWa] at belD oC kO
          (try dsimp only at hHeld2)
          simp only [← hWa, ← hNa] at hHeld2 ⊢
          clear hWa hNa
          have hHeld := hHeld2
          clear hHeld2
          (try simp only [Act.put, List.setIfInBounds_toArray, List.set_cons_zero, List.set_cons_succ, List.getElem_toArray, List.getElem_cons_succ, List.getElem_cons_zero])
          refine wpAnyH_ready (rs := [3]) ?_ (by simp) ?_
          · decide +kernel
          refine AllReadyH.cons rfl (fun K hK => ?_) AllReadyH.nil
          go_simp
          go_at_call 50
          refine (tableOfLife (H1.out.keep (HD0.out.1.trans (belD.mono HD0.out.1.size)) (Nat.le_refl _)) (H2.out.keep (HD0.out.1.trans (belD.mono HD0.out.1.size)) (Nat.le_refl _)) HX.out HY.out).mono ?_
          rintro e wt ⟨rfl, bel⟩
          replace belD := belD.trans (bel.mono belD.size)
          replace oC := oC.keep bel
          replace kO := heap_keep bel kO
          replace kA := heap_keep bel kA
          refine hK.out _ _ ?_ (fun hHeld2 => ?_)
          · (try dsimp only); exact next5_0 belD HD0.out
          clear hK K hHeld bel
          have hHeld := hHeld2
          clear hHeld2
          (try simp only [Act.put, List.setIfInBounds_toArray, List.set_cons_zero, List.set_cons_succ, List.getElem_toArray, List.getElem_cons_succ, List.getElem_cons_zero])
          refine wpAnyH_ready (rs := [6]) ?_ (by simp) ?_
          · decide +kernel
          refine AllReadyH.cons rfl (fun K hK => ?_) AllReadyH.nil
          have y0 : wt.cell? ⟨NO, 0, none⟩ = some (.int .i64 0) := Go.Joins.cell_of_block kO 0
          have y1 : wt.cell? ⟨NO, 1, none⟩ = some (.int .i64 0) := Go.Joins.cell_of_block kO 1
          have y2 : wt.cell? ⟨NO, 2, none⟩ = some (.slice none 0 0) := Go.Joins.cell_of_block kO 2
          have g0 : wt.frozen? ⟨NO, 0, none⟩ = false := Go.Joins.unfrozen_of_block kO 0
          have g1 : wt.frozen? ⟨NO, 1, none⟩ = false := Go.Joins.unfrozen_of_block kO 1
          have g2 : wt.frozen? ⟨NO, 2, none⟩ = false := Go.Joins.unfrozen_of_block kO 2
          have HKO := hid kO
          clear kO
          have HKA := hid kA
          clear kA
          go_simp
          clear y0 g0 y1 g1 y2 g2
          have qO := (Go.Joins.block_setCell (i := 2) (Go.Joins.block_setCell (i := 1) (Go.Joins.block_setCell (i := 0) HKO.out (.int .i64 R)) (.int .i64 C)) (.slice (some ⟨bc, 0, none⟩) n kc))
          have bz := (((belD.setCell (p := ⟨NO, 0, none⟩) lmO (.int .i64 R)).setCell (p := ⟨NO, 1, none⟩) lmO (.int .i64 C)).setCell (p := ⟨NO, 2, none⟩) lmO (.slice (some ⟨bc, 0, none⟩) n kc))
          have qC := (own_set (own_set (own_set oC ⟨NO, 0, none⟩ (.int .i64 R) (Ne.symm nC_O)) ⟨NO, 1, none⟩ (.int .i64 C) (Ne.symm nC_O)) ⟨NO, 2, none⟩ (.slice (some ⟨bc, 0, none⟩) n kc) (Ne.symm nC_O))
          have qA := ((Below.heap_setCell _ ⟨NO, 2, none⟩ (.slice (some ⟨bc, 0, none⟩) n kc) _ (Ne.symm nO_A)).trans ((Below.heap_setCell _ ⟨NO, 1, none⟩ (.int .i64 C) _ (Ne.symm nO_A)).trans ((Below.heap_setCell _ ⟨NO, 0, none⟩ (.int .i64 R) _ (Ne.symm nO_A)).trans HKA.out)))
          obtain ⟨ws, hW5⟩ : ∃ ws, ws = (((wt.setCell ⟨NO, 0, none⟩ (.int .i64 R)).setCell ⟨NO, 1, none⟩ (.int .i64 C)).setCell ⟨NO, 2, none⟩ (.slice (some ⟨bc, 0, none⟩) n kc)) := ⟨_, rfl⟩
          rw [← hW5] at qO bz qC qA
          clear HKO belD oC HKA
          have kO : ws.heap[NO]? = some (Obj.cells #[.int .i64 R, .int .i64 C, .slice (some ⟨bc, 0, none⟩) n kc] 26) := qO
          have belD := bz
          have oC := qC
          have kA := qA
          clear qO bz qC qA
          refine hK.out _ _ ?_ (fun hHeld2 => ?_)
          · (try dsimp only); rw [← hW5]; exact next5_0 belD HD0.out
          clear hK K hHeld
          (try dsimp only at hHeld2)
          simp only [← hW5] at hHeld2 ⊢
          clear hW5
          have hHeld := hHeld2
          clear hHeld2
          (try simp only [Act.put, List.setIfInBounds_toArray, List.set_cons_zero, List.set_cons_succ, List.getElem_toArray, List.getElem_cons_succ, List.getElem_cons_zero])
          refine wpAnyH_ready (rs := [7]) ?_ (by simp) ?_
          · decide +kernel
          refine AllReadyH.cons rfl (fun K hK => ?_) AllReadyH.nil
          refine Nf.step_storeA rfl 72 _ _ rfl NA (cellsA (tabL xs ys xs.length ys.length)) rfl rfl 72 _ kA (by rw [cellsA_size, tabL_len]; kernel_rfl) (by rw [cellsA_size, cellsA_size, tabL_len, List.length_replicate]) (cellsA_one _) ?_
          have qA := setRow_heap _ NA _ (cellsA (tabL xs ys xs.length ys.length)) 72 (0, 0) kA
          have qC := oC.grown (Nf.grown_setRow ws NA (cellsA (tabL xs ys xs.length ys.length))) (by simp; exact (Ne.symm nC_A))
          have qO := (setRow_other ws NA NO (cellsA (tabL xs ys xs.length ys.length)) nO_A).trans kO
          have bz := below_setRow (cs := (cellsA (tabL xs ys xs.length ys.length))) belD lmA
          obtain ⟨wz, hW6⟩ : ∃ wz, wz = ws.setRow NA (cellsA (tabL xs ys xs.length ys.length)) := ⟨_, rfl⟩
          rw [← hW6] at qA bz qC qO ⊢
          clear hW6 kA belD oC kO
          have kA := qA
          have belD := bz
          have oC := qC
          have kO := qO
          clear qA bz qC qO
          refine hK.out _ _ ?_ (fun hHeld2 => ?_)
          · (try dsimp only); exact next5_0 belD HD0.out
          clear hK K hHeld
          have hHeld := hHeld2
          clear hHeld2
          (try simp only [Act.put, List.setIfInBounds_toArray, List.set_cons_zero, List.set_cons_succ, List.getElem_toArray, List.getElem_cons_succ, List.getElem_cons_zero])
          refine wpAnyH_done (by kernel_rfl) ?_ _
          clear hHeld
          have hfin : Own 2 wz bc (.slice (some ⟨bc, 0, none⟩) n kc) (zs) ∧ wz.heap[NO]? = some (Obj.cells #[.int .i64 R, .int .i64 C, .slice (some ⟨bc, 0, none⟩) n kc] 26) ∧ wz.heap[NA]? = some (Obj.cells (cellsA (tabL xs ys xs.length ys.length)) 72) ∧ wz.heap[NT]? = some (Obj.cells #[.int .i64 0, .int .i64 0, .slice none 0 0] 26) ∧ w.heap.size ≤ bc ∧ NO ≠ bc ∧ NA ≠ bc ∧ NT ≠ bc ∧ NA ≠ NO ∧ NT ≠ NO ∧ w.heap.size ≤ NO ∧ Below w.heap.size w wz := ⟨oC, kO, kA, heap_keep belD HKT.out, Nat.le_trans HD0.out.1.size lmC, (Ne.symm nC_O), (Ne.symm nC_A), Nat.ne_of_lt (Nat.lt_of_lt_of_le (heap_lt HKT.out) lmC), (Ne.symm nO_A), Nat.ne_of_lt (Nat.lt_of_lt_of_le (heap_lt HKT.out) lmO), Nat.le_trans HD0.out.1.size lmO, (HD0.out.1.trans (belD.mono HD0.out.1.size))⟩
          have HFI := hid hfin
          clear hfin oC kO kA belD
          go_wp2_with fail
          go_meet
          case rel => exact ⟨NO, NA, bc, kc, rfl, rfl, HFI.out⟩
      · go_simp
        have bel := below1 wc (Obj.cells #[.int .i64 0, .int .i64 0, .int .i64 0, .int .i64 0, .int .i64 0, .int .i64 0, .int .i64 0, .int .i64 0, .int .i64 0, .int .i64 0, .int .i64 0, .int .i64 0, .int .i64 0, .int .i64 0, .int .i64 0, .int .i64 0, .int .i64 0, .int .i64 0] 72)
        have lmS := belD.size
        have ltC := (oC.lt)
        replace belD := belD.trans (bel.mono belD.size)
        replace oC := oC.keep bel
        refine hK.out _ _ ?_ (fun hHeld2 => ?_)
        · (try dsimp only); exact next5_0 belD HD0.out
        clear hK K hHeld bel
        obtain ⟨va, hWa⟩ : ∃ va, va = wc.alloc (Obj.cells #[.int .i64 0, .int .i64 0, .int .i64 0, .int .i64 0, .int .i64 0, .int .i64 0, .int .i64 0, .int .i64 0, .int .i64 0, .int .i64 0, .int .i64 0, .int .i64 0, .int .i64 0, .int .i64 0, .int .i64 0, .int .i64 0, .int .i64 0, .int .i64 0] 72) := ⟨_, rfl⟩
        obtain ⟨NA, hNa⟩ : ∃ NA, NA = wc.heap.size := ⟨_, rfl⟩
        have kA : va.heap[NA]? = some (Obj.cells (cellsA (List.replicate 18 0)) 72) := by rw [hWa, ← HZZ.out]; exact FNew.heap_top hNa
        have lmA : wD.heap.size ≤ NA := by rw [hNa]; exact lmS
        clear lmS
        have nC_A : bc ≠ NA := by rw [hNa]; exact Nat.ne_of_lt ltC
        clear ltC
        rw [← hWa] at belD oC
        (try dsimp only at hHeld2)
        simp only [← hWa, ← hNa] at hHeld2 ⊢
        clear hWa hNa
        have hHeld := hHeld2
        clear hHeld2
        (try simp only [Act.put, List.setIfInBounds_toArray, List.set_cons_zero, List.set_cons_succ, List.getElem_toArray, List.getElem_cons_succ, List.getElem_cons_zero])
        refine wpAnyH_ready (rs := [3, 4]) ?_ (by simp) ?_
        · decide +kernel
        refine AllReadyH.cons rfl (fun K hK => ?_) (AllReadyH.cons rfl (fun K hK => ?_) AllReadyH.nil)
        · go_simp
          go_at_call 50
          refine (tableOfLife (H1.out.keep (HD0.out.1.trans (belD.mono HD0.out.1.size)) (Nat.le_refl _)) (H2.out.keep (HD0.out.1.trans (belD.mono HD0.out.1.size)) (Nat.le_refl _)) HX.out HY.out).mono ?_
          rintro e wt ⟨rfl, bel⟩
          replace belD := belD.trans (bel.mono belD.size)
          replace oC := oC.keep bel
          replace kA := heap_keep bel kA
          refine hK.out _ _ ?_ (fun hHeld2 => ?_)
          · (try dsimp only); exact next5_0 belD HD0.out
          clear hK K hHeld bel
          have hHeld := hHeld2
          clear hHeld2
          (try simp only [Act.put, List.setIfInBounds_toArray, List.set_cons_zero, List.set_cons_succ, List.getElem_toArray, List.getElem_cons_succ, List.getElem_cons_zero])
          refine wpAnyH_ready (rs := [4]) ?_ (by simp) ?_
          · decide +kernel
          refine AllReadyH.cons rfl (fun K hK => ?_) AllReadyH.nil
          go_simp
          have bel := below1 wt (Obj.cells #[.int .i64 0, .int .i64 0, .slice none 0 0] 26)
          have lmS := belD.size
          have ltC := (oC.lt)
          have ltA := (heap_lt kA)
          replace belD := belD.trans (bel.mono belD.size)
          replace oC := oC.keep bel
          replace kA := heap_keep bel kA
          refine hK.out _ _ ?_ (fun hHeld2 => ?_)
          · (try dsimp only); exact next5_0 belD HD0.out
          clear hK K hHeld bel
          obtain ⟨vo, hWa⟩ : ∃ vo, vo = wt.alloc (Obj.cells #[.int .i64 0, .int .i64 0, .slice none 0 0] 26) := ⟨_, rfl⟩
          obtain ⟨NO, hNa⟩ : ∃ NO, NO = wt.heap.size := ⟨_, rfl⟩
          have kO : vo.heap[NO]? = some (Obj.cells #[.int .i64 0, .int .i64 0, .slice none 0 0] 26) := by rw [hWa]; exact FNew.heap_top hNa
          have lmO : wD.heap.size ≤ NO := by rw [hNa]; exact lmS
          clear lmS
          have nC_O : bc ≠ NO := by rw [hNa]; exact Nat.ne_of_lt ltC
          clear ltC
          have nA_O : NA ≠ NO := by rw [hNa]; exact Nat.ne_of_lt ltA
          clear ltA
          rw [← hWa] at belD oC kA
          (try dsimp only at hHeld2)
          simp only [← hWa, ← hNa] at hHeld2 ⊢
          clear hWa hNa
          have hHeld := hHeld2
          clear hHeld2
          (try simp only [Act.put, List.setIfInBounds_toArray, List.set_cons_zero, List.set_cons_succ, List.getElem_toArray, List.getElem_cons_succ, List.getElem_cons_zero])
          refine wpAnyH_ready (rs := [6]) ?_ (by simp) ?_
          · decide +kernel
          refine AllReadyH.cons rfl (fun K hK => ?_) AllReadyH.nil
          have y0 : vo.cell? ⟨NO, 0, none⟩ = some (.int .i64 0) := Go.Joins.cell_of_block kO 0
          have y1 : vo.cell? ⟨NO, 1, none⟩ = some (.int .i64 0) := Go.Joins.cell_of_block kO 1
          have y2 : vo.cell? ⟨NO, 2, none⟩ = some (.slice none 0 0) := Go.Joins.cell_of_block kO 2
          have g0 : vo.frozen? ⟨NO, 0, none⟩ = false := Go.Joins.unfrozen_of_block kO 0
          have g1 : vo.frozen? ⟨NO, 1, none⟩ = false := Go.Joins.unfrozen_of_block kO 1
          have g2 : vo.frozen? ⟨NO, 2, none⟩ = false := Go.Joins.unfrozen_of_block kO 2
          have HKO := hid kO
          clear kO
          have HKA := hid kA
          clear kA
          go_simp
          clear y0 g0 y1 g1 y2 g2
          have qO := (Go.Joins.block_setCell (i := 2) (Go.Joins.block_setCell (i := 1) (Go.Joins.block_setCell (i := 0) HKO.out (.int .i64 R)) (.int .i64 C)) (.slice (some ⟨bc, 0, none⟩) n kc))
          have bz := (((belD.setCell (p := ⟨NO, 0, none⟩) lmO (.int .i64 R)).setCell (p := ⟨NO, 1, none⟩) lmO (.int .i64 C)).setCell (p := ⟨NO, 2, none⟩) lmO (.slice (some ⟨bc, 0, none⟩) n kc))
          have qC := (own_set (own_set (own_set oC ⟨NO, 0, none⟩ (.int .i64 R) (Ne.symm nC_O)) ⟨NO, 1, none⟩ (.int .i64 C) (Ne.symm nC_O)) ⟨NO, 2, none⟩ (.slice (some ⟨bc, 0, none⟩) n kc) (Ne.symm nC_O))
          have qA := ((Below.heap_setCell _ ⟨NO, 2, none⟩ (.slice (some ⟨bc, 0, none⟩) n kc) _ nA_O).trans ((Below.heap_setCell _ ⟨NO, 1, none⟩ (.int .i64 C) _ nA_O).trans ((Below.heap_setCell _ ⟨NO, 0, none⟩ (.int .i64 R) _ nA_O).trans HKA.out)))
          obtain ⟨ws, hW5⟩ : ∃ ws, ws = (((vo.setCell ⟨NO, 0, none⟩ (.int .i64 R)).setCell ⟨NO, 1, none⟩ (.int .i64 C)).setCell ⟨NO, 2, none⟩ (.slice (some ⟨bc, 0, none⟩) n kc)) := ⟨_, rfl⟩
          rw [← hW5] at qO bz qC qA
          clear HKO belD oC HKA
          have kO : ws.heap[NO]? = some (Obj.cells #[.int .i64 R, .int .i64 C, .slice (some ⟨bc, 0, none⟩) n kc] 26) := qO
          have belD := bz
          have oC := qC
          have kA := qA
          clear qO bz qC qA
          refine hK.out _ _ ?_ (fun hHeld2 => ?_)
          · (try dsimp only); rw [← hW5]; exact next5_0 belD HD0.out
          clear hK K hHeld
          (try dsimp only at hHeld2)
          simp only [← hW5] at hHeld2 ⊢
          clear hW5
          have hHeld := hHeld2
          clear hHeld2
          (try simp only [Act.put, List.setIfInBounds_toArray, List.set_cons_zero, List.set_cons_succ, List.getElem_toArray, List.getElem_cons_succ, List.getElem_cons_zero])
          refine wpAnyH_ready (rs := [7]) ?_ (by simp) ?_
          · decide +kernel
          refine AllReadyH.cons rfl (fun K hK => ?_) AllReadyH.nil
          refine Nf.step_storeA rfl 72 _ _ rfl NA (cellsA (tabL xs ys xs.length ys.length)) rfl rfl 72 _ kA (by rw [cellsA_size, tabL_len]; kernel_rfl) (by rw [cellsA_size, cellsA_size, tabL_len, List.length_replicate]) (cellsA_one _) ?_
          have qA := setRow_heap _ NA _ (cellsA (tabL xs ys xs.length ys.length)) 72 (0, 0) kA
          have qC := oC.grown (Nf.grown_setRow ws NA (cellsA (tabL xs ys xs.length ys.length))) (by simp; exact (Ne.symm nC_A))
          have qO := (setRow_other ws NA NO (cellsA (tabL xs ys xs.length ys.length)) (Ne.symm nA_O)).trans kO
          have bz := below_setRow (cs := (cellsA (tabL xs ys xs.length ys.length))) belD lmA
          obtain ⟨wz, hW6⟩ : ∃ wz, wz = ws.setRow NA (cellsA (tabL xs ys xs.length ys.length)) := ⟨_, rfl⟩
          rw [← hW6] at qA bz qC qO ⊢
          clear hW6 kA belD oC kO
          have kA := qA
          have belD := bz
          have oC := qC
          have kO := qO
          clear qA bz qC qO
          refine hK.out _ _ ?_ (fun hHeld2 => ?_)
          · (try dsimp only); exact next5_0 belD HD0.out
          clear hK K hHeld
          have hHeld := hHeld2
          clear hHeld2
          (try simp only [Act.put, List.setIfInBounds_toArray, List.set_cons_zero, List.set_cons_succ, List.getElem_toArray, List.getElem_cons_succ, List.getElem_cons_zero])
          refine wpAnyH_done (by kernel_rfl) ?_ _
          clear hHeld
          have hfin : Own 2 wz bc (.slice (some ⟨bc, 0, none⟩) n kc) (zs) ∧ wz.heap[NO]? = some (Obj.cells #[.int .i64 R, .int .i64 C, .slice (some ⟨bc, 0, none⟩) n kc] 26) ∧ wz.heap[NA]? = some (Obj.cells (cellsA (tabL xs ys xs.length ys.length)) 72) ∧ wz.heap[NT]? = some (Obj.cells #[.int .i64 0, .int .i64 0, .slice none 0 0] 26) ∧ w.heap.size ≤ bc ∧ NO ≠ bc ∧ NA ≠ bc ∧ NT ≠ bc ∧ NA ≠ NO ∧ NT ≠ NO ∧ w.heap.size ≤ NO ∧ Below w.heap.size w wz := ⟨oC, kO, kA, heap_keep belD HKT.out, Nat.le_trans HD0.out.1.size lmC, (Ne.symm nC_O), (Ne.symm nC_A), Nat.ne_of_lt (Nat.lt_of_lt_of_le (heap_lt HKT.out) lmC), nA_O, Nat.ne_of_lt (Nat.lt_of_lt_of_le (heap_lt HKT.out) lmO), Nat.le_trans HD0.out.1.size lmO, (HD0.out.1.trans (belD.mono HD0.out.1.size))⟩
          have HFI := hid hfin
          clear hfin oC kO kA belD
          go_wp2_with fail
          go_meet
          case rel => exact ⟨NO, NA, bc, kc, rfl, rfl, HFI.out⟩
        · go_simp
          have bel := below1 va (Obj.cells #[.int .i64 0, .int .i64 0, .slice none 0 0] 26)
          have lmS := belD.size
          have ltC := (oC.lt)
          have ltA := (heap_lt kA)
          replace belD := belD.trans (bel.mono belD.size)
          replace oC := oC.keep bel
          replace kA := heap_keep bel kA
          refine hK.out _ _ ?_ (fun hHeld2 => ?_)
          · (try dsimp only); exact next5_0 belD HD0.out
          clear hK K hHeld bel
          obtain ⟨vo, hWa⟩ : ∃ vo, vo = va.alloc (Obj.cells #[.int .i64 0, .int .i64 0, .slice none 0 0] 26) := ⟨_, rfl⟩
          obtain ⟨NO, hNa⟩ : ∃ NO, NO = va.heap.size := ⟨_, rfl⟩
          have kO : vo.heap[NO]? = some (Obj.cells #[.int .i64 0, .int .i64 0, .slice none 0 0] 26) := by rw [hWa]; exact FNew.heap_top hNa
          have lmO : wD.heap.size ≤ NO := by rw [hNa]; exact lmS
          clear lmS
          have nC_O : bc ≠ NO := by rw [hNa]; exact Nat.ne_of_lt ltC
          clear ltC
          have nA_O : NA ≠ NO := by rw [hNa]; exact Nat.ne_of_lt ltA
          clear ltA
          rw [← hWa] at belD oC kA
          (try dsimp only at hHeld2)
          simp only [← hWa, ← hNa] at hHeld2 ⊢
          clear hWa hNa
          have hHeld := hHeld2
          clear hHeld2
          (try simp only [Act.put, List.setIfInBounds_toArray, List.set_cons_zero, List.set_cons_succ, List.getElem_toArray, List.getElem_cons_succ, List.getElem_cons_zero])
          refine wpAnyH_ready (rs := [3]) ?_ (by simp) ?_
          · decide +kernel
          refine AllReadyH.cons rfl (fun K hK => ?_) AllReadyH.nil
          go_simp
          go_at_call 50
          refine (tableOfLife (H1.out.keep (HD0.out.1.trans (belD.mono HD0.out.1.size)) (Nat.le_refl _)) (H2.out.keep (HD0.out.1.trans (belD.mono HD0.out.1.size)) (Nat.le_refl _)) HX.out HY.out).mono ?_
          rintro e wt ⟨rfl, bel⟩
          replace belD := belD.trans (bel.mono belD.size)
          replace oC := oC.keep bel
          replace kA := heap_keep bel kA
          replace kO := heap_keep bel kO
          refine hK.out _ _ ?_ (fun hHeld2 => ?_)
          · (try dsimp only); exact next5_0 belD HD0.out
          clear hK K hHeld bel
          have hHeld := hHeld2
          clear hHeld2
          (try simp only [Act.put, List.setIfInBounds_toArray, List.set_cons_zero, List.set_cons_succ, List.getElem_toArray, List.getElem_cons_succ, List.getElem_cons_zero])
          refine wpAnyH_ready (rs := [6]) ?_ (by simp) ?_
          · decide +kernel
          refine AllReadyH.cons rfl (fun K hK => ?_) AllReadyH.nil
          have y0 : wt.cell? ⟨NO, 0, none⟩ = some (.int .i64 0) := Go.Joins.cell_of_block kO 0
          have y1 : wt.cell? ⟨NO, 1, none⟩ = some (.int .i64 0) := Go.Joins.cell_of_block kO 1
          have y2 : wt.cell? ⟨NO, 2, none⟩ = some (.slice none 0 0) := Go.Joins.cell_of_block kO 2
          have g0 : wt.frozen? ⟨NO, 0, none⟩ = false := Go.Joins.unfrozen_of_block kO 0
          have g1 : wt.frozen? ⟨NO, 1, none⟩ = false := Go.Joins.unfrozen_of_block kO 1
          have g2 : wt.frozen? ⟨NO, 2, none⟩ = false := Go.Joins.unfrozen_of_block kO 2
          have HKO := hid kO
          clear kO
          have HKA := hid kA
          clear kA
          go_simp
          clear y0 g0 y1 g1 y2 g2
          have qO := (Go.Joins.block_setCell (i := 2) (Go.Joins.block_setCell (i := 1) (Go.Joins.block_setCell (i := 0) HKO.out (.int .i64 R)) (.int .i64 C)) (.slice (some ⟨bc, 0, none⟩) n kc))
          have bz := (((belD.setCell (p := ⟨NO, 0, none⟩) lmO (.int .i64 R)).setCell (p := ⟨NO, 1, none⟩) lmO (.int .i64 C)).setCell (p := ⟨NO, 2, none⟩) lmO (.slice (some ⟨bc, 0, none⟩) n kc))
          have qC := (own_set (own_set (own_set oC ⟨NO, 0, none⟩ (.int .i64 R) (Ne.symm nC_O)) ⟨NO, 1, none⟩ (.int .i64 C) (Ne.symm nC_O)) ⟨NO, 2, none⟩ (.slice (some ⟨bc, 0, none⟩) n kc) (Ne.symm nC_O))
          have qA := ((Below.heap_setCell _ ⟨NO, 2, none⟩ (.slice (some ⟨bc, 0, none⟩) n kc) _ nA_O).trans ((Below.heap_setCell _ ⟨NO, 1, none⟩ (.int .i64 C) _ nA_O).trans ((Below.heap_setCell _ ⟨NO, 0, none⟩ (.int .i64 R) _ nA_O).trans HKA.out)))
          obtain ⟨ws, hW5⟩ : ∃ ws, ws = (((wt.setCell ⟨NO, 0, none⟩ (.int .i64 R)).setCell ⟨NO, 1, none⟩ (.int .i64 C)).setCell ⟨NO, 2, none⟩ (.slice (some ⟨bc, 0, none⟩) n kc)) := ⟨_, rfl⟩
          rw [← hW5] at qO bz qC qA
          clear HKO belD oC HKA
          have kO : ws.heap[NO]? = some (Obj.cells #[.int .i64 R, .int .i64 C, .slice (some ⟨bc, 0, none⟩) n kc] 26) := qO
          have belD := bz
          have oC := qC
          have kA := qA
          clear qO bz qC qA
          refine hK.out _ _ ?_ (fun hHeld2 => ?_)
          · (try dsimp only); rw [← hW5]; exact next5_0 belD HD0.out
          clear hK K hHeld
          (try dsimp only at hHeld2)
          simp only [← hW5] at hHeld2 ⊢
          clear hW5
          have hHeld := hHeld2
          clear hHeld2
          (try simp only [Act.put, List.setIfInBounds_toArray, List.set_cons_zero, List.set_cons_succ, List.getElem_toArray, List.getElem_cons_succ, List.getElem_cons_zero])
          refine wpAnyH_ready (rs := [7]) ?_ (by simp) ?_
          · decide +kernel
          refine AllReadyH.cons rfl (fun K hK => ?_) AllReadyH.nil
          refine Nf.step_storeA rfl 72 _ _ rfl NA (cellsA (tabL xs ys xs.length ys.length)) rfl rfl 72 _ kA (by rw [cellsA_size, tabL_len]; kernel_rfl) (by rw [cellsA_size, cellsA_size, tabL_len, List.length_replicate]) (cellsA_one _) ?_
          have qA := setRow_heap _ NA _ (cellsA (tabL xs ys xs.length ys.length)) 72 (0, 0) kA
          have qC := oC.grown (Nf.grown_setRow ws NA (cellsA (tabL xs ys xs.length ys.length))) (by simp; exact (Ne.symm nC_A))
          have qO := (setRow_other ws NA NO (cellsA (tabL xs ys xs.length ys.length)) (Ne.symm nA_O)).trans kO
          have bz := below_setRow (cs := (cellsA (tabL xs ys xs.length ys.length))) belD lmA
          obtain ⟨wz, hW6⟩ : ∃ wz, wz = ws.setRow NA (cellsA (tabL xs ys xs.length ys.length)) := ⟨_, rfl⟩
          rw [← hW6] at qA bz qC qO ⊢
          clear hW6 kA belD oC kO
          have kA := qA
          have belD := bz
          have oC := qC
          have kO := qO
          clear qA bz qC qO
          refine hK.out _ _ ?_ (fun hHeld2 => ?_)
          · (try dsimp only); exact next5_0 belD HD0.out
          clear hK K hHeld
          have hHeld := hHeld2
          clear hHeld2
          (try simp only [Act.put, List.setIfInBounds_toArray, List.set_cons_zero, List.set_cons_succ, List.getElem_toArray, List.getElem_cons_succ, List.getElem_cons_zero])
          refine wpAnyH_done (by kernel_rfl) ?_ _
          clear hHeld
          have hfin : Own 2 wz bc (.slice (some ⟨bc, 0, none⟩) n kc) (zs) ∧ wz.heap[NO]? = some (Obj.cells #[.int .i64 R, .int .i64 C, .slice (some ⟨bc, 0, none⟩) n kc] 26) ∧ wz.heap[NA]? = some (Obj.cells (cellsA (tabL xs ys xs.length ys.length)) 72) ∧ wz.heap[NT]? = some (Obj.cells #[.int .i64 0, .int .i64 0, .slice none 0 0] 26) ∧ w.heap.size ≤ bc ∧ NO ≠ bc ∧ NA ≠ bc ∧ NT ≠ bc ∧ NA ≠ NO ∧ NT ≠ NO ∧ w.heap.size ≤ NO ∧ Below w.heap.size w wz := ⟨oC, kO, kA, heap_keep belD HKT.out, Nat.le_trans HD0.out.1.size lmC, (Ne.symm nC_O), (Ne.symm nC_A), Nat.ne_of_lt (Nat.lt_of_lt_of_le (heap_lt HKT.out) lmC), nA_O, Nat.ne_of_lt (Nat.lt_of_lt_of_le (heap_lt HKT.out) lmO), Nat.le_trans HD0.out.1.size lmO, (HD0.out.1.trans (belD.mono HD0.out.1.size))⟩
          have HFI := hid hfin
          clear hfin oC kO kA belD
          go_wp2_with fail
          go_meet
          case rel => exact ⟨NO, NA, bc, kc, rfl, rfl, HFI.out⟩
    · go_simp
      have bel := below1 wD (Obj.cells #[.int .i64 0, .int .i64 0, .slice none 0 0] 26)
      have lmS := belD.size
      replace belD := belD.trans (bel.mono belD.size)
      refine hK.out _ _ ?_ (fun hHeld2 => ?_)
      · (try dsimp only); exact next5_0 belD HD0.out
      clear hK K hHeld bel
      obtain ⟨vo, hWa⟩ : ∃ vo, vo = wD.alloc (Obj.cells #[.int .i64 0, .int .i64 0, .slice none 0 0] 26) := ⟨_, rfl⟩
      obtain ⟨NO, hNa⟩ : ∃ NO, NO = wD.heap.size := ⟨_, rfl⟩
      have kO : vo.heap[NO]? = some (Obj.cells #[.int .i64 0, .int .i64 0, .slice none 0 0] 26) := by rw [hWa]; exact FNew.heap_top hNa
      have lmO : wD.heap.size ≤ NO := by rw [hNa]; exact lmS
      clear lmS
      rw [← hWa] at belD
      (try dsimp only at hHeld2)
      simp only [← hWa, ← hNa] at hHeld2 ⊢
      clear hWa hNa
      have hHeld := hHeld2
      clear hHeld2
      (try simp only [Act.put, List.setIfInBounds_toArray, List.set_cons_zero, List.set_cons_succ, List.getElem_toArray, List.getElem_cons_succ, List.getElem_cons_zero])
      refine wpAnyH_ready (rs := [1, 5]) ?_ (by simp) ?_
      · decide +kernel
      refine AllReadyH.cons rfl (fun K hK => ?_) (AllReadyH.cons rfl (fun K hK => ?_) AllReadyH.nil)
      · go_simp
        go_at_call 44
        refine (copyOfN (HH.out.keep (HD0.out.1.trans (belD.mono HD0.out.1.size)) (Nat.le_refl _)) HZ.out HL.out).mono ?_
        rintro e wc ⟨bc, kc, rfl, oC, loC, bel⟩
        have lmC : wD.heap.size ≤ bc := Nat.le_trans belD.size loC
        have nO_C : NO ≠ bc := Nat.ne_of_lt (Nat.lt_of_lt_of_le (heap_lt kO) loC)
        clear loC
        replace belD := belD.trans (bel.mono belD.size)
        replace kO := heap_keep bel kO
        refine hK.out _ _ ?_ (fun hHeld2 => ?_)
        · (try dsimp only); exact next5_0 belD HD0.out
        clear hK K hHeld bel
        have hHeld := hHeld2
        clear hHeld2
        (try simp only [Act.put, List.setIfInBounds_toArray, List.set_cons_zero, List.set_cons_succ, List.getElem_toArray, List.getElem_cons_succ, List.getElem_cons_zero])
        refine wpAnyH_ready (rs := [3, 5]) ?_ (by simp) ?_
        · decide +kernel
        refine AllReadyH.cons rfl (fun K hK => ?_) (AllReadyH.cons rfl (fun K hK => ?_) AllReadyH.nil)
        · go_simp
          go_at_call 50
          refine (tableOfLife (H1.out.keep (HD0.out.1.trans (belD.mono HD0.out.1.size)) (Nat.le_refl _)) (H2.out.keep (HD0.out.1.trans (belD.mono HD0.out.1.size)) (Nat.le_refl _)) HX.out HY.out).mono ?_
          rintro e wt ⟨rfl, bel⟩
          replace belD := belD.trans (bel.mono belD.size)
          replace kO := heap_keep bel kO
          replace oC := oC.keep bel
          refine hK.out _ _ ?_ (fun hHeld2 => ?_)
          · (try dsimp only); exact next5_0 belD HD0.out
          clear hK K hHeld bel
          have hHeld := hHeld2
          clear hHeld2
          (try simp only [Act.put, List.setIfInBounds_toArray, List.set_cons_zero, List.set_cons_succ, List.getElem_toArray, List.getElem_cons_succ, List.getElem_cons_zero])
          refine wpAnyH_ready (rs := [5]) ?_ (by simp) ?_
          · decide +kernel
          refine AllReadyH.cons rfl (fun K hK => ?_) AllReadyH.nil
          go_simp
          have bel := below1 wt (Obj.cells #[.int .i64 0, .int .i64 0, .int .i64 0, .int .i64 0, .int .i64 0, .int .i64 0, .int .i64 0, .int .i64 0, .int .i64 0, .int .i64 0, .int .i64 0, .int .i64 0, .int .i64 0, .int .i64 0, .int .i64 0, .int .i64 0, .int .i64 0, .int .i64 0] 72)
          have lmS := belD.size
          have ltO := (heap_lt kO)
          have ltC := (oC.lt)
          replace belD := belD.trans (bel.mono belD.size)
          replace kO := heap_keep bel kO
          replace oC := oC.keep bel
          refine hK.out _ _ ?_ (fun hHeld2 => ?_)
          · (try dsimp only); exact next5_0 belD HD0.out
          clear hK K hHeld bel
          obtain ⟨va, hWa⟩ : ∃ va, va = wt.alloc (Obj.cells #[.int .i64 0, .int .i64 0, .int .i64 0, .int .i64 0, .int .i64 0, .int .i64 0, .int .i64 0, .int .i64 0, .int .i64 0, .int .i64 0, .int .i64 0, .int .i64 0, .int .i64 0, .int .i64 0, .int .i64 0, .int .i64 0, .int .i64 0, .int .i64 0] 72) := ⟨_, rfl⟩
          obtain ⟨NA, hNa⟩ : ∃ NA, NA = wt.heap.size := ⟨_, rfl⟩
          have kA : va.heap[NA]? = some (Obj.cells (cellsA (List.replicate 18 0)) 72) := by rw [hWa, ← HZZ.out]; exact FNew.heap_top hNa
          have lmA : wD.heap.size ≤ NA := by rw [hNa]; exact lmS
          clear lmS
          have nO_A : NO ≠ NA := by rw [hNa]; exact Nat.ne_of_lt ltO
          clear ltO
          have nC_A : bc ≠ NA := by rw [hNa]; exact Nat.ne_of_lt ltC
          clear ltC
          rw [← hWa] at belD kO oC
          (try dsimp only at hHeld2)
          simp only [← hWa, ← hNa] at hHeld2 ⊢
          clear hWa hNa
          have hHeld := hHeld2
          clear hHeld2
          (try simp only [Act.put, List.setIfInBounds_toArray, List.set_cons_zero, List.set_cons_succ, List.getElem_toArray, List.getElem_cons_succ, List.getElem_cons_zero])
          refine wpAnyH_ready (rs := [6]) ?_ (by simp) ?_
          · decide +kernel
          refine AllReadyH.cons rfl (fun K hK => ?_) AllReadyH.nil
          have y0 : va.cell? ⟨NO, 0, none⟩ = some (.int .i64 0) := Go.Joins.cell_of_block kO 0
          have y1 : va.cell? ⟨NO, 1, none⟩ = some (.int .i64 0) := Go.Joins.cell_of_block kO 1
          have y2 : va.cell? ⟨NO, 2, none⟩ = some (.slice none 0 0) := Go.Joins.cell_of_block kO 2
          have g0 : va.frozen? ⟨NO, 0, none⟩ = false := Go.Joins.unfrozen_of_block kO 0
          have g1 : va.frozen? ⟨NO, 1, none⟩ = false := Go.Joins.unfrozen_of_block kO 1
          have g2 : va.frozen? ⟨NO, 2, none⟩ = false := Go.Joins.unfrozen_of_block kO 2
          have HKO := hid kO
          clear kO
          have HKA := hid kA
          clear kA
          go_simp
          clear y0 g0 y1 g1 y2 g2
          have qO := (Go.Joins.block_setCell (i := 2) (Go.Joins.block_setCell (i := 1) (Go.Joins.block_setCell (i := 0) HKO.out (.int .i64 R)) (.int .i64 C)) (.slice (some ⟨bc, 0, none⟩) n kc))
          have bz := (((belD.setCell (p := ⟨NO, 0, none⟩) lmO (.int .i64 R)).setCell (p := ⟨NO, 1, none⟩) lmO (.int .i64 C)).setCell (p := ⟨NO, 2, none⟩) lmO (.slice (some ⟨bc, 0, none⟩) n kc))
          have qC := (own_set (own_set (own_set oC ⟨NO, 0, none⟩ (.int .i64 R) nO_C) ⟨NO, 1, none⟩ (.int .i64 C) nO_C) ⟨NO, 2, none⟩ (.slice (some ⟨bc, 0, none⟩) n kc) nO_C)
          have qA := ((Below.heap_setCell _ ⟨NO, 2, none⟩ (.slice (some ⟨bc, 0, none⟩) n kc) _ (Ne.symm nO_A)).trans ((Below.heap_setCell _ ⟨NO, 1, none⟩ (.int .i64 C) _ (Ne.symm nO_A)).trans ((Below.heap_setCell _ ⟨NO, 0, none⟩ (.int .i64 R) _ (Ne.symm nO_A)).trans HKA.out)))
          obtain ⟨ws, hW5⟩ : ∃ ws, ws = (((va.setCell ⟨NO, 0, none⟩ (.int .i64 R)).setCell ⟨NO, 1, none⟩ (.int .i64 C)).setCell ⟨NO, 2, none⟩ (.slice (some ⟨bc, 0, none⟩) n kc)) := ⟨_, rfl⟩
          rw [← hW5] at qO bz qC qA
          clear HKO belD oC HKA
          have kO : ws.heap[NO]? = some (Obj.cells #[.int .i64 R, .int .i64 C, .slice (some ⟨bc, 0, none⟩) n kc] 26) := qO
          have belD := bz
          have oC := qC
          have kA := qA
          clear qO bz qC qA
          refine hK.out _ _ ?_ (fun hHeld2 => ?_)
          · (try dsimp only); rw [← hW5]; exact next5_0 belD HD0.out
          clear hK K hHeld
          (try dsimp only at hHeld2)
          simp only [← hW5] at hHeld2 ⊢
          clear hW5
          have hHeld := hHeld2
          clear hHeld2
          (try simp only [Act.put, List.setIfInBounds_toArray, List.set_cons_zero, List.set_cons_succ, List.getElem_toArray, List.getElem_cons_succ, List.getElem_cons_zero])
          refine wpAnyH_ready (rs := [7]) ?_ (by simp) ?_
          · decide +kernel
          refine AllReadyH.cons rfl (fun K hK => ?_) AllReadyH.nil
          refine Nf.step_storeA rfl 72 _ _ rfl NA (cellsA (tabL xs ys xs.length ys.length)) rfl rfl 72 _ kA (by rw [cellsA_size, tabL_len]; kernel_rfl) (by rw [cellsA_size, cellsA_size, tabL_len, List.length_replicate]) (cellsA_one _) ?_
          have qA := setRow_heap _ NA _ (cellsA (tabL xs ys xs.length ys.length)) 72 (0, 0) kA
          have qO := (setRow_other ws NA NO (cellsA (tabL xs ys xs.length ys.length)) nO_A).trans kO
          have qC := oC.grown (Nf.grown_setRow ws NA (cellsA (tabL xs ys xs.length ys.length))) (by simp; exact (Ne.symm nC_A))
          have bz := below_setRow (cs := (cellsA (tabL xs ys xs.length ys.length))) belD lmA
          obtain ⟨wz, hW6⟩ : ∃ wz, wz = ws.setRow NA (cellsA (tabL xs ys xs.length ys.length)) := ⟨_, rfl⟩
          rw [← hW6] at qA bz qO qC ⊢
          clear hW6 kA belD kO oC
          have kA := qA
          have belD := bz
          have kO := qO
          have oC := qC
          clear qA bz qO qC
          refine hK.out _ _ ?_ (fun hHeld2 => ?_)
          · (try dsimp only); exact next5_0 belD HD0.out
          clear hK K hHeld
          have hHeld := hHeld2
          clear hHeld2
          (try simp only [Act.put, List.setIfInBounds_toArray, List.set_cons_zero, List.set_cons_succ, List.getElem_toArray, List.getElem_cons_succ, List.getElem_cons_zero])
          refine wpAnyH_done (by kernel_rfl) ?_ _
          clear hHeld
          have hfin : Own 2 wz bc (.slice (some ⟨bc, 0, none⟩) n kc) (zs) ∧ wz.heap[NO]? = some (Obj.cells #[.int .i64 R, .int .i64 C, .slice (some ⟨bc, 0, none⟩) n kc] 26) ∧ wz.heap[NA]? = some (Obj.cells (cellsA (tabL xs ys xs.length ys.length)) 72) ∧ wz.heap[NT]? = some (Obj.cells #[.int .i64 0, .int .i64 0, .slice none 0 0] 26) ∧ w.heap.size ≤ bc ∧ NO ≠ bc ∧ NA ≠ bc ∧ NT ≠ bc ∧ NA ≠ NO ∧ NT ≠ NO ∧ w.heap.size ≤ NO ∧ Below w.heap.size w wz := ⟨oC, kO, kA, heap_keep belD HKT.out, Nat.le_trans HD0.out.1.size lmC, nO_C, (Ne.symm nC_A), Nat.ne_of_lt (Nat.lt_of_lt_of_le (heap_lt HKT.out) lmC), (Ne.symm nO_A), Nat.ne_of_lt (Nat.lt_of_lt_of_le (heap_lt HKT.out) lmO), Nat.le_trans HD0.out.1.size lmO, (HD0.out.1.trans (belD.mono HD0.out.1.size))⟩
          have HFI := hid hfin
          clear hfin oC kO kA belD
          go_wp2_with fail
          go_meet
          case rel => exact ⟨NO, NA, bc, kc, rfl, rfl, HFI.out⟩
        · go_simp
          have bel := below1 wc (Obj.cells #[.int .i64 0, .int .i64 0, .int .i64 0, .int .i64 0, .int .i64 0, .int .i64 0, .int .i64 0, .int .i64 0, .int .i64 0, .int .i64 0, .int .i64 0, .int .i64 0, .int .i64 0, .int .i64 0, .int .i64 0, .int .i64 0, .int .i64 0, .int .i64 0] 72)
          have lmS := belD.size
          have ltO := (heap_lt kO)
          have ltC := (oC.lt)
          replace belD := belD.trans (bel.mono belD.size)
          replace kO := heap_keep bel kO
          replace oC := oC.keep bel
          refine hK.out _ _ ?_ (fun hHeld2 => ?_)
          · (try dsimp only); exact next5_0 belD HD0.out
          clear hK K hHeld bel
          obtain ⟨va, hWa⟩ : ∃ va, va = wc.alloc (Obj.cells #[.int .i64 0, .int .i64 0, .int .i64 0, .int .i64 0, .int .i64 0, .int .i64 0, .int .i64 0, .int .i64 0, .int .i64 0, .int .i64 0, .int .i64 0, .int .i64 0, .int .i64 0, .int .i64 0, .int .i64 0, .int .i64 0, .int .i64 0, .int .i64 0] 72) := ⟨_, rfl⟩
          obtain ⟨NA, hNa⟩ : ∃ NA, NA = wc.heap.size := ⟨_, rfl⟩
          have kA : va.heap[NA]? = some (Obj.cells (cellsA (List.replicate 18 0)) 72) := by rw [hWa, ← HZZ.out]; exact FNew.heap_top hNa
          have lmA : wD.heap.size ≤ NA := by rw [hNa]; exact lmS
          clear lmS
          have nO_A : NO ≠ NA := by rw [hNa]; exact Nat.ne_of_lt ltO
          clear ltO
          have nC_A : bc ≠ NA := by rw [hNa]; exact Nat.ne_of_lt ltC
          clear ltC
          rw [← hWa] at belD kO oC
          (try dsimp only at hHeld2)
          simp only [← hWa, ← hNa] at hHeld2 ⊢
          clear hWa hNa
          have hHeld := hHeld2
          clear hHeld2
          (try simp only [Act.put, List.setIfInBounds_toArray, List.set_cons_zero, List.set_cons_succ, List.getElem_toArray, List.getElem_cons_succ, List.getElem_cons_zero])
          refine wpAnyH_ready (rs := [3]) ?_ (by simp) ?_
          · decide +kernel
          refine AllReadyH.cons rfl (fun K hK => ?_) AllReadyH.nil
          go_simp
          go_at_call 50
          refine (tableOfLife (H1.out.keep (HD0.out.1.trans (belD.mono HD0.out.1.size)) (Nat.le_refl _)) (H2.out.keep (HD0.out.1.trans (belD.mono HD0.out.1.size)) (Nat.le_refl _)) HX.out HY.out).mono ?_
          rintro e wt ⟨rfl, bel⟩
          replace belD := belD.trans (bel.mono belD.size)
          replace kO := heap_keep bel kO
          replace oC := oC.keep bel
          replace kA := heap_keep bel kA
          refine hK.out _ _ ?_ (fun hHeld2 => ?_)
          · (try dsimp only); exact next5_0 belD HD0.out
          clear hK K hHeld bel
          have hHeld := hHeld2
          clear hHeld2
          (try simp only [Act.put, List.setIfInBounds_toArray, List.set_cons_zero, List.set_cons_succ, List.getElem_toArray, List.getElem_cons_succ, List.getElem_cons_zero])
          refine wpAnyH_ready (rs := [6]) ?_ (by simp) ?_
          · decide +kernel
          refine AllReadyH.cons rfl (fun K hK => ?_) AllReadyH.nil
          have y0 : wt.cell? ⟨NO, 0, none⟩ = some (.int .i64 0) := Go.Joins.cell_of_block kO 0
          have y1 : wt.cell? ⟨NO, 1, none⟩ = some (.int .i64 0) := Go.Joins.cell_of_block kO 1
          have y2 : wt.cell? ⟨NO, 2, none⟩ = some (.slice none 0 0) := Go.Joins.cell_of_block kO 2
          have g0 : wt.frozen? ⟨NO, 0, none⟩ = false := Go.Joins.unfrozen_of_block kO 0
          have g1 : wt.frozen? ⟨NO, 1, none⟩ = false := Go.Joins.unfrozen_of_block kO 1
          have g2 : wt.frozen? ⟨NO, 2, none⟩ = false := Go.Joins.unfrozen_of_block kO 2
          have HKO := hid kO
          clear kO
          have HKA := hid kA
          clear kA
          go_simp
          clear y0 g0 y1 g1 y2 g2
          have qO := (Go.Joins.block_setCell (i := 2) (Go.Joins.block_setCell (i := 1) (Go.Joins.block_setCell (i := 0) HKO.out (.int .i64 R)) (.int .i64 C)) (.slice (some ⟨bc, 0, none⟩) n kc))
          have bz := (((belD.setCell (p := ⟨NO, 0, none⟩) lmO (.int .i64 R)).setCell (p := ⟨NO, 1, none⟩) lmO (.int .i64 C)).setCell (p := ⟨NO, 2, none⟩) lmO (.slice (some ⟨bc, 0, none⟩) n kc))
          have qC := (own_set (own_set (own_set oC ⟨NO, 0, none⟩ (.int .i64 R) nO_C) ⟨NO, 1, none⟩ (.int .i64 C) nO_C) ⟨NO, 2, none⟩ (.slice (some ⟨bc, 0, none⟩) n kc) nO_C)
          have qA := ((Below.heap_setCell _ ⟨NO, 2, none⟩ (.slice (some ⟨bc, 0, none⟩) n kc) _ (Ne.symm nO_A)).trans ((Below.heap_setCell _ ⟨NO, 1, none⟩ (.int .i64 C) _ (Ne.symm nO_A)).trans ((Below.heap_setCell _ ⟨NO, 0, none⟩ (.int .i64 R) _ (Ne.symm nO_A)).trans HKA.out)))
          obtain ⟨ws, hW5⟩ : ∃ ws, ws = (((wt.setCell ⟨NO, 0, none⟩ (.int .i64 R)).setCell ⟨NO, 1, none⟩ (.int .i64 C)).setCell ⟨NO, 2, none⟩ (.slice (some ⟨bc, 0, none⟩) n kc)) := ⟨_, rfl⟩
          rw [← hW5] at qO bz qC qA
          clear HKO belD oC HKA
          have kO : ws.heap[NO]? = some (Obj.cells #[.int .i64 R, .int .i64 C, .slice (some ⟨bc, 0, none⟩) n kc] 26) := qO
          have belD := bz
          have oC := qC
          have kA := qA
          clear qO bz qC qA
          refine hK.out _ _ ?_ (fun hHeld2 => ?_)
          · (try dsimp only); rw [← hW5]; exact next5_0 belD HD0.out
          clear hK K hHeld
          (try dsimp only at hHeld2)
          simp only [← hW5] at hHeld2 ⊢
          clear hW5
          have hHeld := hHeld2
          clear hHeld2
          (try simp only [Act.put, List.setIfInBounds_toArray, List.set_cons_zero, List.set_cons_succ, List.getElem_toArray, List.getElem_cons_succ, List.getElem_cons_zero])
          refine wpAnyH_ready (rs := [7]) ?_ (by simp) ?_
          · decide +kernel
          refine AllReadyH.cons rfl (fun K hK => ?_) AllReadyH.nil
          refine Nf.step_storeA rfl 72 _ _ rfl NA (cellsA (tabL xs ys xs.length ys.length)) rfl rfl 72 _ kA (by rw [cellsA_size, tabL_len]; kernel_rfl) (by rw [cellsA_size, cellsA_size, tabL_len, List.length_replicate]) (cellsA_one _) ?_
          have qA := setRow_heap _ NA _ (cellsA (tabL xs ys xs.length ys.length)) 72 (0, 0) kA
          have qO := (setRow_other ws NA NO (cellsA (tabL xs ys xs.length ys.length)) nO_A).trans kO
          have qC := oC.grown (Nf.grown_setRow ws NA (cellsA (tabL xs ys xs.length ys.length))) (by simp; exact (Ne.symm nC_A))
          have bz := below_setRow (cs := (cellsA (tabL xs ys xs.length ys.length))) belD lmA
          obtain ⟨wz, hW6⟩ : ∃ wz, wz = ws.setRow NA (cellsA (tabL xs ys xs.length ys.length)) := ⟨_, rfl⟩
          rw [← hW6] at qA bz qO qC ⊢
          clear hW6 kA belD kO oC
          have kA := qA
          have belD := bz
          have kO := qO
          have oC := qC
          clear qA bz qO qC
          refine hK.out _ _ ?_ (fun hHeld2 => ?_)
          · (try dsimp only); exact next5_0 belD HD0.out
          clear hK K hHeld
          have hHeld := hHeld2
          clear hHeld2
          (try simp only [Act.put, List.setIfInBounds_toArray, List.set_cons_zero, List.set_cons_succ, List.getElem_toArray, List.getElem_cons_succ, List.getElem_cons_zero])
          refine wpAnyH_done (by kernel_rfl) ?_ _
          clear hHeld
          have hfin : Own 2 wz bc (.slice (some ⟨bc, 0, none⟩) n kc) (zs) ∧ wz.heap[NO]? = some (Obj.cells #[.int .i64 R, .int .i64 C, .slice (some ⟨bc, 0, none⟩) n kc] 26) ∧ wz.heap[NA]? = some (Obj.cells (cellsA (tabL xs ys xs.length ys.length)) 72) ∧ wz.heap[NT]? = some (Obj.cells #[.int .i64 0, .int .i64 0, .slice none 0 0] 26) ∧ w.heap.size ≤ bc ∧ NO ≠ bc ∧ NA ≠ bc ∧ NT ≠ bc ∧ NA ≠ NO ∧ NT ≠ NO ∧ w.heap.size ≤ NO ∧ Below w.heap.size w wz := ⟨oC, kO, kA, heap_keep belD HKT.out, Nat.le_trans HD0.out.1.size lmC, nO_C, (Ne.symm nC_A), Nat.ne_of_lt (Nat.lt_of_lt_of_le (heap_lt HKT.out) lmC), (Ne.symm nO_A), Nat.ne_of_lt (Nat.lt_of_lt_of_le (heap_lt HKT.out) lmO), Nat.le_trans HD0.out.1.size lmO, (HD0.out.1.trans (belD.mono HD0.out.1.size))⟩
          have HFI := hid hfin
          clear hfin oC kO kA belD
          go_wp2_with fail
          go_meet
          case rel => exact ⟨NO, NA, bc, kc, rfl, rfl, HFI.out⟩
      · go_simp
        have bel := below1 vo (Obj.cells #[.int .i64 0, .int .i64 0, .int .i64 0, .int .i64 0, .int .i64 0, .int .i64 0, .int .i64 0, .int .i64 0, .int .i64 0, .int .i64 0, .int .i64 0, .int .i64 0, .int .i64 0, .int .i64 0, .int .i64 0, .int .i64 0, .int .i64 0, .int .i64 0] 72)
        have lmS := belD.size
        have ltO := (heap_lt kO)
        replace belD := belD.trans (bel.mono belD.size)
        replace kO := heap_keep bel kO
        refine hK.out _ _ ?_ (fun hHeld2 => ?_)
        · (try dsimp only); exact next5_0 belD HD0.out
        clear hK K hHeld bel
        obtain ⟨va, hWa⟩ : ∃ va, va = vo.alloc (Obj.cells #[.int .i64 0, .int .i64 0, .int .i64 0, .int .i64 0, .int .i64 0, .int .i64 0, .int .i64 0, .int .i64 0, .int .i64 0, .int .i64 0, .int .i64 0, .int .i64 0, .int .i64 0, .int .i64 0, .int .i64 0, .int .i64 0, .int .i64 0, .int .i64 0] 72) := ⟨_, rfl⟩
        obtain ⟨NA, hNa⟩ : ∃ NA, NA = vo.heap.size := ⟨_, rfl⟩
        have kA : va.heap[NA]? = some (Obj.cells (cellsA (List.replicate 18 0)) 72) := by rw [hWa, ← HZZ.out]; exact FNew.heap_top hNa
        have lmA : wD.heap.size ≤ NA := by rw [hNa]; exact lmS
        clear lmS
        have nO_A : NO ≠ NA := by rw [hNa]; exact Nat.ne_of_lt ltO
        clear ltO
        rw [← hWa] at belD kO
        (try dsimp only at hHeld2)
        simp only [← hWa, ← hNa] at hHeld2 ⊢
        clear hWa hNa
        have hHeld := hHeld2
        clear hHeld2
        (try simp only [Act.put, List.setIfInBounds_toArray, List.set_cons_zero, List.set_cons_succ, List.getElem_toArray, List.getElem_cons_succ, List.getElem_cons_zero])
        refine wpAnyH_ready (rs := [1]) ?_ (by simp) ?_
        · decide +kernel
        refine AllReadyH.cons rfl (fun K hK => ?_) AllReadyH.nil
        go_simp
        go_at_call 44
        refine (copyOfN (HH.out.keep (HD0.out.1.trans (belD.mono HD0.out.1.size)) (Nat.le_refl _)) HZ.out HL.out).mono ?_
        rintro e wc ⟨bc, kc, rfl, oC, loC, bel⟩
        have lmC : wD.heap.size ≤ bc := Nat.le_trans belD.size loC
        have nO_C : NO ≠ bc := Nat.ne_of_lt (Nat.lt_of_lt_of_le (heap_lt kO) loC)
        have nA_C : NA ≠ bc := Nat.ne_of_lt (Nat.lt_of_lt_of_le (heap_lt kA) loC)
        clear loC
        replace belD := belD.trans (bel.mono belD.size)
        replace kO := heap_keep bel kO
        replace kA := heap_keep bel kA
        refine hK.out _ _ ?_ (fun hHeld2 => ?_)
        · (try dsimp only); exact next5_0 belD HD0.out
        clear hK K hHeld bel
        have hHeld := hHeld2
        clear hHeld2
        (try simp only [Act.put, List.setIfInBounds_toArray, List.set_cons_zero, List.set_cons_succ, List.getElem_toArray, List.getElem_cons_succ, List.getElem_cons_zero])
        refine wpAnyH_ready (rs := [3]) ?_ (by simp) ?_
        · decide +kernel
        refine AllReadyH.cons rfl (fun K hK => ?_) AllReadyH.nil
        go_simp
        go_at_call 50
        refine (tableOfLife (H1.out.keep (HD0.out.1.trans (belD.mono HD0.out.1.size)) (Nat.le_refl _)) (H2.out.keep (HD0.out.1.trans (belD.mono HD0.out.1.size)) (Nat.le_refl _)) HX.out HY.out).mono ?_
        rintro e wt ⟨rfl, bel⟩
        replace belD := belD.trans (bel.mono belD.size)
        replace kO := heap_keep bel kO
        replace kA := heap_keep bel kA
        replace oC := oC.keep bel
        refine hK.out _ _ ?_ (fun hHeld2 => ?_)
        · (try dsimp only); exact next5_0 belD HD0.out
        clear hK K hHeld bel
        have hHeld := hHeld2
        clear hHeld2
        (try simp only [Act.put, List.setIfInBounds_toArray, List.set_cons_zero, List.set_cons_succ, List.getElem_toArray, List.getElem_cons_succ, List.getElem_cons_zero])
        refine wpAnyH_ready (rs := [6]) ?_ (by simp) ?_
        · decide +kernel
        refine AllReadyH.cons rfl (fun K hK => ?_) AllReadyH.nil
        have y0 : wt.cell? ⟨NO, 0, none⟩ = some (.int .i64 0) := Go.Joins.cell_of_block kO 0
        have y1 : wt.cell? ⟨NO, 1, none⟩ = some (.int .i64 0) := Go.Joins.cell_of_block kO 1
        have y2 : wt.cell? ⟨NO, 2, none⟩ = some (.slice none 0 0) := Go.Joins.cell_of_block kO 2
        have g0 : wt.frozen? ⟨NO, 0, none⟩ = false := Go.Joins.unfrozen_of_block kO 0
        have g1 : wt.frozen? ⟨NO, 1, none⟩ = false := Go.Joins.unfrozen_of_block kO 1
        have g2 : wt.frozen? ⟨NO, 2, none⟩ = false := Go.Joins.unfrozen_of_block kO 2
        have HKO := hid kO
        clear kO
        have HKA := hid kA
        clear kA
        go_simp
        clear y0 g0 y1 g1 y2 g2
        have qO := (Go.Joins.block_setCell (i := 2) (Go.Joins.block_setCell (i := 1) (Go.Joins.block_setCell (i := 0) HKO.out (.int .i64 R)) (.int .i64 C)) (.slice (some ⟨bc, 0, none⟩) n kc))
        have bz := (((belD.setCell (p := ⟨NO, 0, none⟩) lmO (.int .i64 R)).setCell (p := ⟨NO, 1, none⟩) lmO (.int .i64 C)).setCell (p := ⟨NO, 2, none⟩) lmO (.slice (some ⟨bc, 0, none⟩) n kc))
        have qA := ((Below.heap_setCell _ ⟨NO, 2, none⟩ (.slice (some ⟨bc, 0, none⟩) n kc) _ (Ne.symm nO_A)).trans ((Below.heap_setCell _ ⟨NO, 1, none⟩ (.int .i64 C) _ (Ne.symm nO_A)).trans ((Below.heap_setCell _ ⟨NO, 0, none⟩ (.int .i64 R) _ (Ne.symm nO_A)).trans HKA.out)))
        have qC := (own_set (own_set (own_set oC ⟨NO, 0, none⟩ (.int .i64 R) nO_C) ⟨NO, 1, none⟩ (.int .i64 C) nO_C) ⟨NO, 2, none⟩ (.slice (some ⟨bc, 0, none⟩) n kc) nO_C)
        obtain ⟨ws, hW5⟩ : ∃ ws, ws = (((wt.setCell ⟨NO, 0, none⟩ (.int .i64 R)).setCell ⟨NO, 1, none⟩ (.int .i64 C)).setCell ⟨NO, 2, none⟩ (.slice (some ⟨bc, 0, none⟩) n kc)) := ⟨_, rfl⟩
        rw [← hW5] at qO bz qA qC
        clear HKO belD HKA oC
        have kO : ws.heap[NO]? = some (Obj.cells #[.int .i64 R, .int .i64 C, .slice (some ⟨bc, 0, none⟩) n kc] 26) := qO
        have belD := bz
        have kA := qA
        have oC := qC
        clear qO bz qA qC
        refine hK.out _ _ ?_ (fun hHeld2 => ?_)
        · (try dsimp only); rw [← hW5]; exact next5_0 belD HD0.out
        clear hK K hHeld
        (try dsimp only at hHeld2)
        simp only [← hW5] at hHeld2 ⊢
        clear hW5
        have hHeld := hHeld2
        clear hHeld2
        (try simp only [Act.put, List.setIfInBounds_toArray, List.set_cons_zero, List.set_cons_succ, List.getElem_toArray, List.getElem_cons_succ, List.getElem_cons_zero])
        refine wpAnyH_ready (rs := [7]) ?_ (by simp) ?_
        · decide +kernel
        refine AllReadyH.cons rfl (fun K hK => ?_) AllReadyH.nil
        refine Nf.step_storeA rfl 72 _ _ rfl NA (cellsA (tabL xs ys xs.length ys.length)) rfl rfl 72 _ kA (by rw [cellsA_size, tabL_len]; kernel_rfl) (by rw [cellsA_size, cellsA_size, tabL_len, List.length_replicate]) (cellsA_one _) ?_
        have qA := setRow_heap _ NA _ (cellsA (tabL xs ys xs.length ys.length)) 72 (0, 0) kA
        have qO := (setRow_other ws NA NO (cellsA (tabL xs ys xs.length ys.length)) nO_A).trans kO
        have qC := oC.grown (Nf.grown_setRow ws NA (cellsA (tabL xs ys xs.length ys.length))) (by simp; exact nA_C)
        have bz := below_setRow (cs := (cellsA (tabL xs ys xs.length ys.length))) belD lmA
        obtain ⟨wz, hW6⟩ : ∃ wz, wz = ws.setRow NA (cellsA (tabL xs ys xs.length ys.length)) := ⟨_, rfl⟩
        rw [← hW6] at qA bz qO qC ⊢
        clear hW6 kA belD kO oC
        have kA := qA
        have belD := bz
        have kO := qO
        have oC := qC
        clear qA bz qO qC
        refine hK.out _ _ ?_ (fun hHeld2 => ?_)
        · (try dsimp only); exact next5_0 belD HD0.out
        clear hK K hHeld
        have hHeld := hHeld2
        clear hHeld2
        (try simp only [Act.put, List.setIfInBounds_toArray, List.set_cons_zero, List.set_cons_succ, List.getElem_toArray, List.getElem_cons_succ, List.getElem_cons_zero])
        refine wpAnyH_done (by kernel_rfl) ?_ _
        clear hHeld
        have hfin : Own 2 wz bc (.slice (some ⟨bc, 0, none⟩) n kc) (zs) ∧ wz.heap[NO]? = some (Obj.cells #[.int .i64 R, .int .i64 C, .slice (some ⟨bc, 0, none⟩) n kc] 26) ∧ wz.heap[NA]? = some (Obj.cells (cellsA (tabL xs ys xs.length ys.length)) 72) ∧ wz.heap[NT]? = some (Obj.cells #[.int .i64 0, .int .i64 0, .slice none 0 0] 26) ∧ w.heap.size ≤ bc ∧ NO ≠ bc ∧ NA ≠ bc ∧ NT ≠ bc ∧ NA ≠ NO ∧ NT ≠ NO ∧ w.heap.size ≤ NO ∧ Below w.heap.size w wz := ⟨oC, kO, kA, heap_keep belD HKT.out, Nat.le_trans HD0.out.1.size lmC, nO_C, nA_C, Nat.ne_of_lt (Nat.lt_of_lt_of_le (heap_lt HKT.out) lmC), (Ne.symm nO_A), Nat.ne_of_lt (Nat.lt_of_lt_of_le (heap_lt HKT.out) lmO), Nat.le_trans HD0.out.1.size lmO, (HD0.out.1.trans (belD.mono HD0.out.1.size))⟩
        have HFI := hid hfin
        clear hfin oC kO kA belD
        go_wp2_with fail
        go_meet
        case rel => exact ⟨NO, NA, bc, kc, rfl, rfl, HFI.out⟩
    · go_simp
      have bel := below1 wD (Obj.cells #[.int .i64 0, .int .i64 0, .int .i64 0, .int .i64 0, .int .i64 0, .int .i64 0, .int .i64 0, .int .i64 0, .int .i64 0, .int .i64 0, .int .i64 0, .int .i64 0, .int .i64 0, .int .i64 0, .int .i64 0, .int .i64 0, .int .i64 0, .int .i64 0] 72)
      have lmS := belD.size
      replace belD := belD.trans (bel.mono belD.size)
      refine hK.out _ _ ?_ (fun hHeld2 => ?_)
      · (try dsimp only); exact next5_0 belD HD0.out
      clear hK K hHeld bel
      obtain ⟨va, hWa⟩ : ∃ va, va = wD.alloc (Obj.cells #[.int .i64 0, .int .i64 0, .int .i64 0, .int .i64 0, .int .i64 0, .int .i64 0, .int .i64 0, .int .i64 0, .int .i64 0, .int .i64 0, .int .i64 0, .int .i64 0, .int .i64 0, .int .i64 0, .int .i64 0, .int .i64 0, .int .i64 0, .int .i64 0] 72) := ⟨_, rfl⟩
      obtain ⟨NA, hNa⟩ : ∃ NA, NA = wD.heap.size := ⟨_, rfl⟩
      have kA : va.heap[NA]? = some (Obj.cells (cellsA (List.replicate 18 0)) 72) := by rw [hWa, ← HZZ.out]; exact FNew.heap_top hNa
      have lmA : wD.heap.size ≤ NA := by rw [hNa]; exact lmS
      clear lmS
      rw [← hWa] at belD
      (try dsimp only at hHeld2)
      simp only [← hWa, ← hNa] at hHeld2 ⊢
      clear hWa hNa
      have hHeld := hHeld2
      clear hHeld2
      (try simp only [Act.put, List.setIfInBounds_toArray, List.set_cons_zero, List.set_cons_succ, List.getElem_toArray, List.getElem_cons_succ, List.getElem_cons_zero])
      refine wpAnyH_ready (rs := [1, 4]) ?_ (by simp) ?_
      · decide +kernel
      refine AllReadyH.cons rfl (fun K hK => ?_) (AllReadyH.cons rfl (fun K hK => ?_) AllReadyH.nil)
      · go_simp
        go_at_call 44
        refine (copyOfN (HH.out.keep (HD0.out.1.trans (belD.mono HD0.out.1.size)) (Nat.le_refl _)) HZ.out HL.out).mono ?_
        rintro e wc ⟨bc, kc, rfl, oC, loC, bel⟩
        have lmC : wD.heap.size ≤ bc := Nat.le_trans belD.size loC
        have nA_C : NA ≠ bc := Nat.ne_of_lt (Nat.lt_of_lt_of_le (heap_lt kA) loC)
        clear loC
        replace belD := belD.trans (bel.mono belD.size)
        replace kA := heap_keep bel kA
        refine hK.out _ _ ?_ (fun hHeld2 => ?_)
        · (try dsimp only); exact next5_0 belD HD0.out
        clear hK K hHeld bel
        have hHeld := hHeld2
        clear hHeld2
        (try simp only [Act.put, List.setIfInBounds_toArray, List.set_cons_zero, List.set_cons_succ, List.getElem_toArray, List.getElem_cons_succ, List.getElem_cons_zero])
        refine wpAnyH_ready (rs := [3, 4]) ?_ (by simp) ?_
        · decide +kernel
        refine AllReadyH.cons rfl (fun K hK => ?_) (AllReadyH.cons rfl (fun K hK => ?_) AllReadyH.nil)
        · go_simp
          go_at_call 50
          refine (tableOfLife (H1.out.keep (HD0.out.1.trans (belD.mono HD0.out.1.size)) (Nat.le_refl _)) (H2.out.keep (HD0.out.1.trans (belD.mono HD0.out.1.size)) (Nat.le_refl _)) HX.out HY.out).mono ?_
          rintro e wt ⟨rfl, bel⟩
          replace belD := belD.trans (bel.mono belD.size)
          replace kA := heap_keep bel kA
          replace oC := oC.keep bel
          refine hK.out _ _ ?_ (fun hHeld2 => ?_)
          · (try dsimp only); exact next5_0 belD HD0.out
          clear hK K hHeld bel
          have hHeld := hHeld2
          clear hHeld2
          (try simp only [Act.put, List.setIfInBounds_toArray, List.set_cons_zero, List.set_cons_succ, List.getElem_toArray, List.getElem_cons_succ, List.getElem_cons_zero])
          refine wpAnyH_ready (rs := [4]) ?_ (by simp) ?_
          · decide +kernel
          refine AllReadyH.cons rfl (fun K hK => ?_) AllReadyH.nil
          go_simp
          have bel := below1 wt (Obj.cells #[.int .i64 0, .int .i64 0, .slice none 0 0] 26)
          have lmS := belD.size
          have ltA := (heap_lt kA)
          have ltC := (oC.lt)
          replace belD := belD.trans (bel.mono belD.size)
          replace kA := heap_keep bel kA
          replace oC := oC.keep bel
          refine hK.out _ _ ?_ (fun hHeld2 => ?_)
          · (try dsimp only); exact next5_0 belD HD0.out
          clear hK K hHeld bel
          obtain ⟨vo, hWa⟩ : ∃ vo, vo = wt.alloc (Obj.cells #[.int .i64 0, .int .i64 0, .slice none 0 0] 26) := ⟨_, rfl⟩
          obtain ⟨NO, hNa⟩ : ∃ NO, NO = wt.heap.size := ⟨_, rfl⟩
          have kO : vo.heap[NO]? = some (Obj.cells #[.int .i64 0, .int .i64 0, .slice none 0 0] 26) := by rw [hWa]; exact FNew.heap_top hNa
          have lmO : wD.heap.size ≤ NO := by rw [hNa]; exact lmS
          clear lmS
          have nA_O : NA ≠ NO := by rw [hNa]; exact Nat.ne_of_lt ltA
          clear ltA
          have nC_O : bc ≠ NO := by rw [hNa]; exact Nat.ne_of_lt ltC
          clear ltC
          rw [← hWa] at belD kA oC
          (try dsimp only at hHeld2)
          simp only [← hWa, ← hNa] at hHeld2 ⊢
          clear hWa hNa
          have hHeld := hHeld2
          clear hHeld2
          (try simp only [Act.put, List.setIfInBounds_toArray, List.set_cons_zero, List.set_cons_succ, List.getElem_toArray, List.getElem_cons_succ, List.getElem_cons_zero])
          refine wpAnyH_ready (rs := [6]) ?_ (by simp) ?_
          · decide +kernel
          refine AllReadyH.cons rfl (fun K hK => ?_) AllReadyH.nil
          have y0 : vo.cell? ⟨NO, 0, none⟩ = some (.int .i64 0) := Go.Joins.cell_of_block kO 0
          have y1 : vo.cell? ⟨NO, 1, none⟩ = some (.int .i64 0) := Go.Joins.cell_of_block kO 1
          have y2 : vo.cell? ⟨NO, 2, none⟩ = some (.slice none 0 0) := Go.Joins.cell_of_block kO 2
          have g0 : vo.frozen? ⟨NO, 0, none⟩ = false := Go.Joins.unfrozen_of_block kO 0
          have g1 : vo.frozen? ⟨NO, 1, none⟩ = false := Go.Joins.unfrozen_of_block kO 1
          have g2 : vo.frozen? ⟨NO, 2, none⟩ = false := Go.Joins.unfrozen_of_block kO 2
          have HKO := hid kO
          clear kO
          have HKA := hid kA
          clear kA
          go_simp
          clear y0 g0 y1 g1 y2 g2
          have qO := (Go.Joins.block_setCell (i := 2) (Go.Joins.block_setCell (i := 1) (Go.Joins.block_setCell (i := 0) HKO.out (.int .i64 R)) (.int .i64 C)) (.slice (some ⟨bc, 0, none⟩) n kc))
          have bz := (((belD.setCell (p := ⟨NO, 0, none⟩) lmO (.int .i64 R)).setCell (p := ⟨NO, 1, none⟩) lmO (.int .i64 C)).setCell (p := ⟨NO, 2, none⟩) lmO (.slice (some ⟨bc, 0, none⟩) n kc))
          have qA := ((Below.heap_setCell _ ⟨NO, 2, none⟩ (.slice (some ⟨bc, 0, none⟩) n kc) _ nA_O).trans ((Below.heap_setCell _ ⟨NO, 1, none⟩ (.int .i64 C) _ nA_O).trans ((Below.heap_setCell _ ⟨NO, 0, none⟩ (.int .i64 R) _ nA_O).trans HKA.out)))
          have qC := (own_set (own_set (own_set oC ⟨NO, 0, none⟩ (.int .i64 R) (Ne.symm nC_O)) ⟨NO, 1, none⟩ (.int .i64 C) (Ne.symm nC_O)) ⟨NO, 2, none⟩ (.slice (some ⟨bc, 0, none⟩) n kc) (Ne.symm nC_O))
          obtain ⟨ws, hW5⟩ : ∃ ws, ws = (((vo.setCell ⟨NO, 0, none⟩ (.int .i64 R)).setCell ⟨NO, 1, none⟩ (.int .i64 C)).setCell ⟨NO, 2, none⟩ (.slice (some ⟨bc, 0, none⟩) n kc)) := ⟨_, rfl⟩
          rw [← hW5] at qO bz qA qC
          clear HKO belD HKA oC
          have kO : ws.heap[NO]? = some (Obj.cells #[.int .i64 R, .int .i64 C, .slice (some ⟨bc, 0, none⟩) n kc] 26) := qO
          have belD := bz
          have kA := qA
          have oC := qC
          clear qO bz qA qC
          refine hK.out _ _ ?_ (fun hHeld2 => ?_)
          · (try dsimp only); rw [← hW5]; exact next5_0 belD HD0.out
          clear hK K hHeld
          (try dsimp only at hHeld2)
          simp only [← hW5] at hHeld2 ⊢
          clear hW5
          have hHeld := hHeld2
          clear hHeld2
          (try simp only [Act.put, List.setIfInBounds_toArray, List.set_cons_zero, List.set_cons_succ, List.getElem_toArray, List.getElem_cons_succ, List.getElem_cons_zero])
          refine wpAnyH_ready (rs := [7]) ?_ (by simp) ?_
          · decide +kernel
          refine AllReadyH.cons rfl (fun K hK => ?_) AllReadyH.nil
          refine Nf.step_storeA rfl 72 _ _ rfl NA (cellsA (tabL xs ys xs.length ys.length)) rfl rfl 72 _ kA (by rw [cellsA_size, tabL_len]; kernel_rfl) (by rw [cellsA_size, cellsA_size, tabL_len, List.length_replicate]) (cellsA_one _) ?_
          have qA := setRow_heap _ NA _ (cellsA (tabL xs ys xs.length ys.length)) 72 (0, 0) kA
          have qC := oC.grown (Nf.grown_setRow ws NA (cellsA (tabL xs ys xs.length ys.length))) (by simp; exact nA_C)
          have qO := (setRow_other ws NA NO (cellsA (tabL xs ys xs.length ys.length)) (Ne.symm nA_O)).trans kO
          have bz := below_setRow (cs := (cellsA (tabL xs ys xs.length ys.length))) belD lmA
          obtain ⟨wz, hW6⟩ : ∃ wz, wz = ws.setRow NA (cellsA (tabL xs ys xs.length ys.length)) := ⟨_, rfl⟩
          rw [← hW6] at qA bz qC qO ⊢
          clear hW6 kA belD oC kO
          have kA := qA
          have belD := bz
          have oC := qC
          have kO := qO
          clear qA bz qC qO
          refine hK.out _ _ ?_ (fun hHeld2 => ?_)
          · (try dsimp only); exact next5_0 belD HD0.out
          clear hK K hHeld
          have hHeld := hHeld2
          clear hHeld2
          (try simp only [Act.put, List.setIfInBounds_toArray, List.set_cons_zero, List.set_cons_succ, List.getElem_toArray, List.getElem_cons_succ, List.getElem_cons_zero])
          refine wpAnyH_done (by kernel_rfl) ?_ _
          clear hHeld
          have hfin : Own 2 wz bc (.slice (some ⟨bc, 0, none⟩) n kc) (zs) ∧ wz.heap[NO]? = some (Obj.cells #[.int .i64 R, .int .i64 C, .slice (some ⟨bc, 0, none⟩) n kc] 26) ∧ wz.heap[NA]? = some (Obj.cells (cellsA (tabL xs ys xs.length ys.length)) 72) ∧ wz.heap[NT]? = some (Obj.cells #[.int .i64 0, .int .i64 0, .slice none 0 0] 26) ∧ w.heap.size ≤ bc ∧ NO ≠ bc ∧ NA ≠ bc ∧ NT ≠ bc ∧ NA ≠ NO ∧ NT ≠ NO ∧ w.heap.size ≤ NO ∧ Below w.heap.size w wz := ⟨oC, kO, kA, heap_keep belD HKT.out, Nat.le_trans HD0.out.1.size lmC, (Ne.symm nC_O), nA_C, Nat.ne_of_lt (Nat.lt_of_lt_of_le (heap_lt HKT.out) lmC), nA_O, Nat.ne_of_lt (Nat.lt_of_lt_of_le (heap_lt HKT.out) lmO), Nat.le_trans HD0.out.1.size lmO, (HD0.out.1.trans (belD.mono HD0.out.1.size))⟩
          have HFI := hid hfin
          clear hfin oC kO kA belD
          go_wp2_with fail
          go_meet
          case rel => exact ⟨NO, NA, bc, kc, rfl, rfl, HFI.out⟩
        · go_simp
          have bel := below1 wc (Obj.cells #[.int .i64 0, .int .i64 0, .slice none 0 0] 26)
          have lmS := belD.size
          have ltA := (heap_lt kA)
          have ltC := (oC.lt)
          replace belD := belD.trans (bel.mono belD.size)
          replace kA := heap_keep bel kA
          replace oC := oC.keep bel
          refine hK.out _ _ ?_ (fun hHeld2 => ?_)
          · (try dsimp only); exact next5_0 belD HD0.out
          clear hK K hHeld bel
          obtain ⟨vo, hWa⟩ : ∃ vo, vo = wc.alloc (Obj.cells #[.int .i64 0, .int .i64 0, .slice none 0 0] 26) := ⟨_, rfl⟩
          obtain ⟨NO, hNa⟩ : ∃ NO, NO = wc.heap.size := ⟨_, rfl⟩
          have kO : vo.heap[NO]? = some (Obj.cells #[.int .i64 0, .int .i64 0, .slice none 0 0] 26) := by rw [hWa]; exact FNew.heap_top hNa
          have lmO : wD.heap.size ≤ NO := by rw [hNa]; exact lmS
          clear lmS
          have nA_O : NA ≠ NO := by rw [hNa]; exact Nat.ne_of_lt ltA
          clear ltA
          have nC_O : bc ≠ NO := by rw [hNa]; exact Nat.ne_of_lt ltC
          clear ltC
          rw [← hWa] at belD kA oC
          (try dsimp only at hHeld2)
          simp only [← hWa, ← hNa] at hHeld2 ⊢
          clear hWa hNa
          have hHeld := hHeld2
          clear hHeld2
          (try simp only [Act.put, List.setIfInBounds_toArray, List.set_cons_zero, List.set_cons_succ, List.getElem_toArray, List.getElem_cons_succ, List.getElem_cons_zero])
          refine wpAnyH_ready (rs := [3]) ?_ (by simp) ?_
          · decide +kernel
          refine AllReadyH.cons rfl (fun K hK => ?_) AllReadyH.nil
          go_simp
          go_at_call 50
          refine (tableOfLife (H1.out.keep (HD0.out.1.trans (belD.mono HD0.out.1.size)) (Nat.le_refl _)) (H2.out.keep (HD0.out.1.trans (belD.mono HD0.out.1.size)) (Nat.le_refl _)) HX.out HY.out).mono ?_
          rintro e wt ⟨rfl, bel⟩
          replace belD := belD.trans (bel.mono belD.size)
          replace kA := heap_keep bel kA
          replace oC := oC.keep bel
          replace kO := heap_keep bel kO
          refine hK.out _ _ ?_ (fun hHeld2 => ?_)
          · (try dsimp only); exact next5_0 belD HD0.out
          clear hK K hHeld bel
          have hHeld := hHeld2
          clear hHeld2
          (try simp only [Act.put, List.setIfInBounds_toArray, List.set_cons_zero, List.set_cons_succ, List.getElem_toArray, List.getElem_cons_succ, List.getElem_cons_zero])
          refine wpAnyH_ready (rs := [6]) ?_ (by simp) ?_
          · decide +kernel
          refine AllReadyH.cons rfl (fun K hK => ?_) AllReadyH.nil
          have y0 : wt.cell? ⟨NO, 0, none⟩ = some (.int .i64 0) := Go.Joins.cell_of_block kO 0
          have y1 : wt.cell? ⟨NO, 1, none⟩ = some (.int .i64 0) := Go.Joins.cell_of_block kO 1
          have y2 : wt.cell? ⟨NO, 2, none⟩ = some (.slice none 0 0) := Go.Joins.cell_of_block kO 2
          have g0 : wt.frozen? ⟨NO, 0, none⟩ = false := Go.Joins.unfrozen_of_block kO 0
          have g1 : wt.frozen? ⟨NO, 1, none⟩ = false := Go.Joins.unfrozen_of_block kO 1
          have g2 : wt.frozen? ⟨NO, 2, none⟩ = false := Go.Joins.unfrozen_of_block kO 2
          have HKO := hid kO
          clear kO
          have HKA := hid kA
          clear kA
          go_simp
          clear y0 g0 y1 g1 y2 g2
          have qO := (Go.Joins.block_setCell (i := 2) (Go.Joins.block_setCell (i := 1) (Go.Joins.block_setCell (i := 0) HKO.out (.int .i64 R)) (.int .i64 C)) (.slice (some ⟨bc, 0, none⟩) n kc))
          have bz := (((belD.setCell (p := ⟨NO, 0, none⟩) lmO (.int .i64 R)).setCell (p := ⟨NO, 1, none⟩) lmO (.int .i64 C)).setCell (p := ⟨NO, 2, none⟩) lmO (.slice (some ⟨bc, 0, none⟩) n kc))
          have qA := ((Below.heap_setCell _ ⟨NO, 2, none⟩ (.slice (some ⟨bc, 0, none⟩) n kc) _ nA_O).trans ((Below.heap_setCell _ ⟨NO, 1, none⟩ (.int .i64 C) _ nA_O).trans ((Below.heap_setCell _ ⟨NO, 0, none⟩ (.int .i64 R) _ nA_O).trans HKA.out)))
          have qC := (own_set (own_set (own_set oC ⟨NO, 0, none⟩ (.int .i64 R) (Ne.symm nC_O)) ⟨NO, 1, none⟩ (.int .i64 C) (Ne.symm nC_O)) ⟨NO, 2, none⟩ (.slice (some ⟨bc, 0, none⟩) n kc) (Ne.symm nC_O))
          obtain ⟨ws, hW5⟩ : ∃ ws, ws = (((wt.setCell ⟨NO, 0, none⟩ (.int .i64 R)).setCell ⟨NO, 1, none⟩ (.int .i64 C)).setCell ⟨NO, 2, none⟩ (.slice (some ⟨bc, 0, none⟩) n kc)) := ⟨_, rfl⟩
          rw [← hW5] at qO bz qA qC
          clear HKO belD HKA oC
          have kO : ws.heap[NO]? = some (Obj.cells #[.int .i64 R, .int .i64 C, .slice (some ⟨bc, 0, none⟩) n kc] 26) := qO
          have belD := bz
          have kA := qA
          have oC := qC
          clear qO bz qA qC
          refine hK.out _ _ ?_ (fun hHeld2 => ?_)
          · (try dsimp only); rw [← hW5]; exact next5_0 belD HD0.out
          clear hK K hHeld
          (try dsimp only at hHeld2)
          simp only [← hW5] at hHeld2 ⊢
          clear hW5
          have hHeld := hHeld2
          clear hHeld2
          (try simp only [Act.put, List.setIfInBounds_toArray, List.set_cons_zero, List.set_cons_succ, List.getElem_toArray, List.getElem_cons_succ, List.getElem_cons_zero])
          refine wpAnyH_ready (rs := [7]) ?_ (by simp) ?_
          · decide +kernel
          refine AllReadyH.cons rfl (fun K hK => ?_) AllReadyH.nil
          refine Nf.step_storeA rfl 72 _ _ rfl NA (cellsA (tabL xs ys xs.length ys.length)) rfl rfl 72 _ kA (by rw [cellsA_size, tabL_len]; kernel_rfl) (by rw [cellsA_size, cellsA_size, tabL_len, List.length_replicate]) (cellsA_one _) ?_
          have qA := setRow_heap _ NA _ (cellsA (tabL xs ys xs.length ys.length)) 72 (0, 0) kA
          have qC := oC.grown (Nf.grown_setRow ws NA (cellsA (tabL xs ys xs.length ys.length))) (by simp; exact nA_C)
          have qO := (setRow_other ws NA NO (cellsA (tabL xs ys xs.length ys.length)) (Ne.symm nA_O)).trans kO
          have bz := below_setRow (cs := (cellsA (tabL xs ys xs.length ys.length))) belD lmA
          obtain ⟨wz, hW6⟩ : ∃ wz, wz = ws.setRow NA (cellsA (tabL xs ys xs.length ys.length)) := ⟨_, rfl⟩
          rw [← hW6] at qA bz qC qO ⊢
          clear hW6 kA belD oC kO
          have kA := qA
          have belD := bz
          have oC := qC
          have kO := qO
          clear qA bz qC qO
          refine hK.out _ _ ?_ (fun hHeld2 => ?_)
          · (try dsimp only); exact next5_0 belD HD0.out
          clear hK K hHeld
          have hHeld := hHeld2
          clear hHeld2
          (try simp only [Act.put, List.setIfInBounds_toArray, List.set_cons_zero, List.set_cons_succ, List.getElem_toArray, List.getElem_cons_succ, List.getElem_cons_zero])
          refine wpAnyH_done (by kernel_rfl) ?_ _
          clear hHeld
          have hfin : Own 2 wz bc (.slice (some ⟨bc, 0, none⟩) n kc) (zs) ∧ wz.heap[NO]? = some (Obj.cells #[.int .i64 R, .int .i64 C, .slice (some ⟨bc, 0, none⟩) n kc] 26) ∧ wz.heap[NA]? = some (Obj.cells (cellsA (tabL xs ys xs.length ys.length)) 72) ∧ wz.heap[NT]? = some (Obj.cells #[.int .i64 0, .int .i64 0, .slice none 0 0] 26) ∧ w.heap.size ≤ bc ∧ NO ≠ bc ∧ NA ≠ bc ∧ NT ≠ bc ∧ NA ≠ NO ∧ NT ≠ NO ∧ w.heap.size ≤ NO ∧ Below w.heap.size w wz := ⟨oC, kO, kA, heap_keep belD HKT.out, Nat.le_trans HD0.out.1.size lmC, (Ne.symm nC_O), nA_C, Nat.ne_of_lt (Nat.lt_of_lt_of_le (heap_lt HKT.out) lmC), nA_O, Nat.ne_of_lt (Nat.lt_of_lt_of_le (heap_lt HKT.out) lmO), Nat.le_trans HD0.out.1.size lmO, (HD0.out.1.trans (belD.mono HD0.out.1.size))⟩
          have HFI := hid hfin
          clear hfin oC kO kA belD
          go_wp2_with fail
          go_meet
          case rel => exact ⟨NO, NA, bc, kc, rfl, rfl, HFI.out⟩
      · go_simp
        have bel := below1 va (Obj.cells #[.int .i64 0, .int .i64 0, .slice none 0 0] 26)
        have lmS := belD.size
        have ltA := (heap_lt kA)
        replace belD := belD.trans (bel.mono belD.size)
        replace kA := heap_keep bel kA
        refine hK.out _ _ ?_ (fun hHeld2 => ?_)
        · (try dsimp only); exact next5_0 belD HD0.out
        clear hK K hHeld bel
        obtain ⟨vo, hWa⟩ : ∃ vo, vo = va.alloc (Obj.cells #[.int .i64 0, .int .i64 0, .slice none 0 0] 26) := ⟨_, rfl⟩
        obtain ⟨NO, hNa⟩ : ∃ NO, NO = va.heap.size := ⟨_, rfl⟩
        have kO : vo.heap[NO]? = some (Obj.cells #[.int .i64 0, .int .i64 0, .slice none 0 0] 26) := by rw [hWa]; exact FNew.heap_top hNa
        have lmO : wD.heap.size ≤ NO := by rw [hNa]; exact lmS
        clear lmS
        have nA_O : NA ≠ NO := by rw [hNa]; exact Nat.ne_of_lt ltA
        clear ltA
        rw [← hWa] at belD kA
        (try dsimp only at hHeld2)
        simp only [← hWa, ← hNa] at hHeld2 ⊢
        clear hWa hNa
        have hHeld := hHeld2
        clear hHeld2
        (try simp only [Act.put, List.setIfInBounds_toArray, List.set_cons_zero, List.set_cons_succ, List.getElem_toArray, List.getElem_cons_succ, List.getElem_cons_zero])
        refine wpAnyH_ready (rs := [1]) ?_ (by simp) ?_
        · decide +kernel
        refine AllReadyH.cons rfl (fun K hK => ?_) AllReadyH.nil
        go_simp
        go_at_call 44
        refine (copyOfN (HH.out.keep (HD0.out.1.trans (belD.mono HD0.out.1.size)) (Nat.le_refl _)) HZ.out HL.out).mono ?_
        rintro e wc ⟨bc, kc, rfl, oC, loC, bel⟩
        have lmC : wD.heap.size ≤ bc := Nat.le_trans belD.size loC
        have nA_C : NA ≠ bc := Nat.ne_of_lt (Nat.lt_of_lt_of_le (heap_lt kA) loC)
        have nO_C : NO ≠ bc := Nat.ne_of_lt (Nat.lt_of_lt_of_le (heap_lt kO) loC)
        clear loC
        replace belD := belD.trans (bel.mono belD.size)
        replace kA := heap_keep bel kA
        replace kO := heap_keep bel kO
        refine hK.out _ _ ?_ (fun hHeld2 => ?_)
        · (try dsimp only); exact next5_0 belD HD0.out
        clear hK K hHeld bel
        have hHeld := hHeld2
        clear hHeld2
        (try simp only [Act.put, List.setIfInBounds_toArray, List.set_cons_zero, List.set_cons_succ, List.getElem_toArray, List.getElem_cons_succ, List.getElem_cons_zero])
        refine wpAnyH_ready (rs := [3]) ?_ (by simp) ?_
        · decide +kernel
        refine AllReadyH.cons rfl (fun K hK => ?_) AllReadyH.nil
        go_simp
        go_at_call 50
        refine (tableOfLife (H1.out.keep (HD0.out.1.trans (belD.mono HD0.out.1.size)) (Nat.le_refl _)) (H2.out.keep (HD0.out.1.trans (belD.mono HD0.out.1.size)) (Nat.le_refl _)) HX.out HY.out).mono ?_
        rintro e wt ⟨rfl, bel⟩
        replace belD := belD.trans (bel.mono belD.size)
        replace kA := heap_keep bel kA
        replace kO := heap_keep bel kO
        replace oC := oC.keep bel
        refine hK.out _ _ ?_ (fun hHeld2 => ?_)
        · (try dsimp only); exact next5_0 belD HD0.out
        clear hK K hHeld bel
        have hHeld := hHeld2
        clear hHeld2
        (try simp only [Act.put, List.setIfInBounds_toArray, List.set_cons_zero, List.set_cons_succ, List.getElem_toArray, List.getElem_cons_succ, List.getElem_cons_zero])
        refine wpAnyH_ready (rs := [6]) ?_ (by simp) ?_
        · decide +kernel
        refine AllReadyH.cons rfl (fun K hK => ?_) AllReadyH.nil
        have y0 : wt.cell? ⟨NO, 0, none⟩ = some (.int .i64 0) := Go.Joins.cell_of_block kO 0
        have y1 : wt.cell? ⟨NO, 1, none⟩ = some (.int .i64 0) := Go.Joins.cell_of_block kO 1
        have y2 : wt.cell? ⟨NO, 2, none⟩ = some (.slice none 0 0) := Go.Joins.cell_of_block kO 2
        have g0 : wt.frozen? ⟨NO, 0, none⟩ = false := Go.Joins.unfrozen_of_block kO 0
        have g1 : wt.frozen? ⟨NO, 1, none⟩ = false := Go.Joins.unfrozen_of_block kO 1
        have g2 : wt.frozen? ⟨NO, 2, none⟩ = false := Go.Joins.unfrozen_of_block kO 2
        have HKO := hid kO
        clear kO
        have HKA := hid kA
        clear kA
        go_simp
        clear y0 g0 y1 g1 y2 g2
        have qO := (Go.Joins.block_setCell (i := 2) (Go.Joins.block_setCell (i := 1) (Go.Joins.block_setCell (i := 0) HKO.out (.int .i64 R)) (.int .i64 C)) (.slice (some ⟨bc, 0, none⟩) n kc))
        have bz := (((belD.setCell (p := ⟨NO, 0, none⟩) lmO (.int .i64 R)).setCell (p := ⟨NO, 1, none⟩) lmO (.int .i64 C)).setCell (p := ⟨NO, 2, none⟩) lmO (.slice (some ⟨bc, 0, none⟩) n kc))
        have qA := ((Below.heap_setCell _ ⟨NO, 2, none⟩ (.slice (some ⟨bc, 0, none⟩) n kc) _ nA_O).trans ((Below.heap_setCell _ ⟨NO, 1, none⟩ (.int .i64 C) _ nA_O).trans ((Below.heap_setCell _ ⟨NO, 0, none⟩ (.int .i64 R) _ nA_O).trans HKA.out)))
        have qC := (own_set (own_set (own_set oC ⟨NO, 0, none⟩ (.int .i64 R) nO_C) ⟨NO, 1, none⟩ (.int .i64 C) nO_C) ⟨NO, 2, none⟩ (.slice (some ⟨bc, 0, none⟩) n kc) nO_C)
        obtain ⟨ws, hW5⟩ : ∃ ws, ws = (((wt.setCell ⟨NO, 0, none⟩ (.int .i64 R)).setCell ⟨NO, 1, none⟩ (.int .i64 C)).setCell ⟨NO, 2, none⟩ (.slice (some ⟨bc, 0, none⟩) n kc)) := ⟨_, rfl⟩
        rw [← hW5] at qO bz qA qC
        clear HKO belD HKA oC
        have kO : ws.heap[NO]? = some (Obj.cells #[.int .i64 R, .int .i64 C, .slice (some ⟨bc, 0, none⟩) n kc] 26) := qO
        have belD := bz
        have kA := qA
        have oC := qC
        clear qO bz qA qC
        refine hK.out _ _ ?_ (fun hHeld2 => ?_)
        · (try dsimp only); rw [← hW5]; exact next5_0 belD HD0.out
        clear hK K hHeld
        (try dsimp only at hHeld2)
        simp only [← hW5] at hHeld2 ⊢
        clear hW5
        have hHeld := hHeld2
        clear hHeld2
        (try simp only [Act.put, List.setIfInBounds_toArray, List.set_cons_zero, List.set_cons_succ, List.getElem_toArray, List.getElem_cons_succ, List.getElem_cons_zero])
        refine wpAnyH_ready (rs := [7]) ?_ (by simp) ?_
        · decide +kernel
        refine AllReadyH.cons rfl (fun K hK => ?_) AllReadyH.nil
        refine Nf.step_storeA rfl 72 _ _ rfl NA (cellsA (tabL xs ys xs.length ys.length)) rfl rfl 72 _ kA (by rw [cellsA_size, tabL_len]; kernel_rfl) (by rw [cellsA_size, cellsA_size, tabL_len, List.length_replicate]) (cellsA_one _) ?_
        have qA := setRow_heap _ NA _ (cellsA (tabL xs ys xs.length ys.length)) 72 (0, 0) kA
        have qO := (setRow_other ws NA NO (cellsA (tabL xs ys xs.length ys.length)) (Ne.symm nA_O)).trans kO
        have qC := oC.grown (Nf.grown_setRow ws NA (cellsA (tabL xs ys xs.length ys.length))) (by simp; exact nA_C)
        have bz := below_setRow (cs := (cellsA (tabL xs ys xs.length ys.length))) belD lmA
        obtain ⟨wz, hW6⟩ : ∃ wz, wz = ws.setRow NA (cellsA (tabL xs ys xs.length ys.length)) := ⟨_, rfl⟩
        rw [← hW6] at qA bz qO qC ⊢
        clear hW6 kA belD kO oC
        have kA := qA
        have belD := bz
        have kO := qO
        have oC := qC
        clear qA bz qO qC
        refine hK.out _ _ ?_ (fun hHeld2 => ?_)
        · (try dsimp only); exact next5_0 belD HD0.out
        clear hK K hHeld
        have hHeld := hHeld2
        clear hHeld2
        (try simp only [Act.put, List.setIfInBounds_toArray, List.set_cons_zero, List.set_cons_succ, List.getElem_toArray, List.getElem_cons_succ, List.getElem_cons_zero])
        refine wpAnyH_done (by kernel_rfl) ?_ _
        clear hHeld
        have hfin : Own 2 wz bc (.slice (some ⟨bc, 0, none⟩) n kc) (zs) ∧ wz.heap[NO]? = some (Obj.cells #[.int .i64 R, .int .i64 C, .slice (some ⟨bc, 0, none⟩) n kc] 26) ∧ wz.heap[NA]? = some (Obj.cells (cellsA (tabL xs ys xs.length ys.length)) 72) ∧ wz.heap[NT]? = some (Obj.cells #[.int .i64 0, .int .i64 0, .slice none 0 0] 26) ∧ w.heap.size ≤ bc ∧ NO ≠ bc ∧ NA ≠ bc ∧ NT ≠ bc ∧ NA ≠ NO ∧ NT ≠ NO ∧ w.heap.size ≤ NO ∧ Below w.heap.size w wz := ⟨oC, kO, kA, heap_keep belD HKT.out, Nat.le_trans HD0.out.1.size lmC, nO_C, nA_C, Nat.ne_of_lt (Nat.lt_of_lt_of_le (heap_lt HKT.out) lmC), nA_O, Nat.ne_of_lt (Nat.lt_of_lt_of_le (heap_lt HKT.out) lmO), Nat.le_trans HD0.out.1.size lmO, (HD0.out.1.trans (belD.mono HD0.out.1.size))⟩
        have HFI := hid hfin
        clear hfin oC kO kA belD
        go_wp2_with fail
        go_meet
        case rel => exact ⟨NO, NA, bc, kc, rfl, rfl, HFI.out⟩
  case rest =>
    obtain ⟨NO, NA, bc, kc, rfl, rfl, hfin⟩ := hcut
    have HFI := hid hfin
    have hne := hfin.2.2.2.2.2.2.2.2
    have HNW : Hid (w.heap.size ≤ NO) := hne.2.2.1
    have HWT : Hid (NA ≠ NO ∧ NT ≠ NO) := ⟨hne.1, hne.2.1⟩
    clear st kT hfin hne
    go_wp2_with fail
    go_loopw [27] (fun t wr => ∃ j : Nat, j ≤ S ∧ t = .int .i64 (j : Int) ∧ ∃ bc kc : Nat, Own 2 wr bc (.slice (some ⟨bc, 0, none⟩) n kc) (itL (fun z => lifeL xs ys z R C rd) zs j) ∧ wr.heap[NO]? = some (Obj.cells #[.int .i64 R, .int .i64 C, .slice (some ⟨bc, 0, none⟩) n kc] 26) ∧ wr.heap[NA]? = some (Obj.cells (cellsA (tabL xs ys xs.length ys.length)) 72) ∧ wr.heap[NT]? = some (Obj.cells #[.int .i64 0, .int .i64 0, .slice none 0 0] 26) ∧ w.heap.size ≤ bc ∧ NO ≠ bc ∧ NA ≠ bc ∧ NT ≠ bc ∧ NA ≠ NO ∧ NT ≠ NO ∧ w.heap.size ≤ NO ∧ Below w.heap.size w wr) (fun t _ => S - (intOf t).toNat)
    case atStart => exact ⟨0, Nat.zero_le _, rfl, bc, kc, HFI.out⟩
    case round =>
      clear HFI
      obtain ⟨j, hj, rfl, bc, kc, ow, kW, kA, kT, hlo, hWb0, hAb0, hTb0, _, _, _, hbel⟩ := hrel
      by_cases hlt : j < S
      · have c0 : wr.cell? ⟨NO, 0, none⟩ = some (.int .i64 R) := Go.Joins.cell_of_block kW 0
        have c1 : wr.cell? ⟨NO, 1, none⟩ = some (.int .i64 C) := Go.Joins.cell_of_block kW 1
        have c2 : wr.cell? ⟨NO, 2, none⟩ = some (.slice (some ⟨bc, 0, none⟩) n kc) := Go.Joins.cell_of_block kW 2
        have HKW0 := hid kW
        have HKT0 := hid kT
        have HKA0 := hid kA
        have HB := hid hbel
        have HOW := hid ow
        clear kW kT hbel ow hlo hWb0 hTb0 hAb0 kA
        go_upto_region 6 with fail
        refine wp_region_lit ?_
        refine wpList_load_row rfl 72 _ rfl NA rfl 72 _ (0, 0) _ HKA0.out Try.underlying72 rfl (by rw [cellsA_size, tabL_len]; kernel_rfl) ?_
        go_wp2_with fail
        go_at_call 49
        refine (Nf.nextField HOW.out.rd (it_ok HF.out HPL.out j).1 HN.out (it_ok HF.out HPL.out j).2).mono ?_
        rintro e w5 ⟨b2, rfl, ow2, lo2, bel⟩
        have HWB : Hid (NO ≠ b2) := Nat.ne_of_lt (Nat.lt_of_lt_of_le (heap_lt HKW0.out) lo2)
        have HTB : Hid (NT ≠ b2) := Nat.ne_of_lt (Nat.lt_of_lt_of_le (heap_lt HKT0.out) lo2)
        have HAB : Hid (NA ≠ b2) := Nat.ne_of_lt (Nat.lt_of_lt_of_le (heap_lt HKA0.out) lo2)
        have HLO2 : Hid (w.heap.size ≤ b2) := Nat.le_trans HB.out.size lo2
        have HKW := hid (heap_keep bel HKW0.out)
        have HKT := hid (heap_keep bel HKT0.out)
        have HKA := hid (heap_keep bel HKA0.out)
        have HB5 := hid (HB.out.trans (bel.mono HB.out.size))
        have HO2 := hid ow2
        have y0 : w5.cell? ⟨NO, 0, none⟩ = some (.int .i64 R) := Go.Joins.cell_of_block HKW.out 0
        have y1 : w5.cell? ⟨NO, 1, none⟩ = some (.int .i64 C) := Go.Joins.cell_of_block HKW.out 1
        have y2 : w5.cell? ⟨NO, 2, none⟩ = some (.slice (some ⟨bc, 0, none⟩) n kc) := Go.Joins.cell_of_block HKW.out 2
        have g0 : w5.frozen? ⟨NO, 0, none⟩ = false := Go.Joins.unfrozen_of_block HKW.out 0
        have g1 : w5.frozen? ⟨NO, 1, none⟩ = false := Go.Joins.unfrozen_of_block HKW.out 1
        have g2 : w5.frozen? ⟨NO, 2, none⟩ = false := Go.Joins.unfrozen_of_block HKW.out 2
        clear c0 c1 c2 HKW0 HKT0 HKA0 HB HOW ow2 lo2 bel
        go_wp2
        have hWb := HWB.out
        have qk := (Go.Joins.block_setCell (i := 2) (Go.Joins.block_setCell (i := 1) (Go.Joins.block_setCell (i := 0) HKW.out (.int .i64 R)) (.int .i64 C)) (.slice (some ⟨b2, 0, none⟩) n n))
        have qo := (own_set (own_set (own_set HO2.out ⟨NO, 0, none⟩ (.int .i64 R) hWb) ⟨NO, 1, none⟩ (.int .i64 C) hWb) ⟨NO, 2, none⟩ (.slice (some ⟨b2, 0, none⟩) n n) hWb)
        have qb := (((HB5.out.setCell (p := ⟨NO, 0, none⟩) HNW.out (.int .i64 R)).setCell (p := ⟨NO, 1, none⟩) HNW.out (.int .i64 C)).setCell (p := ⟨NO, 2, none⟩) HNW.out (.slice (some ⟨b2, 0, none⟩) n n))
        have qt := ((Below.heap_setCell _ ⟨NO, 2, none⟩ (.slice (some ⟨b2, 0, none⟩) n n) _ HWT.out.2).trans ((Below.heap_setCell _ ⟨NO, 1, none⟩ (.int .i64 C) _ HWT.out.2).trans ((Below.heap_setCell _ ⟨NO, 0, none⟩ (.int .i64 R) _ HWT.out.2).trans HKT.out)))
        have qa := ((Below.heap_setCell _ ⟨NO, 2, none⟩ (.slice (some ⟨b2, 0, none⟩) n n) _ HWT.out.1).trans ((Below.heap_setCell _ ⟨NO, 1, none⟩ (.int .i64 C) _ HWT.out.1).trans ((Below.heap_setCell _ ⟨NO, 0, none⟩ (.int .i64 R) _ HWT.out.1).trans HKA.out)))
        obtain ⟨w6, hW6⟩ : ∃ w6, w6 = (((w5.setCell ⟨NO, 0, none⟩ (.int .i64 R)).setCell ⟨NO, 1, none⟩ (.int .i64 C)).setCell ⟨NO, 2, none⟩ (.slice (some ⟨b2, 0, none⟩) n n)) := ⟨_, rfl⟩
        rw [← hW6] at qk qo qb qt qa
        simp only [← hW6]
        have HF6 := hid (And.intro qo (And.intro qk (And.intro qa (And.intro qt qb))))
        clear hW6 qk qo qb qt qa y0 y1 y2 g0 g1 g2 hWb HKW HKT HKA HB5 HO2
        go_roundw
        case rel => exact ⟨j + 1, by omega, by go_num, b2, n, HF6.out.1, HF6.out.2.1, HF6.out.2.2.1, HF6.out.2.2.2.1, HLO2.out, HWB.out, HAB.out, HTB.out, HWT.out.1, HWT.out.2, HNW.out, HF6.out.2.2.2.2⟩
        case measure => simp [intOf]; omega
      · have hj2 : j = S := by omega
        subst hj2
        have HNB := hid hTb0
        have HLo := hid hlo
        have HB := hid hbel
        have HO := hid ow
        have x0 : wr.cell? ⟨NO, 0, none⟩ = some (.int .i64 R) := Go.Joins.cell_of_block kW 0
        have x1 : wr.cell? ⟨NO, 1, none⟩ = some (.int .i64 C) := Go.Joins.cell_of_block kW 1
        have x2 : wr.cell? ⟨NO, 2, none⟩ = some (.slice (some ⟨bc, 0, none⟩) n kc) := Go.Joins.cell_of_block kW 2
        clear hlt hj hWb0 hTb0 hlo hbel ow kW kA hAb0
        have y0 : wr.cell? ⟨NT, 0, none⟩ = some (.int .i64 0) := Go.Joins.cell_of_block kT 0
        have y1 : wr.cell? ⟨NT, 1, none⟩ = some (.int .i64 0) := Go.Joins.cell_of_block kT 1
        have y2 : wr.cell? ⟨NT, 2, none⟩ = some (.slice none 0 0) := Go.Joins.cell_of_block kT 2
        have g0 : wr.frozen? ⟨NT, 0, none⟩ = false := Go.Joins.unfrozen_of_block kT 0
        have g1 : wr.frozen? ⟨NT, 1, none⟩ = false := Go.Joins.unfrozen_of_block kT 1
        have g2 : wr.frozen? ⟨NT, 2, none⟩ = false := Go.Joins.unfrozen_of_block kT 2
        have HKx := hid kT
        clear kT
        go_wp2
        obtain ⟨W5, hW⟩ : ∃ W5, W5 = (((wr.setCell ⟨NT, 0, none⟩ (.int .i64 R)).setCell ⟨NT, 1, none⟩ (.int .i64 C)).setCell ⟨NT, 2, none⟩ (.slice (some ⟨bc, 0, none⟩) n kc)) := ⟨_, rfl⟩
        have q0 := (Go.Joins.block_setCell (i := 2) (Go.Joins.block_setCell (i := 1) (Go.Joins.block_setCell (i := 0) HKx.out (.int .i64 R)) (.int .i64 C)) (.slice (some ⟨bc, 0, none⟩) n kc))
        rw [← hW] at q0
        have z0 : W5.cell? ⟨NT, 0, none⟩ = some (.int .i64 R) := Go.Joins.cell_of_block q0 0
        have z1 : W5.cell? ⟨NT, 1, none⟩ = some (.int .i64 C) := Go.Joins.cell_of_block q0 1
        have z2 : W5.cell? ⟨NT, 2, none⟩ = some (.slice (some ⟨bc, 0, none⟩) n kc) := Go.Joins.cell_of_block q0 2
        have O5 := (own_set (own_set (own_set HO.out ⟨NT, 0, none⟩ (.int .i64 R) HNB.out) ⟨NT, 1, none⟩ (.int .i64 C) HNB.out) ⟨NT, 2, none⟩ (.slice (some ⟨bc, 0, none⟩) n kc) HNB.out)
        rw [← hW] at O5
        have B5 : Below w.heap.size w W5 := by
          have h1 := HNT.out
          rw [hW]
          exact ((HB.out.setCell (by simp; omega) _).setCell (by simp; omega) _).setCell (by simp; omega) _
        simp only [← hW]
        clear hW q0
        simp [bodyPost, results, Try.results24, go_sem, z0, z1, z2]
        exact ⟨bc, kc, ⟨rfl, rfl⟩, O5, HLo.out, B5⟩

theorem agree (xs ys : List Int) (s r : Int) (zs : List Int) (rd : Bool) (st : Int) : ∃ (qs qr : Int) (rs : List Int) (ok : Bool), rs.length ≤ 1000000 ∧
    (∀ (w : World) (b1 : Nat) (v1 : Value) (b2 : Nat) (v2 : Value) (b : Nat) (v : Value), Rd w b1 v1 xs → Rd w b2 v2 ys → Rd w b v zs → Calls Try.prog 23 #[lifeV v1 v2, ruleV s r v, .bool rd, .int .i64 st] w fun e w' => ∃ ao c b', e = .returned (.tuple #[ruleV qs qr (.slice ao rs.length c), .bool ok]) ∧ Own 2 w' b' (.slice ao rs.length c) rs ∧ w.heap.size ≤ b' ∧ Below w.heap.size w w') ∧
    (∀ (w : World) (b1 : Nat) (v1 : Value) (b2 : Nat) (v2 : Value) (b : Nat) (v : Value), Rd w b1 v1 xs → Rd w b2 v2 ys → Rd w b v zs → Calls Try.prog 24 #[lifeV v1 v2, ruleV s r v, .bool rd, .int .i64 st] w fun e w' => ∃ ao c b', e = .returned (.tuple #[ruleV qs qr (.slice ao rs.length c), .bool ok]) ∧ Own 2 w' b' (.slice ao rs.length c) rs ∧ w.heap.size ≤ b' ∧ Below w.heap.size w w') := by
  have none_ : (∀ (w : World) (b1 : Nat) (v1 : Value) (b2 : Nat) (v2 : Value) (b : Nat) (v : Value), Rd w b1 v1 xs → Rd w b2 v2 ys → Rd w b v zs → Calls Try.prog 23 #[lifeV v1 v2, ruleV s r v, .bool rd, .int .i64 st] w fun e w' => e = .returned (.tuple #[ruleV 0 0 (.slice none 0 0), .bool false]) ∧ Below w.heap.size w w') → (∀ (w : World) (b1 : Nat) (v1 : Value) (b2 : Nat) (v2 : Value) (b : Nat) (v : Value), Rd w b1 v1 xs → Rd w b2 v2 ys → Rd w b v zs → Calls Try.prog 24 #[lifeV v1 v2, ruleV s r v, .bool rd, .int .i64 st] w fun e w' => e = .returned (.tuple #[ruleV 0 0 (.slice none 0 0), .bool false]) ∧ Below w.heap.size w w') → ∃ (qs qr : Int) (rs : List Int) (ok : Bool), rs.length ≤ 1000000 ∧
    (∀ (w : World) (b1 : Nat) (v1 : Value) (b2 : Nat) (v2 : Value) (b : Nat) (v : Value), Rd w b1 v1 xs → Rd w b2 v2 ys → Rd w b v zs → Calls Try.prog 23 #[lifeV v1 v2, ruleV s r v, .bool rd, .int .i64 st] w fun e w' => ∃ ao c b', e = .returned (.tuple #[ruleV qs qr (.slice ao rs.length c), .bool ok]) ∧ Own 2 w' b' (.slice ao rs.length c) rs ∧ w.heap.size ≤ b' ∧ Below w.heap.size w w') ∧
    (∀ (w : World) (b1 : Nat) (v1 : Value) (b2 : Nat) (v2 : Value) (b : Nat) (v : Value), Rd w b1 v1 xs → Rd w b2 v2 ys → Rd w b v zs → Calls Try.prog 24 #[lifeV v1 v2, ruleV s r v, .bool rd, .int .i64 st] w fun e w' => ∃ ao c b', e = .returned (.tuple #[ruleV qs qr (.slice ao rs.length c), .bool ok]) ∧ Own 2 w' b' (.slice ao rs.length c) rs ∧ w.heap.size ≤ b' ∧ Below w.heap.size w w') := by
    intro h1 h2
    refine ⟨0, 0, [], false, by simp, fun w b1 v1 b2 v2 b v k1 k2 k => (h1 w b1 v1 b2 v2 b v k1 k2 k).mono ?_, fun w b1 v1 b2 v2 b v k1 k2 k => (h2 w b1 v1 b2 v2 b v k1 k2 k).mono ?_⟩
    · rintro e w' ⟨rfl, bel⟩
      exact ⟨none, 0, w.heap.size, rfl, Own.nil _ _ _, Nat.le_refl _, bel⟩
    · rintro e w' ⟨rfl, bel⟩
      exact ⟨none, 0, w.heap.size, rfl, Own.nil _ _ _, Nat.le_refl _, bel⟩
  cases hq : canB xs ys s r zs with
  | false => exact none_ (fun w b1 v1 b2 v2 b v k1 k2 k => specNo1 k1 k2 k hq) (fun w b1 v1 b2 v2 b v k1 k2 k => implNo1 k1 k2 k hq)
  | true =>
    by_cases hst : 0 ≤ st ∧ st ≤ 512
    · obtain ⟨_, _, hf, _⟩ := can_parts hq
      have hb : (1 ≤ s ∧ s ≤ 24) ∧ 1 ≤ r ∧ r ≤ 24 := by
        simp only [fieldB, Bool.and_eq_true] at hf
        have := hf.1
        simp [sidesB] at this; omega
      obtain ⟨R, rfl⟩ := Int.eq_ofNat_of_zero_le (show 0 ≤ s by omega)
      obtain ⟨C, rfl⟩ := Int.eq_ofNat_of_zero_le (show 0 ≤ r by omega)
      obtain ⟨S, rfl⟩ := Int.eq_ofNat_of_zero_le hst.1
      have hS : S ≤ 512 := by omega
      have hlen : (itL (fun z => lifeL xs ys z R C rd) zs S).length = R * C := it_len (field_nat hf).2.2.1 rfl S
      have hle : R * C ≤ 24 * 24 := Nat.mul_le_mul (by omega) (by omega)
      refine ⟨R, C, itL (fun z => lifeL xs ys z R C rd) zs S, true, by omega, fun w b1 v1 b2 v2 b v k1 k2 k => (specOk k1 k2 k hq rfl hS).mono ?_, fun w b1 v1 b2 v2 b v k1 k2 k => (implOk k1 k2 k hq rfl hS).mono ?_⟩
      · rintro e w' ⟨b', c, rfl, ow, lo, bel⟩
        exact ⟨some ⟨b', 0, none⟩, c, b', by rw [hlen], by rw [hlen]; exact ow, lo, bel⟩
      · rintro e w' ⟨b', c, rfl, ow, lo, bel⟩
        exact ⟨some ⟨b', 0, none⟩, c, b', by rw [hlen], by rw [hlen]; exact ow, lo, bel⟩
    · exact none_ (fun w b1 v1 b2 v2 b v k1 k2 k => specNo2 k1 k2 k hq hst) (fun w b1 v1 b2 v2 b v k1 k2 k => implNo2 k1 k2 k hq hst)


end Go.Proofs.Ytmhonhkiakjdjaa.Rnl
