/- TrimField, the model. -/
import Derived.Test.YtmbimekndhcgaaaCt
import Derived.Test.YtmbimekndhcgaaaCan
import Derived.Test.YtmbimekndhcgaaaCon
import Derived.Test.YtmbimekndhcgaaaRnd
namespace Go.Proofs.Ytmbimekndhcgaaa.Tr
open Go.RowKit Go.Proofs.Ytmbimekndhcgaaa.Rd Go.Proofs.Ytmbimekndhcgaaa.Help Go.Proofs.Ytmbimekndhcgaaa.Ring Go.Proofs.Ytmbimekndhcgaaa.Small Go.Proofs.Ytmbimekndhcgaaa.FVal Go.Proofs.Ytmbimekndhcgaaa.Keep Go.Proofs.Ytmbimekndhcgaaa.Rule Go.Proofs.Ytmbimekndhcgaaa.Grow Go.Proofs.Ytmbimekndhcgaaa.FCut
set_option linter.unusedVariables false
set_option linter.unusedSimpArgs false

/-- The least and the greatest row, and the least and the greatest column of a 1 among the first k cells. -/
def tS (zs : List Int) (R C : Nat) : Nat → Int × Int × Int × Int
  | 0 => ((R : Int), -1, (C : Int), -1)
  | k + 1 => if zs.getD k 0 = 1 then (min (tS zs R C k).1 ((k / C : Nat) : Int), max (tS zs R C k).2.1 ((k / C : Nat) : Int), min (tS zs R C k).2.2.1 ((k % C : Nat) : Int), max (tS zs R C k).2.2.2 ((k % C : Nat) : Int)) else tS zs R C k
theorem tS_one {zs : List Int} {R C k p q : Nat} {A B L D : Int} (h : tS zs R C k = (A, B, L, D)) (hz : zs.getD k 0 = 1) (hp : k / C = p) (hq : k % C = q) : tS zs R C (k + 1) = (min A (p : Int), max B (p : Int), min L (q : Int), max D (q : Int)) := by
  rw [tS, if_pos hz, h, hp, hq]
theorem tS_not {zs : List Int} {R C k : Nat} {x : Int × Int × Int × Int} (h : tS zs R C k = x) (hz : zs.getD k 0 ≠ 1) : tS zs R C (k + 1) = x := by
  rw [tS, if_neg hz, h]
theorem tS_bd {zs : List Int} {R C : Nat} (hR : 1 ≤ R) (hC : 1 ≤ C) (k : Nat) (hk : k ≤ R * C) :
    (tS zs R C k = ((R : Int), -1, (C : Int), -1) ∧ ∀ i, i < k → zs.getD i 0 ≠ 1) ∨ ((∃ i, i < k ∧ zs.getD i 0 = 1) ∧ ∃ A B L D : Nat, tS zs R C k = ((A : Int), (B : Int), (L : Int), (D : Int)) ∧ A ≤ B ∧ B < R ∧ L ≤ D ∧ D < C) := by
  induction k with
  | zero => exact .inl ⟨rfl, fun i hi => by omega⟩
  | succ k ih =>
    have hkR : k / C < R := by rw [Nat.div_lt_iff_lt_mul (by omega)]; omega
    have hkC : k % C < C := Nat.mod_lt _ (by omega)
    by_cases hz : zs.getD k 0 = 1
    · right
      refine ⟨⟨k, by omega, hz⟩, ?_⟩
      rcases ih (by omega) with ⟨h, _⟩ | ⟨_, A, B, L, D, h, h1, h2, h3, h4⟩
      · refine ⟨k / C, k / C, k % C, k % C, ?_, Nat.le_refl _, hkR, Nat.le_refl _, hkC⟩
        rw [tS_one h hz rfl rfl]
        simp only [Prod.mk.injEq]
        generalize k / C = x1 at hkR ⊢
        generalize k % C = x2 at hkC ⊢
        omega
      · refine ⟨min A (k / C), max B (k / C), min L (k % C), max D (k % C), ?_, by omega, by omega, by omega, by omega⟩
        rw [tS_one h hz rfl rfl]
        simp only [Prod.mk.injEq]
        generalize k / C = x1 at hkR ⊢
        generalize k % C = x2 at hkC ⊢
        omega
    · rcases ih (by omega) with ⟨h, hn⟩ | ⟨⟨i, hi, hi1⟩, A, B, L, D, h, h1⟩
      · refine .inl ⟨tS_not h hz, fun i hi => ?_⟩
        rcases Nat.lt_or_ge i k with e | e
        · exact hn i e
        · rw [show i = k by omega]; exact hz
      · exact .inr ⟨⟨i, by omega, hi1⟩, A, B, L, D, tS_not h hz, h1⟩
theorem has_one {zs : List Int} {n : Nat} (hl : zs.length = n) : zs.contains 1 = true ↔ ∃ i, i < n ∧ zs.getD i 0 = 1 := by
  rw [List.contains_iff_mem]
  constructor
  · intro h
    obtain ⟨i, hi, e⟩ := List.mem_iff_getElem.1 h
    exact ⟨i, by omega, by rw [List.getD_eq_getElem?_getD, List.getElem?_eq_getElem hi]; exact e⟩
  · rintro ⟨i, hi, e⟩
    have hi2 : i < zs.length := by omega
    rw [List.getD_eq_getElem?_getD, List.getElem?_eq_getElem hi2] at e
    have e2 : zs[i] = 1 := e
    rw [← e2]
    exact List.getElem_mem hi2
theorem trim_no {zs : List Int} {R C : Nat} (hR : 1 ≤ R) (hC : 1 ≤ C) (hl : zs.length = R * C) (hz : zs.contains 1 = false) : tS zs R C (R * C) = ((R : Int), -1, (C : Int), -1) := by
  rcases tS_bd (zs := zs) hR hC (R * C) (Nat.le_refl _) with ⟨h, _⟩ | ⟨h, _⟩
  · exact h
  · rw [(has_one hl).2 h] at hz; cases hz
theorem trim_ok {zs : List Int} {R C : Nat} (hR : 1 ≤ R) (hC : 1 ≤ C) (hl : zs.length = R * C) (hz : zs.contains 1 = true) :
    ∃ ra rb rc rd : Nat, tS zs R C (R * C) = ((ra : Int), ((ra + rc - 1 : Nat) : Int), (rb : Int), ((rb + rd - 1 : Nat) : Int)) ∧ ra + rc ≤ R ∧ rb + rd ≤ C ∧ 1 ≤ rc ∧ 1 ≤ rd := by
  rcases tS_bd (zs := zs) hR hC (R * C) (Nat.le_refl _) with ⟨_, h⟩ | ⟨_, A, B, L, D, h, h1, h2, h3, h4⟩
  · obtain ⟨i, hi, e⟩ := (has_one hl).1 hz
    exact absurd e (h i hi)
  · exact ⟨A, L, B + 1 - A, D + 1 - L, by rw [h, show A + (B + 1 - A) - 1 = B by omega, show L + (D + 1 - L) - 1 = D by omega], by omega, by omega, by omega, by omega⟩

theorem l00Min {w : World} {a b : Int} :
    Calls Try.prog 87 #[.int .i64 a, .int .i64 b] w fun e w' => e = .returned (.int .i64 (min a b)) ∧ w = w' := by
  by_cases h : a < b
  · rw [show min a b = a by omega]
    go_enter Try.func87, Try.ntmps87
    go_wp2
    go_ret
    exact ⟨rfl, rfl⟩
  · have h2 : b ≤ a := by omega
    rw [show min a b = b by omega]
    go_enter Try.func87, Try.ntmps87
    go_wp2
    go_ret
    exact ⟨rfl, rfl⟩
theorem l00Max {w : World} {a b : Int} :
    Calls Try.prog 88 #[.int .i64 a, .int .i64 b] w fun e w' => e = .returned (.int .i64 (max a b)) ∧ w = w' := by
  by_cases h : b < a
  · rw [show max a b = a by omega]
    go_enter Try.func88, Try.ntmps88
    go_wp2
    go_ret
    exact ⟨rfl, rfl⟩
  · have h2 : a ≤ b := by omega
    rw [show max a b = b by omega]
    go_enter Try.func88, Try.ntmps88
    go_wp2
    go_ret
    exact ⟨rfl, rfl⟩

set_option maxHeartbeats 8000000 in
theorem trimNo {w : World} {N R C n : Nat} {b : Nat} {v : Value} {zs : List Int} (k0 : w.cell? ⟨N, 0, none⟩ = some (.int .i64 R)) (k1 : w.cell? ⟨N, 1, none⟩ = some (.int .i64 C)) (k2 : w.cell? ⟨N, 2, none⟩ = some v) (h : Rd w b v zs) (hq : fieldB R C zs = true) (hn : n = R * C) (ht : tS zs R C n = ((R : Int), -1, (C : Int), -1)) :
    Calls Try.prog 57 #[.pointer (some ⟨N, 0, none⟩)] w fun e w' => e = .returned (.tuple #[ruleV 0 0 (.slice none 0 0), .int .i64 0, .int .i64 0, .bool false]) ∧ Below w.heap.size w w' := by
  obtain ⟨hR, hC, hl, hle⟩ := field_nat hq
  have HH := hid h
  have HQ := hid hq
  obtain ⟨ao, cap, rfl, hc, hm, h4⟩ := h
  rw [← hn] at hle
  have hpos : 0 < zs.length := by rw [hl]; exact Nat.mul_pos hR.1 hC.1
  obtain ⟨off, rfl, hb, hcell⟩ := h4 hpos
  have hln : zs.length = n := by rw [hn]; exact hl
  rw [hln] at HH hc hcell k2
  have hsz : n ≤ cap ∧ cap ≤ 9223372036854775807 := by unfold maxLen at hm; omega
  have HCap := hid (show n ≤ cap ∧ cap ≤ maxLen from ⟨hc, hm⟩)
  have HL : Hid (zs.length = n) := by simp only [Hid]; rw [hn]; exact hl
  have HN := hid hn
  have HR := hid hR
  have HC := hid hC
  have HB0 := hid hb
  have HCell := hid hcell
  have HLE := hid hle
  clear hc hm h4 hq hn hl hpos hb hcell hln
  have HTT := hid ht
  have HKN := hid (And.intro k0 (And.intro k1 k2))
  have HNw : Hid (N < w.heap.size) := World.block_lt_of_cell? w _ k0
  clear k0 k1 k2 ht
  go_enter Try.func57, Try.ntmps57
  have cx0 : (w.alloc (Obj.cells #[.int .i64 0, .int .i64 0, .slice none 0 0] 26)).cell? ⟨N, 0, none⟩ = some (.int .i64 R) := cell_keep (below1 _ _) HKN.out.1
  have cx1 : (w.alloc (Obj.cells #[.int .i64 0, .int .i64 0, .slice none 0 0] 26)).cell? ⟨N, 1, none⟩ = some (.int .i64 C) := cell_keep (below1 _ _) HKN.out.2.1
  go_wp2
  clear cx0 cx1
  obtain ⟨w1, hW⟩ : ∃ w1, w1 = w.alloc (Obj.cells #[.int .i64 0, .int .i64 0, .slice none 0 0] 26) := ⟨_, rfl⟩
  obtain ⟨NT, hM⟩ : ∃ NT, NT = w.heap.size := ⟨_, rfl⟩
  have HB1 : Hid (Below w.heap.size w w1) := by simp only [Hid]; rw [hW]; exact below1 _ _
  have HKT : Hid (w1.heap[NT]? = some (Obj.cells #[.int .i64 0, .int .i64 0, .slice none 0 0] 26)) := by simp only [Hid]; rw [hW]; exact FNew.heap_top hM
  have HNT : Hid (w.heap.size ≤ NT) := by simp only [Hid]; omega
  have HC1 : Hid (w1.cell? ⟨N, 0, none⟩ = some (.int .i64 R) ∧ w1.cell? ⟨N, 1, none⟩ = some (.int .i64 C) ∧ w1.cell? ⟨N, 2, none⟩ = some (.slice (some ⟨b, off, none⟩) n cap)) := ⟨cell_keep HB1.out HKN.out.1, cell_keep HB1.out HKN.out.2.1, cell_keep HB1.out HKN.out.2.2⟩
  have HCL1 : Hid (∀ i, i < n → w1.cell? ⟨b, off + i, none⟩ = some (.int .i64 (zs.getD i 0))) := fun i hi => (HB1.out.cell (p := ⟨b, off + i, none⟩) HB0.out).trans (HCell.out i hi)
  simp only [← hW, ← hM]
  clear hW hM
  have hB4 : R ≤ 24 ∧ C ≤ 24 := ⟨HR.out.2, HC.out.2⟩
  go_loopw [6, 7, 8, 9, 10] (fun s6 s7 s8 s9 i wr => ∃ p : Nat, p ≤ R ∧ i = .int .i64 p ∧ ∃ A B L D : Int, tS zs R C (p * C) = (A, B, L, D) ∧ s6 = .int .i64 A ∧ s7 = .int .i64 B ∧ s8 = .int .i64 L ∧ s9 = .int .i64 D ∧ ∃ m, wr = w1.drewN m) (fun _ _ _ _ i _ => R - (intOf i).toNat)
  case atStart => exact ⟨0, Nat.zero_le _, rfl, _, _, _, _, by rw [Nat.zero_mul]; rfl, rfl, rfl, rfl, rfl, 0, rfl⟩
  case round =>
    obtain ⟨p, hp, rfl, A, B, L, D, ht1, rfl, rfl, rfl, rfl, m, hwr⟩ := hrel
    have c0 : wr.cell? ⟨N, 0, none⟩ = some (.int .i64 R) := by rw [hwr]; exact HC1.out.1
    by_cases hlt : p < R
    · have HT0 := hid ht1
      have HW0 := hid hwr
      have hpi : (p : Int) < (R : Int) := by omega
      clear ht1 hwr
      go_wp2
      clear c0
      go_loopw [6, 7, 8, 9, 11] (fun s6 s7 s8 s9 i wx => ∃ q : Nat, q ≤ C ∧ i = .int .i64 q ∧ ∃ A B L D : Int, tS zs R C (p * C + q) = (A, B, L, D) ∧ s6 = .int .i64 A ∧ s7 = .int .i64 B ∧ s8 = .int .i64 L ∧ s9 = .int .i64 D ∧ ∃ m, wx = w1.drewN m) (fun _ _ _ _ i _ => C - (intOf i).toNat)
      case atStart => exact ⟨0, Nat.zero_le _, rfl, _, _, _, _, HT0.out, rfl, rfl, rfl, rfl, m, HW0.out⟩
      case round =>
        obtain ⟨q, hq2, rfl, A, B, L, D, ht1, rfl, rfl, rfl, rfl, m, hwr⟩ := hrel
        have c1 : wr.cell? ⟨N, 1, none⟩ = some (.int .i64 C) := by rw [hwr]; exact HC1.out.2.1
        by_cases hlt2 : q < C
        · obtain ⟨S, hS⟩ : ∃ S, S = p * C + q := ⟨_, rfl⟩
          have hSn : S < n := by rw [hS, HN.out]; exact pos_bd hlt hlt2
          have e4 := (wrap_pos (i := p) (C := C) (k := q) (by have := HLE.out; omega)).1
          have e5 := (wrap_pos (i := p) (C := C) (k := q) (by have := HLE.out; omega)).2
          have HDV := hid (And.intro (pos_div (i := p) hlt2).1 (pos_div (i := p) hlt2).2)
          rw [← hS] at e5 ht1 HDV
          have HT1 := hid ht1
          obtain ⟨x, hx⟩ : ∃ x, x = zs.getD S 0 := ⟨_, rfl⟩
          have hcx : wr.cell? ⟨b, off + S, none⟩ = some (.int .i64 x) := by rw [hwr, hx]; exact HCL1.out S hSn
          have c2 : wr.cell? ⟨N, 2, none⟩ = some (.slice (some ⟨b, off, none⟩) n cap) := by rw [hwr]; exact HC1.out.2.2
          have hSi : (S : Int) < (n : Int) := by omega
          have hqi : (q : Int) < (C : Int) := by omega
          obtain ⟨P2, hP2⟩ : ∃ P2, P2 = p * C := ⟨_, rfl⟩
          rw [← hP2] at e4 e5
          have HX := hid hx
          have HW := hid hwr
          have HS := hid hS
          clear ht1 hwr hx hP2 hS
          by_cases hx1 : x = 1
          · have HX1 := hid hx1
            have HST : Hid (tS zs R C (p * C + (q + 1)) = (min A (p : Int), max B (p : Int), min L (q : Int), max D (q : Int))) := by
              have h1 := tS_one HT1.out (by rw [← HX.out]; exact HX1.out) HDV.out.1 HDV.out.2
              rw [HS.out] at h1
              exact h1
            subst hx1
            go_wp2_with fail
            go_quiet (fail)
            go_wp2_with fail
            go_at_call 87
            refine l00Min.mono ?_
            rintro e w' ⟨rfl, rfl⟩
            go_wp2_with fail
            go_at_call 88
            refine l00Max.mono ?_
            rintro e w' ⟨rfl, rfl⟩
            go_wp2_with fail
            go_at_call 87
            refine l00Min.mono ?_
            rintro e w' ⟨rfl, rfl⟩
            go_wp2_with fail
            go_at_call 88
            refine l00Max.mono ?_
            rintro e w' ⟨rfl, rfl⟩
            go_wp2
            go_roundw
            case rel => exact ⟨q + 1, by omega, by go_num, _, _, _, _, HST.out, rfl, rfl, rfl, rfl, m + nq, by rw [HW.out, World.drewN_drewN]⟩
            case measure => simp [intOf]; omega
          · have HX1 := hid hx1
            have HST : Hid (tS zs R C (p * C + (q + 1)) = (A, B, L, D)) := by
              have h1 := tS_not HT1.out (by rw [← HX.out]; exact HX1.out)
              rw [HS.out] at h1
              exact h1
            have hx2 : (x == 1) = false := by simpa using hx1
            clear hx1
            go_wp2_with fail
            go_quiet (fail)
            go_wp2
            go_roundw
            case rel => exact ⟨q + 1, by omega, by go_num, _, _, _, _, HST.out, rfl, rfl, rfl, rfl, m + nq, by rw [HW.out, World.drewN_drewN]⟩
            case measure => simp [intOf]; omega
        · have hqC : C = q := by omega
          have HT1 := hid ht1
          have HW := hid hwr
          clear ht1 hwr
          subst hqC
          go_wp2
          go_roundw
          case rel => exact ⟨p + 1, by omega, by go_num, A, B, L, D, by rw [Nat.succ_mul]; exact HT1.out, rfl, rfl, rfl, rfl, m, HW.out⟩
          case measure => simp [intOf]; omega
    · have hpR : R = p := by omega
      subst hpR
      have hA : A = (R : Int) ∧ B = -1 ∧ L = (C : Int) ∧ D = -1 := by
        have h1 := HTT.out
        rw [HN.out, ht1] at h1
        simpa only [Prod.mk.injEq] using h1
      obtain ⟨rfl, rfl, rfl, rfl⟩ := hA
      have HW := hid hwr
      have HB : Hid (Below w.heap.size w wr) := by simp only [Hid]; rw [hwr]; exact HB1.out.trans (FSpec.below_drewN' _ _ _)
      have kT : wr.heap[NT]? = some (Obj.cells #[.int .i64 0, .int .i64 0, .slice none 0 0] 26) := by rw [hwr]; exact HKT.out
      clear ht1 hwr
      have y0 : wr.cell? ⟨NT, 0, none⟩ = some (.int .i64 0) := Go.Joins.cell_of_block kT 0
      have y1 : wr.cell? ⟨NT, 1, none⟩ = some (.int .i64 0) := Go.Joins.cell_of_block kT 1
      have y2 : wr.cell? ⟨NT, 2, none⟩ = some (.slice none 0 0) := Go.Joins.cell_of_block kT 2
      have g0 : wr.frozen? ⟨NT, 0, none⟩ = false := Go.Joins.unfrozen_of_block kT 0
      have g1 : wr.frozen? ⟨NT, 1, none⟩ = false := Go.Joins.unfrozen_of_block kT 1
      have g2 : wr.frozen? ⟨NT, 2, none⟩ = false := Go.Joins.unfrozen_of_block kT 2
      have HKx := hid kT
      clear kT
      go_wp2
      obtain ⟨W5, hW⟩ : ∃ W5, W5 = (((wr.setCell ⟨NT, 0, none⟩ (.int .i64 0)).setCell ⟨NT, 1, none⟩ (.int .i64 0)).setCell ⟨NT, 2, none⟩ (.slice none 0 0)) := ⟨_, rfl⟩
      have q0 := (Go.Joins.block_setCell (i := 2) (Go.Joins.block_setCell (i := 1) (Go.Joins.block_setCell (i := 0) HKx.out (.int .i64 0)) (.int .i64 0)) (.slice none 0 0))
      rw [← hW] at q0
      have z0 : W5.cell? ⟨NT, 0, none⟩ = some (.int .i64 0) := Go.Joins.cell_of_block q0 0
      have z1 : W5.cell? ⟨NT, 1, none⟩ = some (.int .i64 0) := Go.Joins.cell_of_block q0 1
      have z2 : W5.cell? ⟨NT, 2, none⟩ = some (.slice none 0 0) := Go.Joins.cell_of_block q0 2
      have B5 : Below w.heap.size w W5 := by
        have h1 := HNT.out
        rw [hW]
        exact ((HB.out.setCell (by simp; omega) _).setCell (by simp; omega) _).setCell (by simp; omega) _
      simp only [← hW]
      clear hW q0
      simp [bodyPost, results, Try.results57, go_sem, z0, z1, z2]
      exact B5

set_option maxHeartbeats 8000000 in
theorem trimOk {w : World} {N R C n ra rb rc rd mt : Nat} {b : Nat} {v : Value} {zs : List Int} (k0 : w.cell? ⟨N, 0, none⟩ = some (.int .i64 R)) (k1 : w.cell? ⟨N, 1, none⟩ = some (.int .i64 C)) (k2 : w.cell? ⟨N, 2, none⟩ = some v) (h : Rd w b v zs) (hq : fieldB R C zs = true) (hn : n = R * C) (ht : tS zs R C n = ((ra : Int), ((ra + rc - 1 : Nat) : Int), (rb : Int), ((rb + rd - 1 : Nat) : Int))) (hk : ra + rc ≤ R ∧ rb + rd ≤ C ∧ 1 ≤ rc ∧ 1 ≤ rd) (hmt : mt = rc * rd) :
    Calls Try.prog 57 #[.pointer (some ⟨N, 0, none⟩)] w fun e w' => ∃ b', e = .returned (.tuple #[ruleV rc rd (.slice (some ⟨b', 0, none⟩) mt mt), .int .i64 ra, .int .i64 rb, .bool true]) ∧ Own 2 w' b' (.slice (some ⟨b', 0, none⟩) mt mt) (cutL zs C ra rb rc rd) ∧ w.heap.size ≤ b' ∧ Below w.heap.size w w' := by
  obtain ⟨hR, hC, hl, hle⟩ := field_nat hq
  have HH := hid h
  have HQ := hid hq
  obtain ⟨ao, cap, rfl, hc, hm, h4⟩ := h
  rw [← hn] at hle
  have hpos : 0 < zs.length := by rw [hl]; exact Nat.mul_pos hR.1 hC.1
  obtain ⟨off, rfl, hb, hcell⟩ := h4 hpos
  have hln : zs.length = n := by rw [hn]; exact hl
  rw [hln] at HH hc hcell k2
  have hsz : n ≤ cap ∧ cap ≤ 9223372036854775807 := by unfold maxLen at hm; omega
  have HCap := hid (show n ≤ cap ∧ cap ≤ maxLen from ⟨hc, hm⟩)
  have HL : Hid (zs.length = n) := by simp only [Hid]; rw [hn]; exact hl
  have HN := hid hn
  have HR := hid hR
  have HC := hid hC
  have HB0 := hid hb
  have HCell := hid hcell
  have HLE := hid hle
  clear hc hm h4 hq hn hl hpos hb hcell hln
  have HM := hid hmt
  have HK := hid hk
  have HTT := hid ht
  have HKN := hid (And.intro k0 (And.intro k1 k2))
  have HNw : Hid (N < w.heap.size) := World.block_lt_of_cell? w _ k0
  clear k0 k1 k2 ht hmt hk
  go_enter Try.func57, Try.ntmps57
  have cx0 : (w.alloc (Obj.cells #[.int .i64 0, .int .i64 0, .slice none 0 0] 26)).cell? ⟨N, 0, none⟩ = some (.int .i64 R) := cell_keep (below1 _ _) HKN.out.1
  have cx1 : (w.alloc (Obj.cells #[.int .i64 0, .int .i64 0, .slice none 0 0] 26)).cell? ⟨N, 1, none⟩ = some (.int .i64 C) := cell_keep (below1 _ _) HKN.out.2.1
  go_wp2
  clear cx0 cx1
  obtain ⟨w1, hW⟩ : ∃ w1, w1 = w.alloc (Obj.cells #[.int .i64 0, .int .i64 0, .slice none 0 0] 26) := ⟨_, rfl⟩
  obtain ⟨NT, hM⟩ : ∃ NT, NT = w.heap.size := ⟨_, rfl⟩
  have HB1 : Hid (Below w.heap.size w w1) := by simp only [Hid]; rw [hW]; exact below1 _ _
  have HKT : Hid (w1.heap[NT]? = some (Obj.cells #[.int .i64 0, .int .i64 0, .slice none 0 0] 26)) := by simp only [Hid]; rw [hW]; exact FNew.heap_top hM
  have HNT : Hid (w.heap.size ≤ NT) := by simp only [Hid]; omega
  have HC1 : Hid (w1.cell? ⟨N, 0, none⟩ = some (.int .i64 R) ∧ w1.cell? ⟨N, 1, none⟩ = some (.int .i64 C) ∧ w1.cell? ⟨N, 2, none⟩ = some (.slice (some ⟨b, off, none⟩) n cap)) := ⟨cell_keep HB1.out HKN.out.1, cell_keep HB1.out HKN.out.2.1, cell_keep HB1.out HKN.out.2.2⟩
  have HCL1 : Hid (∀ i, i < n → w1.cell? ⟨b, off + i, none⟩ = some (.int .i64 (zs.getD i 0))) := fun i hi => (HB1.out.cell (p := ⟨b, off + i, none⟩) HB0.out).trans (HCell.out i hi)
  simp only [← hW, ← hM]
  clear hW hM
  have hB4 : R ≤ 24 ∧ C ≤ 24 := ⟨HR.out.2, HC.out.2⟩
  go_loopw [6, 7, 8, 9, 10] (fun s6 s7 s8 s9 i wr => ∃ p : Nat, p ≤ R ∧ i = .int .i64 p ∧ ∃ A B L D : Int, tS zs R C (p * C) = (A, B, L, D) ∧ s6 = .int .i64 A ∧ s7 = .int .i64 B ∧ s8 = .int .i64 L ∧ s9 = .int .i64 D ∧ ∃ m, wr = w1.drewN m) (fun _ _ _ _ i _ => R - (intOf i).toNat)
  case atStart => exact ⟨0, Nat.zero_le _, rfl, _, _, _, _, by rw [Nat.zero_mul]; rfl, rfl, rfl, rfl, rfl, 0, rfl⟩
  case round =>
    obtain ⟨p, hp, rfl, A, B, L, D, ht1, rfl, rfl, rfl, rfl, m, hwr⟩ := hrel
    have c0 : wr.cell? ⟨N, 0, none⟩ = some (.int .i64 R) := by rw [hwr]; exact HC1.out.1
    by_cases hlt : p < R
    · have HT0 := hid ht1
      have HW0 := hid hwr
      have hpi : (p : Int) < (R : Int) := by omega
      clear ht1 hwr
      go_wp2
      clear c0
      go_loopw [6, 7, 8, 9, 11] (fun s6 s7 s8 s9 i wx => ∃ q : Nat, q ≤ C ∧ i = .int .i64 q ∧ ∃ A B L D : Int, tS zs R C (p * C + q) = (A, B, L, D) ∧ s6 = .int .i64 A ∧ s7 = .int .i64 B ∧ s8 = .int .i64 L ∧ s9 = .int .i64 D ∧ ∃ m, wx = w1.drewN m) (fun _ _ _ _ i _ => C - (intOf i).toNat)
      case atStart => exact ⟨0, Nat.zero_le _, rfl, _, _, _, _, HT0.out, rfl, rfl, rfl, rfl, m, HW0.out⟩
      case round =>
        obtain ⟨q, hq2, rfl, A, B, L, D, ht1, rfl, rfl, rfl, rfl, m, hwr⟩ := hrel
        have c1 : wr.cell? ⟨N, 1, none⟩ = some (.int .i64 C) := by rw [hwr]; exact HC1.out.2.1
        by_cases hlt2 : q < C
        · obtain ⟨S, hS⟩ : ∃ S, S = p * C + q := ⟨_, rfl⟩
          have hSn : S < n := by rw [hS, HN.out]; exact pos_bd hlt hlt2
          have e4 := (wrap_pos (i := p) (C := C) (k := q) (by have := HLE.out; omega)).1
          have e5 := (wrap_pos (i := p) (C := C) (k := q) (by have := HLE.out; omega)).2
          have HDV := hid (And.intro (pos_div (i := p) hlt2).1 (pos_div (i := p) hlt2).2)
          rw [← hS] at e5 ht1 HDV
          have HT1 := hid ht1
          obtain ⟨x, hx⟩ : ∃ x, x = zs.getD S 0 := ⟨_, rfl⟩
          have hcx : wr.cell? ⟨b, off + S, none⟩ = some (.int .i64 x) := by rw [hwr, hx]; exact HCL1.out S hSn
          have c2 : wr.cell? ⟨N, 2, none⟩ = some (.slice (some ⟨b, off, none⟩) n cap) := by rw [hwr]; exact HC1.out.2.2
          have hSi : (S : Int) < (n : Int) := by omega
          have hqi : (q : Int) < (C : Int) := by omega
          obtain ⟨P2, hP2⟩ : ∃ P2, P2 = p * C := ⟨_, rfl⟩
          rw [← hP2] at e4 e5
          have HX := hid hx
          have HW := hid hwr
          have HS := hid hS
          clear ht1 hwr hx hP2 hS
          by_cases hx1 : x = 1
          · have HX1 := hid hx1
            have HST : Hid (tS zs R C (p * C + (q + 1)) = (min A (p : Int), max B (p : Int), min L (q : Int), max D (q : Int))) := by
              have h1 := tS_one HT1.out (by rw [← HX.out]; exact HX1.out) HDV.out.1 HDV.out.2
              rw [HS.out] at h1
              exact h1
            subst hx1
            go_wp2_with fail
            go_quiet (fail)
            go_wp2_with fail
            go_at_call 87
            refine l00Min.mono ?_
            rintro e w' ⟨rfl, rfl⟩
            go_wp2_with fail
            go_at_call 88
            refine l00Max.mono ?_
            rintro e w' ⟨rfl, rfl⟩
            go_wp2_with fail
            go_at_call 87
            refine l00Min.mono ?_
            rintro e w' ⟨rfl, rfl⟩
            go_wp2_with fail
            go_at_call 88
            refine l00Max.mono ?_
            rintro e w' ⟨rfl, rfl⟩
            go_wp2
            go_roundw
            case rel => exact ⟨q + 1, by omega, by go_num, _, _, _, _, HST.out, rfl, rfl, rfl, rfl, m + nq, by rw [HW.out, World.drewN_drewN]⟩
            case measure => simp [intOf]; omega
          · have HX1 := hid hx1
            have HST : Hid (tS zs R C (p * C + (q + 1)) = (A, B, L, D)) := by
              have h1 := tS_not HT1.out (by rw [← HX.out]; exact HX1.out)
              rw [HS.out] at h1
              exact h1
            have hx2 : (x == 1) = false := by simpa using hx1
            clear hx1
            go_wp2_with fail
            go_quiet (fail)
            go_wp2
            go_roundw
            case rel => exact ⟨q + 1, by omega, by go_num, _, _, _, _, HST.out, rfl, rfl, rfl, rfl, m + nq, by rw [HW.out, World.drewN_drewN]⟩
            case measure => simp [intOf]; omega
        · have hqC : C = q := by omega
          have HT1 := hid ht1
          have HW := hid hwr
          clear ht1 hwr
          subst hqC
          go_wp2
          go_roundw
          case rel => exact ⟨p + 1, by omega, by go_num, A, B, L, D, by rw [Nat.succ_mul]; exact HT1.out, rfl, rfl, rfl, rfl, m, HW.out⟩
          case measure => simp [intOf]; omega
    · have hpR : R = p := by omega
      subst hpR
      have hA : A = (ra : Int) ∧ B = ((ra + rc - 1 : Nat) : Int) ∧ L = (rb : Int) ∧ D = ((rb + rd - 1 : Nat) : Int) := by
        have h1 := HTT.out
        rw [HN.out, ht1] at h1
        simpa only [Prod.mk.injEq] using h1
      obtain ⟨rfl, rfl, rfl, rfl⟩ := hA
      have hkk := HK.out
      have hbd := And.intro HR.out.2 HC.out.2
      have f1 : IntKind.i64.wrap (((ra + rc - 1 : Nat) : Int) - (ra : Int)) = ((ra + rc - 1 : Nat) : Int) - (ra : Int) := by rw [IntKind.wrap_i64]; omega
      have f2 : IntKind.i64.wrap (((ra + rc - 1 : Nat) : Int) - (ra : Int) + 1) = (rc : Int) := by rw [IntKind.wrap_i64]; omega
      have f3 : IntKind.i64.wrap (((rb + rd - 1 : Nat) : Int) - (rb : Int)) = ((rb + rd - 1 : Nat) : Int) - (rb : Int) := by rw [IntKind.wrap_i64]; omega
      have f4 : IntKind.i64.wrap (((rb + rd - 1 : Nat) : Int) - (rb : Int) + 1) = (rd : Int) := by rw [IntKind.wrap_i64]; omega
      have hnn : ¬ ((ra + rc - 1 : Nat) : Int) < 0 := by omega
      have HW := hid hwr
      have bel1 : Below w.heap.size w wr := by rw [hwr]; exact HB1.out.trans (FSpec.below_drewN' _ _ _)
      have HBR := hid bel1
      have HCR : Hid (wr.cell? ⟨N, 0, none⟩ = some (.int .i64 R) ∧ wr.cell? ⟨N, 1, none⟩ = some (.int .i64 C) ∧ wr.cell? ⟨N, 2, none⟩ = some (.slice (some ⟨b, off, none⟩) n cap)) := by simp only [Hid]; rw [hwr]; exact HC1.out
      have HKR : Hid (wr.heap[NT]? = some (Obj.cells #[.int .i64 0, .int .i64 0, .slice none 0 0] 26)) := by simp only [Hid]; rw [hwr]; exact HKT.out
      clear ht1 hwr bel1 hkk
      obtain ⟨U1, hU1⟩ : ∃ U, U = ((ra + rc - 1 : Nat) : Int) := ⟨_, rfl⟩
      obtain ⟨U2, hU2⟩ : ∃ U, U = ((rb + rd - 1 : Nat) : Int) := ⟨_, rfl⟩
      rw [← hU1] at f1 f2 hnn ⊢
      rw [← hU2] at f3 f4 ⊢
      clear hU1 hU2
      go_wp2_with fail
      go_at_call 89
      refine (Ct.l05Cut HCR.out.1 HCR.out.2.1 HCR.out.2.2 (HH.out.keep HBR.out (Nat.le_refl _)) HQ.out HN.out HK.out HM.out).mono ?_
      rintro e w5 ⟨b', rfl, ow, lo, bel⟩
      have kT := (bel.block NT (Array.getElem?_eq_some_iff.1 HKR.out).1).trans HKR.out
      have HNB : Hid (NT ≠ b') := Nat.ne_of_lt (Nat.lt_of_lt_of_le (Array.getElem?_eq_some_iff.1 HKR.out).1 lo)
      have HLo : Hid (w.heap.size ≤ b') := Nat.le_trans HBR.out.size lo
      have HB := hid (HBR.out.trans (bel.mono HBR.out.size))
      have HO := hid ow
      clear ow lo bel
      have y0 : w5.cell? ⟨NT, 0, none⟩ = some (.int .i64 0) := Go.Joins.cell_of_block kT 0
      have y1 : w5.cell? ⟨NT, 1, none⟩ = some (.int .i64 0) := Go.Joins.cell_of_block kT 1
      have y2 : w5.cell? ⟨NT, 2, none⟩ = some (.slice none 0 0) := Go.Joins.cell_of_block kT 2
      have g0 : w5.frozen? ⟨NT, 0, none⟩ = false := Go.Joins.unfrozen_of_block kT 0
      have g1 : w5.frozen? ⟨NT, 1, none⟩ = false := Go.Joins.unfrozen_of_block kT 1
      have g2 : w5.frozen? ⟨NT, 2, none⟩ = false := Go.Joins.unfrozen_of_block kT 2
      have HKx := hid kT
      clear kT
      go_wp2
      obtain ⟨W5, hW⟩ : ∃ W5, W5 = (((w5.setCell ⟨NT, 0, none⟩ (.int .i64 rc)).setCell ⟨NT, 1, none⟩ (.int .i64 rd)).setCell ⟨NT, 2, none⟩ (.slice (some ⟨b', 0, none⟩) mt mt)) := ⟨_, rfl⟩
      have q0 := (Go.Joins.block_setCell (i := 2) (Go.Joins.block_setCell (i := 1) (Go.Joins.block_setCell (i := 0) HKx.out (.int .i64 rc)) (.int .i64 rd)) (.slice (some ⟨b', 0, none⟩) mt mt))
      rw [← hW] at q0
      have z0 : W5.cell? ⟨NT, 0, none⟩ = some (.int .i64 rc) := Go.Joins.cell_of_block q0 0
      have z1 : W5.cell? ⟨NT, 1, none⟩ = some (.int .i64 rd) := Go.Joins.cell_of_block q0 1
      have z2 : W5.cell? ⟨NT, 2, none⟩ = some (.slice (some ⟨b', 0, none⟩) mt mt) := Go.Joins.cell_of_block q0 2
      have O5 := (own_set (own_set (own_set HO.out ⟨NT, 0, none⟩ (.int .i64 rc) HNB.out) ⟨NT, 1, none⟩ (.int .i64 rd) HNB.out) ⟨NT, 2, none⟩ (.slice (some ⟨b', 0, none⟩) mt mt) HNB.out)
      rw [← hW] at O5
      have B5 : Below w.heap.size w W5 := by
        have h1 := HNT.out
        rw [hW]
        exact ((HB.out.setCell (by simp; omega) _).setCell (by simp; omega) _).setCell (by simp; omega) _
      simp only [← hW]
      clear hW q0
      simp [bodyPost, results, Try.results57, go_sem, z0, z1, z2]
      exact ⟨O5, HLo.out, B5⟩

end Go.Proofs.Ytmbimekndhcgaaa.Tr
