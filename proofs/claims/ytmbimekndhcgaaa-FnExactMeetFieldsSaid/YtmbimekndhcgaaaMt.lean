/- Two patterns in one field; the closure that lays a pattern. -/
import Derived.Test.YtmbimekndhcgaaaFPst
import Derived.Test.YtmbimekndhcgaaaCan
import Derived.Test.YtmbimekndhcgaaaLf
namespace Go.Proofs.Ytmbimekndhcgaaa.Mt
open Go.RowKit Go.Proofs.Ytmbimekndhcgaaa.Rd Go.Proofs.Ytmbimekndhcgaaa.Help Go.Proofs.Ytmbimekndhcgaaa.Ring Go.Proofs.Ytmbimekndhcgaaa.Small Go.Proofs.Ytmbimekndhcgaaa.FVal Go.Proofs.Ytmbimekndhcgaaa.Keep Go.Proofs.Ytmbimekndhcgaaa.Rule Go.Proofs.Ytmbimekndhcgaaa.Grow Go.Proofs.Ytmbimekndhcgaaa.Copy Go.Proofs.Ytmbimekndhcgaaa.FCut Go.Proofs.Ytmbimekndhcgaaa.FPst Go.Proofs.Ytmbimekndhcgaaa.Lf
set_option linter.unusedVariables false
set_option linter.unusedSimpArgs false

/-- A cell that is 1 in one of both. -/
def cmb (x y : Int) : Int := if y = 1 then 1 else x
/-- The cells of a pattern, with those on which it is laid. -/
def laidL (zs ps : List Int) (C P Q ra rb : Nat) : List Int := grid P Q fun i k => cmb (zs.getD ((ra + i) * C + (rb + k)) 0) (ps.getD (i * Q + k) 0)
/-- The field on which a pattern is laid. -/
def lay (zs ps : List Int) (R C P Q ra rb : Nat) : List Int := pasteL zs (laidL zs ps C P Q ra rb) R C P Q ra rb
theorem pst_here (zs ps : List Int) (C Q ra rb p q : Nat) : pst zs ps C Q ra rb p q (ra + p) (rb + q) = zs.getD ((ra + p) * C + (rb + q)) 0 := by
  rw [pst, if_neg (by omega)]
theorem cmb_bd {x y : Int} (h : 0 ≤ x ∧ x ≤ 1) : 0 ≤ cmb x y ∧ cmb x y ≤ 1 := by unfold cmb; split <;> omega
theorem laid_plain {zs : List Int} (h : plainB zs = true) (ps : List Int) (C P Q ra rb : Nat) : plainB (laidL zs ps C P Q ra rb) = true := by
  unfold plainB laidL grid
  rw [List.all_map, List.all_eq_true]
  intro t _
  exact decide_eq_true (cmb_bd (plain_bd h _))
theorem lay_plain {zs : List Int} (h : plainB zs = true) (ps : List Int) (R C P Q ra rb : Nat) : plainB (lay zs ps R C P Q ra rb) = true := by
  unfold lay pasteL
  have h2 := laid_plain h ps C P Q ra rb
  unfold plainB grid
  rw [List.all_map, List.all_eq_true]
  intro t _
  have : 0 ≤ pst zs (laidL zs ps C P Q ra rb) C Q ra rb P 0 (t / C) (t % C) ∧ pst zs (laidL zs ps C P Q ra rb) C Q ra rb P 0 (t / C) (t % C) ≤ 1 := by
    unfold pst
    split
    · exact plain_bd h2 _
    · exact plain_bd h _
  exact decide_eq_true this
theorem lay_len (zs ps : List Int) (R C P Q ra rb : Nat) : (lay zs ps R C P Q ra rb).length = R * C := by unfold lay pasteL; rw [grid_len]
theorem rep_plain (n : Nat) : plainB (List.replicate n 0) = true := by
  unfold plainB
  rw [List.all_eq_true]
  intro x hx
  rw [List.eq_of_mem_replicate hx]
  decide
theorem lay_zero {ps : List Int} {R C P Q n ra rb : Nat} (hl : ps.length = P * Q) (hp : plainB ps = true) : lay (List.replicate n 0) ps R C P Q ra rb = pasteL (List.replicate n 0) ps R C P Q ra rb := by
  have e : laidL (List.replicate n 0) ps C P Q ra rb = ps := by
    refine (at_grid hl fun i k hi hk => ?_).symm
    rw [zeros_get]
    have := plain_bd hp (i * Q + k)
    unfold cmb
    split <;> omega
  unfold lay
  rw [e]
theorem pst_keep {zs ps ys : List Int} {R C Q ra rb p q : Nat} (h : AtG ys R C (pst zs ps C Q ra rb p q)) (hp : ra + p < R) (hq : rb + q < C) (hQ : q < Q) (he : ps.getD (p * Q + q) 0 = zs.getD ((ra + p) * C + (rb + q)) 0) :
    AtG ys R C (pst zs ps C Q ra rb p (q + 1)) := by
  have h1 := pst_set h hp hq hQ
  have hb := pos_bd hp hq
  have h2 := h.2 _ _ hp hq
  rw [pst_here] at h2
  rw [he, ← h2] at h1
  have e : ys.set ((ra + p) * C + (rb + q)) (ys.getD ((ra + p) * C + (rb + q)) 0) = ys := by
    refine List.ext_getElem (by simp) fun i h1 h2 => ?_
    rw [List.getElem_set]
    split
    · rename_i e
      subst e
      rw [List.getD_eq_getElem?_getD, List.getElem?_eq_getElem h2]; rfl
    · rfl
  rwa [e] at h1

set_option maxRecDepth 4000 in
set_option maxHeartbeats 16000000 in
theorem layC {w : World} {NB R C n P Q m ra rb b' b2 : Nat} {v2 : Value} {zs ps : List Int} (kB : w.heap[NB]? = some (Obj.cells #[.int .i64 R, .int .i64 C, .slice (some ⟨b', 0, none⟩) n n] 26)) (ow : Own 2 w b' (.slice (some ⟨b', 0, none⟩) n n) zs) (hz : plainB zs = true) (hzl : zs.length = n) (hn : n = R * C) (hR : 1 ≤ R ∧ R ≤ 24) (hC : 1 ≤ C ∧ C ≤ 24) (hb : NB ≠ b') (h2 : Rd w b2 v2 ps) (hp : fieldB P Q ps = true) (hpp : plainB ps = true) (hm : m = P * Q) (hne : b2 ≠ b') (hk : ra + P ≤ R ∧ rb + Q ≤ C) :
    Calls Try.prog 61 #[ruleV P Q v2, .int .i64 ra, .int .i64 rb, .pointer (some ⟨NB, 0, none⟩)] w fun e w' => (∃ x, e = .returned x) ∧ Own 2 w' b' (.slice (some ⟨b', 0, none⟩) n n) (lay zs ps R C P Q ra rb) ∧ w.grownBy w' (some b') := by
  obtain ⟨hP, hQ, hl2, hle2⟩ := field_nat hp
  have HH := hid h2
  obtain ⟨ao2, cap2, rfl, hc2, hm2, h42⟩ := h2
  have hpos2 : 0 < ps.length := by rw [hl2]; exact Nat.mul_pos hP.1 hQ.1
  obtain ⟨off2, rfl, hb2, hcell2⟩ := h42 hpos2
  have hln2 : ps.length = m := by rw [hm]; exact hl2
  rw [hln2] at HH hc2 hcell2 ⊢
  have hsz2 : m ≤ cap2 ∧ cap2 ≤ 9223372036854775807 := by unfold maxLen at hm2; omega
  have HN := hid hn
  have HMN := hid hm
  have HR := hid hR
  have HC := hid hC
  have HPb := hid hP
  have HQb := hid hQ
  have HK := hid hk
  have HPZ := hid hz
  have HPP := hid hpp
  have HZL := hid hzl
  have HLE : Hid (n ≤ 576) := by simp only [Hid]; rw [hn]; exact Nat.le_trans (Nat.mul_le_mul hR.2 hC.2) (by decide)
  have HLE2 : Hid (m ≤ 576) := by simp only [Hid]; rw [hm]; exact hle2
  have HCap2 := hid (show m ≤ cap2 ∧ cap2 ≤ maxLen from ⟨hc2, hm2⟩)
  have HNe : Hid (NB ≠ b' ∧ b2 ≠ b') := ⟨hb, hne⟩
  have HKB0 := hid kB
  have HO0 := hid ow
  have hB4 : P ≤ 24 ∧ Q ≤ 24 ∧ R ≤ 24 ∧ C ≤ 24 := by omega
  have HCell2 := hid hcell2
  have HB2 := hid hb2
  clear hc2 hm2 h42 hp hpp hn hm hl2 hle2 hpos2 hb2 hcell2 hln2 hR hC hP hQ hk hz hzl hb hne kB ow
  go_enter Try.func61, Try.ntmps61
  go_wp2
  obtain ⟨w1, hW⟩ : ∃ w1, w1 = w.alloc (Obj.cells #[.int .i64 P, .int .i64 Q, .slice (some ⟨b2, off2, none⟩) m cap2] 26) := ⟨_, rfl⟩
  obtain ⟨NP, hM⟩ : ∃ NP, NP = w.heap.size := ⟨_, rfl⟩
  have HB1 : Hid (Below w.heap.size w w1) := by simp only [Hid]; rw [hW]; exact below1 _ _
  have HKP : Hid (w1.heap[NP]? = some (Obj.cells #[.int .i64 P, .int .i64 Q, .slice (some ⟨b2, off2, none⟩) m cap2] 26)) := by simp only [Hid]; rw [hW]; exact FNew.heap_top hM
  have HKB : Hid (w1.heap[NB]? = some (Obj.cells #[.int .i64 R, .int .i64 C, .slice (some ⟨b', 0, none⟩) n n] 26)) := by simp only [Hid]; rw [hW]; exact FNew.heap_old HKB0.out
  have HO1 : Hid (Own 2 w1 b' (.slice (some ⟨b', 0, none⟩) n n) zs) := HO0.out.keep HB1.out
  have HPb' : Hid (NP ≠ b') := by simp only [Hid]; rw [hM]; exact Nat.ne_of_gt HO0.out.lt
  have HCLX : Hid (∀ i, i < m → w1.cell? ⟨b2, off2 + i, none⟩ = some (.int .i64 (ps.getD i 0))) := fun i hi => (HB1.out.cell (p := ⟨b2, off2 + i, none⟩) HB2.out).trans (HCell2.out i hi)
  simp only [← hW, ← hM]
  clear hW hM
  go_loopw [7, 13] (fun i0 i wr => ∃ p : Nat, p ≤ P ∧ i = .int .i64 p ∧ ∃ ys, AtG ys R C (pst zs (laidL zs ps C P Q ra rb) C Q ra rb p 0) ∧ Own 2 wr b' (.slice (some ⟨b', 0, none⟩) n n) ys ∧ w1.grownBy wr (some b')) (fun _ i _ => P - (intOf i).toNat)
  case atStart => exact ⟨0, Nat.zero_le _, rfl, zs, pst_start (by rw [HZL.out, HN.out]), HO1.out, g_refl _ _⟩
  case round =>
    obtain ⟨p, hp, rfl, ys, hat, hown, hg⟩ := hrel
    by_cases hlt : p < P
    · have d0 : wr.cell? ⟨NB, 0, none⟩ = some (.int .i64 R) := Go.Joins.cell_of_block (g_heap hg HKB.out HNe.out.1) 0
      have d1 : wr.cell? ⟨NB, 1, none⟩ = some (.int .i64 C) := Go.Joins.cell_of_block (g_heap hg HKB.out HNe.out.1) 1
      have d2 : wr.cell? ⟨NB, 2, none⟩ = some (.slice (some ⟨b', 0, none⟩) n n) := Go.Joins.cell_of_block (g_heap hg HKB.out HNe.out.1) 2
      obtain ⟨P1, hP1⟩ : ∃ P1, P1 = (ra + p) * C := ⟨_, rfl⟩
      obtain ⟨P2, hP2⟩ : ∃ P2, P2 = p * Q := ⟨_, rfl⟩
      have e0 : IntKind.i64.wrap ((ra : Int) + (p : Int)) = ((ra + p : Nat) : Int) := by have := HK.out; rw [IntKind.wrap_i64]; omega
      have s1 : rb ≤ C := by have := HK.out; omega
      have s2 : ¬ C = rb := by have := HK.out; have := HQb.out; omega
      have hpi : (p : Int) < (P : Int) := by omega
      have HP1 := hid hP1
      have HP2 := hid hP2
      have HAT := hid hat
      have HOa := hid hown
      have HGa := hid hg
      clear hP1 hP2 hat hown hg
      go_wp2_with fail
      go_at_call 62
      refine (rowOf0 (row := ra + p) HP1.out HN.out HLE.out (by have := HK.out; omega) HR.out.2 HC.out (Nat.le_refl _) (by have := HLE.out; unfold maxLen; omega)).mono ?_
      rintro e wa ⟨rfl, bel⟩
      have HOb := hid (HOa.out.keep bel)
      have HGb := hid (g_bel HGa.out bel)
      clear bel d0 d1 d2 HOa HGa e0
      have m0 : wa.cell? ⟨NP, 0, none⟩ = some (.int .i64 P) := Go.Joins.cell_of_block (g_heap HGb.out HKP.out HPb'.out) 0
      have m1 : wa.cell? ⟨NP, 1, none⟩ = some (.int .i64 Q) := Go.Joins.cell_of_block (g_heap HGb.out HKP.out HPb'.out) 1
      have m2 : wa.cell? ⟨NP, 2, none⟩ = some (.slice (some ⟨b2, off2, none⟩) m cap2) := Go.Joins.cell_of_block (g_heap HGb.out HKP.out HPb'.out) 2
      go_wp2_with fail
      go_at_call 62
      refine (rowOfP HP2.out HMN.out HLE2.out hlt HPb.out.2 HQb.out HCap2.out.1 HCap2.out.2).mono ?_
      rintro e wb ⟨rfl, bel⟩
      have HOc := hid (HOb.out.keep bel)
      have HGc := hid (g_bel HGb.out bel)
      clear bel m0 m1 m2 HOb HGb
      go_wp2
      go_loopw [27] (fun k wx => ∃ q : Nat, q ≤ Q ∧ k = .int .i64 q ∧ ∃ ys, AtG ys R C (pst zs (laidL zs ps C P Q ra rb) C Q ra rb p q) ∧ Own 2 wx b' (.slice (some ⟨b', 0, none⟩) n n) ys ∧ w1.grownBy wx (some b')) (fun k _ => Q - (intOf k).toNat)
      case atStart => exact ⟨0, Nat.zero_le _, rfl, ys, HAT.out, HOc.out, HGc.out⟩
      case round =>
        clear HAT HOc HGc
        obtain ⟨q, hq2, rfl, ys, hat, hown, hg⟩ := hrel
        by_cases hlt2 : q < Q
        · have HT : Hid (P1 + rb + q = (ra + p) * C + (rb + q)) := by have := HP1.out; simp only [Hid]; omega
          have HTn : Hid (P1 + rb + q < n) := by simp only [Hid]; rw [HT.out, HN.out]; exact pos_bd (by have := HK.out; omega) (by have := HK.out; omega)
          have HSn : Hid (P2 + q < m) := by simp only [Hid]; rw [HP2.out, HMN.out]; exact pos_bd hlt hlt2
          obtain ⟨x, hx⟩ : ∃ x, x = ys.getD (P1 + rb + q) 0 := ⟨_, rfl⟩
          obtain ⟨y, hy⟩ : ∃ y, y = ps.getD (P2 + q) 0 := ⟨_, rfl⟩
          have hxz : x = zs.getD (P1 + rb + q) 0 := by
            rw [hx, HT.out, hat.2 _ _ (by have := HK.out; omega) (by have := HK.out; omega), pst_here]
          have hxb := plain_bd HPZ.out (P1 + rb + q)
          have hyb := plain_bd HPP.out (P2 + q)
          rw [← hxz] at hxb
          rw [← hy] at hyb
          have HST0 : Hid (AtG (ys.set (P1 + rb + q) (cmb x y)) R C (pst zs (laidL zs ps C P Q ra rb) C Q ra rb p (q + 1))) := by
            have h1 := pst_set hat (by have := HK.out; omega) (by have := HK.out; omega) hlt2
            have h2 : (laidL zs ps C P Q ra rb).getD (p * Q + q) 0 = cmb x y := by
              unfold laidL
              rw [grid_get _ hlt hlt2, ← HT.out, ← HP2.out, ← hxz, ← hy]
            rw [h2, ← HT.out] at h1
            exact h1
          have hof := hown.free (P1 + rb + q)
          have HOC : Hid (wr.cell? ⟨b', P1 + rb + q, none⟩ = some (.int .i64 x)) := by simp only [Hid]; rw [hx]; exact hown.cell (by rw [hat.1, ← HN.out]; exact HTn.out)
          have HYC : Hid (wr.cell? ⟨b2, off2 + P2 + q, none⟩ = some (.int .i64 y)) := by simp only [Hid]; rw [hy, Nat.add_assoc]; exact g_cell hg (HCLX.out (P2 + q) HSn.out) HNe.out.2
          have HO2 := hid hown
          have HG2 := hid hg
          have hqi : (q : Int) < (Q : Int) := by omega
          have hqc : (q : Int) < (C : Int) - (rb : Int) := by have := HK.out; omega
          have hcx0 := True.intro
          have hcy0 := True.intro
          clear hown hg hat hx hy hxz
          rcases (show x = 0 ∨ x = 1 by omega) with hxv | hxv <;> rcases (show y = 0 ∨ y = 1 by omega) with hyv | hyv <;> clear hxb hyb <;> (have HXV := hid hxv) <;> (have HYV := hid hyv) <;> clear hxv hyv
          · clear hcx0 hcy0
            have hcx : wr.cell? ⟨b', P1 + rb + q, none⟩ = some (.int .i64 0) := by rw [← HXV.out]; exact HOC.out
            have hcy : wr.cell? ⟨b2, off2 + P2 + q, none⟩ = some (.int .i64 0) := by rw [← HYV.out]; exact HYC.out
            have HSt : Hid (AtG (ys.set (P1 + rb + q) 0) R C (pst zs (laidL zs ps C P Q ra rb) C Q ra rb p (q + 1))) := by
              have h1 := HST0.out
              rw [HXV.out, HYV.out] at h1
              exact h1
            clear HST0
            go_wp2
            go_roundw
            case rel => exact ⟨q + 1, by omega, by go_num, _, HSt.out, HO2.out.set (P1 + rb + q) 0, g_set HG2.out (P1 + rb + q) _⟩
            case measure => simp [intOf]; omega
          · clear hcx0 hcy0
            have hcx : wr.cell? ⟨b', P1 + rb + q, none⟩ = some (.int .i64 0) := by rw [← HXV.out]; exact HOC.out
            have hcy : wr.cell? ⟨b2, off2 + P2 + q, none⟩ = some (.int .i64 1) := by rw [← HYV.out]; exact HYC.out
            have HSt : Hid (AtG (ys.set (P1 + rb + q) 1) R C (pst zs (laidL zs ps C P Q ra rb) C Q ra rb p (q + 1))) := by
              have h1 := HST0.out
              rw [HXV.out, HYV.out] at h1
              exact h1
            clear HST0
            go_wp2
            go_roundw
            case rel => exact ⟨q + 1, by omega, by go_num, _, HSt.out, HO2.out.set (P1 + rb + q) 1, g_set HG2.out (P1 + rb + q) _⟩
            case measure => simp [intOf]; omega
          · clear hcx0 hcy0
            have hcx : wr.cell? ⟨b', P1 + rb + q, none⟩ = some (.int .i64 1) := by rw [← HXV.out]; exact HOC.out
            have hcy : wr.cell? ⟨b2, off2 + P2 + q, none⟩ = some (.int .i64 0) := by rw [← HYV.out]; exact HYC.out
            have HSt : Hid (AtG (ys.set (P1 + rb + q) 1) R C (pst zs (laidL zs ps C P Q ra rb) C Q ra rb p (q + 1))) := by
              have h1 := HST0.out
              rw [HXV.out, HYV.out] at h1
              exact h1
            clear HST0
            go_wp2
            go_roundw
            case rel => exact ⟨q + 1, by omega, by go_num, _, HSt.out, HO2.out.set (P1 + rb + q) 1, g_set HG2.out (P1 + rb + q) _⟩
            case measure => simp [intOf]; omega
          · clear hcx0 hcy0
            have hcx : wr.cell? ⟨b', P1 + rb + q, none⟩ = some (.int .i64 1) := by rw [← HXV.out]; exact HOC.out
            have hcy : wr.cell? ⟨b2, off2 + P2 + q, none⟩ = some (.int .i64 1) := by rw [← HYV.out]; exact HYC.out
            have HSt : Hid (AtG (ys.set (P1 + rb + q) 1) R C (pst zs (laidL zs ps C P Q ra rb) C Q ra rb p (q + 1))) := by
              have h1 := HST0.out
              rw [HXV.out, HYV.out] at h1
              exact h1
            clear HST0
            go_wp2
            go_roundw
            case rel => exact ⟨q + 1, by omega, by go_num, _, HSt.out, HO2.out.set (P1 + rb + q) 1, g_set HG2.out (P1 + rb + q) _⟩
            case measure => simp [intOf]; omega
        · have hqR : Q = q := by omega
          have HO2 := hid hown
          have HG2 := hid hg
          have HAT2 := hid hat
          clear hown hg hat
          subst hqR
          go_wp2
          go_roundw
          case rel => exact ⟨p + 1, by omega, by go_num, _, pst_row HAT2.out, HO2.out, HG2.out⟩
          case measure => simp [intOf]; omega
    · have hpC : P = p := by omega
      subst hpC
      rw [pst_end hat] at hown
      have HOe := hid hown
      have HGe := hid hg
      clear hat hown hg
      go_wp2
      go_end0
      exact ⟨⟨_, rfl⟩, HOe.out, (⟨(HB1.out).os, HB1.out.tape, HB1.out.output, HB1.out.size, fun k hk _ => HB1.out.block k hk⟩ : w.grownBy w1 (some b')) |> fun g => gTr g HGe.out⟩

end Go.Proofs.Ytmbimekndhcgaaa.Mt
