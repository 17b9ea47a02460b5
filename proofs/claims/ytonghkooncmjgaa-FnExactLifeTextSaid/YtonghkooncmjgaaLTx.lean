/- LifeText of both sides. -/
import Derived.Test.YtonghkooncmjgaaDgt
import Derived.Test.YtonghkooncmjgaaRTx
import Derived.Test.YtonghkooncmjgaaLVal
import Derived.Test.YtonghkooncmjgaaLife
namespace Go.Proofs.Ytonghkooncmjgaa.LTx
open Go.RowKit Go.Proofs.Ytonghkooncmjgaa.Rd Go.Proofs.Ytonghkooncmjgaa.Help Go.Proofs.Ytonghkooncmjgaa.Small Go.Proofs.Ytonghkooncmjgaa.Keep Go.Proofs.Ytonghkooncmjgaa.Dgt
set_option linter.unusedVariables false
set_option linter.unusedSimpArgs false

theorem life9 {zs : List Int} (h : LVal.neighB zs = true) : D9 zs ∧ zs.length ≤ 1048576 := by
  have hk : ∀ i, i < zs.length → LVal.okN zs i = true := fun i hi => List.all_eq_true.1 h i (List.mem_range.2 hi)
  have ha : ∀ i, i < zs.length → 0 ≤ zs.getD i 0 ∧ zs.getD i 0 ≤ 8 := fun i hi => by
    have := hk i hi
    simp only [LVal.okN, Bool.and_eq_true, decide_eq_true_eq] at this
    exact this.1
  have hb : ∀ i, i < zs.length → (i : Int) ≤ zs.getD i 0 := by
    intro i
    induction i with
    | zero => intro hi; exact (ha 0 hi).1
    | succ i ih =>
      intro hi
      have h1 := ih (by omega)
      have := hk (i + 1) hi
      simp only [LVal.okN, Bool.and_eq_true, Bool.or_eq_true, decide_eq_true_eq] at this
      have h2 := this.2
      rw [Nat.add_sub_cancel] at h2
      omega
  refine ⟨fun i hi => ?_, ?_⟩
  · have := ha i hi; omega
  · by_cases h0 : zs.length ≤ 9
    · omega
    · have h1 := hb 9 (by omega); have h2 := ha 9 (by omega); omega
/-- The text of a life. -/
def ltx (xs ys : List Int) : ByteArray := ((⟨#[66]⟩ ++ ⟨(dgL xs).toArray⟩) ++ ⟨#[47, 83]⟩) ++ ⟨(dgL ys).toArray⟩
def val (xs ys : List Int) : ByteArray := if LVal.lifeB xs ys = true then ltx xs ys else ⟨#[]⟩
theorem nxt {w ww w' : World} {NA : Nat} {u1 u2 : Value} (bel : Below ww.heap.size ww w') (h : Below w.heap.size w ww ∧ ww.cell? ⟨NA, 0, none⟩ = some u1 ∧ ww.cell? ⟨NA, 1, none⟩ = some u2 ∧ w.heap.size ≤ ww.heap.size) : Below w.heap.size w w' ∧ w'.cell? ⟨NA, 0, none⟩ = some u1 ∧ w'.cell? ⟨NA, 1, none⟩ = some u2 ∧ w.heap.size ≤ w'.heap.size :=
  ⟨h.1.trans (bel.mono h.2.2.2), cell_keep bel h.2.1, cell_keep bel h.2.2.1, Nat.le_trans h.2.2.2 bel.size⟩
set_option maxHeartbeats 4000000 in
theorem l08Life {w : World} {NA b1 b2 : Nat} {ao1 ao2 : Option Addr} {cap1 cap2 : Nat} {xs ys : List Int} (h1 : Rd w b1 (.slice ao1 xs.length cap1) xs) (h2 : Rd w b2 (.slice ao2 ys.length cap2) ys) (c0 : w.cell? ⟨NA, 0, none⟩ = some (.slice ao1 xs.length cap1)) (c1 : w.cell? ⟨NA, 1, none⟩ = some (.slice ao2 ys.length cap2)) (hq : LVal.lifeB xs ys = true) :
    Calls Try.prog 92 #[.pointer (some ⟨NA, 0, none⟩)] w fun e w' => e = .returned (.string (ltx xs ys)) ∧ Below w.heap.size w w' := by
  have HH1 := hid h1
  have HH2 := hid h2
  have H9 : Hid ((D9 xs ∧ xs.length ≤ 1048576) ∧ (D9 ys ∧ ys.length ≤ 1048576)) := by
    have hq2 := hq
    simp only [LVal.lifeB, Bool.and_eq_true] at hq2
    exact ⟨life9 hq2.1, life9 hq2.2⟩
  obtain ⟨DX, hDX⟩ : ∃ D : ByteArray, (⟨(dgL xs).toArray⟩ : ByteArray) = D := ⟨_, rfl⟩
  obtain ⟨DY, hDY⟩ : ∃ D : ByteArray, (⟨(dgL ys).toArray⟩ : ByteArray) = D := ⟨_, rfl⟩
  have hsx : DX.size ≤ 1048576 := by rw [← hDX]; show (dgL xs).length ≤ _; rw [dgL_len]; exact H9.out.1.2
  have hsy : DY.size ≤ 1048576 := by rw [← hDY]; show (dgL ys).length ≤ _; rw [dgL_len]; exact H9.out.2.2
  have hc1 : ¬ 9223372036854775807 < 1 + DX.size := by omega
  have hc2 : ¬ 9223372036854775807 < 1 + DX.size + 2 := by omega
  have hc3 : ¬ 9223372036854775807 < 1 + DX.size + 2 + DY.size := by omega
  have HD1 := hid hDX
  have HD2 := hid hDY
  have HL : Hid (ltx xs ys = ((⟨#[66]⟩ ++ DX) ++ ⟨#[47, 83]⟩) ++ DY) := by simp only [Hid, ltx, hDX, hDY]
  clear hDX hDY hsx hsy
  rw [HL.out]
  have st : Below w.heap.size w w ∧ w.cell? ⟨NA, 0, none⟩ = some (.slice ao1 xs.length cap1) ∧ w.cell? ⟨NA, 1, none⟩ = some (.slice ao2 ys.length cap2) ∧ w.heap.size ≤ w.heap.size := ⟨Below.refl _ _, c0, c1, Nat.le_refl _⟩
  clear h1 h2 hq
  go_enter Try.func92, Try.ntmps92
  go_wp2_with fail
  refine wp_region_held_drew (S := (fun ww => Below w.heap.size w ww ∧ ww.cell? ⟨NA, 0, none⟩ = some (.slice ao1 xs.length cap1) ∧ ww.cell? ⟨NA, 1, none⟩ = some (.slice ao2 ys.length cap2) ∧ w.heap.size ≤ ww.heap.size)) (by kernel_rfl) ?_ (fun hHeld => ?_)
  · ((try dsimp only); exact ⟨st.1.drew, st.2.1, st.2.2.1, st.2.2.2⟩)
  clear st
  (refine wpAnyH_take (i := 0) (v := ?_) rfl ?_ ?_ ?_ (fun _ _ _ h => h) (Or.inl ⟨?_, ?_⟩) ?_ ?_; rotate_left 1; (focus decide +kernel); (focus decide +kernel); (focus decide +kernel); (focus rfl); (focus (intro w hSw; (try dsimp only at hSw); go_simp; (try (with_reducible rfl)); done)); (focus assumption); (try simp only [Act.put, List.setIfInBounds_toArray, List.set_cons_zero, List.set_cons_succ, List.getElem_toArray, List.getElem_cons_succ, List.getElem_cons_zero]))
  (refine wpAnyH_take (i := 1) (v := ?_) rfl ?_ ?_ ?_ (fun _ _ _ h => h) (Or.inl ⟨?_, ?_⟩) ?_ ?_; rotate_left 1; (focus decide +kernel); (focus decide +kernel); (focus decide +kernel); (focus rfl); (focus (intro w hSw; (try dsimp only at hSw); go_simp; (try (with_reducible rfl)); done)); (focus assumption); (try simp only [Act.put, List.setIfInBounds_toArray, List.set_cons_zero, List.set_cons_succ, List.getElem_toArray, List.getElem_cons_succ, List.getElem_cons_zero]))
  (refine wpAnyH_take (i := 2) (v := ?_) rfl ?_ ?_ ?_ (fun _ _ _ h => h) (Or.inl ⟨?_, ?_⟩) ?_ ?_; rotate_left 1; (focus decide +kernel); (focus decide +kernel); (focus decide +kernel); (focus rfl); (focus (intro w hSw; (try dsimp only at hSw); go_simp; (try (with_reducible rfl)); done)); (focus assumption); (try simp only [Act.put, List.setIfInBounds_toArray, List.set_cons_zero, List.set_cons_succ, List.getElem_toArray, List.getElem_cons_succ, List.getElem_cons_zero]))
  (refine wpAnyH_take (i := 3) (v := ?_) rfl ?_ ?_ ?_ (fun _ _ _ h => h) (Or.inl ⟨?_, ?_⟩) ?_ ?_; rotate_left 1; (focus decide +kernel); (focus decide +kernel); (focus decide +kernel); (focus rfl); (focus (intro w hSw; (try dsimp only at hSw); go_simp; (try (with_reducible rfl)); done)); (focus assumption); (try simp only [Act.put, List.setIfInBounds_toArray, List.set_cons_zero, List.set_cons_succ, List.getElem_toArray, List.getElem_cons_succ, List.getElem_cons_zero]))
  (refine wpAnyH_take (i := 7) (v := ?_) rfl ?_ ?_ ?_ (fun _ _ _ h => h) (Or.inl ⟨?_, ?_⟩) ?_ ?_; rotate_left 1; (focus decide +kernel); (focus decide +kernel); (focus decide +kernel); (focus rfl); (focus (intro w hSw; (try dsimp only at hSw); go_simp; (try (with_reducible rfl)); done)); (focus assumption); (try simp only [Act.put, List.setIfInBounds_toArray, List.set_cons_zero, List.set_cons_succ, List.getElem_toArray, List.getElem_cons_succ, List.getElem_cons_zero]))
  (refine wpAnyH_take (i := 8) (v := ?_) rfl ?_ ?_ ?_ (fun _ _ _ h => h) (Or.inl ⟨?_, ?_⟩) ?_ ?_; rotate_left 1; (focus decide +kernel); (focus decide +kernel); (focus decide +kernel); (focus rfl); (focus (intro w hSw; (try dsimp only at hSw); go_simp; (try (with_reducible rfl)); done)); (focus assumption); (try simp only [Act.put, List.setIfInBounds_toArray, List.set_cons_zero, List.set_cons_succ, List.getElem_toArray, List.getElem_cons_succ, List.getElem_cons_zero]))
  (refine wpAnyH_take (i := 9) (v := ?_) rfl ?_ ?_ ?_ (fun _ _ _ h => h) (Or.inl ⟨?_, ?_⟩) ?_ ?_; rotate_left 1; (focus decide +kernel); (focus decide +kernel); (focus decide +kernel); (focus rfl); (focus (intro w hSw; (try dsimp only at hSw); go_simp; (try (with_reducible rfl)); done)); (focus assumption); (try simp only [Act.put, List.setIfInBounds_toArray, List.set_cons_zero, List.set_cons_succ, List.getElem_toArray, List.getElem_cons_succ, List.getElem_cons_zero]))
  (refine wpAnyH_take (i := 10) (v := ?_) rfl ?_ ?_ ?_ (fun _ _ _ h => h) (Or.inl ⟨?_, ?_⟩) ?_ ?_; rotate_left 1; (focus decide +kernel); (focus decide +kernel); (focus decide +kernel); (focus rfl); (focus (intro w hSw; (try dsimp only at hSw); go_simp; (try (with_reducible rfl)); done)); (focus assumption); (try simp only [Act.put, List.setIfInBounds_toArray, List.set_cons_zero, List.set_cons_succ, List.getElem_toArray, List.getElem_cons_succ, List.getElem_cons_zero]))
  refine wpAnyH_ready (rs := [4]) ?_ (by simp) ?_
  · decide +kernel
  refine AllReadyH.cons rfl (fun K hK => ?_) AllReadyH.nil
  go_simp
  go_at_call 89
  refine (Dgt.spec (HH1.out.keep hHeld.1 (Nat.le_refl _)) H9.out.1.1 H9.out.1.2).mono ?_
  rw [HD1.out]
  rintro e w5 ⟨rfl, bel⟩
  refine hK.out _ _ ?_ (fun hHeld => ?_)
  · (try dsimp only); exact nxt bel hHeld
  clear hK K
  (try simp only [Act.put, List.setIfInBounds_toArray, List.set_cons_zero, List.set_cons_succ, List.getElem_toArray, List.getElem_cons_succ, List.getElem_cons_zero])
  (refine wpAnyH_take (i := 5) (v := ?_) rfl ?_ ?_ ?_ (fun _ _ _ h => h) (Or.inl ⟨?_, ?_⟩) ?_ ?_; rotate_left 1; (focus decide +kernel); (focus decide +kernel); (focus decide +kernel); (focus rfl); (focus (intro w hSw; (try dsimp only at hSw); go_simp; (try (with_reducible rfl)); done)); (focus assumption); (try simp only [Act.put, List.setIfInBounds_toArray, List.set_cons_zero, List.set_cons_succ, List.getElem_toArray, List.getElem_cons_succ, List.getElem_cons_zero]))
  (refine wpAnyH_take (i := 6) (v := ?_) rfl ?_ ?_ ?_ (fun _ _ _ h => h) (Or.inl ⟨?_, ?_⟩) ?_ ?_; rotate_left 1; (focus decide +kernel); (focus decide +kernel); (focus decide +kernel); (focus rfl); (focus (intro w hSw; (try dsimp only at hSw); go_simp; (try (with_reducible rfl)); done)); (focus assumption); (try simp only [Act.put, List.setIfInBounds_toArray, List.set_cons_zero, List.set_cons_succ, List.getElem_toArray, List.getElem_cons_succ, List.getElem_cons_zero]))
  refine wpAnyH_ready (rs := [11]) ?_ (by simp) ?_
  · decide +kernel
  refine AllReadyH.cons rfl (fun K hK => ?_) AllReadyH.nil
  go_simp
  go_at_call 89
  refine (Dgt.spec (HH2.out.keep hHeld.1 (Nat.le_refl _)) H9.out.2.1 H9.out.2.2).mono ?_
  rw [HD2.out]
  rintro e w6 ⟨rfl, bel⟩
  refine hK.out _ _ ?_ (fun hHeld => ?_)
  · (try dsimp only); exact nxt bel hHeld
  clear hK K
  (try simp only [Act.put, List.setIfInBounds_toArray, List.set_cons_zero, List.set_cons_succ, List.getElem_toArray, List.getElem_cons_succ, List.getElem_cons_zero])
  (refine wpAnyH_take (i := 12) (v := ?_) rfl ?_ ?_ ?_ (fun _ _ _ h => h) (Or.inl ⟨?_, ?_⟩) ?_ ?_; rotate_left 1; (focus decide +kernel); (focus decide +kernel); (focus decide +kernel); (focus rfl); (focus (intro w hSw; (try dsimp only at hSw); go_simp; (try (with_reducible rfl)); done)); (focus assumption); (try simp only [Act.put, List.setIfInBounds_toArray, List.set_cons_zero, List.set_cons_succ, List.getElem_toArray, List.getElem_cons_succ, List.getElem_cons_zero]))
  (refine wpAnyH_take (i := 13) (v := ?_) rfl ?_ ?_ ?_ (fun _ _ _ h => h) (Or.inl ⟨?_, ?_⟩) ?_ ?_; rotate_left 1; (focus decide +kernel); (focus decide +kernel); (focus decide +kernel); (focus rfl); (focus (intro w hSw; (try dsimp only at hSw); go_simp; (try (with_reducible rfl)); done)); (focus assumption); (try simp only [Act.put, List.setIfInBounds_toArray, List.set_cons_zero, List.set_cons_succ, List.getElem_toArray, List.getElem_cons_succ, List.getElem_cons_zero]))
  refine wpAnyH_done (by kernel_rfl) ?_ _
  have HF := hid hHeld.1
  clear hHeld
  go_wp2
  go_ret
  exact ⟨rfl, HF.out⟩

set_option maxHeartbeats 4000000 in
theorem implOk {w : World} {b1 b2 : Nat} {v1 v2 : Value} {xs ys : List Int} (h1 : Rd w b1 v1 xs) (h2 : Rd w b2 v2 ys) :
    Calls Try.prog 35 #[lifeV v1 v2] w fun e w' => e = .returned (.tuple #[.string (val xs ys), .bool (LVal.lifeB xs ys)]) ∧ Below w.heap.size w w' := by
  have HH1 := hid h1
  have HH2 := hid h2
  obtain ⟨ao1, cap1, rfl, _, _, _⟩ := h1
  obtain ⟨ao2, cap2, rfl, _, _, _⟩ := h2
  cases hq : LVal.lifeB xs ys with
  | false =>
    have hv : val xs ys = ⟨#[]⟩ := by unfold val; rw [hq]; rfl
    rw [hv]
    have HQ := hid hq
    clear hq hv
    go_enter Try.func35, Try.ntmps35
    go_wp2_with fail
    obtain ⟨w1, hW⟩ : ∃ x, x = w.alloc (Obj.cells #[.slice ao1 xs.length cap1, .slice ao2 ys.length cap2] 35) := ⟨_, rfl⟩
    obtain ⟨NA, hN⟩ : ∃ x, x = w.heap.size := ⟨_, rfl⟩
    have st : Below w.heap.size w w1 ∧ w1.cell? ⟨NA, 0, none⟩ = some (.slice ao1 xs.length cap1) ∧ w1.cell? ⟨NA, 1, none⟩ = some (.slice ao2 ys.length cap2) ∧ w.heap.size ≤ w1.heap.size := by rw [hW, hN]; exact ⟨Rule.below1 _ _, by simp, by simp, by simp⟩
    simp only [← hW, ← hN]
    clear hW hN
    go_at_call 76
    refine (LVal.implValid (HH1.out.keep st.1 (Nat.le_refl _)) (HH2.out.keep st.1 (Nat.le_refl _))).mono ?_
    rw [HQ.out]
    rintro e w2 ⟨rfl, bel⟩
    have HB : Hid (Below w.heap.size w w2) := st.1.trans (bel.mono st.1.size)
    clear st bel
    go_wp2
    go_ret2
    exact ⟨rfl, HB.out⟩
  | true =>
    have hv : val xs ys = ltx xs ys := by unfold val; rw [hq]; rfl
    rw [hv]
    have H9 : Hid ((D9 xs ∧ xs.length ≤ 1048576) ∧ (D9 ys ∧ ys.length ≤ 1048576)) := by
      have hq2 := hq
      simp only [LVal.lifeB, Bool.and_eq_true] at hq2
      exact ⟨life9 hq2.1, life9 hq2.2⟩
    obtain ⟨DX, hDX⟩ : ∃ D : ByteArray, (⟨(dgL xs).toArray⟩ : ByteArray) = D := ⟨_, rfl⟩
    obtain ⟨DY, hDY⟩ : ∃ D : ByteArray, (⟨(dgL ys).toArray⟩ : ByteArray) = D := ⟨_, rfl⟩
    have hsx : DX.size ≤ 1048576 := by rw [← hDX]; show (dgL xs).length ≤ _; rw [dgL_len]; exact H9.out.1.2
    have hsy : DY.size ≤ 1048576 := by rw [← hDY]; show (dgL ys).length ≤ _; rw [dgL_len]; exact H9.out.2.2
    have hc1 : ¬ 9223372036854775807 < 1 + DX.size := by omega
    have hc2 : ¬ 9223372036854775807 < 1 + DX.size + 2 := by omega
    have hc3 : ¬ 9223372036854775807 < 1 + DX.size + 2 + DY.size := by omega
    have HD1 := hid hDX
    have HD2 := hid hDY
    have HL : Hid (ltx xs ys = ((⟨#[66]⟩ ++ DX) ++ ⟨#[47, 83]⟩) ++ DY) := by simp only [Hid, ltx, hDX, hDY]
    clear hDX hDY hsx hsy
    rw [HL.out]
    have HQ := hid hq
    clear hq hv
    go_enter Try.func35, Try.ntmps35
    go_wp2_with fail
    obtain ⟨w1, hW⟩ : ∃ x, x = w.alloc (Obj.cells #[.slice ao1 xs.length cap1, .slice ao2 ys.length cap2] 35) := ⟨_, rfl⟩
    obtain ⟨NA, hN⟩ : ∃ x, x = w.heap.size := ⟨_, rfl⟩
    have st : Below w.heap.size w w1 ∧ w1.cell? ⟨NA, 0, none⟩ = some (.slice ao1 xs.length cap1) ∧ w1.cell? ⟨NA, 1, none⟩ = some (.slice ao2 ys.length cap2) ∧ w.heap.size ≤ w1.heap.size := by rw [hW, hN]; exact ⟨Rule.below1 _ _, by simp, by simp, by simp⟩
    simp only [← hW, ← hN]
    clear hW hN
    go_at_call 76
    refine (LVal.implValid (HH1.out.keep st.1 (Nat.le_refl _)) (HH2.out.keep st.1 (Nat.le_refl _))).mono ?_
    rw [HQ.out]
    rintro e w2 ⟨rfl, bel⟩
    replace st : Below w.heap.size w w2 ∧ w2.cell? ⟨NA, 0, none⟩ = some (.slice ao1 xs.length cap1) ∧ w2.cell? ⟨NA, 1, none⟩ = some (.slice ao2 ys.length cap2) ∧ w.heap.size ≤ w2.heap.size := nxt bel st
    clear bel
    go_wp2_with fail
    refine wp_region_held_drew (S := (fun ww => Below w.heap.size w ww ∧ ww.cell? ⟨NA, 0, none⟩ = some (.slice ao1 xs.length cap1) ∧ ww.cell? ⟨NA, 1, none⟩ = some (.slice ao2 ys.length cap2) ∧ w.heap.size ≤ ww.heap.size)) (by kernel_rfl) ?_ (fun hHeld => ?_)
    · ((try dsimp only); exact ⟨st.1.drew, st.2.1, st.2.2.1, st.2.2.2⟩)
    clear st
    (refine wpAnyH_take (i := 0) (v := ?_) rfl ?_ ?_ ?_ (fun _ _ _ h => h) (Or.inl ⟨?_, ?_⟩) ?_ ?_; rotate_left 1; (focus decide +kernel); (focus decide +kernel); (focus decide +kernel); (focus rfl); (focus (intro w hSw; (try dsimp only at hSw); go_simp; (try (with_reducible rfl)); done)); (focus assumption); (try simp only [Act.put, List.setIfInBounds_toArray, List.set_cons_zero, List.set_cons_succ, List.getElem_toArray, List.getElem_cons_succ, List.getElem_cons_zero]))
    (refine wpAnyH_take (i := 1) (v := ?_) rfl ?_ ?_ ?_ (fun _ _ _ h => h) (Or.inl ⟨?_, ?_⟩) ?_ ?_; rotate_left 1; (focus decide +kernel); (focus decide +kernel); (focus decide +kernel); (focus rfl); (focus (intro w hSw; (try dsimp only at hSw); go_simp; (try (with_reducible rfl)); done)); (focus assumption); (try simp only [Act.put, List.setIfInBounds_toArray, List.set_cons_zero, List.set_cons_succ, List.getElem_toArray, List.getElem_cons_succ, List.getElem_cons_zero]))
    (refine wpAnyH_take (i := 5) (v := ?_) rfl ?_ ?_ ?_ (fun _ _ _ h => h) (Or.inl ⟨?_, ?_⟩) ?_ ?_; rotate_left 1; (focus decide +kernel); (focus decide +kernel); (focus decide +kernel); (focus rfl); (focus (intro w hSw; (try dsimp only at hSw); go_simp; (try (with_reducible rfl)); done)); (focus assumption); (try simp only [Act.put, List.setIfInBounds_toArray, List.set_cons_zero, List.set_cons_succ, List.getElem_toArray, List.getElem_cons_succ, List.getElem_cons_zero]))
    (refine wpAnyH_take (i := 6) (v := ?_) rfl ?_ ?_ ?_ (fun _ _ _ h => h) (Or.inl ⟨?_, ?_⟩) ?_ ?_; rotate_left 1; (focus decide +kernel); (focus decide +kernel); (focus decide +kernel); (focus rfl); (focus (intro w hSw; (try dsimp only at hSw); go_simp; (try (with_reducible rfl)); done)); (focus assumption); (try simp only [Act.put, List.setIfInBounds_toArray, List.set_cons_zero, List.set_cons_succ, List.getElem_toArray, List.getElem_cons_succ, List.getElem_cons_zero]))
    refine wpAnyH_ready (rs := [2]) ?_ (by simp) ?_
    · decide +kernel
    refine AllReadyH.cons rfl (fun K hK => ?_) AllReadyH.nil
    go_simp
    go_at_call 90
    refine (Dgt.impl (HH1.out.keep hHeld.1 (Nat.le_refl _)) H9.out.1.1 H9.out.1.2).mono ?_
    rw [HD1.out]
    rintro e w5 ⟨rfl, bel⟩
    refine hK.out _ _ ?_ (fun hHeld => ?_)
    · (try dsimp only); exact nxt bel hHeld
    clear hK K
    (try simp only [Act.put, List.setIfInBounds_toArray, List.set_cons_zero, List.set_cons_succ, List.getElem_toArray, List.getElem_cons_succ, List.getElem_cons_zero])
    (refine wpAnyH_take (i := 3) (v := ?_) rfl ?_ ?_ ?_ (fun _ _ _ h => h) (Or.inl ⟨?_, ?_⟩) ?_ ?_; rotate_left 1; (focus decide +kernel); (focus decide +kernel); (focus decide +kernel); (focus rfl); (focus (intro w hSw; (try dsimp only at hSw); go_simp; (try (with_reducible rfl)); done)); (focus assumption); (try simp only [Act.put, List.setIfInBounds_toArray, List.set_cons_zero, List.set_cons_succ, List.getElem_toArray, List.getElem_cons_succ, List.getElem_cons_zero]))
    (refine wpAnyH_take (i := 4) (v := ?_) rfl ?_ ?_ ?_ (fun _ _ _ h => h) (Or.inl ⟨?_, ?_⟩) ?_ ?_; rotate_left 1; (focus decide +kernel); (focus decide +kernel); (focus decide +kernel); (focus rfl); (focus (intro w hSw; (try dsimp only at hSw); go_simp; (try (with_reducible rfl)); done)); (focus assumption); (try simp only [Act.put, List.setIfInBounds_toArray, List.set_cons_zero, List.set_cons_succ, List.getElem_toArray, List.getElem_cons_succ, List.getElem_cons_zero]))
    refine wpAnyH_ready (rs := [7]) ?_ (by simp) ?_
    · decide +kernel
    refine AllReadyH.cons rfl (fun K hK => ?_) AllReadyH.nil
    go_simp
    go_at_call 90
    refine (Dgt.impl (HH2.out.keep hHeld.1 (Nat.le_refl _)) H9.out.2.1 H9.out.2.2).mono ?_
    rw [HD2.out]
    rintro e w6 ⟨rfl, bel⟩
    refine hK.out _ _ ?_ (fun hHeld => ?_)
    · (try dsimp only); exact nxt bel hHeld
    clear hK K
    (try simp only [Act.put, List.setIfInBounds_toArray, List.set_cons_zero, List.set_cons_succ, List.getElem_toArray, List.getElem_cons_succ, List.getElem_cons_zero])
    (refine wpAnyH_take (i := 8) (v := ?_) rfl ?_ ?_ ?_ (fun _ _ _ h => h) (Or.inl ⟨?_, ?_⟩) ?_ ?_; rotate_left 1; (focus decide +kernel); (focus decide +kernel); (focus decide +kernel); (focus rfl); (focus (intro w hSw; (try dsimp only at hSw); go_simp; (try (with_reducible rfl)); done)); (focus assumption); (try simp only [Act.put, List.setIfInBounds_toArray, List.set_cons_zero, List.set_cons_succ, List.getElem_toArray, List.getElem_cons_succ, List.getElem_cons_zero]))
    (refine wpAnyH_take (i := 9) (v := ?_) rfl ?_ ?_ ?_ (fun _ _ _ h => h) (Or.inl ⟨?_, ?_⟩) ?_ ?_; rotate_left 1; (focus decide +kernel); (focus decide +kernel); (focus decide +kernel); (focus rfl); (focus (intro w hSw; (try dsimp only at hSw); go_simp; (try (with_reducible rfl)); done)); (focus assumption); (try simp only [Act.put, List.setIfInBounds_toArray, List.set_cons_zero, List.set_cons_succ, List.getElem_toArray, List.getElem_cons_succ, List.getElem_cons_zero]))
    (refine wpAnyH_take (i := 10) (v := ?_) rfl ?_ ?_ ?_ (fun _ _ _ h => h) (Or.inl ⟨?_, ?_⟩) ?_ ?_; rotate_left 1; (focus decide +kernel); (focus decide +kernel); (focus decide +kernel); (focus rfl); (focus (intro w hSw; (try dsimp only at hSw); go_simp; (try (with_reducible rfl)); done)); (focus assumption); (try simp only [Act.put, List.setIfInBounds_toArray, List.set_cons_zero, List.set_cons_succ, List.getElem_toArray, List.getElem_cons_succ, List.getElem_cons_zero]))
    refine wpAnyH_done (by kernel_rfl) ?_ _
    have HF := hid hHeld.1
    clear hHeld
    go_wp2
    go_ret2
    exact ⟨rfl, HF.out⟩

set_option maxHeartbeats 4000000 in
theorem specOk {w : World} {b1 b2 : Nat} {v1 v2 : Value} {xs ys : List Int} (h1 : Rd w b1 v1 xs) (h2 : Rd w b2 v2 ys) :
    Calls Try.prog 33 #[lifeV v1 v2] w fun e w' => e = .returned (.tuple #[.string (val xs ys), .bool (LVal.lifeB xs ys)]) ∧ Below w.heap.size w w' := by
  have HH1 := hid h1
  have HH2 := hid h2
  obtain ⟨ao1, cap1, rfl, _, _, _⟩ := h1
  obtain ⟨ao2, cap2, rfl, _, _, _⟩ := h2
  cases hq : LVal.lifeB xs ys with
  | false =>
    have hv : val xs ys = ⟨#[]⟩ := by unfold val; rw [hq]; rfl
    rw [hv]
    have HQ := hid hq
    clear hq hv
    go_enter Try.func33, Try.ntmps33
    go_wp2_with fail
    obtain ⟨w1, hW⟩ : ∃ x, x = w.alloc (Obj.cells #[.slice ao1 xs.length cap1, .slice ao2 ys.length cap2] 35) := ⟨_, rfl⟩
    obtain ⟨NA, hN⟩ : ∃ x, x = w.heap.size := ⟨_, rfl⟩
    have st : Below w.heap.size w w1 ∧ w1.cell? ⟨NA, 0, none⟩ = some (.slice ao1 xs.length cap1) ∧ w1.cell? ⟨NA, 1, none⟩ = some (.slice ao2 ys.length cap2) ∧ w.heap.size ≤ w1.heap.size := by rw [hW, hN]; exact ⟨Rule.below1 _ _, by simp, by simp, by simp⟩
    simp only [← hW, ← hN]
    clear hW hN
    go_at_call 91
    refine (LVal.l04Life st.2.1 st.2.2.1 (HH1.out.keep st.1 (Nat.le_refl _)) (HH2.out.keep st.1 (Nat.le_refl _))).mono ?_
    rw [HQ.out]
    rintro e w2 ⟨rfl, m, hm⟩
    have HB : Hid (Below w.heap.size w w2) := by simp only [Hid]; rw [hm]; exact st.1.trans ((FSpec.below_drewN' _ _ _).mono st.1.size)
    clear st hm
    go_wp2
    go_ret2
    exact ⟨rfl, HB.out⟩
  | true =>
    have hv : val xs ys = ltx xs ys := by unfold val; rw [hq]; rfl
    rw [hv]
    have H9 : Hid ((D9 xs ∧ xs.length ≤ 1048576) ∧ (D9 ys ∧ ys.length ≤ 1048576)) := by
      have hq2 := hq
      simp only [LVal.lifeB, Bool.and_eq_true] at hq2
      exact ⟨life9 hq2.1, life9 hq2.2⟩
    have HQ := hid hq
    clear hq hv
    go_enter Try.func33, Try.ntmps33
    go_wp2_with fail
    obtain ⟨w1, hW⟩ : ∃ x, x = w.alloc (Obj.cells #[.slice ao1 xs.length cap1, .slice ao2 ys.length cap2] 35) := ⟨_, rfl⟩
    obtain ⟨NA, hN⟩ : ∃ x, x = w.heap.size := ⟨_, rfl⟩
    have st : Below w.heap.size w w1 ∧ w1.cell? ⟨NA, 0, none⟩ = some (.slice ao1 xs.length cap1) ∧ w1.cell? ⟨NA, 1, none⟩ = some (.slice ao2 ys.length cap2) ∧ w.heap.size ≤ w1.heap.size := by rw [hW, hN]; exact ⟨Rule.below1 _ _, by simp, by simp, by simp⟩
    simp only [← hW, ← hN]
    clear hW hN
    go_at_call 91
    refine (LVal.l04Life st.2.1 st.2.2.1 (HH1.out.keep st.1 (Nat.le_refl _)) (HH2.out.keep st.1 (Nat.le_refl _))).mono ?_
    rw [HQ.out]
    rintro e w2 ⟨rfl, m, hm⟩
    replace st : Below w.heap.size w w2 ∧ w2.cell? ⟨NA, 0, none⟩ = some (.slice ao1 xs.length cap1) ∧ w2.cell? ⟨NA, 1, none⟩ = some (.slice ao2 ys.length cap2) ∧ w.heap.size ≤ w2.heap.size := by rw [hm]; exact nxt (FSpec.below_drewN' _ _ _) st
    clear hm
    go_wp2_with fail
    go_at_call 92
    refine (l08Life (HH1.out.keep st.1 (Nat.le_refl _)) (HH2.out.keep st.1 (Nat.le_refl _)) st.2.1 st.2.2.1 HQ.out).mono ?_
    rintro e w3 ⟨rfl, bel⟩
    have HF := hid (st.1.trans (bel.mono st.1.size))
    clear st bel
    go_wp2
    go_ret2
    exact ⟨rfl, HF.out⟩

end Go.Proofs.Ytonghkooncmjgaa.LTx
