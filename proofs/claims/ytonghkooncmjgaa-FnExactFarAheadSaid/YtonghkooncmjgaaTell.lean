/- ruleThatTells: the rule of a shape that tells what a function tells. -/
import Derived.Test.YtonghkooncmjgaaDigP
namespace Go.Proofs.Ytonghkooncmjgaa.Tell
open Go.RowKit Go.Proofs.Ytonghkooncmjgaa.Rd Go.Proofs.Ytonghkooncmjgaa.Help Go.Proofs.Ytonghkooncmjgaa.Ring Go.Proofs.Ytonghkooncmjgaa.Small Go.Proofs.Ytonghkooncmjgaa.Num Go.Proofs.Ytonghkooncmjgaa.Keep Go.Proofs.Ytonghkooncmjgaa.Rule Go.Proofs.Ytonghkooncmjgaa.Dig Go.Proofs.Ytonghkooncmjgaa.DigP
set_option linter.unusedVariables false
set_option linter.unusedSimpArgs false

/-- The first k entries of a table. -/
def tab (T : Nat → Int) (k : Nat) : List Int := (List.range k).map T
theorem tab_length (T : Nat → Int) (k : Nat) : (tab T k).length = k := by simp [tab]
theorem tab_succ (T : Nat → Int) (k : Nat) : tab T (k + 1) = tab T k ++ [T k] := by simp [tab, List.range_succ]
theorem tab_get (T : Nat → Int) (k i : Nat) (h : i < k) : (tab T k).getD i 0 = T i := by simp [tab, List.getD, h]
theorem set_tab (T : Nat → Int) (n k : Nat) (h : k < n) : (tab T k ++ List.replicate (n - k) 0).set k (T k) = tab T (k + 1) ++ List.replicate (n - (k + 1)) 0 := by
  have e : n - k = (n - (k + 1)) + 1 := by omega
  rw [e, List.replicate_succ, List.set_append_right _ _ (by rw [tab_length]; omega), tab_length, Nat.sub_self, List.set_cons_zero, tab_succ, List.append_assoc]
  rfl

theorem cell_top {w : World} {cs : Array Value} {t : TypeId} {n i : Nat} {c : Value} (hn : n = w.heap.size) (hc : cs[i]? = some c) : (w.alloc (.cells cs t)).cell? ⟨n, i, none⟩ = some c := by
  subst hn; simp [hc]
theorem cell_old {w : World} {o : Obj} {p : Addr} {c : Value} (h : w.cell? p = some c) : (w.alloc o).cell? p = some c := cell_keep (below1 w o) h
theorem heap_top {w : World} {o : Obj} {n : Nat} (hn : n = w.heap.size) : (w.alloc o).heap[n]? = some o := by
  subst hn; exact heap_alloc_new w o
theorem heap_old {w : World} {o o' : Obj} {n : Nat} (h : w.heap[n]? = some o) : (w.alloc o').heap[n]? = some o := by
  have hl : n < w.heap.size := (Array.getElem?_eq_some_iff.1 h).1
  rw [Below.heap_alloc _ _ _ (by omega)]; exact h
theorem nextAt2 {N B : Nat} {w0 w w' : World} {g : Nat} {i0 i1 : Nat} {c0 c1 : Value} (bel : Below B w w') (hg : g < B) (hN : N ≤ B)
    (h : Below N w0 w ∧ w.cell? ⟨g, i0, none⟩ = some c0 ∧ w.cell? ⟨g, i1, none⟩ = some c1 ∧ N ≤ w.heap.size) :
    Below N w0 w' ∧ w'.cell? ⟨g, i0, none⟩ = some c0 ∧ w'.cell? ⟨g, i1, none⟩ = some c1 ∧ N ≤ w'.heap.size :=
  ⟨h.1.trans (bel.mono hN), (bel.cell (p := ⟨g, i0, none⟩) hg).trans h.2.1, (bel.cell (p := ⟨g, i1, none⟩) hg).trans h.2.2.1, Nat.le_trans h.2.2.2 bel.size⟩
theorem set2 {N b : Nat} {w0 w : World} {g i : Nat} {c0 c1 v : Value} (hN : N ≤ b) (hg : g < b)
    (h : Below N w0 w ∧ w.cell? ⟨g, 0, none⟩ = some c0 ∧ w.cell? ⟨g, 1, none⟩ = some c1 ∧ N ≤ w.heap.size) :
    Below N w0 (w.setCell ⟨b, i, none⟩ v) ∧ (w.setCell ⟨b, i, none⟩ v).cell? ⟨g, 0, none⟩ = some c0 ∧ (w.setCell ⟨b, i, none⟩ v).cell? ⟨g, 1, none⟩ = some c1 ∧ N ≤ (w.setCell ⟨b, i, none⟩ v).heap.size :=
  nextAt2 ((Below.refl b w).setCell (Nat.le_refl _) _) hg hN h

set_option maxHeartbeats 8000000 in
theorem tellNumber {w : World} {s r : Int} {M L : Nat} (hs : 2 ≤ s ∧ s ≤ 3) (hr : 0 ≤ r ∧ r ≤ 2) (hM : (M : Int) = s ^ (2 * r + 1).toNat) (hL : L = (2 * r + 1).toNat) {k0 : Value} (T : Nat → Int)
    (h : ∀ k, k < M → ∀ (wr : World) (b : Nat), Below w.heap.size w wr → w.heap.size ≤ b → Own 2 wr b (.slice (some ⟨b, 0, none⟩) L L) (dig s k L) →
      Calls Try.prog 160 #[.slice (some ⟨b, 0, none⟩) L L, k0] wr fun e w' => e = .returned (.int .i64 (T k)) ∧ Below b wr w') :
    Calls Try.prog 109 #[shapeV s r, .func (.func 160) #[] #[k0]] w fun e w' => ∃ b', e = .returned (ruleV s r (.slice (some ⟨b', 0, none⟩) M M)) ∧
      Own 2 w' b' (.slice (some ⟨b', 0, none⟩) M M) (tab T M) ∧ w.heap.size ≤ b' ∧ Below w.heap.size w w' := by
  have HS := hid hs
  have HR := hid hr
  have H := hid h
  have HLL := hid hL
  have HM := hid hM
  have hM2 : 1 ≤ M ∧ M ≤ 243 := by
    have := pow_bd hs (show (2 * r + 1).toNat ≤ 5 by omega)
    omega
  obtain ⟨m1, m2⟩ := hM2
  have HW : Hid (0 ≤ 2 * r + 1 ∧ 2 * r + 1 ≤ 64) := by simp only [Hid]; omega
  have hmk := run_make_row' (P := Try.prog) 22 2 (.int .i64 0) 8 Try.underlying22 infoI rfl .i64 .i64 M (by omega) (by omega)
  have HMk := hid hmk
  clear h hs hr hM hL
  go_enter Try.func109, Try.ntmps109
  go_wp2_with fail
  obtain ⟨w1, hW⟩ : ∃ w1, w1 = (w.alloc (Obj.cells #[.int .i64 s, .int .i64 r] 119)).alloc (Obj.cells #[.int .i64 0, .int .i64 0, .slice none 0 0] 33) := ⟨_, rfl⟩
  obtain ⟨NS, hN⟩ : ∃ NS, NS = w.heap.size := ⟨_, rfl⟩
  have st : Below w.heap.size w w1 ∧ w1.cell? ⟨NS, 0, none⟩ = some (.int .i64 s) ∧ w1.cell? ⟨NS, 1, none⟩ = some (.int .i64 r) ∧ w.heap.size ≤ w1.heap.size := by
    rw [hW, hN]
    exact ⟨Go.Joins.below_alloc2 _ _ _, by simp, by simp, by simp; omega⟩
  have kb : w1.heap[NS + 1]? = some (Obj.cells #[.int .i64 0, .int .i64 0, .slice none 0 0] 33) := by
    rw [hW, hN]
    have := heap_alloc_new (w.alloc (Obj.cells #[.int .i64 s, .int .i64 r] 119)) (Obj.cells #[.int .i64 0, .int .i64 0, .slice none 0 0] 33)
    simpa using this
  have hsz : w1.heap.size = NS + 2 := by rw [hW, hN]; simp
  have HNE := hid hN
  simp only [← hW, ← hN]
  clear hW hN
  go_at_call 154
  refine (kinds HS.out HR.out).mono ?_
  rw [← HM.out]
  rintro e w2 ⟨rfl, bel⟩
  replace kb := (bel.block _ (by omega)).trans kb
  replace st := next2_0 bel st
  have hsz2 := bel.size
  clear bel
  have hmk := HMk.out
  go_wp2_with fail
  have HKB := hid kb
  have ST := hid st
  obtain ⟨b0, hb0⟩ : ∃ b0, b0 = w2.heap.size := ⟨_, rfl⟩
  have HB0 := hid hb0
  have HNS : Hid (NS < b0) := by simp only [Hid]; omega
  have HN1 : Hid (NS + 1 < b0) := by simp only [Hid]; omega
  have HN0 : Hid (w.heap.size ≤ b0) := by simp only [Hid]; rw [hb0]; exact st.2.2.2
  simp only [← hb0]
  have hb0' : w2.heap.size = b0 := hb0.symm
  have hown0 : Own 2 (w2.alloc (.cells (madeCells #[.int .i64 0] M) 2)) b0 (.slice (some ⟨b0, 0, none⟩) M M) (List.replicate M 0) := by
    have := Own.made 2 w2 M (by unfold maxLen; omega)
    rw [hb0'] at this; exact this
  have hbel0 : Below b0 w2 (w2.alloc (.cells (madeCells #[.int .i64 0] M) 2)) := (Below.refl _ _).alloc (by omega) _
  clear kb st hb0 hsz hsz2 hmk
  go_loopw [6, 12] (fun j t wr => ∃ k : Nat, k ≤ M ∧ t = .int .i64 k ∧ Own 2 wr b0 (.slice (some ⟨b0, 0, none⟩) M M) (tab T k ++ List.replicate (M - k) 0) ∧ Below b0 w2 wr) (fun _ t _ => M - (intOf t).toNat)
  case atStart => exact ⟨0, Nat.zero_le _, rfl, by simpa [tab] using hown0, hbel0⟩
  case round =>
    clear hown0 hbel0
    obtain ⟨k, hk, rfl, hown, hbel⟩ := hrel
    by_cases hlt : k < M
    · have hki : (k : Int) < (M : Int) := by omega
      have s2 := nextAt2 hbel HNS.out HN0.out ST.out
      have HLT : Hid (b0 ≤ wr.heap.size) := by simp only [Hid]; exact Nat.le_of_lt hown.lt
      have HL1 : Hid (b0 < wr.heap.size) := hown.lt
      have HB := hid hbel
      have HO := hid hown
      clear hbel hown
      go_wp2_with fail
      refine wp_region_held_drew (S := (fun ww => Below w.heap.size w ww ∧ ww.cell? ⟨NS, 0, none⟩ = some (.int .i64 s) ∧ ww.cell? ⟨NS, 1, none⟩ = some (.int .i64 r) ∧ w.heap.size ≤ ww.heap.size)) (by kernel_rfl) ?_ (fun hHeld => ?_)
      · ((try dsimp only); exact drew2_0 s2)
      first | (refine wpAnyH_take (i := 0) (v := ?_) rfl ?_ ?_ ?_ (fun _ _ _ h => h) (Or.inl ⟨?_, ?_⟩) ?_ ?_; rotate_left 1; (focus decide +kernel); (focus decide +kernel); (focus decide +kernel); (focus rfl); (focus (intro w hSw; (try dsimp only at hSw); go_simp; (try (with_reducible rfl)); done)); (focus assumption); (try simp only [Act.put, List.setIfInBounds_toArray, List.set_cons_zero, List.set_cons_succ, List.getElem_toArray, List.getElem_cons_succ, List.getElem_cons_zero])) | (refine wpAnyH_take (i := 0) (v := undef) rfl ?_ ?_ ?_ (fun _ _ _ h => h) (Or.inr ⟨?_, rfl⟩) ?_ ?_; (focus decide +kernel); (focus decide +kernel); (focus decide +kernel); (focus rfl); (focus assumption); (try simp only [Act.put, List.setIfInBounds_toArray, List.set_cons_zero, List.set_cons_succ, List.getElem_toArray, List.getElem_cons_succ, List.getElem_cons_zero])) | skip
      first | (refine wpAnyH_take (i := 1) (v := ?_) rfl ?_ ?_ ?_ (fun _ _ _ h => h) (Or.inl ⟨?_, ?_⟩) ?_ ?_; rotate_left 1; (focus decide +kernel); (focus decide +kernel); (focus decide +kernel); (focus rfl); (focus (intro w hSw; (try dsimp only at hSw); go_simp; (try (with_reducible rfl)); done)); (focus assumption); (try simp only [Act.put, List.setIfInBounds_toArray, List.set_cons_zero, List.set_cons_succ, List.getElem_toArray, List.getElem_cons_succ, List.getElem_cons_zero])) | (refine wpAnyH_take (i := 1) (v := undef) rfl ?_ ?_ ?_ (fun _ _ _ h => h) (Or.inr ⟨?_, rfl⟩) ?_ ?_; (focus decide +kernel); (focus decide +kernel); (focus decide +kernel); (focus rfl); (focus assumption); (try simp only [Act.put, List.setIfInBounds_toArray, List.set_cons_zero, List.set_cons_succ, List.getElem_toArray, List.getElem_cons_succ, List.getElem_cons_zero])) | skip
      first | (refine wpAnyH_take (i := 2) (v := ?_) rfl ?_ ?_ ?_ (fun _ _ _ h => h) (Or.inl ⟨?_, ?_⟩) ?_ ?_; rotate_left 1; (focus decide +kernel); (focus decide +kernel); (focus decide +kernel); (focus rfl); (focus (intro w hSw; (try dsimp only at hSw); go_simp; (try (with_reducible rfl)); done)); (focus assumption); (try simp only [Act.put, List.setIfInBounds_toArray, List.set_cons_zero, List.set_cons_succ, List.getElem_toArray, List.getElem_cons_succ, List.getElem_cons_zero])) | (refine wpAnyH_take (i := 2) (v := undef) rfl ?_ ?_ ?_ (fun _ _ _ h => h) (Or.inr ⟨?_, rfl⟩) ?_ ?_; (focus decide +kernel); (focus decide +kernel); (focus decide +kernel); (focus rfl); (focus assumption); (try simp only [Act.put, List.setIfInBounds_toArray, List.set_cons_zero, List.set_cons_succ, List.getElem_toArray, List.getElem_cons_succ, List.getElem_cons_zero])) | skip
      first | (refine wpAnyH_take (i := 3) (v := ?_) rfl ?_ ?_ ?_ (fun _ _ _ h => h) (Or.inl ⟨?_, ?_⟩) ?_ ?_; rotate_left 1; (focus decide +kernel); (focus decide +kernel); (focus decide +kernel); (focus rfl); (focus (intro w hSw; (try dsimp only at hSw); go_simp; (try (with_reducible rfl)); done)); (focus assumption); (try simp only [Act.put, List.setIfInBounds_toArray, List.set_cons_zero, List.set_cons_succ, List.getElem_toArray, List.getElem_cons_succ, List.getElem_cons_zero])) | (refine wpAnyH_take (i := 3) (v := undef) rfl ?_ ?_ ?_ (fun _ _ _ h => h) (Or.inr ⟨?_, rfl⟩) ?_ ?_; (focus decide +kernel); (focus decide +kernel); (focus decide +kernel); (focus rfl); (focus assumption); (try simp only [Act.put, List.setIfInBounds_toArray, List.set_cons_zero, List.set_cons_succ, List.getElem_toArray, List.getElem_cons_succ, List.getElem_cons_zero])) | skip
      first | (refine wpAnyH_take (i := 4) (v := ?_) rfl ?_ ?_ ?_ (fun _ _ _ h => h) (Or.inl ⟨?_, ?_⟩) ?_ ?_; rotate_left 1; (focus decide +kernel); (focus decide +kernel); (focus decide +kernel); (focus rfl); (focus (intro w hSw; (try dsimp only at hSw); go_simp; (try (with_reducible rfl)); done)); (focus assumption); (try simp only [Act.put, List.setIfInBounds_toArray, List.set_cons_zero, List.set_cons_succ, List.getElem_toArray, List.getElem_cons_succ, List.getElem_cons_zero])) | (refine wpAnyH_take (i := 4) (v := undef) rfl ?_ ?_ ?_ (fun _ _ _ h => h) (Or.inr ⟨?_, rfl⟩) ?_ ?_; (focus decide +kernel); (focus decide +kernel); (focus decide +kernel); (focus rfl); (focus assumption); (try simp only [Act.put, List.setIfInBounds_toArray, List.set_cons_zero, List.set_cons_succ, List.getElem_toArray, List.getElem_cons_succ, List.getElem_cons_zero])) | skip
      first | (refine wpAnyH_take (i := 5) (v := ?_) rfl ?_ ?_ ?_ (fun _ _ _ h => h) (Or.inl ⟨?_, ?_⟩) ?_ ?_; rotate_left 1; (focus decide +kernel); (focus decide +kernel); (focus decide +kernel); (focus rfl); (focus (intro w hSw; (try dsimp only at hSw); go_simp; (try (with_reducible rfl)); done)); (focus assumption); (try simp only [Act.put, List.setIfInBounds_toArray, List.set_cons_zero, List.set_cons_succ, List.getElem_toArray, List.getElem_cons_succ, List.getElem_cons_zero])) | (refine wpAnyH_take (i := 5) (v := undef) rfl ?_ ?_ ?_ (fun _ _ _ h => h) (Or.inr ⟨?_, rfl⟩) ?_ ?_; (focus decide +kernel); (focus decide +kernel); (focus decide +kernel); (focus rfl); (focus assumption); (try simp only [Act.put, List.setIfInBounds_toArray, List.set_cons_zero, List.set_cons_succ, List.getElem_toArray, List.getElem_cons_succ, List.getElem_cons_zero])) | skip
      first | (refine wpAnyH_take (i := 6) (v := ?_) rfl ?_ ?_ ?_ (fun _ _ _ h => h) (Or.inl ⟨?_, ?_⟩) ?_ ?_; rotate_left 1; (focus decide +kernel); (focus decide +kernel); (focus decide +kernel); (focus rfl); (focus (intro w hSw; (try dsimp only at hSw); go_simp; (try (with_reducible rfl)); done)); (focus assumption); (try simp only [Act.put, List.setIfInBounds_toArray, List.set_cons_zero, List.set_cons_succ, List.getElem_toArray, List.getElem_cons_succ, List.getElem_cons_zero])) | (refine wpAnyH_take (i := 6) (v := undef) rfl ?_ ?_ ?_ (fun _ _ _ h => h) (Or.inr ⟨?_, rfl⟩) ?_ ?_; (focus decide +kernel); (focus decide +kernel); (focus decide +kernel); (focus rfl); (focus assumption); (try simp only [Act.put, List.setIfInBounds_toArray, List.set_cons_zero, List.set_cons_succ, List.getElem_toArray, List.getElem_cons_succ, List.getElem_cons_zero])) | skip
      first | (refine wpAnyH_take (i := 10) (v := ?_) rfl ?_ ?_ ?_ (fun _ _ _ h => h) (Or.inl ⟨?_, ?_⟩) ?_ ?_; rotate_left 1; (focus decide +kernel); (focus decide +kernel); (focus decide +kernel); (focus rfl); (focus (intro w hSw; (try dsimp only at hSw); go_simp; (try (with_reducible rfl)); done)); (focus assumption); (try simp only [Act.put, List.setIfInBounds_toArray, List.set_cons_zero, List.set_cons_succ, List.getElem_toArray, List.getElem_cons_succ, List.getElem_cons_zero])) | (refine wpAnyH_take (i := 10) (v := undef) rfl ?_ ?_ ?_ (fun _ _ _ h => h) (Or.inr ⟨?_, rfl⟩) ?_ ?_; (focus decide +kernel); (focus decide +kernel); (focus decide +kernel); (focus rfl); (focus assumption); (try simp only [Act.put, List.setIfInBounds_toArray, List.set_cons_zero, List.set_cons_succ, List.getElem_toArray, List.getElem_cons_succ, List.getElem_cons_zero])) | skip
      first | (refine wpAnyH_take (i := 11) (v := ?_) rfl ?_ ?_ ?_ (fun _ _ _ h => h) (Or.inl ⟨?_, ?_⟩) ?_ ?_; rotate_left 1; (focus decide +kernel); (focus decide +kernel); (focus decide +kernel); (focus rfl); (focus (intro w hSw; (try dsimp only at hSw); go_simp; (try (with_reducible rfl)); done)); (focus assumption); (try simp only [Act.put, List.setIfInBounds_toArray, List.set_cons_zero, List.set_cons_succ, List.getElem_toArray, List.getElem_cons_succ, List.getElem_cons_zero])) | (refine wpAnyH_take (i := 11) (v := undef) rfl ?_ ?_ ?_ (fun _ _ _ h => h) (Or.inr ⟨?_, rfl⟩) ?_ ?_; (focus decide +kernel); (focus decide +kernel); (focus decide +kernel); (focus rfl); (focus assumption); (try simp only [Act.put, List.setIfInBounds_toArray, List.set_cons_zero, List.set_cons_succ, List.getElem_toArray, List.getElem_cons_succ, List.getElem_cons_zero])) | skip
      first | (refine wpAnyH_take (i := 7) (v := undef) rfl ?_ ?_ ?_ (fun _ _ _ h => h) (Or.inr ⟨?_, rfl⟩) ?_ ?_; (focus decide +kernel); (focus decide +kernel); (focus decide +kernel); (focus rfl); (focus assumption); (try simp only [Act.put, List.setIfInBounds_toArray, List.set_cons_zero, List.set_cons_succ, List.getElem_toArray, List.getElem_cons_succ, List.getElem_cons_zero])) | (refine wpAnyH_ready (rs := [7]) ?_ (by simp) ?_; (focus decide +kernel); refine AllReadyH.cons rfl (fun K hK => ?_) AllReadyH.nil; go_simp; (go_at_call 103; refine (wide HR.out).mono ?_; rintro e w4 ⟨rfl, bel⟩; have o4 : Own 2 wr.drew b0 (.slice (some ⟨b0, 0, none⟩) M M) (tab T k ++ List.replicate (M - k) 0) := HO.out; replace o4 := o4.keep bel; have bb := (Below.refl b0 wr).drew; replace bb := bb.trans (bel.mono HLT.out); have bb0 := bb.size); refine hK.out _ _ ?_ (fun hHeld => ?_); ((try dsimp only); first | exact next2_0 bel hHeld | exact nextAt2 bel (Nat.lt_trans HNS.out lb) (Nat.le_trans HN0.out (Nat.le_of_lt lb)) hHeld); clear hK K; (try simp only [Act.put, List.setIfInBounds_toArray, List.set_cons_zero, List.set_cons_succ, List.getElem_toArray, List.getElem_cons_succ, List.getElem_cons_zero]))
      first | (refine wpAnyH_take (i := 10) (v := ?_) rfl ?_ ?_ ?_ (fun _ _ _ h => h) (Or.inl ⟨?_, ?_⟩) ?_ ?_; rotate_left 1; (focus decide +kernel); (focus decide +kernel); (focus decide +kernel); (focus rfl); (focus (intro w hSw; (try dsimp only at hSw); go_simp; (try (with_reducible rfl)); done)); (focus assumption); (try simp only [Act.put, List.setIfInBounds_toArray, List.set_cons_zero, List.set_cons_succ, List.getElem_toArray, List.getElem_cons_succ, List.getElem_cons_zero])) | (refine wpAnyH_take (i := 10) (v := undef) rfl ?_ ?_ ?_ (fun _ _ _ h => h) (Or.inr ⟨?_, rfl⟩) ?_ ?_; (focus decide +kernel); (focus decide +kernel); (focus decide +kernel); (focus rfl); (focus assumption); (try simp only [Act.put, List.setIfInBounds_toArray, List.set_cons_zero, List.set_cons_succ, List.getElem_toArray, List.getElem_cons_succ, List.getElem_cons_zero])) | skip
      first | (refine wpAnyH_take (i := 11) (v := ?_) rfl ?_ ?_ ?_ (fun _ _ _ h => h) (Or.inl ⟨?_, ?_⟩) ?_ ?_; rotate_left 1; (focus decide +kernel); (focus decide +kernel); (focus decide +kernel); (focus rfl); (focus (intro w hSw; (try dsimp only at hSw); go_simp; (try (with_reducible rfl)); done)); (focus assumption); (try simp only [Act.put, List.setIfInBounds_toArray, List.set_cons_zero, List.set_cons_succ, List.getElem_toArray, List.getElem_cons_succ, List.getElem_cons_zero])) | (refine wpAnyH_take (i := 11) (v := undef) rfl ?_ ?_ ?_ (fun _ _ _ h => h) (Or.inr ⟨?_, rfl⟩) ?_ ?_; (focus decide +kernel); (focus decide +kernel); (focus decide +kernel); (focus rfl); (focus assumption); (try simp only [Act.put, List.setIfInBounds_toArray, List.set_cons_zero, List.set_cons_succ, List.getElem_toArray, List.getElem_cons_succ, List.getElem_cons_zero])) | skip
      first | (refine wpAnyH_take (i := 8) (v := undef) rfl ?_ ?_ ?_ (fun _ _ _ h => h) (Or.inr ⟨?_, rfl⟩) ?_ ?_; (focus decide +kernel); (focus decide +kernel); (focus decide +kernel); (focus rfl); (focus assumption); (try simp only [Act.put, List.setIfInBounds_toArray, List.set_cons_zero, List.set_cons_succ, List.getElem_toArray, List.getElem_cons_succ, List.getElem_cons_zero])) | (refine wpAnyH_ready (rs := [8]) ?_ (by simp) ?_; (focus decide +kernel); refine AllReadyH.cons rfl (fun K hK => ?_) AllReadyH.nil; go_simp; (go_at_call 105; refine (implDigits HS.out (by omega) HW.out).mono ?_; rw [dig_length, ← HLL.out]; rintro e w5 ⟨bd, rfl, od, lo, bel⟩; replace o4 := o4.keep bel; have l4 := Nat.le_trans HLT.out bb.size; replace bb := bb.trans (bel.mono l4); have b04 := Nat.lt_of_lt_of_le HL1.out bb0); refine hK.out _ _ ?_ (fun hHeld => ?_); ((try dsimp only); first | exact next2_0 bel hHeld | exact nextAt2 bel (Nat.lt_trans HNS.out lb) (Nat.le_trans HN0.out (Nat.le_of_lt lb)) hHeld); clear hK K; (try simp only [Act.put, List.setIfInBounds_toArray, List.set_cons_zero, List.set_cons_succ, List.getElem_toArray, List.getElem_cons_succ, List.getElem_cons_zero]))
      first | (refine wpAnyH_take (i := 10) (v := ?_) rfl ?_ ?_ ?_ (fun _ _ _ h => h) (Or.inl ⟨?_, ?_⟩) ?_ ?_; rotate_left 1; (focus decide +kernel); (focus decide +kernel); (focus decide +kernel); (focus rfl); (focus (intro w hSw; (try dsimp only at hSw); go_simp; (try (with_reducible rfl)); done)); (focus assumption); (try simp only [Act.put, List.setIfInBounds_toArray, List.set_cons_zero, List.set_cons_succ, List.getElem_toArray, List.getElem_cons_succ, List.getElem_cons_zero])) | (refine wpAnyH_take (i := 10) (v := undef) rfl ?_ ?_ ?_ (fun _ _ _ h => h) (Or.inr ⟨?_, rfl⟩) ?_ ?_; (focus decide +kernel); (focus decide +kernel); (focus decide +kernel); (focus rfl); (focus assumption); (try simp only [Act.put, List.setIfInBounds_toArray, List.set_cons_zero, List.set_cons_succ, List.getElem_toArray, List.getElem_cons_succ, List.getElem_cons_zero])) | skip
      first | (refine wpAnyH_take (i := 11) (v := ?_) rfl ?_ ?_ ?_ (fun _ _ _ h => h) (Or.inl ⟨?_, ?_⟩) ?_ ?_; rotate_left 1; (focus decide +kernel); (focus decide +kernel); (focus decide +kernel); (focus rfl); (focus (intro w hSw; (try dsimp only at hSw); go_simp; (try (with_reducible rfl)); done)); (focus assumption); (try simp only [Act.put, List.setIfInBounds_toArray, List.set_cons_zero, List.set_cons_succ, List.getElem_toArray, List.getElem_cons_succ, List.getElem_cons_zero])) | (refine wpAnyH_take (i := 11) (v := undef) rfl ?_ ?_ ?_ (fun _ _ _ h => h) (Or.inr ⟨?_, rfl⟩) ?_ ?_; (focus decide +kernel); (focus decide +kernel); (focus decide +kernel); (focus rfl); (focus assumption); (try simp only [Act.put, List.setIfInBounds_toArray, List.set_cons_zero, List.set_cons_succ, List.getElem_toArray, List.getElem_cons_succ, List.getElem_cons_zero])) | skip
      first | (refine wpAnyH_take (i := 9) (v := undef) rfl ?_ ?_ ?_ (fun _ _ _ h => h) (Or.inr ⟨?_, rfl⟩) ?_ ?_; (focus decide +kernel); (focus decide +kernel); (focus decide +kernel); (focus rfl); (focus assumption); (try simp only [Act.put, List.setIfInBounds_toArray, List.set_cons_zero, List.set_cons_succ, List.getElem_toArray, List.getElem_cons_succ, List.getElem_cons_zero])) | (refine wpAnyH_ready (rs := [9]) ?_ (by simp) ?_; (focus decide +kernel); refine AllReadyH.cons rfl (fun K hK => ?_) AllReadyH.nil; go_simp; (have hA := H.out k hlt w5 bd (And.left hHeld) (Nat.le_trans HN0.out (Nat.le_trans l4 lo)) od; go_at_call 160; refine hA.mono ?_; clear hA; rintro e w6 ⟨rfl, bel⟩; have lb := Nat.lt_of_lt_of_le b04 lo; replace o4 := o4.keepAt bel lb; replace bb := bb.trans (bel.mono (Nat.le_of_lt lb))); refine hK.out _ _ ?_ (fun hHeld => ?_); ((try dsimp only); first | exact next2_0 bel hHeld | exact nextAt2 bel (Nat.lt_trans HNS.out lb) (Nat.le_trans HN0.out (Nat.le_of_lt lb)) hHeld); clear hK K; (try simp only [Act.put, List.setIfInBounds_toArray, List.set_cons_zero, List.set_cons_succ, List.getElem_toArray, List.getElem_cons_succ, List.getElem_cons_zero]))
      first | (refine wpAnyH_take (i := 10) (v := ?_) rfl ?_ ?_ ?_ (fun _ _ _ h => h) (Or.inl ⟨?_, ?_⟩) ?_ ?_; rotate_left 1; (focus decide +kernel); (focus decide +kernel); (focus decide +kernel); (focus rfl); (focus (intro w hSw; (try dsimp only at hSw); go_simp; (try (with_reducible rfl)); done)); (focus assumption); (try simp only [Act.put, List.setIfInBounds_toArray, List.set_cons_zero, List.set_cons_succ, List.getElem_toArray, List.getElem_cons_succ, List.getElem_cons_zero])) | (refine wpAnyH_take (i := 10) (v := undef) rfl ?_ ?_ ?_ (fun _ _ _ h => h) (Or.inr ⟨?_, rfl⟩) ?_ ?_; (focus decide +kernel); (focus decide +kernel); (focus decide +kernel); (focus rfl); (focus assumption); (try simp only [Act.put, List.setIfInBounds_toArray, List.set_cons_zero, List.set_cons_succ, List.getElem_toArray, List.getElem_cons_succ, List.getElem_cons_zero])) | skip
      first | (refine wpAnyH_take (i := 11) (v := ?_) rfl ?_ ?_ ?_ (fun _ _ _ h => h) (Or.inl ⟨?_, ?_⟩) ?_ ?_; rotate_left 1; (focus decide +kernel); (focus decide +kernel); (focus decide +kernel); (focus rfl); (focus (intro w hSw; (try dsimp only at hSw); go_simp; (try (with_reducible rfl)); done)); (focus assumption); (try simp only [Act.put, List.setIfInBounds_toArray, List.set_cons_zero, List.set_cons_succ, List.getElem_toArray, List.getElem_cons_succ, List.getElem_cons_zero])) | (refine wpAnyH_take (i := 11) (v := undef) rfl ?_ ?_ ?_ (fun _ _ _ h => h) (Or.inr ⟨?_, rfl⟩) ?_ ?_; (focus decide +kernel); (focus decide +kernel); (focus decide +kernel); (focus rfl); (focus assumption); (try simp only [Act.put, List.setIfInBounds_toArray, List.set_cons_zero, List.set_cons_succ, List.getElem_toArray, List.getElem_cons_succ, List.getElem_cons_zero])) | skip
      have hlen : (tab T k ++ List.replicate (M - k) 0).length = M := by simp [tab_length]; omega
      have hox := o4.cell (i := k) (by omega)
      have hof := o4.free k
      have HO6 := hid o4
      have HB6 := hid bb
      clear o4 bb hlen od lb
      refine wpAnyH_ready (rs := [11]) ?_ (by simp) ?_
      · decide +kernel
      refine AllReadyH.cons rfl (fun K hK => ?_) AllReadyH.nil
      go_simp
      refine hK.out _ _ ?_ (fun hHeld2 => ?_)
      · (try dsimp only); exact set2 HN0.out HNS.out hHeld
      clear hK K
      refine wpAnyH_done (by kernel_rfl) ?_ _
      clear s2
      go_wp2
      go_roundw
      case rel =>
        refine ⟨k + 1, by omega, by go_num, ?_, ?_⟩
        · rw [← set_tab T M k hlt]
          exact HO6.out.set k _
        · exact (HB.out.trans HB6.out).setCell (Nat.le_refl _) _
      case measure => simp [intOf]; omega
    · have hkn : M = k := by omega
      subst hkn
      have s2 := nextAt2 hbel HNS.out HN0.out ST.out
      have kb := (hbel.block _ HN1.out).trans HKB.out
      have y0 : wr.cell? ⟨NS + 1, 0, none⟩ = some (.int .i64 0) := Go.Joins.cell_of_block kb 0
      have y1 : wr.cell? ⟨NS + 1, 1, none⟩ = some (.int .i64 0) := Go.Joins.cell_of_block kb 1
      have y2 : wr.cell? ⟨NS + 1, 2, none⟩ = some (.slice none 0 0) := Go.Joins.cell_of_block kb 2
      have g0 : wr.frozen? ⟨NS + 1, 0, none⟩ = false := Go.Joins.unfrozen_of_block kb 0
      have g1 : wr.frozen? ⟨NS + 1, 1, none⟩ = false := Go.Joins.unfrozen_of_block kb 1
      have g2 : wr.frozen? ⟨NS + 1, 2, none⟩ = false := Go.Joins.unfrozen_of_block kb 2
      have HO := hid hown
      have HB := hid hbel
      have HK := hid kb
      clear hown hbel kb
      go_wp2
      obtain ⟨W5, hW⟩ : ∃ W5, W5 = (((wr.setCell { block := NS + 1, off := 0 } (Value.int IntKind.i64 s)).setCell { block := NS + 1, off := 1 } (Value.int IntKind.i64 r)).setCell { block := NS + 1, off := 2 } (Value.slice (some { block := b0, off := 0 }) M M)) := ⟨_, rfl⟩
      have q0 := Go.Joins.block_setCell (Go.Joins.block_setCell (Go.Joins.block_setCell (i := 0) HK.out (Value.int IntKind.i64 s)) (i := 1) (Value.int IntKind.i64 r)) (i := 2) (Value.slice (some { block := b0, off := 0 }) M M)
      rw [← hW] at q0
      have z0 : W5.cell? ⟨NS + 1, 0, none⟩ = some (.int .i64 s) := Go.Joins.cell_of_block q0 0
      have z1 : W5.cell? ⟨NS + 1, 1, none⟩ = some (.int .i64 r) := Go.Joins.cell_of_block q0 1
      have z2 : W5.cell? ⟨NS + 1, 2, none⟩ = some (Value.slice (some { block := b0, off := 0 }) M M) := Go.Joins.cell_of_block q0 2
      have O5 : Own 2 W5 b0 (Value.slice (some { block := b0, off := 0 }) M M) (tab T M) := by
        have h1 := HN1.out
        have hO := HO.out
        rw [Nat.sub_self, List.replicate_zero, List.append_nil] at hO
        rw [hW]
        exact own_set (own_set (own_set hO _ _ (by simp; omega)) _ _ (by simp; omega)) _ _ (by simp; omega)
      have B5 : Below w.heap.size w W5 := by
        have h1 := HNE.out
        rw [hW]
        exact ((s2.1.setCell (by simp; omega) _).setCell (by simp; omega) _).setCell (by simp; omega) _
      simp only [← hW]
      clear hW q0
      simp [bodyPost, results, Try.results109, go_sem, z0, z1, z2]
      exact ⟨O5, HN0.out, B5⟩

end Go.Proofs.Ytonghkooncmjgaa.Tell
