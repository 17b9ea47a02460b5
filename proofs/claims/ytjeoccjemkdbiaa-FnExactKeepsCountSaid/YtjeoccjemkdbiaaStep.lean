/- Steps of rings: what a rule tells for a cell, the next ring, and StepRing of both sides. -/
import Derived.Test.YtjeoccjemkdbiaaSpec
import Derived.Test.YtjeoccjemkdbiaaApp
import Derived.Test.YtjeoccjemkdbiaaRuleKit
namespace Go.Proofs.Ytjeoccjemkdbiaa.Step
open Go.RowKit Go.Proofs.Ytjeoccjemkdbiaa.Rd Go.Proofs.Ytjeoccjemkdbiaa.Help Go.Proofs.Ytjeoccjemkdbiaa.App Go.Proofs.Ytjeoccjemkdbiaa.Ring Go.Proofs.Ytjeoccjemkdbiaa.Small Go.Proofs.Ytjeoccjemkdbiaa.Num Go.Proofs.Ytjeoccjemkdbiaa.Keep Go.Proofs.Ytjeoccjemkdbiaa.Rule
set_option linter.unusedVariables false
set_option linter.unusedSimpArgs false

/-- What a rule tells for the cell at a place. -/
def told (tbl zs : List Int) (s r at_ : Int) : Int := tbl.getD (num zs s (at_ - r) (2 * r + 1).toNat).toNat 0
/-- The first k cells of the next ring. -/
def nextL (tbl zs : List Int) (s r : Int) (k : Nat) : List Int := (List.range k).map fun (i : Nat) => told tbl zs s r i
theorem nextL_length (tbl zs : List Int) (s r : Int) (k : Nat) : (nextL tbl zs s r k).length = k := by simp [nextL]
theorem nextL_succ (tbl zs : List Int) (s r : Int) (k : Nat) : nextL tbl zs s r (k + 1) = nextL tbl zs s r k ++ [told tbl zs s r k] := by simp [nextL, List.range_succ]

/-- A rule and a ring that fit. -/
structure Fit (s r : Int) (tbl zs : List Int) : Prop where
  st : 2 ≤ s ∧ s ≤ 3
  re : 0 ≤ r ∧ r ≤ 2
  len : (tbl.length : Int) = s ^ (2 * r + 1).toNat
  ta : allB tbl s = true
  ri : allB zs s = true
  n : 1 ≤ zs.length ∧ zs.length ≤ 64

def fitB (s r : Int) (tbl zs : List Int) : Bool := validB s r tbl && isRingB zs s
theorem fit_of {s r : Int} {tbl zs : List Int} (h : fitB s r tbl zs = true) : Fit s r tbl zs := by
  simp only [fitB, validB, shapeB, isRingB, ringB, Bool.and_eq_true, decide_eq_true_eq] at h
  exact ⟨⟨h.1.1.1, h.1.1.2.1⟩, ⟨h.1.1.2.2.1, h.1.1.2.2.2⟩, h.1.2.1, h.1.2.2, h.2.2.1, h.2.2.2⟩

theorem num_lt {s r : Int} {tbl zs : List Int} (F : Fit s r tbl zs) (f : Int) : 0 ≤ num zs s f (2 * r + 1).toNat ∧ num zs s f (2 * r + 1).toNat < (tbl.length : Int) := by
  have h := num_bd F.ri F.st (by have := F.n; omega) f (2 * r + 1).toNat
  rw [F.len]; exact h
theorem told_bd {s r : Int} {tbl zs : List Int} (F : Fit s r tbl zs) (a : Int) : 0 ≤ told tbl zs s r a ∧ told tbl zs s r a ≤ s - 1 := by
  have h := num_lt F (a - r)
  exact all_getD F.ta (by omega)
theorem next_all {s r : Int} {tbl zs : List Int} (F : Fit s r tbl zs) (k : Nat) : allB (nextL tbl zs s r k) s = true := by
  unfold allB
  rw [List.all_eq_true]
  intro x hx
  simp only [nextL, List.mem_map] at hx
  obtain ⟨i, _, rfl⟩ := hx
  have := told_bd F i
  simp only [okB, decide_eq_true_eq]
  exact this

theorem numberAtI {w : World} {b : Nat} {v : Value} {zs : List Int} {st f L : Int} (h : Rd w b v zs) (hst : 2 ≤ st ∧ st ≤ 3) (hn : 1 ≤ zs.length ∧ zs.length ≤ 64) (ha : allB zs st = true) (hf : -100 ≤ f ∧ f ≤ 1000) (hL : 0 ≤ L ∧ L ≤ 5) :
    Calls Try.prog 63 #[v, .int .i64 f, .int .i64 L, .int .i64 st] w fun e w' => e = .returned (.int .i64 (num zs st f L.toNat)) ∧ w = w' := by
  obtain ⟨N, rfl⟩ := Int.eq_ofNat_of_zero_le hL.1
  simpa using Num.numberAt (L := N) h hst hn ha hf (by omega)

set_option maxHeartbeats 4000000 in
theorem implTold {w : World} {s r a : Int} {bt br : Nat} {vt vr : Value} {tbl zs : List Int} (ht : Rd w bt vt tbl) (hr : Rd w br vr zs) (F : Fit s r tbl zs) (ha : 0 ≤ a ∧ a ≤ 100) :
    Calls Try.prog 65 #[ruleV s r vt, vr, .int .i64 a] w fun e w' => e = .returned (.int .i64 (told tbl zs s r a)) ∧ Below w.heap.size w w' := by
  have HR := hid hr
  have HF := hid F
  have hm := num_lt F (a - r)
  obtain ⟨m, hmm⟩ : ∃ m : Nat, num zs s (a - r) (2 * r + 1).toNat = m := ⟨_, (Int.toNat_of_nonneg hm.1).symm⟩
  have hml : m < tbl.length := by omega
  obtain ⟨ao, cap, rfl, _, _, h4⟩ := ht
  obtain ⟨off, rfl, hb, hcell⟩ := h4 (by omega)
  have hx : told tbl zs s r a = tbl.getD m 0 := by unfold told; rw [hmm]; simp
  obtain ⟨x, hxx⟩ : ∃ x, x = tbl.getD m 0 := ⟨_, rfl⟩
  have hcx : w.cell? ⟨bt, off + m, none⟩ = some (.int .i64 x) := by rw [hxx]; exact hcell m hml
  rw [hx, ← hxx]
  have HM := hid hmm
  obtain ⟨n, hn⟩ : ∃ n, n = tbl.length := ⟨_, rfl⟩
  rw [← hn] at hml ⊢
  have hmi : (m : Int) < (n : Int) := by omega
  obtain ⟨r1, r2⟩ := F.re
  obtain ⟨a1, a2⟩ := ha
  have hwr : IntKind.i64.wrap (a - r) = a - r := by rw [IntKind.wrap_i64]; omega
  clear hm hmm h4 hcell hx hxx hn hr F
  go_enter Try.func65, Try.ntmps65
  go_wp2_with fail
  obtain ⟨w1, hW⟩ : ∃ w1, w1 = w.alloc (Obj.cells #[.int .i64 s, .int .i64 r, (Value.slice (some ⟨bt, off, none⟩) n cap)] 28) := ⟨_, rfl⟩
  obtain ⟨N, hN⟩ : ∃ N, N = w.heap.size := ⟨_, rfl⟩
  have st : Below w.heap.size w w1 ∧ w1.cell? ⟨N, 0, none⟩ = some (.int .i64 s) ∧ w1.cell? ⟨N, 1, none⟩ = some (.int .i64 r) ∧ w1.cell? ⟨N, 2, none⟩ = some (Value.slice (some ⟨bt, off, none⟩) n cap) ∧ w1.cell? ⟨bt, off + m, none⟩ = some (.int .i64 x) ∧ Rd w1 br vr zs ∧ w.heap.size ≤ w1.heap.size := by
    rw [hW, hN]
    exact ⟨below1 _ _, by simp, by simp, by simp, cell_keep (below1 _ _) hcx, HR.out.keep (below1 _ _) (Nat.le_refl _), by simp⟩
  simp only [← hW, ← hN]
  clear hW hN hcx
  refine wp_region_held_drew (S := (fun ww => Below w.heap.size w ww ∧ ww.cell? ⟨N, 0, none⟩ = some (.int .i64 s) ∧ ww.cell? ⟨N, 1, none⟩ = some (.int .i64 r) ∧ ww.cell? ⟨N, 2, none⟩ = some (Value.slice (some ⟨bt, off, none⟩) n cap) ∧ ww.cell? ⟨bt, off + m, none⟩ = some (.int .i64 x) ∧ Rd ww br vr zs ∧ w.heap.size ≤ ww.heap.size)) (by kernel_rfl) ?_ (fun hHeld => ?_)
  · ((try dsimp only); exact drew4_1 st)
  first | (refine wpAnyH_take (i := 0) (v := ?_) rfl ?_ ?_ ?_ (fun _ _ _ h => h) (Or.inl ⟨?_, ?_⟩) ?_ ?_; rotate_left 1; (focus decide +kernel); (focus decide +kernel); (focus decide +kernel); (focus rfl); (focus (intro w hSw; (try dsimp only at hSw); go_simp; (try (with_reducible rfl)); done)); (focus assumption); (try simp only [Act.put, List.setIfInBounds_toArray, List.set_cons_zero, List.set_cons_succ, List.getElem_toArray, List.getElem_cons_succ, List.getElem_cons_zero])) | (refine wpAnyH_take (i := 0) (v := undef) rfl ?_ ?_ ?_ (fun _ _ _ h => h) (Or.inr ⟨?_, rfl⟩) ?_ ?_; (focus decide +kernel); (focus decide +kernel); (focus decide +kernel); (focus rfl); (focus assumption); (try simp only [Act.put, List.setIfInBounds_toArray, List.set_cons_zero, List.set_cons_succ, List.getElem_toArray, List.getElem_cons_succ, List.getElem_cons_zero])) | skip
  first | (refine wpAnyH_take (i := 1) (v := ?_) rfl ?_ ?_ ?_ (fun _ _ _ h => h) (Or.inl ⟨?_, ?_⟩) ?_ ?_; rotate_left 1; (focus decide +kernel); (focus decide +kernel); (focus decide +kernel); (focus rfl); (focus (intro w hSw; (try dsimp only at hSw); go_simp; (try (with_reducible rfl)); done)); (focus assumption); (try simp only [Act.put, List.setIfInBounds_toArray, List.set_cons_zero, List.set_cons_succ, List.getElem_toArray, List.getElem_cons_succ, List.getElem_cons_zero])) | (refine wpAnyH_take (i := 1) (v := undef) rfl ?_ ?_ ?_ (fun _ _ _ h => h) (Or.inr ⟨?_, rfl⟩) ?_ ?_; (focus decide +kernel); (focus decide +kernel); (focus decide +kernel); (focus rfl); (focus assumption); (try simp only [Act.put, List.setIfInBounds_toArray, List.set_cons_zero, List.set_cons_succ, List.getElem_toArray, List.getElem_cons_succ, List.getElem_cons_zero])) | skip
  first | (refine wpAnyH_take (i := 2) (v := ?_) rfl ?_ ?_ ?_ (fun _ _ _ h => h) (Or.inl ⟨?_, ?_⟩) ?_ ?_; rotate_left 1; (focus decide +kernel); (focus decide +kernel); (focus decide +kernel); (focus rfl); (focus (intro w hSw; (try dsimp only at hSw); go_simp; (try (with_reducible rfl)); done)); (focus assumption); (try simp only [Act.put, List.setIfInBounds_toArray, List.set_cons_zero, List.set_cons_succ, List.getElem_toArray, List.getElem_cons_succ, List.getElem_cons_zero])) | (refine wpAnyH_take (i := 2) (v := undef) rfl ?_ ?_ ?_ (fun _ _ _ h => h) (Or.inr ⟨?_, rfl⟩) ?_ ?_; (focus decide +kernel); (focus decide +kernel); (focus decide +kernel); (focus rfl); (focus assumption); (try simp only [Act.put, List.setIfInBounds_toArray, List.set_cons_zero, List.set_cons_succ, List.getElem_toArray, List.getElem_cons_succ, List.getElem_cons_zero])) | skip
  first | (refine wpAnyH_take (i := 3) (v := ?_) rfl ?_ ?_ ?_ (fun _ _ _ h => h) (Or.inl ⟨?_, ?_⟩) ?_ ?_; rotate_left 1; (focus decide +kernel); (focus decide +kernel); (focus decide +kernel); (focus rfl); (focus (intro w hSw; (try dsimp only at hSw); go_simp; (try (with_reducible rfl)); done)); (focus assumption); (try simp only [Act.put, List.setIfInBounds_toArray, List.set_cons_zero, List.set_cons_succ, List.getElem_toArray, List.getElem_cons_succ, List.getElem_cons_zero])) | (refine wpAnyH_take (i := 3) (v := undef) rfl ?_ ?_ ?_ (fun _ _ _ h => h) (Or.inr ⟨?_, rfl⟩) ?_ ?_; (focus decide +kernel); (focus decide +kernel); (focus decide +kernel); (focus rfl); (focus assumption); (try simp only [Act.put, List.setIfInBounds_toArray, List.set_cons_zero, List.set_cons_succ, List.getElem_toArray, List.getElem_cons_succ, List.getElem_cons_zero])) | skip
  first | (refine wpAnyH_take (i := 4) (v := ?_) rfl ?_ ?_ ?_ (fun _ _ _ h => h) (Or.inl ⟨?_, ?_⟩) ?_ ?_; rotate_left 1; (focus decide +kernel); (focus decide +kernel); (focus decide +kernel); (focus rfl); (focus (intro w hSw; (try dsimp only at hSw); go_simp; (try (with_reducible rfl)); done)); (focus assumption); (try simp only [Act.put, List.setIfInBounds_toArray, List.set_cons_zero, List.set_cons_succ, List.getElem_toArray, List.getElem_cons_succ, List.getElem_cons_zero])) | (refine wpAnyH_take (i := 4) (v := undef) rfl ?_ ?_ ?_ (fun _ _ _ h => h) (Or.inr ⟨?_, rfl⟩) ?_ ?_; (focus decide +kernel); (focus decide +kernel); (focus decide +kernel); (focus rfl); (focus assumption); (try simp only [Act.put, List.setIfInBounds_toArray, List.set_cons_zero, List.set_cons_succ, List.getElem_toArray, List.getElem_cons_succ, List.getElem_cons_zero])) | skip
  first | (refine wpAnyH_take (i := 5) (v := ?_) rfl ?_ ?_ ?_ (fun _ _ _ h => h) (Or.inl ⟨?_, ?_⟩) ?_ ?_; rotate_left 1; (focus decide +kernel); (focus decide +kernel); (focus decide +kernel); (focus rfl); (focus (intro w hSw; (try dsimp only at hSw); go_simp; (try (with_reducible rfl)); done)); (focus assumption); (try simp only [Act.put, List.setIfInBounds_toArray, List.set_cons_zero, List.set_cons_succ, List.getElem_toArray, List.getElem_cons_succ, List.getElem_cons_zero])) | (refine wpAnyH_take (i := 5) (v := undef) rfl ?_ ?_ ?_ (fun _ _ _ h => h) (Or.inr ⟨?_, rfl⟩) ?_ ?_; (focus decide +kernel); (focus decide +kernel); (focus decide +kernel); (focus rfl); (focus assumption); (try simp only [Act.put, List.setIfInBounds_toArray, List.set_cons_zero, List.set_cons_succ, List.getElem_toArray, List.getElem_cons_succ, List.getElem_cons_zero])) | skip
  first | (refine wpAnyH_take (i := 6) (v := ?_) rfl ?_ ?_ ?_ (fun _ _ _ h => h) (Or.inl ⟨?_, ?_⟩) ?_ ?_; rotate_left 1; (focus decide +kernel); (focus decide +kernel); (focus decide +kernel); (focus rfl); (focus (intro w hSw; (try dsimp only at hSw); go_simp; (try (with_reducible rfl)); done)); (focus assumption); (try simp only [Act.put, List.setIfInBounds_toArray, List.set_cons_zero, List.set_cons_succ, List.getElem_toArray, List.getElem_cons_succ, List.getElem_cons_zero])) | (refine wpAnyH_take (i := 6) (v := undef) rfl ?_ ?_ ?_ (fun _ _ _ h => h) (Or.inr ⟨?_, rfl⟩) ?_ ?_; (focus decide +kernel); (focus decide +kernel); (focus decide +kernel); (focus rfl); (focus assumption); (try simp only [Act.put, List.setIfInBounds_toArray, List.set_cons_zero, List.set_cons_succ, List.getElem_toArray, List.getElem_cons_succ, List.getElem_cons_zero])) | skip
  first | (refine wpAnyH_take (i := 7) (v := ?_) rfl ?_ ?_ ?_ (fun _ _ _ h => h) (Or.inl ⟨?_, ?_⟩) ?_ ?_; rotate_left 1; (focus decide +kernel); (focus decide +kernel); (focus decide +kernel); (focus rfl); (focus (intro w hSw; (try dsimp only at hSw); go_simp; (try (with_reducible rfl)); done)); (focus assumption); (try simp only [Act.put, List.setIfInBounds_toArray, List.set_cons_zero, List.set_cons_succ, List.getElem_toArray, List.getElem_cons_succ, List.getElem_cons_zero])) | (refine wpAnyH_take (i := 7) (v := undef) rfl ?_ ?_ ?_ (fun _ _ _ h => h) (Or.inr ⟨?_, rfl⟩) ?_ ?_; (focus decide +kernel); (focus decide +kernel); (focus decide +kernel); (focus rfl); (focus assumption); (try simp only [Act.put, List.setIfInBounds_toArray, List.set_cons_zero, List.set_cons_succ, List.getElem_toArray, List.getElem_cons_succ, List.getElem_cons_zero])) | skip
  first | (refine wpAnyH_take (i := 10) (v := ?_) rfl ?_ ?_ ?_ (fun _ _ _ h => h) (Or.inl ⟨?_, ?_⟩) ?_ ?_; rotate_left 1; (focus decide +kernel); (focus decide +kernel); (focus decide +kernel); (focus rfl); (focus (intro w hSw; (try dsimp only at hSw); go_simp; (try (with_reducible rfl)); done)); (focus assumption); (try simp only [Act.put, List.setIfInBounds_toArray, List.set_cons_zero, List.set_cons_succ, List.getElem_toArray, List.getElem_cons_succ, List.getElem_cons_zero])) | (refine wpAnyH_take (i := 10) (v := undef) rfl ?_ ?_ ?_ (fun _ _ _ h => h) (Or.inr ⟨?_, rfl⟩) ?_ ?_; (focus decide +kernel); (focus decide +kernel); (focus decide +kernel); (focus rfl); (focus assumption); (try simp only [Act.put, List.setIfInBounds_toArray, List.set_cons_zero, List.set_cons_succ, List.getElem_toArray, List.getElem_cons_succ, List.getElem_cons_zero])) | skip
  first | (refine wpAnyH_take (i := 11) (v := ?_) rfl ?_ ?_ ?_ (fun _ _ _ h => h) (Or.inl ⟨?_, ?_⟩) ?_ ?_; rotate_left 1; (focus decide +kernel); (focus decide +kernel); (focus decide +kernel); (focus rfl); (focus (intro w hSw; (try dsimp only at hSw); go_simp; (try (with_reducible rfl)); done)); (focus assumption); (try simp only [Act.put, List.setIfInBounds_toArray, List.set_cons_zero, List.set_cons_succ, List.getElem_toArray, List.getElem_cons_succ, List.getElem_cons_zero])) | (refine wpAnyH_take (i := 11) (v := undef) rfl ?_ ?_ ?_ (fun _ _ _ h => h) (Or.inr ⟨?_, rfl⟩) ?_ ?_; (focus decide +kernel); (focus decide +kernel); (focus decide +kernel); (focus rfl); (focus assumption); (try simp only [Act.put, List.setIfInBounds_toArray, List.set_cons_zero, List.set_cons_succ, List.getElem_toArray, List.getElem_cons_succ, List.getElem_cons_zero])) | skip
  first | (refine wpAnyH_take (i := 13) (v := ?_) rfl ?_ ?_ ?_ (fun _ _ _ h => h) (Or.inl ⟨?_, ?_⟩) ?_ ?_; rotate_left 1; (focus decide +kernel); (focus decide +kernel); (focus decide +kernel); (focus rfl); (focus (intro w hSw; (try dsimp only at hSw); go_simp; (try (with_reducible rfl)); done)); (focus assumption); (try simp only [Act.put, List.setIfInBounds_toArray, List.set_cons_zero, List.set_cons_succ, List.getElem_toArray, List.getElem_cons_succ, List.getElem_cons_zero])) | (refine wpAnyH_take (i := 13) (v := undef) rfl ?_ ?_ ?_ (fun _ _ _ h => h) (Or.inr ⟨?_, rfl⟩) ?_ ?_; (focus decide +kernel); (focus decide +kernel); (focus decide +kernel); (focus rfl); (focus assumption); (try simp only [Act.put, List.setIfInBounds_toArray, List.set_cons_zero, List.set_cons_succ, List.getElem_toArray, List.getElem_cons_succ, List.getElem_cons_zero])) | skip
  first | (refine wpAnyH_take (i := 14) (v := ?_) rfl ?_ ?_ ?_ (fun _ _ _ h => h) (Or.inl ⟨?_, ?_⟩) ?_ ?_; rotate_left 1; (focus decide +kernel); (focus decide +kernel); (focus decide +kernel); (focus rfl); (focus (intro w hSw; (try dsimp only at hSw); go_simp; (try (with_reducible rfl)); done)); (focus assumption); (try simp only [Act.put, List.setIfInBounds_toArray, List.set_cons_zero, List.set_cons_succ, List.getElem_toArray, List.getElem_cons_succ, List.getElem_cons_zero])) | (refine wpAnyH_take (i := 14) (v := undef) rfl ?_ ?_ ?_ (fun _ _ _ h => h) (Or.inr ⟨?_, rfl⟩) ?_ ?_; (focus decide +kernel); (focus decide +kernel); (focus decide +kernel); (focus rfl); (focus assumption); (try simp only [Act.put, List.setIfInBounds_toArray, List.set_cons_zero, List.set_cons_succ, List.getElem_toArray, List.getElem_cons_succ, List.getElem_cons_zero])) | skip
  first | (refine wpAnyH_take (i := 15) (v := ?_) rfl ?_ ?_ ?_ (fun _ _ _ h => h) (Or.inl ⟨?_, ?_⟩) ?_ ?_; rotate_left 1; (focus decide +kernel); (focus decide +kernel); (focus decide +kernel); (focus rfl); (focus (intro w hSw; (try dsimp only at hSw); go_simp; (try (with_reducible rfl)); done)); (focus assumption); (try simp only [Act.put, List.setIfInBounds_toArray, List.set_cons_zero, List.set_cons_succ, List.getElem_toArray, List.getElem_cons_succ, List.getElem_cons_zero])) | (refine wpAnyH_take (i := 15) (v := undef) rfl ?_ ?_ ?_ (fun _ _ _ h => h) (Or.inr ⟨?_, rfl⟩) ?_ ?_; (focus decide +kernel); (focus decide +kernel); (focus decide +kernel); (focus rfl); (focus assumption); (try simp only [Act.put, List.setIfInBounds_toArray, List.set_cons_zero, List.set_cons_succ, List.getElem_toArray, List.getElem_cons_succ, List.getElem_cons_zero])) | skip
  first | (refine wpAnyH_take (i := 8) (v := undef) rfl ?_ ?_ ?_ (fun _ _ _ h => h) (Or.inr ⟨?_, rfl⟩) ?_ ?_; (focus decide +kernel); (focus decide +kernel); (focus decide +kernel); (focus rfl); (focus assumption); (try simp only [Act.put, List.setIfInBounds_toArray, List.set_cons_zero, List.set_cons_succ, List.getElem_toArray, List.getElem_cons_succ, List.getElem_cons_zero])) | (refine wpAnyH_ready (rs := [8]) ?_ (by simp) ?_; (focus decide +kernel); refine AllReadyH.cons rfl (fun K hK => ?_) AllReadyH.nil; go_simp; (go_at_call 32; refine shapeOf.mono ?_; rintro e w2 ⟨rfl, bel⟩); refine hK.out _ _ ?_ (fun hHeld => ?_); ((try dsimp only); exact next4_1 bel hHeld); clear hK K; (try simp only [Act.put, List.setIfInBounds_toArray, List.set_cons_zero, List.set_cons_succ, List.getElem_toArray, List.getElem_cons_succ, List.getElem_cons_zero]))
  first | (refine wpAnyH_take (i := 10) (v := ?_) rfl ?_ ?_ ?_ (fun _ _ _ h => h) (Or.inl ⟨?_, ?_⟩) ?_ ?_; rotate_left 1; (focus decide +kernel); (focus decide +kernel); (focus decide +kernel); (focus rfl); (focus (intro w hSw; (try dsimp only at hSw); go_simp; (try (with_reducible rfl)); done)); (focus assumption); (try simp only [Act.put, List.setIfInBounds_toArray, List.set_cons_zero, List.set_cons_succ, List.getElem_toArray, List.getElem_cons_succ, List.getElem_cons_zero])) | (refine wpAnyH_take (i := 10) (v := undef) rfl ?_ ?_ ?_ (fun _ _ _ h => h) (Or.inr ⟨?_, rfl⟩) ?_ ?_; (focus decide +kernel); (focus decide +kernel); (focus decide +kernel); (focus rfl); (focus assumption); (try simp only [Act.put, List.setIfInBounds_toArray, List.set_cons_zero, List.set_cons_succ, List.getElem_toArray, List.getElem_cons_succ, List.getElem_cons_zero])) | skip
  first | (refine wpAnyH_take (i := 11) (v := ?_) rfl ?_ ?_ ?_ (fun _ _ _ h => h) (Or.inl ⟨?_, ?_⟩) ?_ ?_; rotate_left 1; (focus decide +kernel); (focus decide +kernel); (focus decide +kernel); (focus rfl); (focus (intro w hSw; (try dsimp only at hSw); go_simp; (try (with_reducible rfl)); done)); (focus assumption); (try simp only [Act.put, List.setIfInBounds_toArray, List.set_cons_zero, List.set_cons_succ, List.getElem_toArray, List.getElem_cons_succ, List.getElem_cons_zero])) | (refine wpAnyH_take (i := 11) (v := undef) rfl ?_ ?_ ?_ (fun _ _ _ h => h) (Or.inr ⟨?_, rfl⟩) ?_ ?_; (focus decide +kernel); (focus decide +kernel); (focus decide +kernel); (focus rfl); (focus assumption); (try simp only [Act.put, List.setIfInBounds_toArray, List.set_cons_zero, List.set_cons_succ, List.getElem_toArray, List.getElem_cons_succ, List.getElem_cons_zero])) | skip
  first | (refine wpAnyH_take (i := 13) (v := ?_) rfl ?_ ?_ ?_ (fun _ _ _ h => h) (Or.inl ⟨?_, ?_⟩) ?_ ?_; rotate_left 1; (focus decide +kernel); (focus decide +kernel); (focus decide +kernel); (focus rfl); (focus (intro w hSw; (try dsimp only at hSw); go_simp; (try (with_reducible rfl)); done)); (focus assumption); (try simp only [Act.put, List.setIfInBounds_toArray, List.set_cons_zero, List.set_cons_succ, List.getElem_toArray, List.getElem_cons_succ, List.getElem_cons_zero])) | (refine wpAnyH_take (i := 13) (v := undef) rfl ?_ ?_ ?_ (fun _ _ _ h => h) (Or.inr ⟨?_, rfl⟩) ?_ ?_; (focus decide +kernel); (focus decide +kernel); (focus decide +kernel); (focus rfl); (focus assumption); (try simp only [Act.put, List.setIfInBounds_toArray, List.set_cons_zero, List.set_cons_succ, List.getElem_toArray, List.getElem_cons_succ, List.getElem_cons_zero])) | skip
  first | (refine wpAnyH_take (i := 14) (v := ?_) rfl ?_ ?_ ?_ (fun _ _ _ h => h) (Or.inl ⟨?_, ?_⟩) ?_ ?_; rotate_left 1; (focus decide +kernel); (focus decide +kernel); (focus decide +kernel); (focus rfl); (focus (intro w hSw; (try dsimp only at hSw); go_simp; (try (with_reducible rfl)); done)); (focus assumption); (try simp only [Act.put, List.setIfInBounds_toArray, List.set_cons_zero, List.set_cons_succ, List.getElem_toArray, List.getElem_cons_succ, List.getElem_cons_zero])) | (refine wpAnyH_take (i := 14) (v := undef) rfl ?_ ?_ ?_ (fun _ _ _ h => h) (Or.inr ⟨?_, rfl⟩) ?_ ?_; (focus decide +kernel); (focus decide +kernel); (focus decide +kernel); (focus rfl); (focus assumption); (try simp only [Act.put, List.setIfInBounds_toArray, List.set_cons_zero, List.set_cons_succ, List.getElem_toArray, List.getElem_cons_succ, List.getElem_cons_zero])) | skip
  first | (refine wpAnyH_take (i := 15) (v := ?_) rfl ?_ ?_ ?_ (fun _ _ _ h => h) (Or.inl ⟨?_, ?_⟩) ?_ ?_; rotate_left 1; (focus decide +kernel); (focus decide +kernel); (focus decide +kernel); (focus rfl); (focus (intro w hSw; (try dsimp only at hSw); go_simp; (try (with_reducible rfl)); done)); (focus assumption); (try simp only [Act.put, List.setIfInBounds_toArray, List.set_cons_zero, List.set_cons_succ, List.getElem_toArray, List.getElem_cons_succ, List.getElem_cons_zero])) | (refine wpAnyH_take (i := 15) (v := undef) rfl ?_ ?_ ?_ (fun _ _ _ h => h) (Or.inr ⟨?_, rfl⟩) ?_ ?_; (focus decide +kernel); (focus decide +kernel); (focus decide +kernel); (focus rfl); (focus assumption); (try simp only [Act.put, List.setIfInBounds_toArray, List.set_cons_zero, List.set_cons_succ, List.getElem_toArray, List.getElem_cons_succ, List.getElem_cons_zero])) | skip
  first | (refine wpAnyH_take (i := 9) (v := undef) rfl ?_ ?_ ?_ (fun _ _ _ h => h) (Or.inr ⟨?_, rfl⟩) ?_ ?_; (focus decide +kernel); (focus decide +kernel); (focus decide +kernel); (focus rfl); (focus assumption); (try simp only [Act.put, List.setIfInBounds_toArray, List.set_cons_zero, List.set_cons_succ, List.getElem_toArray, List.getElem_cons_succ, List.getElem_cons_zero])) | (refine wpAnyH_ready (rs := [9]) ?_ (by simp) ?_; (focus decide +kernel); refine AllReadyH.cons rfl (fun K hK => ?_) AllReadyH.nil; go_simp; (go_at_call 33; refine (wide HF.out.re).mono ?_; rintro e w3 ⟨rfl, bel⟩); refine hK.out _ _ ?_ (fun hHeld => ?_); ((try dsimp only); exact next4_1 bel hHeld); clear hK K; (try simp only [Act.put, List.setIfInBounds_toArray, List.set_cons_zero, List.set_cons_succ, List.getElem_toArray, List.getElem_cons_succ, List.getElem_cons_zero]))
  first | (refine wpAnyH_take (i := 10) (v := ?_) rfl ?_ ?_ ?_ (fun _ _ _ h => h) (Or.inl ⟨?_, ?_⟩) ?_ ?_; rotate_left 1; (focus decide +kernel); (focus decide +kernel); (focus decide +kernel); (focus rfl); (focus (intro w hSw; (try dsimp only at hSw); go_simp; (try (with_reducible rfl)); done)); (focus assumption); (try simp only [Act.put, List.setIfInBounds_toArray, List.set_cons_zero, List.set_cons_succ, List.getElem_toArray, List.getElem_cons_succ, List.getElem_cons_zero])) | (refine wpAnyH_take (i := 10) (v := undef) rfl ?_ ?_ ?_ (fun _ _ _ h => h) (Or.inr ⟨?_, rfl⟩) ?_ ?_; (focus decide +kernel); (focus decide +kernel); (focus decide +kernel); (focus rfl); (focus assumption); (try simp only [Act.put, List.setIfInBounds_toArray, List.set_cons_zero, List.set_cons_succ, List.getElem_toArray, List.getElem_cons_succ, List.getElem_cons_zero])) | skip
  first | (refine wpAnyH_take (i := 11) (v := ?_) rfl ?_ ?_ ?_ (fun _ _ _ h => h) (Or.inl ⟨?_, ?_⟩) ?_ ?_; rotate_left 1; (focus decide +kernel); (focus decide +kernel); (focus decide +kernel); (focus rfl); (focus (intro w hSw; (try dsimp only at hSw); go_simp; (try (with_reducible rfl)); done)); (focus assumption); (try simp only [Act.put, List.setIfInBounds_toArray, List.set_cons_zero, List.set_cons_succ, List.getElem_toArray, List.getElem_cons_succ, List.getElem_cons_zero])) | (refine wpAnyH_take (i := 11) (v := undef) rfl ?_ ?_ ?_ (fun _ _ _ h => h) (Or.inr ⟨?_, rfl⟩) ?_ ?_; (focus decide +kernel); (focus decide +kernel); (focus decide +kernel); (focus rfl); (focus assumption); (try simp only [Act.put, List.setIfInBounds_toArray, List.set_cons_zero, List.set_cons_succ, List.getElem_toArray, List.getElem_cons_succ, List.getElem_cons_zero])) | skip
  first | (refine wpAnyH_take (i := 13) (v := ?_) rfl ?_ ?_ ?_ (fun _ _ _ h => h) (Or.inl ⟨?_, ?_⟩) ?_ ?_; rotate_left 1; (focus decide +kernel); (focus decide +kernel); (focus decide +kernel); (focus rfl); (focus (intro w hSw; (try dsimp only at hSw); go_simp; (try (with_reducible rfl)); done)); (focus assumption); (try simp only [Act.put, List.setIfInBounds_toArray, List.set_cons_zero, List.set_cons_succ, List.getElem_toArray, List.getElem_cons_succ, List.getElem_cons_zero])) | (refine wpAnyH_take (i := 13) (v := undef) rfl ?_ ?_ ?_ (fun _ _ _ h => h) (Or.inr ⟨?_, rfl⟩) ?_ ?_; (focus decide +kernel); (focus decide +kernel); (focus decide +kernel); (focus rfl); (focus assumption); (try simp only [Act.put, List.setIfInBounds_toArray, List.set_cons_zero, List.set_cons_succ, List.getElem_toArray, List.getElem_cons_succ, List.getElem_cons_zero])) | skip
  first | (refine wpAnyH_take (i := 14) (v := ?_) rfl ?_ ?_ ?_ (fun _ _ _ h => h) (Or.inl ⟨?_, ?_⟩) ?_ ?_; rotate_left 1; (focus decide +kernel); (focus decide +kernel); (focus decide +kernel); (focus rfl); (focus (intro w hSw; (try dsimp only at hSw); go_simp; (try (with_reducible rfl)); done)); (focus assumption); (try simp only [Act.put, List.setIfInBounds_toArray, List.set_cons_zero, List.set_cons_succ, List.getElem_toArray, List.getElem_cons_succ, List.getElem_cons_zero])) | (refine wpAnyH_take (i := 14) (v := undef) rfl ?_ ?_ ?_ (fun _ _ _ h => h) (Or.inr ⟨?_, rfl⟩) ?_ ?_; (focus decide +kernel); (focus decide +kernel); (focus decide +kernel); (focus rfl); (focus assumption); (try simp only [Act.put, List.setIfInBounds_toArray, List.set_cons_zero, List.set_cons_succ, List.getElem_toArray, List.getElem_cons_succ, List.getElem_cons_zero])) | skip
  first | (refine wpAnyH_take (i := 15) (v := ?_) rfl ?_ ?_ ?_ (fun _ _ _ h => h) (Or.inl ⟨?_, ?_⟩) ?_ ?_; rotate_left 1; (focus decide +kernel); (focus decide +kernel); (focus decide +kernel); (focus rfl); (focus (intro w hSw; (try dsimp only at hSw); go_simp; (try (with_reducible rfl)); done)); (focus assumption); (try simp only [Act.put, List.setIfInBounds_toArray, List.set_cons_zero, List.set_cons_succ, List.getElem_toArray, List.getElem_cons_succ, List.getElem_cons_zero])) | (refine wpAnyH_take (i := 15) (v := undef) rfl ?_ ?_ ?_ (fun _ _ _ h => h) (Or.inr ⟨?_, rfl⟩) ?_ ?_; (focus decide +kernel); (focus decide +kernel); (focus decide +kernel); (focus rfl); (focus assumption); (try simp only [Act.put, List.setIfInBounds_toArray, List.set_cons_zero, List.set_cons_succ, List.getElem_toArray, List.getElem_cons_succ, List.getElem_cons_zero])) | skip
  first | (refine wpAnyH_take (i := 12) (v := undef) rfl ?_ ?_ ?_ (fun _ _ _ h => h) (Or.inr ⟨?_, rfl⟩) ?_ ?_; (focus decide +kernel); (focus decide +kernel); (focus decide +kernel); (focus rfl); (focus assumption); (try simp only [Act.put, List.setIfInBounds_toArray, List.set_cons_zero, List.set_cons_succ, List.getElem_toArray, List.getElem_cons_succ, List.getElem_cons_zero])) | (refine wpAnyH_ready (rs := [12]) ?_ (by simp) ?_; (focus decide +kernel); refine AllReadyH.cons rfl (fun K hK => ?_) AllReadyH.nil; go_simp; (go_at_call 63; refine (numberAtI (rd4_1_0 hHeld) HF.out.st HF.out.n HF.out.ri (by omega) (by omega)).mono ?_; rw [HM.out]; rintro e w4 ⟨rfl, hw4⟩; have bel := Below.refl w3.heap.size w3; rw [hw4] at bel; subst hw4); refine hK.out _ _ ?_ (fun hHeld => ?_); ((try dsimp only); exact next4_1 bel hHeld); clear hK K; (try simp only [Act.put, List.setIfInBounds_toArray, List.set_cons_zero, List.set_cons_succ, List.getElem_toArray, List.getElem_cons_succ, List.getElem_cons_zero]))
  first | (refine wpAnyH_take (i := 13) (v := ?_) rfl ?_ ?_ ?_ (fun _ _ _ h => h) (Or.inl ⟨?_, ?_⟩) ?_ ?_; rotate_left 1; (focus decide +kernel); (focus decide +kernel); (focus decide +kernel); (focus rfl); (focus (intro w hSw; (try dsimp only at hSw); go_simp; (try (with_reducible rfl)); done)); (focus assumption); (try simp only [Act.put, List.setIfInBounds_toArray, List.set_cons_zero, List.set_cons_succ, List.getElem_toArray, List.getElem_cons_succ, List.getElem_cons_zero])) | (refine wpAnyH_take (i := 13) (v := undef) rfl ?_ ?_ ?_ (fun _ _ _ h => h) (Or.inr ⟨?_, rfl⟩) ?_ ?_; (focus decide +kernel); (focus decide +kernel); (focus decide +kernel); (focus rfl); (focus assumption); (try simp only [Act.put, List.setIfInBounds_toArray, List.set_cons_zero, List.set_cons_succ, List.getElem_toArray, List.getElem_cons_succ, List.getElem_cons_zero])) | skip
  first | (refine wpAnyH_take (i := 14) (v := ?_) rfl ?_ ?_ ?_ (fun _ _ _ h => h) (Or.inl ⟨?_, ?_⟩) ?_ ?_; rotate_left 1; (focus decide +kernel); (focus decide +kernel); (focus decide +kernel); (focus rfl); (focus (intro w hSw; (try dsimp only at hSw); go_simp; (try (with_reducible rfl)); done)); (focus assumption); (try simp only [Act.put, List.setIfInBounds_toArray, List.set_cons_zero, List.set_cons_succ, List.getElem_toArray, List.getElem_cons_succ, List.getElem_cons_zero])) | (refine wpAnyH_take (i := 14) (v := undef) rfl ?_ ?_ ?_ (fun _ _ _ h => h) (Or.inr ⟨?_, rfl⟩) ?_ ?_; (focus decide +kernel); (focus decide +kernel); (focus decide +kernel); (focus rfl); (focus assumption); (try simp only [Act.put, List.setIfInBounds_toArray, List.set_cons_zero, List.set_cons_succ, List.getElem_toArray, List.getElem_cons_succ, List.getElem_cons_zero])) | skip
  first | (refine wpAnyH_take (i := 15) (v := ?_) rfl ?_ ?_ ?_ (fun _ _ _ h => h) (Or.inl ⟨?_, ?_⟩) ?_ ?_; rotate_left 1; (focus decide +kernel); (focus decide +kernel); (focus decide +kernel); (focus rfl); (focus (intro w hSw; (try dsimp only at hSw); go_simp; (try (with_reducible rfl)); done)); (focus assumption); (try simp only [Act.put, List.setIfInBounds_toArray, List.set_cons_zero, List.set_cons_succ, List.getElem_toArray, List.getElem_cons_succ, List.getElem_cons_zero])) | (refine wpAnyH_take (i := 15) (v := undef) rfl ?_ ?_ ?_ (fun _ _ _ h => h) (Or.inr ⟨?_, rfl⟩) ?_ ?_; (focus decide +kernel); (focus decide +kernel); (focus decide +kernel); (focus rfl); (focus assumption); (try simp only [Act.put, List.setIfInBounds_toArray, List.set_cons_zero, List.set_cons_succ, List.getElem_toArray, List.getElem_cons_succ, List.getElem_cons_zero])) | skip
  refine wpAnyH_done (by kernel_rfl) ?_ _
  clear st
  go_wp2
  go_ret
  exact ⟨rfl, And.left hHeld⟩

theorem set_next (tbl zs : List Int) (s r : Int) (n k : Nat) (h : k < n) : (nextL tbl zs s r k ++ List.replicate (n - k) 0).set k (told tbl zs s r k) = nextL tbl zs s r (k + 1) ++ List.replicate (n - (k + 1)) 0 := by
  have e : n - k = (n - (k + 1)) + 1 := by omega
  rw [e, List.replicate_succ, List.set_append_right _ _ (by rw [nextL_length]; omega), nextL_length, Nat.sub_self, List.set_cons_zero, nextL_succ, List.append_assoc]
  rfl

set_option maxHeartbeats 4000000 in
theorem implNext {w : World} {s r : Int} {bt br : Nat} {vt vr : Value} {tbl zs : List Int} (ht : Rd w bt vt tbl) (hr : Rd w br vr zs) (F : Fit s r tbl zs) :
    Calls Try.prog 38 #[ruleV s r vt, vr] w fun e w' => ∃ b', e = .returned (.slice (some ⟨b', 0, none⟩) zs.length zs.length) ∧
      Own 2 w' b' (.slice (some ⟨b', 0, none⟩) zs.length zs.length) (nextL tbl zs s r zs.length) ∧ w.heap.size ≤ b' ∧ Below w.heap.size w w' := by
  have HT := hid ht
  have HR := hid hr
  have HF := hid F
  obtain ⟨aot, capt, rfl, _, _, _⟩ := ht
  obtain ⟨aor, capr, rfl, _, _, _⟩ := hr
  obtain ⟨n1, n2⟩ := F.n
  obtain ⟨n, hn⟩ : ∃ n, n = zs.length := ⟨_, rfl⟩
  have Hn := hid hn
  rw [← hn] at HR n1 n2 ⊢
  have hmk := run_make_row' (P := Try.prog) 22 2 (.int .i64 0) 8 Try.underlying22 infoI rfl .i64 .i64 n (by omega) (by omega)
  clear hn F
  go_enter Try.func38, Try.ntmps38
  go_wp2
  obtain ⟨w1, hW⟩ : ∃ w1, w1 = w.alloc (Obj.cells #[.int .i64 s, .int .i64 r, (Value.slice aot tbl.length capt)] 28) := ⟨_, rfl⟩
  obtain ⟨N, hN⟩ : ∃ N, N = w.heap.size := ⟨_, rfl⟩
  have st : Below w.heap.size w w1 ∧ w1.cell? ⟨N, 0, none⟩ = some (.int .i64 s) ∧ w1.cell? ⟨N, 1, none⟩ = some (.int .i64 r) ∧ w1.cell? ⟨N, 2, none⟩ = some (Value.slice aot tbl.length capt) ∧ Rd w1 bt (Value.slice aot tbl.length capt) tbl ∧ Rd w1 br (Value.slice aor n capr) zs ∧ w.heap.size ≤ w1.heap.size := by
    rw [hW, hN]
    exact ⟨below1 _ _, by simp, by simp, by simp, HT.out.keep (below1 _ _) (Nat.le_refl _), HR.out.keep (below1 _ _) (Nat.le_refl _), by simp⟩
  have hsz : N + 1 = w1.heap.size := by rw [hW, hN]; simp
  simp only [← hW, ← hN, hsz]
  have ST := hid st
  clear hW hN st hsz
  go_loopw [6, 12] (fun j t wr => ∃ k : Nat, k ≤ n ∧ t = .int .i64 k ∧ Own 2 wr w1.heap.size (.slice (some ⟨w1.heap.size, 0, none⟩) n n) (nextL tbl zs s r k ++ List.replicate (n - k) 0) ∧ Below w1.heap.size w1 wr) (fun _ t _ => n - (intOf t).toNat)
  case atStart => exact ⟨0, Nat.zero_le _, rfl, by simpa [nextL] using Own.made 2 w1 n (by unfold maxLen; omega), (Below.refl _ _).alloc (Nat.le_refl _) _⟩
  case round =>
    obtain ⟨k, hk, rfl, hown, hbel⟩ := hrel
    by_cases hlt : k < n
    · have s2 := next3_2 hbel ST.out
      have HB := hid hbel
      have HO := hid hown
      clear hbel hown
      go_wp2_with fail
      go_at_call 65
      refine (implTold (rd3_2_0 s2) (rd3_2_1 s2) HF.out (by omega)).mono ?_
      rintro e w4 ⟨rfl, bel⟩
      have own4 := HO.out.keep bel
      have hlen : (nextL tbl zs s r k ++ List.replicate (n - k) 0).length = n := by simp [nextL_length]; omega
      have hox := own4.cell (i := k) (by omega)
      have hof := own4.free k
      have HO4 := hid own4
      have HB4 := hid (HB.out.trans (bel.mono HB.out.size))
      clear own4 bel s2 hlen
      go_wp2
      go_roundw
      case rel =>
        refine ⟨k + 1, by omega, by go_num, ?_, HB4.out.setCell (Nat.le_refl _) _⟩
        rw [← set_next tbl zs s r n k hlt]
        exact HO4.out.set k _
      case measure => simp [intOf]; omega
    · have hkn : n = k := by omega
      subst hkn
      go_wp2
      go_ret
      have B := ST.out.1
      refine ⟨_, rfl, by simpa using hown, B.size, B.trans (hbel.mono B.size)⟩

set_option maxHeartbeats 4000000 in
theorem specTold {w : World} {s r a : Int} {g bt br : Nat} {vt vr : Value} {tbl zs : List Int} (c0 : w.cell? ⟨g, 0, none⟩ = some (.int .i64 s)) (c1 : w.cell? ⟨g, 1, none⟩ = some (.int .i64 r)) (c2 : w.cell? ⟨g, 2, none⟩ = some vt)
    (ht : Rd w bt vt tbl) (hr : Rd w br vr zs) (F : Fit s r tbl zs) (ha : 0 ≤ a ∧ a ≤ 100) :
    Calls Try.prog 56 #[.pointer (some ⟨g, 0, none⟩), vr, .int .i64 a] w fun e w' => e = .returned (.int .i64 (told tbl zs s r a)) ∧ ∃ m, w' = w.drewN m := by
  have hm := num_lt F (a - r)
  obtain ⟨m, hmm⟩ : ∃ m : Nat, num zs s (a - r) (2 * r + 1).toNat = m := ⟨_, (Int.toNat_of_nonneg hm.1).symm⟩
  have hml : m < tbl.length := by omega
  obtain ⟨ao, cap, rfl, _, _, h4⟩ := ht
  obtain ⟨off, rfl, hb, hcell⟩ := h4 (by omega)
  have hx : told tbl zs s r a = tbl.getD m 0 := by unfold told; rw [hmm]; simp
  obtain ⟨x, hxx⟩ : ∃ x, x = tbl.getD m 0 := ⟨_, rfl⟩
  have hcx : w.cell? ⟨bt, off + m, none⟩ = some (.int .i64 x) := by rw [hxx]; exact hcell m hml
  rw [hx, ← hxx]
  have HM := hid hmm
  obtain ⟨nt, hnt⟩ : ∃ n, n = tbl.length := ⟨_, rfl⟩
  rw [← hnt] at hml c2 
  have HF := hid F
  obtain ⟨r1, r2⟩ := F.re
  obtain ⟨s1, s2⟩ := F.st
  obtain ⟨a1, a2⟩ := ha
  have HNB : Hid (∀ k, k ≤ 5 → 0 ≤ num zs s (a - r) k ∧ num zs s (a - r) k ≤ 242) := by
    intro k hk
    have h1 := num_bd F.ri F.st (by have := F.n; omega) (a - r) k
    have h2 := (pow_bd F.st hk).2
    omega
  have HCB : Hid (∀ j, 0 ≤ cellR zs j ∧ cellR zs j ≤ s - 1) := fun j => cellR_bd F.ri (by have := F.n; omega) j
  have HP : Hid (∀ j : Int, (j % (zs.length : Int)).toNat < zs.length) := fun j => place_lt (by have := F.n; omega) j
  obtain ⟨n1, n2⟩ := F.n
  obtain ⟨aor, capr, rfl, _, _, h5⟩ := hr
  obtain ⟨offr, rfl, hbr, hcellr⟩ := h5 (by omega)
  obtain ⟨n, hn⟩ : ∃ n, n = zs.length := ⟨_, rfl⟩
  have Hn := hid hn
  rw [← hn] at hcellr n1 n2 HP ⊢
  have HC := hid hcellr
  have HX := hid hcx
  clear hm hmm h4 hcell hx hxx hnt h5 hcellr hn F hcx
  go_enter Try.func56, Try.ntmps56
  go_wp2
  go_loopw [8, 9] (fun x t wr => ∃ k : Nat, (k : Int) ≤ 2 * r + 1 ∧ t = .int .i64 (a - r + k) ∧ x = .int .i64 (num zs s (a - r) k) ∧ ∃ q, wr = w.drewN q) (fun _ t _ => (2 * r + 1 - (intOf t - (a - r))).toNat)
  case atStart => exact ⟨0, by omega, by simp, rfl, 0, rfl⟩
  case round =>
    obtain ⟨k, hk, rfl, rfl, q, hq⟩ := hrel
    have r0 : wr.cell? ⟨g, 0, none⟩ = some (.int .i64 s) := by rw [hq]; exact c0
    have r1' : wr.cell? ⟨g, 1, none⟩ = some (.int .i64 r) := by rw [hq]; exact c1
    have r2' : wr.cell? ⟨g, 2, none⟩ = some (.slice (some ⟨bt, off, none⟩) nt cap) := by rw [hq]; exact c2
    have HQ := hid hq
    by_cases hlt : (k : Int) < 2 * r + 1
    · have b1 := HNB.out k (by omega)
      have b2 := HCB.out (a - r + k)
      obtain ⟨p, hpp⟩ : ∃ p : Nat, (a - r + k) % (n : Int) = p := ⟨((a - r + k) % (n : Int)).toNat, by have := Int.emod_nonneg (a - r + k) (show (n : Int) ≠ 0 by omega); omega⟩
      have hplt : p < n := by have := HP.out (a - r + k); rw [hpp] at this; simpa using this
      have hx : cellR zs (a - r + k) = zs.getD p 0 := by unfold cellR; rw [← Hn.out, hpp]; simp
      obtain ⟨X, hX⟩ : ∃ X, X = num zs s (a - r) k := ⟨_, rfl⟩
      obtain ⟨Y, hY⟩ : ∃ Y, Y = cellR zs (a - r + k) := ⟨_, rfl⟩
      have hcy : wr.cell? ⟨br, offr + p, none⟩ = some (.int .i64 Y) := by rw [hq, hY, hx]; exact HC.out p hplt
      have hnx : num zs s (a - r) (k + 1) = X * s + Y := by rw [hX, hY]; rfl
      rw [← hX] at b1 ⊢
      rw [← hY] at b2
      obtain ⟨b3, b4⟩ := b1
      obtain ⟨b5, b6⟩ := b2
      obtain ⟨Z, hZ⟩ : ∃ Z, X * s = Z := ⟨_, rfl⟩
      have b7 : 0 ≤ Z ∧ Z ≤ 726 := by rw [← hZ]; rcases (show s = 2 ∨ s = 3 by omega) with rfl | rfl <;> omega
      obtain ⟨b8, b9⟩ := b7
      have HNX : Hid (num zs s (a - r) (k + 1) = Z + Y) := by rw [hZ] at hnx; exact hnx
      have hst0 : (wrap64 (((a - r + k).tmod n) + n)).tmod n = p := by
        have g1 := Int.tmod_lt_of_pos (a - r + k) (show (0 : Int) < n by omega)
        have g2 : -(n : Int) < (a - r + k).tmod n := Int.lt_tmod_of_pos (a - r + k) (by omega)
        rw [wrap_id (by omega) (by omega), Int.tmod_eq_emod_of_nonneg (by omega), start_place _ n (by omega), hpp]
      have hpi : (p : Int) < (n : Int) := by omega
      have hle : a - r + k ≤ a + r := by omega
      clear hX hY hnx hpp hx hq
      go_wp2_with fail
      go_quiet (fail)
      go_wp2
      go_roundw
      case rel => exact ⟨k + 1, by omega, by go_num, by rw [HNX.out], q + nq, by rw [HQ.out, World.drewN_drewN]⟩
      case measure => simp [intOf]; omega
    · have hkn : (k : Int) = 2 * r + 1 := by omega
      have e : num zs s (a - r) k = m := by rw [← HM.out, ← hkn]; simp
      rw [e]
      have hcx : wr.cell? ⟨bt, off + m, none⟩ = some (.int .i64 x) := by rw [hq]; exact HX.out
      have hmi : (m : Int) < (nt : Int) := by omega
      have hle : ¬ a - r + k ≤ a + r := by omega
      clear e hq
      go_wp2
      go_ret
      exact ⟨rfl, q, HQ.out⟩

set_option maxHeartbeats 4000000 in
theorem specStep {w : World} {s r : Int} {g bt br : Nat} {vt vr : Value} {tbl zs : List Int} (c0 : w.cell? ⟨g, 0, none⟩ = some (.int .i64 s)) (c1 : w.cell? ⟨g, 1, none⟩ = some (.int .i64 r)) (c2 : w.cell? ⟨g, 2, none⟩ = some vt)
    (ht : Rd w bt vt tbl) (hr : Rd w br vr zs) (F : Fit s r tbl zs) :
    Calls Try.prog 29 #[.pointer (some ⟨g, 0, none⟩), vr] w fun e w' => ∃ v' b', e = .returned v' ∧
      Own 2 w' b' v' (nextL tbl zs s r zs.length) ∧ w.heap.size ≤ b' ∧ Below w.heap.size w w' := by
  have st : Below w.heap.size w w ∧ w.cell? ⟨g, 0, none⟩ = some (.int .i64 s) ∧ w.cell? ⟨g, 1, none⟩ = some (.int .i64 r) ∧ w.cell? ⟨g, 2, none⟩ = some vt ∧ Rd w bt vt tbl ∧ Rd w br vr zs ∧ w.heap.size ≤ w.heap.size := ⟨Below.refl _ _, c0, c1, c2, ht, hr, Nat.le_refl _⟩
  have ST := hid st
  have HF := hid F
  obtain ⟨n1, n2⟩ := F.n
  obtain ⟨aor, capr, rfl, _, _, _⟩ := hr
  obtain ⟨n, hn⟩ : ∃ n, n = zs.length := ⟨_, rfl⟩
  rw [← hn] at ST n1 n2 ⊢
  have Hn := hid hn
  clear st c0 c1 c2 ht F hn
  go_enter Try.func29, Try.ntmps29
  go_wp2
  go_loopw [5, 6] (fun o t wr => ∃ k : Nat, k ≤ n ∧ t = .int .i64 k ∧ wr.ownsRow w.heap.size 2 1 o (nextL tbl zs s r k).length ((nextL tbl zs s r k).map (Value.int .i64)) ∧ Below w.heap.size w wr) (fun _ t _ => n - (intOf t).toNat)
  case atStart => exact ⟨0, Nat.zero_le _, rfl, by simpa [nextL] using World.ownsRow_lit (base := w.heap.size) (e := 2) (size := 1) w #[] 0 (Nat.le_refl _) (by simp) (by simp), (Below.refl _ _).alloc (Nat.le_refl _) _⟩
  case round =>
    obtain ⟨k, hk, rfl, hown, hbel⟩ := hrel
    by_cases hlt : k < n
    · have s2 := next3_2 hbel ST.out
      have HB := hid hbel
      have HO := hid hown
      clear hbel hown
      go_wp2_with fail
      go_at_call 56
      refine (specTold s2.2.1 s2.2.2.1 s2.2.2.2.1 (rd3_2_0 s2) (rd3_2_1 s2) HF.out (by omega)).mono ?_
      rintro e w4 ⟨rfl, q, hq⟩
      have HO4 : Hid (w4.ownsRow w.heap.size 2 1 u5 (nextL tbl zs s r k).length ((nextL tbl zs s r k).map (Value.int .i64))) := by rw [hq]; exact HO.out
      have HB4 : Hid (Below w.heap.size w w4) := by rw [hq]; exact HB.out.trans ((Spec.below_drewN' _ _ _).mono HB.out.size)
      clear s2 hq
      go_wp2_with (first | (at_builtin; refine append1 rfl _ _ rfl w.heap.size _ _ rfl HO4.out _ rfl ?c1 ?c2 ?_) | go_in)
      case c1 => rw [nextL_length]; omega
      case c2 => exact HB4.out.size
      · intro v' w5 hown5 hbel5
        have HO5 := hid hown5
        have HB5 := hid hbel5
        clear hown5 hbel5
        go_wp2
        go_roundw
        case rel =>
          refine ⟨k + 1, by omega, by go_num, ?_, HB4.out.trans HB5.out⟩
          rw [nextL_succ, List.map_append, List.length_append]
          exact HO5.out
        case measure => simp [intOf]; omega
    · have hkn : n = k := by omega
      subst hkn
      go_wp2
      go_ret
      obtain ⟨b, hb, ho⟩ := Own.of hown
      exact ⟨_, b, rfl, ho, hb, hbel⟩

end Go.Proofs.Ytjeoccjemkdbiaa.Step
