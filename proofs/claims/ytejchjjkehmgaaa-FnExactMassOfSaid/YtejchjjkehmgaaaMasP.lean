/- MassOf of the program: partsIn. -/
import Derived.Test.YtejchjjkehmgaaaMasG
namespace Go.Proofs.Ytejchjjkehmgaaa.MasP
open Go.RowKit Go.Proofs.Ytejchjjkehmgaaa.Rd Go.Proofs.Ytejchjjkehmgaaa.Rdb Go.Proofs.Ytejchjjkehmgaaa.Rdf Go.Proofs.Ytejchjjkehmgaaa.Fl Go.Proofs.Ytejchjjkehmgaaa.Help Go.Proofs.Ytejchjjkehmgaaa.Ring Go.Proofs.Ytejchjjkehmgaaa.Small Go.Proofs.Ytejchjjkehmgaaa.FVal Go.Proofs.Ytejchjjkehmgaaa.Keep Go.Proofs.Ytejchjjkehmgaaa.Rule Go.Proofs.Ytejchjjkehmgaaa.WVal Go.Proofs.Ytejchjjkehmgaaa.MasS
open Go.Proofs.Ytejchjjkehmgaaa.Fsm (accF sumG is_word is_zero)
set_option linter.unusedVariables false
set_option linter.unusedSimpArgs false

theorem step_mid {ops : Array Oper} {o : Oper} {a : Act} {W : World} {K : Act → World → Prop} {Q : Exit → Act → World → Prop} {X : Prop} (hgd : o.guard = none) (ty : TypeId) (x y : Operand) (ho : o.op = .store ty x y)
    (b off : Nat) (cells : Array Value) (hx : a.eval x = .pointer (some ⟨b, off, none⟩)) (hy : a.eval y = .agg cells) (ht : W.there b off cells.size) (hi : (Try.prog.info? ty).map (·.size) = some cells.size) (h1 : cells.all (·.oneCell') = true)
    (h : K (a.put o.dst undef) (W.setCells b off cells.toList)) : if Region.wanted o (yielded ops a.tmps) = true then Oper.wp Try.prog o a W K Q else X := by
  rw [if_pos (by simp [Region.wanted, hgd])]
  exact wp_store_mid ty x y ho b off cells hx hy ht hi h1 h
theorem heap_keep {w w' : World} {n : Nat} {o : Obj} (bel : Below w.heap.size w w') (h : w.heap[n]? = some o) : w'.heap[n]? = some o :=
  (bel.block n (Array.getElem?_eq_some_iff.1 h).1).trans h
theorem heap_lt {w : World} {n : Nat} {o : Obj} (h : w.heap[n]? = some o) : n < w.heap.size := (Array.getElem?_eq_some_iff.1 h).1
theorem row_keep {w w' : World} {b n : Nat} {t : TypeId} {g : Nat → Value} (bel : Below w.heap.size w w') (h : w.rowIs b t n g) : w'.rowIs b t n g := h.of_block (bel.block b h.lt)
theorem row_set9 {w : World} {p M k : Nat} {xs : List Nat} (h : w.rowIs p 96 (M * 9) (fun i => .float .f32 (if i < 9 * k then xs.getD i 0 else 0))) :
    (w.setCells p (9 * k) (#[.float .f32 (xs.getD (9 * k + 0) 0), .float .f32 (xs.getD (9 * k + 1) 0), .float .f32 (xs.getD (9 * k + 2) 0), .float .f32 (xs.getD (9 * k + 3) 0), .float .f32 (xs.getD (9 * k + 4) 0), .float .f32 (xs.getD (9 * k + 5) 0), .float .f32 (xs.getD (9 * k + 6) 0), .float .f32 (xs.getD (9 * k + 7) 0), .float .f32 (xs.getD (9 * k + 8) 0)] : Array Value).toList).rowIs p 96 (M * 9) (fun i => .float .f32 (if i < 9 * (k + 1) then xs.getD i 0 else 0)) := by
  have h9 := (((((((((h.set (9 * k) (.float .f32 (xs.getD (9 * k + 0) 0))).set (9 * k + 1) (.float .f32 (xs.getD (9 * k + 1) 0))).set (9 * k + 2) (.float .f32 (xs.getD (9 * k + 2) 0))).set (9 * k + 3) (.float .f32 (xs.getD (9 * k + 3) 0))).set (9 * k + 4) (.float .f32 (xs.getD (9 * k + 4) 0))).set (9 * k + 5) (.float .f32 (xs.getD (9 * k + 5) 0))).set (9 * k + 6) (.float .f32 (xs.getD (9 * k + 6) 0))).set (9 * k + 7) (.float .f32 (xs.getD (9 * k + 7) 0))).set (9 * k + 8) (.float .f32 (xs.getD (9 * k + 8) 0)))
  refine World.rowIs.congr (f := _) h9 (fun i hi => ?_)
  (try dsimp only)
  by_cases e8 : i = 9 * k + 8
  · rw [if_pos e8, if_pos (by omega), e8]
  rw [if_neg e8]
  by_cases e7 : i = 9 * k + 7
  · rw [if_pos e7, if_pos (by omega), e7]
  rw [if_neg e7]
  by_cases e6 : i = 9 * k + 6
  · rw [if_pos e6, if_pos (by omega), e6]
  rw [if_neg e6]
  by_cases e5 : i = 9 * k + 5
  · rw [if_pos e5, if_pos (by omega), e5]
  rw [if_neg e5]
  by_cases e4 : i = 9 * k + 4
  · rw [if_pos e4, if_pos (by omega), e4]
  rw [if_neg e4]
  by_cases e3 : i = 9 * k + 3
  · rw [if_pos e3, if_pos (by omega), e3]
  rw [if_neg e3]
  by_cases e2 : i = 9 * k + 2
  · rw [if_pos e2, if_pos (by omega), e2]
  rw [if_neg e2]
  by_cases e1 : i = 9 * k + 1
  · rw [if_pos e1, if_pos (by omega), e1]
  rw [if_neg e1]
  by_cases e0 : i = 9 * k
  · rw [if_pos e0, if_pos (by omega), e0]; rfl
  rw [if_neg e0]
  by_cases hl : i < 9 * k
  · rw [if_pos hl, if_pos (by omega)]
  · rw [if_neg hl, if_neg (by omega)]
theorem below_set9 {w0 w : World} {B p o : Nat} {vs : List Value} (h : Below B w0 w) (hp : B ≤ p) : Below B w0 (w.setCells p o vs) := by
  induction vs generalizing w o with
  | nil => exact h
  | cons v vs ih => exact ih (h.setCell (p := ⟨p, o, none⟩) hp v)
theorem heap_set9 {w : World} {p o n : Nat} {vs : List Value} (hne : n ≠ p) : (w.setCells p o vs).heap[n]? = w.heap[n]? := by
  induction vs generalizing w o with
  | nil => rfl
  | cons v vs ih => exact (ih (w := w.setCell ⟨p, o, none⟩ v)).trans (Below.heap_setCell _ _ _ _ hne)

set_option maxHeartbeats 8000000 in
set_option maxRecDepth 100000 in
theorem partsIn {w : World} {s r : Int} {b1 M : Nat} {v1 v2 : Value} {xs : List Nat} (h1 : RdF w b1 v1 xs) (hs : sd16 s r = true) (hM : (M : Int) = s * r) (hMb : 1 ≤ M ∧ M ≤ 256) (hl : xs.length = 9 * M) :
    Calls Try.prog 71 #[flowV s r v1 v2] w fun e w' => ∃ p, e = .returned (.agg #[.int .i64 s, .int .i64 r, .slice (some ⟨p, 0, none⟩) M M]) ∧ w'.rowIs p 96 (M * 9) (fun i => .float .f32 (xs.getD i 0)) ∧ Below w.heap.size w w' := by
  have H1 := hid h1
  obtain ⟨ao, cap, e1, _⟩ := id h1
  subst e1
  have HS := hid hs
  have HM := hid hM
  have HMb := hid hMb
  have HL := hid hl
  have HXL : Hid (xs.length ≤ 10000) := by simp only [Hid]; omega
  have hM6 : (M : Int) ≤ 256 := by omega
  clear h1 hs hM hMb hl
  go_enter Try.func71, Try.ntmps71
  go_wp2_with fail
  obtain ⟨w1, hW⟩ : ∃ w1, w1 = (w.alloc (Obj.cells #[.int .i64 s, .int .i64 r, .slice ao xs.length cap, v2] 37)).alloc (Obj.cells #[.int .i64 0, .int .i64 0, .slice none 0 0] 93) := ⟨_, rfl⟩
  obtain ⟨NF, hF⟩ : ∃ NF, NF = w.heap.size := ⟨_, rfl⟩
  obtain ⟨NT, hT⟩ : ∃ NT, NT = NF + 1 := ⟨_, rfl⟩
  have kF : w1.heap[NF]? = some (Obj.cells #[.int .i64 s, .int .i64 r, .slice ao xs.length cap, v2] 37) := by rw [hW]; exact FNew.heap_old (FNew.heap_top hF)
  have kT : w1.heap[NT]? = some (Obj.cells #[.int .i64 0, .int .i64 0, .slice none 0 0] 93) := by rw [hW]; exact FNew.heap_top (by rw [hT, hF]; simp)
  have B1 : Below w.heap.size w w1 := by rw [hW]; exact Go.Joins.below_alloc2 _ _ _
  have HNX : Hid (NF = w.heap.size ∧ NT = NF + 1) := ⟨hF, hT⟩
  simp only [← hW, ← hF, ← hT]
  clear hW hF hT
  go_at_call 78
  refine WIs.within.mono ?_
  rintro e w2 ⟨rfl, bel⟩
  replace kF := heap_keep bel kF
  replace kT := heap_keep bel kT
  have B2 := B1.trans (bel.mono B1.size)
  clear B1 bel
  go_wp2_with fail
  go_at_call 128
  refine (MasG.newGrid HS.out HM.out HMb.out.2).mono ?_
  rintro e w3 ⟨p, rfl, kR, lo, bel⟩
  have hpF := Nat.lt_of_lt_of_le (heap_lt kF) lo
  have hpT := Nat.lt_of_lt_of_le (heap_lt kT) lo
  replace kF := heap_keep bel kF
  replace kT := heap_keep bel kT
  have HLo : Hid (w.heap.size ≤ p) := Nat.le_trans B2.size lo
  have B3 := B2.trans (bel.mono B2.size)
  have HkF := hid kF
  have HkT := hid kT
  have HkR := hid kR
  have HB3 := hid B3
  have HPF := hid (And.intro hpF hpT)
  clear B2 B3 bel lo kF kT kR hpF hpT
  go_wp2_with fail
  obtain ⟨w4, hW⟩ : ∃ w4, w4 = w3.alloc (Obj.cells #[.int .i64 s, .int .i64 r, .slice (some ⟨p, 0, none⟩) M M] 93) := ⟨_, rfl⟩
  obtain ⟨NG, hG⟩ : ∃ NG, NG = w3.heap.size := ⟨_, rfl⟩
  have kG : w4.heap[NG]? = some (Obj.cells #[.int .i64 s, .int .i64 r, .slice (some ⟨p, 0, none⟩) M M] 93) := by rw [hW]; exact FNew.heap_top hG
  have kF : w4.heap[NF]? = some (Obj.cells #[.int .i64 s, .int .i64 r, .slice ao xs.length cap, v2] 37) := by rw [hW]; exact FNew.heap_old HkF.out
  have kT : w4.heap[NT]? = some (Obj.cells #[.int .i64 0, .int .i64 0, .slice none 0 0] 93) := by rw [hW]; exact FNew.heap_old HkT.out
  have kR : w4.rowIs p 96 (M * 9) (fun _ => .float .f32 0) := by rw [hW]; exact HkR.out.alloc _
  have B4 : Below w.heap.size w w4 := by rw [hW]; exact HB3.out.trans ((below1 _ _).mono HB3.out.size)
  have HNE : Hid (NG ≠ p ∧ NF ≠ p ∧ NT ≠ p) := by
    have h1 := HkR.out.lt; have h2 := HPF.out
    simp only [Hid]; omega
  simp only [← hW, ← hG]
  clear hW hG
  go_at_call 129
  refine (WIs.size16 HS.out HM.out).mono ?_
  rintro e w5 ⟨rfl, bel⟩
  replace kG := heap_keep bel kG
  replace kF := heap_keep bel kF
  replace kT := heap_keep bel kT
  replace kR := row_keep bel kR
  have B5 := B4.trans (bel.mono B4.size)
  clear B4 bel
  go_wp2_with fail
  go_loopw [4, 11] (fun j t wr => ∃ k : Nat, k ≤ M ∧ t = .int .i64 k ∧ Below w.heap.size w wr ∧ wr.rowIs p 96 (M * 9) (fun i => .float .f32 (if i < 9 * k then xs.getD i 0 else 0)) ∧ wr.heap[NG]? = some (Obj.cells #[.int .i64 s, .int .i64 r, .slice (some ⟨p, 0, none⟩) M M] 93) ∧ wr.heap[NF]? = some (Obj.cells #[.int .i64 s, .int .i64 r, .slice ao xs.length cap, v2] 37) ∧ wr.heap[NT]? = some (Obj.cells #[.int .i64 0, .int .i64 0, .slice none 0 0] 93)) (fun _ t _ => M - (intOf t).toNat)
  case atStart => exact ⟨0, Nat.zero_le _, rfl, B5, kR.congr (fun i hi => by simp), kG, kF, kT⟩
  case round =>
    clear B5 kR kG kF kT
    obtain ⟨k, hk, rfl, bel, kR, kG, kF, kT⟩ := hrel
    by_cases hlt : k < M
    · have hki : (k : Int) < (M : Int) := by omega
      have HK9 : Hid (9 * k + 9 ≤ xs.length) := by have := HL.out; simp only [Hid]; omega
      have HKM : Hid (9 * k + 9 ≤ M * 9) := by simp only [Hid]; omega
      have st5 : Below w.heap.size w wr ∧ wr.cell? ⟨NG, 2, none⟩ = some (.slice (some ⟨p, 0, none⟩) M M) ∧ wr.cell? ⟨NF, 0, none⟩ = some (.int .i64 s) ∧ wr.cell? ⟨NF, 1, none⟩ = some (.int .i64 r) ∧ wr.cell? ⟨NF, 2, none⟩ = some (.slice ao xs.length cap) ∧ wr.cell? ⟨NF, 3, none⟩ = some v2 ∧ w.heap.size ≤ wr.heap.size := ⟨bel, Go.Joins.cell_of_block kG 2, Go.Joins.cell_of_block kF 0, Go.Joins.cell_of_block kF 1, Go.Joins.cell_of_block kF 2, Go.Joins.cell_of_block kF 3, bel.size⟩
      have HkR := hid kR
      have HkG := hid kG
      have HkF := hid kF
      have HkT := hid kT
      clear kR kG kF kT bel
      go_wp2_with fail
      refine wp_region_held_drew (S := (fun ww => Below w.heap.size w ww ∧ ww.cell? ⟨NG, 2, none⟩ = some (.slice (some ⟨p, 0, none⟩) M M) ∧ ww.cell? ⟨NF, 0, none⟩ = some (.int .i64 s) ∧ ww.cell? ⟨NF, 1, none⟩ = some (.int .i64 r) ∧ ww.cell? ⟨NF, 2, none⟩ = some (.slice ao xs.length cap) ∧ ww.cell? ⟨NF, 3, none⟩ = some v2 ∧ w.heap.size ≤ ww.heap.size)) (by kernel_rfl) ?_ (fun hHeld => ?_)
      · ((try dsimp only); exact drew5_0 st5)
      generalize hD : wr.drew = wD at hHeld ⊢
      have kR : wD.rowIs p 96 (M * 9) (fun i => .float .f32 (if i < 9 * k then xs.getD i 0 else 0)) := by rw [← hD]; exact HkR.out
      have kG : wD.heap[NG]? = some (Obj.cells #[.int .i64 s, .int .i64 r, .slice (some ⟨p, 0, none⟩) M M] 93) := by rw [← hD]; exact HkG.out
      have kF : wD.heap[NF]? = some (Obj.cells #[.int .i64 s, .int .i64 r, .slice ao xs.length cap, v2] 37) := by rw [← hD]; exact HkF.out
      have kT : wD.heap[NT]? = some (Obj.cells #[.int .i64 0, .int .i64 0, .slice none 0 0] 93) := by rw [← hD]; exact HkT.out
      clear hD st5
      (refine wpAnyH_take (i := 0) (v := ?_) rfl ?_ ?_ ?_ (fun _ _ _ h => h) (Or.inl ⟨?_, ?_⟩) ?_ ?_; rotate_left 1; (focus decide +kernel); (focus decide +kernel); (focus decide +kernel); (focus rfl); (focus (intro w hSw; (try dsimp only at hSw); go_simp; (try (with_reducible rfl)); done)); (focus assumption); (try simp only [Act.put, List.setIfInBounds_toArray, List.set_cons_zero, List.set_cons_succ, List.getElem_toArray, List.getElem_cons_succ, List.getElem_cons_zero]))
      (refine wpAnyH_take (i := 1) (v := ?_) rfl ?_ ?_ ?_ (fun _ _ _ h => h) (Or.inl ⟨?_, ?_⟩) ?_ ?_; rotate_left 1; (focus decide +kernel); (focus decide +kernel); (focus decide +kernel); (focus rfl); (focus (intro w hSw; (try dsimp only at hSw); go_simp; (try (with_reducible rfl)); done)); (focus assumption); (try simp only [Act.put, List.setIfInBounds_toArray, List.set_cons_zero, List.set_cons_succ, List.getElem_toArray, List.getElem_cons_succ, List.getElem_cons_zero]))
      (refine wpAnyH_take (i := 2) (v := ?_) rfl ?_ ?_ ?_ (fun _ _ _ h => h) (Or.inl ⟨?_, ?_⟩) ?_ ?_; rotate_left 1; (focus decide +kernel); (focus decide +kernel); (focus decide +kernel); (focus rfl); (focus (intro w hSw; (try dsimp only at hSw); go_simp; (try (with_reducible rfl)); done)); (focus assumption); (try simp only [Act.put, List.setIfInBounds_toArray, List.set_cons_zero, List.set_cons_succ, List.getElem_toArray, List.getElem_cons_succ, List.getElem_cons_zero]))
      (refine wpAnyH_take (i := 3) (v := ?_) rfl ?_ ?_ ?_ (fun _ _ _ h => h) (Or.inl ⟨?_, ?_⟩) ?_ ?_; rotate_left 1; (focus decide +kernel); (focus decide +kernel); (focus decide +kernel); (focus rfl); (focus (intro w hSw; (try dsimp only at hSw); go_simp; (try (with_reducible rfl)); done)); (focus assumption); (try simp only [Act.put, List.setIfInBounds_toArray, List.set_cons_zero, List.set_cons_succ, List.getElem_toArray, List.getElem_cons_succ, List.getElem_cons_zero]))
      (refine wpAnyH_take (i := 4) (v := ?_) rfl ?_ ?_ ?_ (fun _ _ _ h => h) (Or.inl ⟨?_, ?_⟩) ?_ ?_; rotate_left 1; (focus decide +kernel); (focus decide +kernel); (focus decide +kernel); (focus rfl); (focus (intro w hSw; (try dsimp only at hSw); go_simp; (try (with_reducible rfl)); done)); (focus assumption); (try simp only [Act.put, List.setIfInBounds_toArray, List.set_cons_zero, List.set_cons_succ, List.getElem_toArray, List.getElem_cons_succ, List.getElem_cons_zero]))
      refine wpAnyH_ready (rs := [5]) ?_ (by simp) ?_
      · decide +kernel
      refine AllReadyH.cons rfl (fun K hK => ?_) AllReadyH.nil
      go_simp
      go_at_call 130
      refine (MasI.partsAt (H1.out.keep hHeld.1 (Nat.le_refl _)) HK9.out HXL.out).mono ?_
      rintro e w4 ⟨rfl, bel⟩
      replace kR := row_keep bel kR
      replace kG := heap_keep bel kG
      replace kF := heap_keep bel kF
      replace kT := heap_keep bel kT
      refine hK.out _ _ ?_ (fun hHeld2 => ?_)
      · (try dsimp only); exact next5_0 bel hHeld
      clear hK K hHeld bel
      have hHeld := hHeld2
      clear hHeld2
      (try simp only [Act.put, List.setIfInBounds_toArray, List.set_cons_zero, List.set_cons_succ, List.getElem_toArray, List.getElem_cons_succ, List.getElem_cons_zero])
      (refine wpAnyH_take (i := 6) (v := ?_) rfl ?_ ?_ ?_ (fun _ _ _ h => h) (Or.inl ⟨?_, ?_⟩) ?_ ?_; rotate_left 1; (focus decide +kernel); (focus decide +kernel); (focus decide +kernel); (focus rfl); (focus (intro w hSw; (try dsimp only at hSw); go_simp; (try (with_reducible rfl)); done)); (focus assumption); (try simp only [Act.put, List.setIfInBounds_toArray, List.set_cons_zero, List.set_cons_succ, List.getElem_toArray, List.getElem_cons_succ, List.getElem_cons_zero]))
      refine wpAnyH_ready (rs := [7]) ?_ (by simp) ?_
      · decide +kernel
      refine AllReadyH.cons rfl (fun K hK => ?_) AllReadyH.nil
      refine step_mid rfl 96 _ _ rfl p (9 * k) #[.float .f32 (xs.getD (9 * k + 0) 0), .float .f32 (xs.getD (9 * k + 1) 0), .float .f32 (xs.getD (9 * k + 2) 0), .float .f32 (xs.getD (9 * k + 3) 0), .float .f32 (xs.getD (9 * k + 4) 0), .float .f32 (xs.getD (9 * k + 5) 0), .float .f32 (xs.getD (9 * k + 6) 0), .float .f32 (xs.getD (9 * k + 7) 0), .float .f32 (xs.getD (9 * k + 8) 0)] ?hx ?hy ?t (by kernel_rfl) (by simp [Value.oneCell']) ?_
      case hx => (show Value.pointer (some ⟨p, k * 9, none⟩) = _); rw [Nat.mul_comm]
      case hy => rfl
      case t => exact fun j hj => ⟨by rw [kR.cell (by have := HKM.out; have : j < 9 := hj; omega)]; rfl, kR.frozen _⟩
      have kR9 := row_set9 kR
      obtain ⟨wS, hWS⟩ : ∃ wS, wS = w4.setCells p (9 * k) (#[.float .f32 (xs.getD (9 * k + 0) 0), .float .f32 (xs.getD (9 * k + 1) 0), .float .f32 (xs.getD (9 * k + 2) 0), .float .f32 (xs.getD (9 * k + 3) 0), .float .f32 (xs.getD (9 * k + 4) 0), .float .f32 (xs.getD (9 * k + 5) 0), .float .f32 (xs.getD (9 * k + 6) 0), .float .f32 (xs.getD (9 * k + 7) 0), .float .f32 (xs.getD (9 * k + 8) 0)] : Array Value).toList := ⟨_, rfl⟩
      have kG9 := (heap_set9 (w := w4) (p := p) (o := 9 * k) (vs := (#[.float .f32 (xs.getD (9 * k + 0) 0), .float .f32 (xs.getD (9 * k + 1) 0), .float .f32 (xs.getD (9 * k + 2) 0), .float .f32 (xs.getD (9 * k + 3) 0), .float .f32 (xs.getD (9 * k + 4) 0), .float .f32 (xs.getD (9 * k + 5) 0), .float .f32 (xs.getD (9 * k + 6) 0), .float .f32 (xs.getD (9 * k + 7) 0), .float .f32 (xs.getD (9 * k + 8) 0)] : Array Value).toList) HNE.out.1).trans kG
      have kF9 := (heap_set9 (w := w4) (p := p) (o := 9 * k) (vs := (#[.float .f32 (xs.getD (9 * k + 0) 0), .float .f32 (xs.getD (9 * k + 1) 0), .float .f32 (xs.getD (9 * k + 2) 0), .float .f32 (xs.getD (9 * k + 3) 0), .float .f32 (xs.getD (9 * k + 4) 0), .float .f32 (xs.getD (9 * k + 5) 0), .float .f32 (xs.getD (9 * k + 6) 0), .float .f32 (xs.getD (9 * k + 7) 0), .float .f32 (xs.getD (9 * k + 8) 0)] : Array Value).toList) HNE.out.2.1).trans kF
      have kT9 := (heap_set9 (w := w4) (p := p) (o := 9 * k) (vs := (#[.float .f32 (xs.getD (9 * k + 0) 0), .float .f32 (xs.getD (9 * k + 1) 0), .float .f32 (xs.getD (9 * k + 2) 0), .float .f32 (xs.getD (9 * k + 3) 0), .float .f32 (xs.getD (9 * k + 4) 0), .float .f32 (xs.getD (9 * k + 5) 0), .float .f32 (xs.getD (9 * k + 6) 0), .float .f32 (xs.getD (9 * k + 7) 0), .float .f32 (xs.getD (9 * k + 8) 0)] : Array Value).toList) HNE.out.2.2).trans kT
      have bS := below_set9 (p := p) (o := 9 * k) (vs := (#[.float .f32 (xs.getD (9 * k + 0) 0), .float .f32 (xs.getD (9 * k + 1) 0), .float .f32 (xs.getD (9 * k + 2) 0), .float .f32 (xs.getD (9 * k + 3) 0), .float .f32 (xs.getD (9 * k + 4) 0), .float .f32 (xs.getD (9 * k + 5) 0), .float .f32 (xs.getD (9 * k + 6) 0), .float .f32 (xs.getD (9 * k + 7) 0), .float .f32 (xs.getD (9 * k + 8) 0)] : Array Value).toList) hHeld.1 HLo.out
      rw [← hWS] at kR9 kG9 kF9 kT9 bS ⊢
      clear hWS kR kG kF kT hHeld
      refine hK.out _ _ ?_ (fun hHeld2 => ?_)
      · (try dsimp only); exact ⟨bS, Go.Joins.cell_of_block kG9 2, Go.Joins.cell_of_block kF9 0, Go.Joins.cell_of_block kF9 1, Go.Joins.cell_of_block kF9 2, Go.Joins.cell_of_block kF9 3, bS.size⟩
      clear hK K hHeld2
      (try simp only [Act.put, List.setIfInBounds_toArray, List.set_cons_zero, List.set_cons_succ, List.getElem_toArray, List.getElem_cons_succ, List.getElem_cons_zero])
      refine wpAnyH_done (by kernel_rfl) ?_ _
      go_wp2
      go_roundw
      case rel => exact ⟨k + 1, by omega, by go_num, bS, kR9, kG9, kF9, kT9⟩
      case measure => simp [intOf]; omega
    · have hkn : M = k := by omega
      have HR : Hid (wr.rowIs p 96 (M * 9) (fun i => .float .f32 (xs.getD i 0))) := kR.congr (fun i hi => by (try dsimp only); rw [if_pos (by omega)])
      have x0 : wr.cell? ⟨NG, 0, none⟩ = some (.int .i64 s) := Go.Joins.cell_of_block kG 0
      have x1 : wr.cell? ⟨NG, 1, none⟩ = some (.int .i64 r) := Go.Joins.cell_of_block kG 1
      have x2 : wr.cell? ⟨NG, 2, none⟩ = some (.slice (some ⟨p, 0, none⟩) M M) := Go.Joins.cell_of_block kG 2
      have y0 : wr.cell? ⟨NT, 0, none⟩ = some (.int .i64 0) := Go.Joins.cell_of_block kT 0
      have y1 : wr.cell? ⟨NT, 1, none⟩ = some (.int .i64 0) := Go.Joins.cell_of_block kT 1
      have y2 : wr.cell? ⟨NT, 2, none⟩ = some (.slice none 0 0) := Go.Joins.cell_of_block kT 2
      have g0 : wr.frozen? ⟨NT, 0, none⟩ = false := Go.Joins.unfrozen_of_block kT 0
      have g1 : wr.frozen? ⟨NT, 1, none⟩ = false := Go.Joins.unfrozen_of_block kT 1
      have g2 : wr.frozen? ⟨NT, 2, none⟩ = false := Go.Joins.unfrozen_of_block kT 2
      have HKT := hid kT
      have HB := hid bel
      have hki : ¬ (k : Int) < (M : Int) := by omega
      clear kR kG kF kT bel hkn
      go_wp2
      have q0 := (Go.Joins.block_setCell (i := 2) (Go.Joins.block_setCell (i := 1) (Go.Joins.block_setCell (i := 0) HKT.out (.int .i64 s)) (.int .i64 r)) (.slice (some ⟨p, 0, none⟩) M M))
      have O5 := ((HR.out.setOther (a := ⟨NT, 0, none⟩) (Ne.symm HNE.out.2.2) (.int .i64 s)).setOther (a := ⟨NT, 1, none⟩) (Ne.symm HNE.out.2.2) (.int .i64 r)).setOther (a := ⟨NT, 2, none⟩) (Ne.symm HNE.out.2.2) (.slice (some ⟨p, 0, none⟩) M M)
      have B6 := (((HB.out.setCell (p := ⟨NT, 0, none⟩) (by have := HNX.out; simp; omega) (.int .i64 s)).setCell (p := ⟨NT, 1, none⟩) (by have := HNX.out; simp; omega) (.int .i64 r)).setCell (p := ⟨NT, 2, none⟩) (by have := HNX.out; simp; omega) (.slice (some ⟨p, 0, none⟩) M M))
      obtain ⟨W5, hW⟩ : ∃ W5, W5 = (((wr.setCell ⟨NT, 0, none⟩ (.int .i64 s)).setCell ⟨NT, 1, none⟩ (.int .i64 r)).setCell ⟨NT, 2, none⟩ (.slice (some ⟨p, 0, none⟩) M M)) := ⟨_, rfl⟩
      rw [← hW] at q0 O5 B6
      have z0 : W5.cell? ⟨NT, 0, none⟩ = some (.int .i64 s) := Go.Joins.cell_of_block q0 0
      have z1 : W5.cell? ⟨NT, 1, none⟩ = some (.int .i64 r) := Go.Joins.cell_of_block q0 1
      have z2 : W5.cell? ⟨NT, 2, none⟩ = some (.slice (some ⟨p, 0, none⟩) M M) := Go.Joins.cell_of_block q0 2
      simp only [← hW]
      clear hW q0
      simp [bodyPost, results, Try.results71, go_sem, z0, z1, z2]
      exact ⟨O5, B6⟩

end Go.Proofs.Ytejchjjkehmgaaa.MasP
