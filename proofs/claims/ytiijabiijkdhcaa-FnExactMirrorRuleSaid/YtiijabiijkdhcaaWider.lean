/- WiderRule of both sides. -/
import Derived.Test.YtiijabiijkdhcaaTold
import Derived.Test.YtiijabiijkdhcaaWeigh
import Derived.Test.YtiijabiijkdhcaaAl
import Derived.Test.YtiijabiijkdhcaaSpec
namespace Go.Proofs.Ytiijabiijkdhcaa.Wider
open Go.RowKit Go.Proofs.Ytiijabiijkdhcaa.Rd Go.Proofs.Ytiijabiijkdhcaa.Help Go.Proofs.Ytiijabiijkdhcaa.App Go.Proofs.Ytiijabiijkdhcaa.Ring Go.Proofs.Ytiijabiijkdhcaa.Small Go.Proofs.Ytiijabiijkdhcaa.Num Go.Proofs.Ytiijabiijkdhcaa.Keep Go.Proofs.Ytiijabiijkdhcaa.Rule Go.Proofs.Ytiijabiijkdhcaa.Dig Go.Proofs.Ytiijabiijkdhcaa.DigP Go.Proofs.Ytiijabiijkdhcaa.Tell Go.Proofs.Ytiijabiijkdhcaa.Weigh
set_option linter.unusedVariables false
set_option linter.unusedSimpArgs false

/-- What the wider rule tells. -/
def midT (s : Int) (tbl : List Int) (L : Nat) (k : Nat) : Int := tbl.getD (numL (((dig s k (L + 2)).drop 1).take L) s).toNat 0

theorem mid_facts {s : Int} (hs : 2 ≤ s ∧ s ≤ 3) {tbl : List Int} {L : Nat} (hl : (tbl.length : Int) = s ^ L) (k : Nat) :
    (((dig s k (L + 2)).drop 1).take L).length = L ∧ allB (((dig s k (L + 2)).drop 1).take L) s = true ∧ numL (((dig s k (L + 2)).drop 1).take L) s < (tbl.length : Int) := by
  have h1 : (((dig s k (L + 2)).drop 1).take L).length = L := by simp [dig_length]
  have h2 : allB (((dig s k (L + 2)).drop 1).take L) s = true := all_take (all_drop (dig_all hs _ _) _) _
  have h3 := (numL_bd hs h2).2
  rw [h1, ← hl] at h3
  exact ⟨h1, h2, h3⟩

theorem nextg4_1 {N : Nat} {w0 w w' : World} {p0 p1 p2 p3 : Addr} {c0 c1 c2 c3 : Value} {b0 : Nat} {v0 : Value} {z0 : List Int} {row : Option Nat} (g : w.grownBy w' row) (bel : Below N w w') (h0 : some p0.block ≠ row) (h1 : some p1.block ≠ row) (h2 : some p2.block ≠ row) (h3 : some p3.block ≠ row) (hb : some b0 ≠ row)
    (h : Below N w0 w ∧ w.cell? p0 = some c0 ∧ w.cell? p1 = some c1 ∧ w.cell? p2 = some c2 ∧ w.cell? p3 = some c3 ∧ Rd w b0 v0 z0 ∧ N ≤ w.heap.size) :
    Below N w0 w' ∧ w'.cell? p0 = some c0 ∧ w'.cell? p1 = some c1 ∧ w'.cell? p2 = some c2 ∧ w'.cell? p3 = some c3 ∧ Rd w' b0 v0 z0 ∧ N ≤ w'.heap.size := by
  have gc : ∀ {p : Addr} {c : Value}, some p.block ≠ row → w.cell? p = some c → w'.cell? p = some c := fun hp hc => (World.cell?_of_block (w := w) (g.block _ (World.block_lt_of_cell? _ _ hc) hp)).trans hc
  obtain ⟨a0, a1, a2, a3, a4, a5, a6⟩ := h
  refine ⟨a0.trans bel, gc h0 a1, gc h1 a2, gc h2 a3, gc h3 a4, ?_, Nat.le_trans a6 g.size⟩
  obtain ⟨ao, cap, e1, e2, e3, e4⟩ := a5
  refine ⟨ao, cap, e1, e2, e3, fun hz => ?_⟩
  obtain ⟨off, e5, e6, e7⟩ := e4 hz
  exact ⟨off, e5, Nat.lt_of_lt_of_le e6 g.size, fun i hi => gc (p := ⟨b0, off + i, none⟩) hb (e7 i hi)⟩

set_option maxHeartbeats 4000000 in
theorem closure {w : World} {NR b bt k L : Nat} {s r : Int} {vt : Value} {tbl : List Int} (c0 : w.cell? ⟨NR, 0, none⟩ = some (.int .i64 s)) (c1 : w.cell? ⟨NR, 1, none⟩ = some (.int .i64 r)) (c2 : w.cell? ⟨NR, 2, none⟩ = some vt) (ht : Rd w bt vt tbl)
    (hs : 2 ≤ s ∧ s ≤ 3) (hl : (tbl.length : Int) = s ^ L) (hL : 1 ≤ L ∧ L ≤ 3) (h : Own 2 w b (.slice (some ⟨b, 0, none⟩) (L + 2) (L + 2)) (dig s k (L + 2))) :
    Calls Try.prog 84 #[.slice (some ⟨b, 0, none⟩) (L + 2) (L + 2), .pointer (some ⟨NR, 0, none⟩)] w fun e w' => e = .returned (.int .i64 (midT s tbl L k)) ∧ Below w.heap.size w w' := by
  obtain ⟨zs, hzs⟩ : ∃ zs, zs = ((dig s k (L + 2)).drop 1).take L := ⟨_, rfl⟩
  obtain ⟨f1, f2, f3⟩ := mid_facts hs hl k
  have hT : midT s tbl L k = tbl.getD (numL zs s).toNat 0 := by rw [hzs]; rfl
  rw [hT]
  rw [← hzs] at f1 f2 f3
  have hp : Rd w b (.slice (some ⟨b, 1, none⟩) L (L + 1)) zs := by
    have := Told.rd_part h.rd 1 L (by rw [dig_length]; omega)
    rw [← hzs] at this
    exact this
  obtain ⟨x, hx⟩ : ∃ x, x = tbl.getD (numL zs s).toNat 0 := ⟨_, rfl⟩
  have HS := hid hs
  have HZ : Hid (zs.length ≤ 16) := by simp only [Hid]; omega
  have HA := hid f2
  have HLt := hid f3
  obtain ⟨l1, l2⟩ := hL
  have ht' := ht
  obtain ⟨ao, cap, rfl, _, _, _⟩ := ht'
  have st : Below w.heap.size w w ∧ w.cell? ⟨NR, 0, none⟩ = some (.int .i64 s) ∧ w.cell? ⟨NR, 1, none⟩ = some (.int .i64 r) ∧ w.cell? ⟨NR, 2, none⟩ = some (Value.slice ao tbl.length cap) ∧ Rd w bt (Value.slice ao tbl.length cap) tbl ∧ Rd w b (.slice (some ⟨b, 1, none⟩) L (L + 1)) zs ∧ w.heap.size ≤ w.heap.size := ⟨Below.refl _ _, c0, c1, c2, ht, hp, Nat.le_refl _⟩
  have e1 : IntKind.i64.wrap ((L : Int) + 2 - 1) = (L : Int) + 1 := by rw [IntKind.wrap_i64]; omega
  have e3 : max ((L : Int) + 1) 0 = (L : Int) + 1 := by omega
  have e4 : ((L : Int) + 1).toNat - 1 = L := by omega
  have e5 : (0 : Int) ≤ (L : Int) + 1 := by omega
  have e6 : (L : Int) + 1 ≤ (L : Int) + 2 := by omega
  have e7 : (1 : Int) ≤ (L : Int) + 1 := by omega
  have e2 : ¬ L + 2 = 1 := by omega
  clear hT hzs f1 f2 f3 h hs hl c0 c1 c2 hp hx ht
  go_enter Try.func84, Try.ntmps84
  go_wp2_with fail
  refine wp_region_held_drew (S := (fun ww => Below w.heap.size w ww ∧ ww.cell? ⟨NR, 0, none⟩ = some (.int .i64 s) ∧ ww.cell? ⟨NR, 1, none⟩ = some (.int .i64 r) ∧ ww.cell? ⟨NR, 2, none⟩ = some (Value.slice ao tbl.length cap) ∧ Rd ww bt (Value.slice ao tbl.length cap) tbl ∧ Rd ww b (.slice (some ⟨b, 1, none⟩) L (L + 1)) zs ∧ w.heap.size ≤ ww.heap.size)) (by kernel_rfl) ?_ (fun hHeld => ?_)
  · ((try dsimp only); exact drew3_2 st)
  (refine wpAnyH_take (i := 0) (v := ?_) rfl ?_ ?_ ?_ (fun _ _ _ h => h) (Or.inl ⟨?_, ?_⟩) ?_ ?_; rotate_left 1; (focus decide +kernel); (focus decide +kernel); (focus decide +kernel); (focus rfl); (focus (intro w hSw; (try dsimp only at hSw); go_simp; (try (with_reducible rfl)); done)); (focus assumption); (try simp only [Act.put, List.setIfInBounds_toArray, List.set_cons_zero, List.set_cons_succ, List.getElem_toArray, List.getElem_cons_succ, List.getElem_cons_zero]))
  (refine wpAnyH_take (i := 1) (v := ?_) rfl ?_ ?_ ?_ (fun _ _ _ h => h) (Or.inl ⟨?_, ?_⟩) ?_ ?_; rotate_left 1; (focus decide +kernel); (focus decide +kernel); (focus decide +kernel); (focus rfl); (focus (intro w hSw; (try dsimp only at hSw); go_simp; (try (with_reducible rfl)); done)); (focus assumption); (try simp only [Act.put, List.setIfInBounds_toArray, List.set_cons_zero, List.set_cons_succ, List.getElem_toArray, List.getElem_cons_succ, List.getElem_cons_zero]))
  (refine wpAnyH_take (i := 2) (v := ?_) rfl ?_ ?_ ?_ (fun _ _ _ h => h) (Or.inl ⟨?_, ?_⟩) ?_ ?_; rotate_left 1; (focus decide +kernel); (focus decide +kernel); (focus decide +kernel); (focus rfl); (focus (intro w hSw; (try dsimp only at hSw); go_simp; (try (with_reducible rfl)); done)); (focus assumption); (try simp only [Act.put, List.setIfInBounds_toArray, List.set_cons_zero, List.set_cons_succ, List.getElem_toArray, List.getElem_cons_succ, List.getElem_cons_zero]))
  (refine wpAnyH_take (i := 3) (v := ?_) rfl ?_ ?_ ?_ (fun _ _ _ h => h) (Or.inl ⟨?_, ?_⟩) ?_ ?_; rotate_left 1; (focus decide +kernel); (focus decide +kernel); (focus decide +kernel); (focus rfl); (focus (intro w hSw; (try dsimp only at hSw); go_simp; (try (with_reducible rfl)); done)); (focus assumption); (try simp only [Act.put, List.setIfInBounds_toArray, List.set_cons_zero, List.set_cons_succ, List.getElem_toArray, List.getElem_cons_succ, List.getElem_cons_zero]))
  (refine wpAnyH_take (i := 4) (v := ?_) rfl ?_ ?_ ?_ (fun _ _ _ h => h) (Or.inl ⟨?_, ?_⟩) ?_ ?_; rotate_left 1; (focus decide +kernel); (focus decide +kernel); (focus decide +kernel); (focus rfl); (focus (intro w hSw; (try dsimp only at hSw); go_simp; (try (with_reducible rfl)); done)); (focus assumption); (try simp only [Act.put, List.setIfInBounds_toArray, List.set_cons_zero, List.set_cons_succ, List.getElem_toArray, List.getElem_cons_succ, List.getElem_cons_zero]))
  (refine wpAnyH_take (i := 5) (v := ?_) rfl ?_ ?_ ?_ (fun _ _ _ h => h) (Or.inl ⟨?_, ?_⟩) ?_ ?_; rotate_left 1; (focus decide +kernel); (focus decide +kernel); (focus decide +kernel); (focus rfl); (focus (intro w hSw; (try dsimp only at hSw); go_simp; (try (with_reducible rfl)); done)); (focus assumption); (try simp only [Act.put, List.setIfInBounds_toArray, List.set_cons_zero, List.set_cons_succ, List.getElem_toArray, List.getElem_cons_succ, List.getElem_cons_zero]))
  refine wpAnyH_ready (rs := [6]) ?_ (by simp) ?_
  · decide +kernel
  refine AllReadyH.cons rfl (fun K hK => ?_) AllReadyH.nil
  go_simp
  go_at_call 81
  refine (Told.toldOf (rd3_2_0 hHeld) (rd3_2_1 hHeld) HS.out HZ.out HA.out HLt.out).mono ?_
  rintro e w4 ⟨rfl, bel⟩
  refine hK.out _ _ ?_ (fun hHeld => ?_)
  · (try dsimp only); exact next3_2 bel hHeld
  clear hK K
  (try simp only [Act.put, List.setIfInBounds_toArray, List.set_cons_zero, List.set_cons_succ, List.getElem_toArray, List.getElem_cons_succ, List.getElem_cons_zero])
  (refine wpAnyH_take (i := 7) (v := ?_) rfl ?_ ?_ ?_ (fun _ _ _ h => h) (Or.inl ⟨?_, ?_⟩) ?_ ?_; rotate_left 1; (focus decide +kernel); (focus decide +kernel); (focus decide +kernel); (focus rfl); (focus (intro w hSw; (try dsimp only at hSw); go_simp; (try (with_reducible rfl)); done)); (focus assumption); (try simp only [Act.put, List.setIfInBounds_toArray, List.set_cons_zero, List.set_cons_succ, List.getElem_toArray, List.getElem_cons_succ, List.getElem_cons_zero]))
  refine wpAnyH_done (by kernel_rfl) ?_ _
  clear st
  go_wp2
  go_ret
  exact ⟨rfl, And.left hHeld⟩

set_option maxHeartbeats 8000000 in
theorem tellWider {w : World} {s r : Int} {M L : Nat} (hs : 2 ≤ s ∧ s ≤ 3) (hr : 0 ≤ r ∧ r ≤ 2) (hM : (M : Int) = s ^ (2 * r + 1).toNat) (hL : L = (2 * r + 1).toNat) {k0 : Value} (T : Nat → Int)
    (h : ∀ k, k < M → ∀ (wr : World) (b : Nat), Below w.heap.size w wr → w.heap.size ≤ b → Own 2 wr b (.slice (some ⟨b, 0, none⟩) L L) (dig s k L) →
      Calls Try.prog 84 #[.slice (some ⟨b, 0, none⟩) L L, k0] wr fun e w' => e = .returned (.int .i64 (T k)) ∧ Below b wr w') :
    Calls Try.prog 59 #[shapeV s r, .func (.func 84) #[] #[k0]] w fun e w' => ∃ b', e = .returned (ruleV s r (.slice (some ⟨b', 0, none⟩) M M)) ∧
      Own 2 w' b' (.slice (some ⟨b', 0, none⟩) M M) (tab T M) ∧ w.heap.size ≤ b' ∧ Below w.heap.size w w' := by
  have HS := hid hs
  have HR := hid hr
  have H := hid h
  have HLL := hid hL
  have HM := hid hM
  have hM2 : 1 ≤ M ∧ M ≤ 243 := by
    have := pow_bd hs (show (2 * r + 1).toNat ≤ 5 by omega)
    omega
  obtain ⟨m1, m2⟩ := hM2
  have HW : Hid (0 ≤ 2 * r + 1 ∧ 2 * r + 1 ≤ 64) := by simp only [Hid]; omega
  have hmk := run_make_row' (P := Try.prog) 22 2 (.int .i64 0) 8 Try.underlying22 infoI rfl .i64 .i64 M (by omega) (by omega)
  have HMk := hid hmk
  clear h hs hr hM hL
  go_enter Try.func59, Try.ntmps59
  go_wp2_with fail
  obtain ⟨w1, hW⟩ : ∃ w1, w1 = (w.alloc (Obj.cells #[.int .i64 s, .int .i64 r] 55)).alloc (Obj.cells #[.int .i64 0, .int .i64 0, .slice none 0 0] 24) := ⟨_, rfl⟩
  obtain ⟨NS, hN⟩ : ∃ NS, NS = w.heap.size := ⟨_, rfl⟩
  have st : Below w.heap.size w w1 ∧ w1.cell? ⟨NS, 0, none⟩ = some (.int .i64 s) ∧ w1.cell? ⟨NS, 1, none⟩ = some (.int .i64 r) ∧ w.heap.size ≤ w1.heap.size := by
    rw [hW, hN]
    exact ⟨Go.Joins.below_alloc2 _ _ _, by simp, by simp, by simp; omega⟩
  have kb : w1.heap[NS + 1]? = some (Obj.cells #[.int .i64 0, .int .i64 0, .slice none 0 0] 24) := by
    rw [hW, hN]
    have := heap_alloc_new (w.alloc (Obj.cells #[.int .i64 s, .int .i64 r] 55)) (Obj.cells #[.int .i64 0, .int .i64 0, .slice none 0 0] 24)
    simpa using this
  have hsz : w1.heap.size = NS + 2 := by rw [hW, hN]; simp
  have HNE := hid hN
  simp only [← hW, ← hN]
  clear hW hN
  go_at_call 108
  refine (kinds HS.out HR.out).mono ?_
  rw [← HM.out]
  rintro e w2 ⟨rfl, bel⟩
  replace kb := (bel.block _ (by omega)).trans kb
  replace st := next2_0 bel st
  have hsz2 := bel.size
  clear bel
  have hmk := HMk.out
  go_wp2_with fail
  have HKB := hid kb
  have ST := hid st
  obtain ⟨b0, hb0⟩ : ∃ b0, b0 = w2.heap.size := ⟨_, rfl⟩
  have HB0 := hid hb0
  have HNS : Hid (NS < b0) := by simp only [Hid]; omega
  have HN1 : Hid (NS + 1 < b0) := by simp only [Hid]; omega
  have HN0 : Hid (w.heap.size ≤ b0) := by simp only [Hid]; rw [hb0]; exact st.2.2.2
  simp only [← hb0]
  have hb0' : w2.heap.size = b0 := hb0.symm
  have hown0 : Own 2 (w2.alloc (.cells (madeCells #[.int .i64 0] M) 2)) b0 (.slice (some ⟨b0, 0, none⟩) M M) (List.replicate M 0) := by
    have := Own.made 2 w2 M (by unfold maxLen; omega)
    rw [hb0'] at this; exact this
  have hbel0 : Below b0 w2 (w2.alloc (.cells (madeCells #[.int .i64 0] M) 2)) := (Below.refl _ _).alloc (by omega) _
  clear kb st hb0 hsz hsz2 hmk
  go_loopw [6, 12] (fun j t wr => ∃ k : Nat, k ≤ M ∧ t = .int .i64 k ∧ Own 2 wr b0 (.slice (some ⟨b0, 0, none⟩) M M) (tab T k ++ List.replicate (M - k) 0) ∧ Below b0 w2 wr) (fun _ t _ => M - (intOf t).toNat)
  case atStart => exact ⟨0, Nat.zero_le _, rfl, by simpa [tab] using hown0, hbel0⟩
  case round =>
    clear hown0 hbel0
    obtain ⟨k, hk, rfl, hown, hbel⟩ := hrel
    by_cases hlt : k < M
    · have hki : (k : Int) < (M : Int) := by omega
      have s2 := nextAt2 hbel HNS.out HN0.out ST.out
      have HLT : Hid (b0 ≤ wr.heap.size) := by simp only [Hid]; exact Nat.le_of_lt hown.lt
      have HL1 : Hid (b0 < wr.heap.size) := hown.lt
      have HB := hid hbel
      have HO := hid hown
      clear hbel hown
      go_wp2_with fail
      refine wp_region_held_drew (S := (fun ww => Below w.heap.size w ww ∧ ww.cell? ⟨NS, 0, none⟩ = some (.int .i64 s) ∧ ww.cell? ⟨NS, 1, none⟩ = some (.int .i64 r) ∧ w.heap.size ≤ ww.heap.size)) (by kernel_rfl) ?_ (fun hHeld => ?_)
      · ((try dsimp only); exact drew2_0 s2)
      first | (refine wpAnyH_take (i := 0) (v := ?_) rfl ?_ ?_ ?_ (fun _ _ _ h => h) (Or.inl ⟨?_, ?_⟩) ?_ ?_; rotate_left 1; (focus decide +kernel); (focus decide +kernel); (focus decide +kernel); (focus rfl); (focus (intro w hSw; (try dsimp only at hSw); go_simp; (try (with_reducible rfl)); done)); (focus assumption); (try simp only [Act.put, List.setIfInBounds_toArray, List.set_cons_zero, List.set_cons_succ, List.getElem_toArray, List.getElem_cons_succ, List.getElem_cons_zero])) | (refine wpAnyH_take (i := 0) (v := undef) rfl ?_ ?_ ?_ (fun _ _ _ h => h) (Or.inr ⟨?_, rfl⟩) ?_ ?_; (focus decide +kernel); (focus decide +kernel); (focus decide +kernel); (focus rfl); (focus assumption); (try simp only [Act.put, List.setIfInBounds_toArray, List.set_cons_zero, List.set_cons_succ, List.getElem_toArray, List.getElem_cons_succ, List.getElem_cons_zero])) | skip
      first | (refine wpAnyH_take (i := 1) (v := ?_) rfl ?_ ?_ ?_ (fun _ _ _ h => h) (Or.inl ⟨?_, ?_⟩) ?_ ?_; rotate_left 1; (focus decide +kernel); (focus decide +kernel); (focus decide +kernel); (focus rfl); (focus (intro w hSw; (try dsimp only at hSw); go_simp; (try (with_reducible rfl)); done)); (focus assumption); (try simp only [Act.put, List.setIfInBounds_toArray, List.set_cons_zero, List.set_cons_succ, List.getElem_toArray, List.getElem_cons_succ, List.getElem_cons_zero])) | (refine wpAnyH_take (i := 1) (v := undef) rfl ?_ ?_ ?_ (fun _ _ _ h => h) (Or.inr ⟨?_, rfl⟩) ?_ ?_; (focus decide +kernel); (focus decide +kernel); (focus decide +kernel); (focus rfl); (focus assumption); (try simp only [Act.put, List.setIfInBounds_toArray, List.set_cons_zero, List.set_cons_succ, List.getElem_toArray, List.getElem_cons_succ, List.getElem_cons_zero])) | skip
      first | (refine wpAnyH_take (i := 2) (v := ?_) rfl ?_ ?_ ?_ (fun _ _ _ h => h) (Or.inl ⟨?_, ?_⟩) ?_ ?_; rotate_left 1; (focus decide +kernel); (focus decide +kernel); (focus decide +kernel); (focus rfl); (focus (intro w hSw; (try dsimp only at hSw); go_simp; (try (with_reducible rfl)); done)); (focus assumption); (try simp only [Act.put, List.setIfInBounds_toArray, List.set_cons_zero, List.set_cons_succ, List.getElem_toArray, List.getElem_cons_succ, List.getElem_cons_zero])) | (refine wpAnyH_take (i := 2) (v := undef) rfl ?_ ?_ ?_ (fun _ _ _ h => h) (Or.inr ⟨?_, rfl⟩) ?_ ?_; (focus decide +kernel); (focus decide +kernel); (focus decide +kernel); (focus rfl); (focus assumption); (try simp only [Act.put, List.setIfInBounds_toArray, List.set_cons_zero, List.set_cons_succ, List.getElem_toArray, List.getElem_cons_succ, List.getElem_cons_zero])) | skip
      first | (refine wpAnyH_take (i := 3) (v := ?_) rfl ?_ ?_ ?_ (fun _ _ _ h => h) (Or.inl ⟨?_, ?_⟩) ?_ ?_; rotate_left 1; (focus decide +kernel); (focus decide +kernel); (focus decide +kernel); (focus rfl); (focus (intro w hSw; (try dsimp only at hSw); go_simp; (try (with_reducible rfl)); done)); (focus assumption); (try simp only [Act.put, List.setIfInBounds_toArray, List.set_cons_zero, List.set_cons_succ, List.getElem_toArray, List.getElem_cons_succ, List.getElem_cons_zero])) | (refine wpAnyH_take (i := 3) (v := undef) rfl ?_ ?_ ?_ (fun _ _ _ h => h) (Or.inr ⟨?_, rfl⟩) ?_ ?_; (focus decide +kernel); (focus decide +kernel); (focus decide +kernel); (focus rfl); (focus assumption); (try simp only [Act.put, List.setIfInBounds_toArray, List.set_cons_zero, List.set_cons_succ, List.getElem_toArray, List.getElem_cons_succ, List.getElem_cons_zero])) | skip
      first | (refine wpAnyH_take (i := 4) (v := ?_) rfl ?_ ?_ ?_ (fun _ _ _ h => h) (Or.inl ⟨?_, ?_⟩) ?_ ?_; rotate_left 1; (focus decide +kernel); (focus decide +kernel); (focus decide +kernel); (focus rfl); (focus (intro w hSw; (try dsimp only at hSw); go_simp; (try (with_reducible rfl)); done)); (focus assumption); (try simp only [Act.put, List.setIfInBounds_toArray, List.set_cons_zero, List.set_cons_succ, List.getElem_toArray, List.getElem_cons_succ, List.getElem_cons_zero])) | (refine wpAnyH_take (i := 4) (v := undef) rfl ?_ ?_ ?_ (fun _ _ _ h => h) (Or.inr ⟨?_, rfl⟩) ?_ ?_; (focus decide +kernel); (focus decide +kernel); (focus decide +kernel); (focus rfl); (focus assumption); (try simp only [Act.put, List.setIfInBounds_toArray, List.set_cons_zero, List.set_cons_succ, List.getElem_toArray, List.getElem_cons_succ, List.getElem_cons_zero])) | skip
      first | (refine wpAnyH_take (i := 5) (v := ?_) rfl ?_ ?_ ?_ (fun _ _ _ h => h) (Or.inl ⟨?_, ?_⟩) ?_ ?_; rotate_left 1; (focus decide +kernel); (focus decide +kernel); (focus decide +kernel); (focus rfl); (focus (intro w hSw; (try dsimp only at hSw); go_simp; (try (with_reducible rfl)); done)); (focus assumption); (try simp only [Act.put, List.setIfInBounds_toArray, List.set_cons_zero, List.set_cons_succ, List.getElem_toArray, List.getElem_cons_succ, List.getElem_cons_zero])) | (refine wpAnyH_take (i := 5) (v := undef) rfl ?_ ?_ ?_ (fun _ _ _ h => h) (Or.inr ⟨?_, rfl⟩) ?_ ?_; (focus decide +kernel); (focus decide +kernel); (focus decide +kernel); (focus rfl); (focus assumption); (try simp only [Act.put, List.setIfInBounds_toArray, List.set_cons_zero, List.set_cons_succ, List.getElem_toArray, List.getElem_cons_succ, List.getElem_cons_zero])) | skip
      first | (refine wpAnyH_take (i := 6) (v := ?_) rfl ?_ ?_ ?_ (fun _ _ _ h => h) (Or.inl ⟨?_, ?_⟩) ?_ ?_; rotate_left 1; (focus decide +kernel); (focus decide +kernel); (focus decide +kernel); (focus rfl); (focus (intro w hSw; (try dsimp only at hSw); go_simp; (try (with_reducible rfl)); done)); (focus assumption); (try simp only [Act.put, List.setIfInBounds_toArray, List.set_cons_zero, List.set_cons_succ, List.getElem_toArray, List.getElem_cons_succ, List.getElem_cons_zero])) | (refine wpAnyH_take (i := 6) (v := undef) rfl ?_ ?_ ?_ (fun _ _ _ h => h) (Or.inr ⟨?_, rfl⟩) ?_ ?_; (focus decide +kernel); (focus decide +kernel); (focus decide +kernel); (focus rfl); (focus assumption); (try simp only [Act.put, List.setIfInBounds_toArray, List.set_cons_zero, List.set_cons_succ, List.getElem_toArray, List.getElem_cons_succ, List.getElem_cons_zero])) | skip
      first | (refine wpAnyH_take (i := 10) (v := ?_) rfl ?_ ?_ ?_ (fun _ _ _ h => h) (Or.inl ⟨?_, ?_⟩) ?_ ?_; rotate_left 1; (focus decide +kernel); (focus decide +kernel); (focus decide +kernel); (focus rfl); (focus (intro w hSw; (try dsimp only at hSw); go_simp; (try (with_reducible rfl)); done)); (focus assumption); (try simp only [Act.put, List.setIfInBounds_toArray, List.set_cons_zero, List.set_cons_succ, List.getElem_toArray, List.getElem_cons_succ, List.getElem_cons_zero])) | (refine wpAnyH_take (i := 10) (v := undef) rfl ?_ ?_ ?_ (fun _ _ _ h => h) (Or.inr ⟨?_, rfl⟩) ?_ ?_; (focus decide +kernel); (focus decide +kernel); (focus decide +kernel); (focus rfl); (focus assumption); (try simp only [Act.put, List.setIfInBounds_toArray, List.set_cons_zero, List.set_cons_succ, List.getElem_toArray, List.getElem_cons_succ, List.getElem_cons_zero])) | skip
      first | (refine wpAnyH_take (i := 11) (v := ?_) rfl ?_ ?_ ?_ (fun _ _ _ h => h) (Or.inl ⟨?_, ?_⟩) ?_ ?_; rotate_left 1; (focus decide +kernel); (focus decide +kernel); (focus decide +kernel); (focus rfl); (focus (intro w hSw; (try dsimp only at hSw); go_simp; (try (with_reducible rfl)); done)); (focus assumption); (try simp only [Act.put, List.setIfInBounds_toArray, List.set_cons_zero, List.set_cons_succ, List.getElem_toArray, List.getElem_cons_succ, List.getElem_cons_zero])) | (refine wpAnyH_take (i := 11) (v := undef) rfl ?_ ?_ ?_ (fun _ _ _ h => h) (Or.inr ⟨?_, rfl⟩) ?_ ?_; (focus decide +kernel); (focus decide +kernel); (focus decide +kernel); (focus rfl); (focus assumption); (try simp only [Act.put, List.setIfInBounds_toArray, List.set_cons_zero, List.set_cons_succ, List.getElem_toArray, List.getElem_cons_succ, List.getElem_cons_zero])) | skip
      first | (refine wpAnyH_take (i := 7) (v := undef) rfl ?_ ?_ ?_ (fun _ _ _ h => h) (Or.inr ⟨?_, rfl⟩) ?_ ?_; (focus decide +kernel); (focus decide +kernel); (focus decide +kernel); (focus rfl); (focus assumption); (try simp only [Act.put, List.setIfInBounds_toArray, List.set_cons_zero, List.set_cons_succ, List.getElem_toArray, List.getElem_cons_succ, List.getElem_cons_zero])) | (refine wpAnyH_ready (rs := [7]) ?_ (by simp) ?_; (focus decide +kernel); refine AllReadyH.cons rfl (fun K hK => ?_) AllReadyH.nil; go_simp; (go_at_call 67; refine (wide HR.out).mono ?_; rintro e w4 ⟨rfl, bel⟩; have o4 : Own 2 wr.drew b0 (.slice (some ⟨b0, 0, none⟩) M M) (tab T k ++ List.replicate (M - k) 0) := HO.out; replace o4 := o4.keep bel; have bb := (Below.refl b0 wr).drew; replace bb := bb.trans (bel.mono HLT.out); have bb0 := bb.size); refine hK.out _ _ ?_ (fun hHeld => ?_); ((try dsimp only); first | exact next2_0 bel hHeld | exact nextAt2 bel (Nat.lt_trans HNS.out lb) (Nat.le_trans HN0.out (Nat.le_of_lt lb)) hHeld); clear hK K; (try simp only [Act.put, List.setIfInBounds_toArray, List.set_cons_zero, List.set_cons_succ, List.getElem_toArray, List.getElem_cons_succ, List.getElem_cons_zero]))
      first | (refine wpAnyH_take (i := 10) (v := ?_) rfl ?_ ?_ ?_ (fun _ _ _ h => h) (Or.inl ⟨?_, ?_⟩) ?_ ?_; rotate_left 1; (focus decide +kernel); (focus decide +kernel); (focus decide +kernel); (focus rfl); (focus (intro w hSw; (try dsimp only at hSw); go_simp; (try (with_reducible rfl)); done)); (focus assumption); (try simp only [Act.put, List.setIfInBounds_toArray, List.set_cons_zero, List.set_cons_succ, List.getElem_toArray, List.getElem_cons_succ, List.getElem_cons_zero])) | (refine wpAnyH_take (i := 10) (v := undef) rfl ?_ ?_ ?_ (fun _ _ _ h => h) (Or.inr ⟨?_, rfl⟩) ?_ ?_; (focus decide +kernel); (focus decide +kernel); (focus decide +kernel); (focus rfl); (focus assumption); (try simp only [Act.put, List.setIfInBounds_toArray, List.set_cons_zero, List.set_cons_succ, List.getElem_toArray, List.getElem_cons_succ, List.getElem_cons_zero])) | skip
      first | (refine wpAnyH_take (i := 11) (v := ?_) rfl ?_ ?_ ?_ (fun _ _ _ h => h) (Or.inl ⟨?_, ?_⟩) ?_ ?_; rotate_left 1; (focus decide +kernel); (focus decide +kernel); (focus decide +kernel); (focus rfl); (focus (intro w hSw; (try dsimp only at hSw); go_simp; (try (with_reducible rfl)); done)); (focus assumption); (try simp only [Act.put, List.setIfInBounds_toArray, List.set_cons_zero, List.set_cons_succ, List.getElem_toArray, List.getElem_cons_succ, List.getElem_cons_zero])) | (refine wpAnyH_take (i := 11) (v := undef) rfl ?_ ?_ ?_ (fun _ _ _ h => h) (Or.inr ⟨?_, rfl⟩) ?_ ?_; (focus decide +kernel); (focus decide +kernel); (focus decide +kernel); (focus rfl); (focus assumption); (try simp only [Act.put, List.setIfInBounds_toArray, List.set_cons_zero, List.set_cons_succ, List.getElem_toArray, List.getElem_cons_succ, List.getElem_cons_zero])) | skip
      first | (refine wpAnyH_take (i := 8) (v := undef) rfl ?_ ?_ ?_ (fun _ _ _ h => h) (Or.inr ⟨?_, rfl⟩) ?_ ?_; (focus decide +kernel); (focus decide +kernel); (focus decide +kernel); (focus rfl); (focus assumption); (try simp only [Act.put, List.setIfInBounds_toArray, List.set_cons_zero, List.set_cons_succ, List.getElem_toArray, List.getElem_cons_succ, List.getElem_cons_zero])) | (refine wpAnyH_ready (rs := [8]) ?_ (by simp) ?_; (focus decide +kernel); refine AllReadyH.cons rfl (fun K hK => ?_) AllReadyH.nil; go_simp; (go_at_call 86; refine (implDigits HS.out (by omega) HW.out).mono ?_; rw [dig_length, ← HLL.out]; rintro e w5 ⟨bd, rfl, od, lo, bel⟩; replace o4 := o4.keep bel; have l4 := Nat.le_trans HLT.out bb.size; replace bb := bb.trans (bel.mono l4); have b04 := Nat.lt_of_lt_of_le HL1.out bb0); refine hK.out _ _ ?_ (fun hHeld => ?_); ((try dsimp only); first | exact next2_0 bel hHeld | exact nextAt2 bel (Nat.lt_trans HNS.out lb) (Nat.le_trans HN0.out (Nat.le_of_lt lb)) hHeld); clear hK K; (try simp only [Act.put, List.setIfInBounds_toArray, List.set_cons_zero, List.set_cons_succ, List.getElem_toArray, List.getElem_cons_succ, List.getElem_cons_zero]))
      first | (refine wpAnyH_take (i := 10) (v := ?_) rfl ?_ ?_ ?_ (fun _ _ _ h => h) (Or.inl ⟨?_, ?_⟩) ?_ ?_; rotate_left 1; (focus decide +kernel); (focus decide +kernel); (focus decide +kernel); (focus rfl); (focus (intro w hSw; (try dsimp only at hSw); go_simp; (try (with_reducible rfl)); done)); (focus assumption); (try simp only [Act.put, List.setIfInBounds_toArray, List.set_cons_zero, List.set_cons_succ, List.getElem_toArray, List.getElem_cons_succ, List.getElem_cons_zero])) | (refine wpAnyH_take (i := 10) (v := undef) rfl ?_ ?_ ?_ (fun _ _ _ h => h) (Or.inr ⟨?_, rfl⟩) ?_ ?_; (focus decide +kernel); (focus decide +kernel); (focus decide +kernel); (focus rfl); (focus assumption); (try simp only [Act.put, List.setIfInBounds_toArray, List.set_cons_zero, List.set_cons_succ, List.getElem_toArray, List.getElem_cons_succ, List.getElem_cons_zero])) | skip
      first | (refine wpAnyH_take (i := 11) (v := ?_) rfl ?_ ?_ ?_ (fun _ _ _ h => h) (Or.inl ⟨?_, ?_⟩) ?_ ?_; rotate_left 1; (focus decide +kernel); (focus decide +kernel); (focus decide +kernel); (focus rfl); (focus (intro w hSw; (try dsimp only at hSw); go_simp; (try (with_reducible rfl)); done)); (focus assumption); (try simp only [Act.put, List.setIfInBounds_toArray, List.set_cons_zero, List.set_cons_succ, List.getElem_toArray, List.getElem_cons_succ, List.getElem_cons_zero])) | (refine wpAnyH_take (i := 11) (v := undef) rfl ?_ ?_ ?_ (fun _ _ _ h => h) (Or.inr ⟨?_, rfl⟩) ?_ ?_; (focus decide +kernel); (focus decide +kernel); (focus decide +kernel); (focus rfl); (focus assumption); (try simp only [Act.put, List.setIfInBounds_toArray, List.set_cons_zero, List.set_cons_succ, List.getElem_toArray, List.getElem_cons_succ, List.getElem_cons_zero])) | skip
      first | (refine wpAnyH_take (i := 9) (v := undef) rfl ?_ ?_ ?_ (fun _ _ _ h => h) (Or.inr ⟨?_, rfl⟩) ?_ ?_; (focus decide +kernel); (focus decide +kernel); (focus decide +kernel); (focus rfl); (focus assumption); (try simp only [Act.put, List.setIfInBounds_toArray, List.set_cons_zero, List.set_cons_succ, List.getElem_toArray, List.getElem_cons_succ, List.getElem_cons_zero])) | (refine wpAnyH_ready (rs := [9]) ?_ (by simp) ?_; (focus decide +kernel); refine AllReadyH.cons rfl (fun K hK => ?_) AllReadyH.nil; go_simp; (have hA := H.out k hlt w5 bd (And.left hHeld) (Nat.le_trans HN0.out (Nat.le_trans l4 lo)) od; go_at_call 84; refine hA.mono ?_; clear hA; rintro e w6 ⟨rfl, bel⟩; have lb := Nat.lt_of_lt_of_le b04 lo; replace o4 := o4.keepAt bel lb; replace bb := bb.trans (bel.mono (Nat.le_of_lt lb))); refine hK.out _ _ ?_ (fun hHeld => ?_); ((try dsimp only); first | exact next2_0 bel hHeld | exact nextAt2 bel (Nat.lt_trans HNS.out lb) (Nat.le_trans HN0.out (Nat.le_of_lt lb)) hHeld); clear hK K; (try simp only [Act.put, List.setIfInBounds_toArray, List.set_cons_zero, List.set_cons_succ, List.getElem_toArray, List.getElem_cons_succ, List.getElem_cons_zero]))
      first | (refine wpAnyH_take (i := 10) (v := ?_) rfl ?_ ?_ ?_ (fun _ _ _ h => h) (Or.inl ⟨?_, ?_⟩) ?_ ?_; rotate_left 1; (focus decide +kernel); (focus decide +kernel); (focus decide +kernel); (focus rfl); (focus (intro w hSw; (try dsimp only at hSw); go_simp; (try (with_reducible rfl)); done)); (focus assumption); (try simp only [Act.put, List.setIfInBounds_toArray, List.set_cons_zero, List.set_cons_succ, List.getElem_toArray, List.getElem_cons_succ, List.getElem_cons_zero])) | (refine wpAnyH_take (i := 10) (v := undef) rfl ?_ ?_ ?_ (fun _ _ _ h => h) (Or.inr ⟨?_, rfl⟩) ?_ ?_; (focus decide +kernel); (focus decide +kernel); (focus decide +kernel); (focus rfl); (focus assumption); (try simp only [Act.put, List.setIfInBounds_toArray, List.set_cons_zero, List.set_cons_succ, List.getElem_toArray, List.getElem_cons_succ, List.getElem_cons_zero])) | skip
      first | (refine wpAnyH_take (i := 11) (v := ?_) rfl ?_ ?_ ?_ (fun _ _ _ h => h) (Or.inl ⟨?_, ?_⟩) ?_ ?_; rotate_left 1; (focus decide +kernel); (focus decide +kernel); (focus decide +kernel); (focus rfl); (focus (intro w hSw; (try dsimp only at hSw); go_simp; (try (with_reducible rfl)); done)); (focus assumption); (try simp only [Act.put, List.setIfInBounds_toArray, List.set_cons_zero, List.set_cons_succ, List.getElem_toArray, List.getElem_cons_succ, List.getElem_cons_zero])) | (refine wpAnyH_take (i := 11) (v := undef) rfl ?_ ?_ ?_ (fun _ _ _ h => h) (Or.inr ⟨?_, rfl⟩) ?_ ?_; (focus decide +kernel); (focus decide +kernel); (focus decide +kernel); (focus rfl); (focus assumption); (try simp only [Act.put, List.setIfInBounds_toArray, List.set_cons_zero, List.set_cons_succ, List.getElem_toArray, List.getElem_cons_succ, List.getElem_cons_zero])) | skip
      have hlen : (tab T k ++ List.replicate (M - k) 0).length = M := by simp [tab_length]; omega
      have hox := o4.cell (i := k) (by omega)
      have hof := o4.free k
      have HO6 := hid o4
      have HB6 := hid bb
      clear o4 bb hlen od lb
      refine wpAnyH_ready (rs := [11]) ?_ (by simp) ?_
      · decide +kernel
      refine AllReadyH.cons rfl (fun K hK => ?_) AllReadyH.nil
      go_simp
      refine hK.out _ _ ?_ (fun hHeld2 => ?_)
      · (try dsimp only); exact set2 HN0.out HNS.out hHeld
      clear hK K
      refine wpAnyH_done (by kernel_rfl) ?_ _
      clear s2
      go_wp2
      go_roundw
      case rel =>
        refine ⟨k + 1, by omega, by go_num, ?_, ?_⟩
        · rw [← set_tab T M k hlt]
          exact HO6.out.set k _
        · exact (HB.out.trans HB6.out).setCell (Nat.le_refl _) _
      case measure => simp [intOf]; omega
    · have hkn : M = k := by omega
      subst hkn
      have s2 := nextAt2 hbel HNS.out HN0.out ST.out
      have kb := (hbel.block _ HN1.out).trans HKB.out
      have y0 : wr.cell? ⟨NS + 1, 0, none⟩ = some (.int .i64 0) := Go.Joins.cell_of_block kb 0
      have y1 : wr.cell? ⟨NS + 1, 1, none⟩ = some (.int .i64 0) := Go.Joins.cell_of_block kb 1
      have y2 : wr.cell? ⟨NS + 1, 2, none⟩ = some (.slice none 0 0) := Go.Joins.cell_of_block kb 2
      have g0 : wr.frozen? ⟨NS + 1, 0, none⟩ = false := Go.Joins.unfrozen_of_block kb 0
      have g1 : wr.frozen? ⟨NS + 1, 1, none⟩ = false := Go.Joins.unfrozen_of_block kb 1
      have g2 : wr.frozen? ⟨NS + 1, 2, none⟩ = false := Go.Joins.unfrozen_of_block kb 2
      have HO := hid hown
      have HB := hid hbel
      have HK := hid kb
      clear hown hbel kb
      go_wp2
      obtain ⟨W5, hW⟩ : ∃ W5, W5 = (((wr.setCell { block := NS + 1, off := 0 } (Value.int IntKind.i64 s)).setCell { block := NS + 1, off := 1 } (Value.int IntKind.i64 r)).setCell { block := NS + 1, off := 2 } (Value.slice (some { block := b0, off := 0 }) M M)) := ⟨_, rfl⟩
      have q0 := Go.Joins.block_setCell (Go.Joins.block_setCell (Go.Joins.block_setCell (i := 0) HK.out (Value.int IntKind.i64 s)) (i := 1) (Value.int IntKind.i64 r)) (i := 2) (Value.slice (some { block := b0, off := 0 }) M M)
      rw [← hW] at q0
      have z0 : W5.cell? ⟨NS + 1, 0, none⟩ = some (.int .i64 s) := Go.Joins.cell_of_block q0 0
      have z1 : W5.cell? ⟨NS + 1, 1, none⟩ = some (.int .i64 r) := Go.Joins.cell_of_block q0 1
      have z2 : W5.cell? ⟨NS + 1, 2, none⟩ = some (Value.slice (some { block := b0, off := 0 }) M M) := Go.Joins.cell_of_block q0 2
      have O5 : Own 2 W5 b0 (Value.slice (some { block := b0, off := 0 }) M M) (tab T M) := by
        have h1 := HN1.out
        have hO := HO.out
        rw [Nat.sub_self, List.replicate_zero, List.append_nil] at hO
        rw [hW]
        exact own_set (own_set (own_set hO _ _ (by simp; omega)) _ _ (by simp; omega)) _ _ (by simp; omega)
      have B5 : Below w.heap.size w W5 := by
        have h1 := HNE.out
        rw [hW]
        exact ((s2.1.setCell (by simp; omega) _).setCell (by simp; omega) _).setCell (by simp; omega) _
      simp only [← hW]
      clear hW q0
      simp [bodyPost, results, Try.results59, go_sem, z0, z1, z2]
      exact ⟨O5, HN0.out, B5⟩

set_option maxHeartbeats 4000000 in
theorem implNoA {w : World} {s r : Int} {bt : Nat} {vt : Value} {tbl : List Int} (h : Rd w bt vt tbl) (hv : validB s r tbl = false) :
    Calls Try.prog 37 #[ruleV s r vt] w fun e w' => e = .returned (.tuple #[ruleV 0 0 (.slice none 0 0), .bool false]) ∧ Below w.heap.size w w' := by
  have HRd := hid h
  have HV := hid hv
  clear hv
  obtain ⟨ao, cap, rfl, _, _, _⟩ := h
  go_enter Try.func37, Try.ntmps37
  go_wp2_with fail
  obtain ⟨w1, hW⟩ : ∃ w1, w1 = (w.alloc (Obj.cells #[.int .i64 s, .int .i64 r, (Value.slice ao tbl.length cap)] 24)).alloc (Obj.cells #[Value.int IntKind.i64 0, Value.int IntKind.i64 0, Value.slice none 0 0] 24) := ⟨_, rfl⟩
  obtain ⟨NR, hN⟩ : ∃ NR, NR = w.heap.size := ⟨_, rfl⟩
  obtain ⟨NT, hN1⟩ : ∃ NT, NT = NR + 1 := ⟨_, rfl⟩
  have b1 : Below w.heap.size w w1 := by rw [hW]; exact Go.Joins.below_alloc2 _ _ _
  have st : Below w1.heap.size w1 w1 ∧ w1.cell? ⟨NR, 0, none⟩ = some (.int .i64 s) ∧ w1.cell? ⟨NR, 1, none⟩ = some (.int .i64 r) ∧ w1.cell? ⟨NR, 2, none⟩ = some (Value.slice ao tbl.length cap) ∧ Rd w1 bt (Value.slice ao tbl.length cap) tbl ∧ w1.heap.size ≤ w1.heap.size := by
    refine ⟨Below.refl _ _, ?_, ?_, ?_, HRd.out.keep b1 (Nat.le_refl _), Nat.le_refl _⟩
    · rw [hW]; exact cell_old (cell_top hN rfl)
    · rw [hW]; exact cell_old (cell_top hN rfl)
    · rw [hW]; exact cell_old (cell_top hN rfl)
  have kb : w1.heap[NT]? = some (Obj.cells #[.int .i64 0, .int .i64 0, .slice none 0 0] 24) := by rw [hW]; exact heap_top (by simp; omega)
  have HNT : Hid (w.heap.size ≤ NT) := by simp only [Hid]; omega
  have HRT : Hid (NR < NT) := by simp only [Hid]; omega
  have HNR : Hid (w.heap.size ≤ NR) := by simp only [Hid]; omega
  have HB1 := hid b1
  have HKB := hid kb
  simp only [← hW, ← hN, ← hN1]
  clear hW hN hN1 b1 kb
  go_at_call 77
  refine (implValid (rd3_1_0 st)).mono ?_
  rw [HV.out]
  rintro e w2 ⟨rfl, bel⟩
  replace st := next3_1 bel st
  clear bel
  have kb2 := (st.1.block _ (Array.getElem?_eq_some_iff.1 HKB.out).1).trans HKB.out
  have HB := hid (HB1.out.trans (st.1.mono HB1.out.size))
  have y0 : w2.cell? ⟨NT, 0, none⟩ = some (.int .i64 0) := Go.Joins.cell_of_block kb2 0
  have y1 : w2.cell? ⟨NT, 1, none⟩ = some (.int .i64 0) := Go.Joins.cell_of_block kb2 1
  have y2 : w2.cell? ⟨NT, 2, none⟩ = some (.slice none 0 0) := Go.Joins.cell_of_block kb2 2
  have g0 : w2.frozen? ⟨NT, 0, none⟩ = false := Go.Joins.unfrozen_of_block kb2 0
  have g1 : w2.frozen? ⟨NT, 1, none⟩ = false := Go.Joins.unfrozen_of_block kb2 1
  have g2 : w2.frozen? ⟨NT, 2, none⟩ = false := Go.Joins.unfrozen_of_block kb2 2
  have HKx := hid kb2
  clear kb2
  go_wp2
  obtain ⟨W5, hW⟩ : ∃ W5, W5 = (((w2.setCell ⟨NT, 0, none⟩ (.int .i64 0)).setCell ⟨NT, 1, none⟩ (.int .i64 0)).setCell ⟨NT, 2, none⟩ (.slice none 0 0)) := ⟨_, rfl⟩
  have q0 := (Go.Joins.block_setCell (i := 2) (Go.Joins.block_setCell (i := 1) (Go.Joins.block_setCell (i := 0) HKx.out (.int .i64 0)) (.int .i64 0)) (.slice none 0 0))
  rw [← hW] at q0
  have z0 : W5.cell? ⟨NT, 0, none⟩ = some (.int .i64 0) := Go.Joins.cell_of_block q0 0
  have z1 : W5.cell? ⟨NT, 1, none⟩ = some (.int .i64 0) := Go.Joins.cell_of_block q0 1
  have z2 : W5.cell? ⟨NT, 2, none⟩ = some (.slice none 0 0) := Go.Joins.cell_of_block q0 2
  have B5 : Below w.heap.size w W5 := by
    have h1 := HNT.out
    rw [hW]
    exact ((HB.out.setCell (by simp; omega) _).setCell (by simp; omega) _).setCell (by simp; omega) _
  simp only [← hW]
  clear hW q0
  simp [bodyPost, results, Try.results37, go_sem, z0, z1, z2]
  exact B5

set_option maxHeartbeats 4000000 in
theorem implNoB {w : World} {s r : Int} {bt : Nat} {vt : Value} {tbl : List Int} (h : Rd w bt vt tbl) (hv : validB s r tbl = true) (h2 : r = 2) :
    Calls Try.prog 37 #[ruleV s r vt] w fun e w' => e = .returned (.tuple #[ruleV 0 0 (.slice none 0 0), .bool false]) ∧ Below w.heap.size w w' := by
  have HRd := hid h
  have HV := hid hv
  have h22 : (r == 2) = true := by simp [h2]
  clear hv h2
  obtain ⟨ao, cap, rfl, _, _, _⟩ := h
  go_enter Try.func37, Try.ntmps37
  go_wp2_with fail
  obtain ⟨w1, hW⟩ : ∃ w1, w1 = (w.alloc (Obj.cells #[.int .i64 s, .int .i64 r, (Value.slice ao tbl.length cap)] 24)).alloc (Obj.cells #[Value.int IntKind.i64 0, Value.int IntKind.i64 0, Value.slice none 0 0] 24) := ⟨_, rfl⟩
  obtain ⟨NR, hN⟩ : ∃ NR, NR = w.heap.size := ⟨_, rfl⟩
  obtain ⟨NT, hN1⟩ : ∃ NT, NT = NR + 1 := ⟨_, rfl⟩
  have b1 : Below w.heap.size w w1 := by rw [hW]; exact Go.Joins.below_alloc2 _ _ _
  have st : Below w1.heap.size w1 w1 ∧ w1.cell? ⟨NR, 0, none⟩ = some (.int .i64 s) ∧ w1.cell? ⟨NR, 1, none⟩ = some (.int .i64 r) ∧ w1.cell? ⟨NR, 2, none⟩ = some (Value.slice ao tbl.length cap) ∧ Rd w1 bt (Value.slice ao tbl.length cap) tbl ∧ w1.heap.size ≤ w1.heap.size := by
    refine ⟨Below.refl _ _, ?_, ?_, ?_, HRd.out.keep b1 (Nat.le_refl _), Nat.le_refl _⟩
    · rw [hW]; exact cell_old (cell_top hN rfl)
    · rw [hW]; exact cell_old (cell_top hN rfl)
    · rw [hW]; exact cell_old (cell_top hN rfl)
  have kb : w1.heap[NT]? = some (Obj.cells #[.int .i64 0, .int .i64 0, .slice none 0 0] 24) := by rw [hW]; exact heap_top (by simp; omega)
  have HNT : Hid (w.heap.size ≤ NT) := by simp only [Hid]; omega
  have HRT : Hid (NR < NT) := by simp only [Hid]; omega
  have HNR : Hid (w.heap.size ≤ NR) := by simp only [Hid]; omega
  have HB1 := hid b1
  have HKB := hid kb
  simp only [← hW, ← hN, ← hN1]
  clear hW hN hN1 b1 kb
  go_at_call 77
  refine (implValid (rd3_1_0 st)).mono ?_
  rw [HV.out]
  rintro e w2 ⟨rfl, bel⟩
  replace st := next3_1 bel st
  clear bel
  have kb2 := (st.1.block _ (Array.getElem?_eq_some_iff.1 HKB.out).1).trans HKB.out
  have HB := hid (HB1.out.trans (st.1.mono HB1.out.size))
  have y0 : w2.cell? ⟨NT, 0, none⟩ = some (.int .i64 0) := Go.Joins.cell_of_block kb2 0
  have y1 : w2.cell? ⟨NT, 1, none⟩ = some (.int .i64 0) := Go.Joins.cell_of_block kb2 1
  have y2 : w2.cell? ⟨NT, 2, none⟩ = some (.slice none 0 0) := Go.Joins.cell_of_block kb2 2
  have g0 : w2.frozen? ⟨NT, 0, none⟩ = false := Go.Joins.unfrozen_of_block kb2 0
  have g1 : w2.frozen? ⟨NT, 1, none⟩ = false := Go.Joins.unfrozen_of_block kb2 1
  have g2 : w2.frozen? ⟨NT, 2, none⟩ = false := Go.Joins.unfrozen_of_block kb2 2
  have HKx := hid kb2
  clear kb2
  go_wp2
  obtain ⟨W5, hW⟩ : ∃ W5, W5 = (((w2.setCell ⟨NT, 0, none⟩ (.int .i64 0)).setCell ⟨NT, 1, none⟩ (.int .i64 0)).setCell ⟨NT, 2, none⟩ (.slice none 0 0)) := ⟨_, rfl⟩
  have q0 := (Go.Joins.block_setCell (i := 2) (Go.Joins.block_setCell (i := 1) (Go.Joins.block_setCell (i := 0) HKx.out (.int .i64 0)) (.int .i64 0)) (.slice none 0 0))
  rw [← hW] at q0
  have z0 : W5.cell? ⟨NT, 0, none⟩ = some (.int .i64 0) := Go.Joins.cell_of_block q0 0
  have z1 : W5.cell? ⟨NT, 1, none⟩ = some (.int .i64 0) := Go.Joins.cell_of_block q0 1
  have z2 : W5.cell? ⟨NT, 2, none⟩ = some (.slice none 0 0) := Go.Joins.cell_of_block q0 2
  have B5 : Below w.heap.size w W5 := by
    have h1 := HNT.out
    rw [hW]
    exact ((HB.out.setCell (by simp; omega) _).setCell (by simp; omega) _).setCell (by simp; omega) _
  simp only [← hW]
  clear hW q0
  simp [bodyPost, results, Try.results37, go_sem, z0, z1, z2]
  exact B5

set_option maxHeartbeats 4000000 in
theorem specNoA {w : World} {s r : Int} {bt : Nat} {vt : Value} {tbl : List Int} (h : Rd w bt vt tbl) (hv : validB s r tbl = false) :
    Calls Try.prog 36 #[ruleV s r vt] w fun e w' => e = .returned (.tuple #[ruleV 0 0 (.slice none 0 0), .bool false]) ∧ Below w.heap.size w w' := by
  have HRd := hid h
  have HV := hid hv
  clear hv
  obtain ⟨ao, cap, rfl, _, _, _⟩ := h
  go_enter Try.func36, Try.ntmps36
  go_wp2_with fail
  obtain ⟨w1, hW⟩ : ∃ w1, w1 = (w.alloc (Obj.cells #[.int .i64 s, .int .i64 r, (Value.slice ao tbl.length cap)] 24)).alloc (Obj.cells #[Value.int IntKind.i64 0, Value.int IntKind.i64 0, Value.slice none 0 0] 24) := ⟨_, rfl⟩
  obtain ⟨NR, hN⟩ : ∃ NR, NR = w.heap.size := ⟨_, rfl⟩
  obtain ⟨NT, hN1⟩ : ∃ NT, NT = NR + 1 := ⟨_, rfl⟩
  have b1 : Below w.heap.size w w1 := by rw [hW]; exact Go.Joins.below_alloc2 _ _ _
  have st : Below w1.heap.size w1 w1 ∧ w1.cell? ⟨NR, 0, none⟩ = some (.int .i64 s) ∧ w1.cell? ⟨NR, 1, none⟩ = some (.int .i64 r) ∧ w1.cell? ⟨NR, 2, none⟩ = some (Value.slice ao tbl.length cap) ∧ Rd w1 bt (Value.slice ao tbl.length cap) tbl ∧ w1.heap.size ≤ w1.heap.size := by
    refine ⟨Below.refl _ _, ?_, ?_, ?_, HRd.out.keep b1 (Nat.le_refl _), Nat.le_refl _⟩
    · rw [hW]; exact cell_old (cell_top hN rfl)
    · rw [hW]; exact cell_old (cell_top hN rfl)
    · rw [hW]; exact cell_old (cell_top hN rfl)
  have kb : w1.heap[NT]? = some (Obj.cells #[.int .i64 0, .int .i64 0, .slice none 0 0] 24) := by rw [hW]; exact heap_top (by simp; omega)
  have HNT : Hid (w.heap.size ≤ NT) := by simp only [Hid]; omega
  have HRT : Hid (NR < NT) := by simp only [Hid]; omega
  have HNR : Hid (w.heap.size ≤ NR) := by simp only [Hid]; omega
  have HB1 := hid b1
  have HKB := hid kb
  simp only [← hW, ← hN, ← hN1]
  clear hW hN hN1 b1 kb
  go_at_call 74
  refine (Spec.is (rd3_1_0 st) st.2.1 st.2.2.1 st.2.2.2.1).mono ?_
  rw [HV.out]
  rintro e w2 ⟨rfl, mm, hw2⟩
  have bel : Below w1.heap.size w1 w2 := by rw [hw2]; exact Spec.below_drewN' _ _ _
  replace st := next3_1 bel st
  clear bel hw2
  have kb2 := (st.1.block _ (Array.getElem?_eq_some_iff.1 HKB.out).1).trans HKB.out
  have HB := hid (HB1.out.trans (st.1.mono HB1.out.size))
  have y0 : w2.cell? ⟨NT, 0, none⟩ = some (.int .i64 0) := Go.Joins.cell_of_block kb2 0
  have y1 : w2.cell? ⟨NT, 1, none⟩ = some (.int .i64 0) := Go.Joins.cell_of_block kb2 1
  have y2 : w2.cell? ⟨NT, 2, none⟩ = some (.slice none 0 0) := Go.Joins.cell_of_block kb2 2
  have g0 : w2.frozen? ⟨NT, 0, none⟩ = false := Go.Joins.unfrozen_of_block kb2 0
  have g1 : w2.frozen? ⟨NT, 1, none⟩ = false := Go.Joins.unfrozen_of_block kb2 1
  have g2 : w2.frozen? ⟨NT, 2, none⟩ = false := Go.Joins.unfrozen_of_block kb2 2
  have HKx := hid kb2
  clear kb2
  go_wp2
  obtain ⟨W5, hW⟩ : ∃ W5, W5 = (((w2.setCell ⟨NT, 0, none⟩ (.int .i64 0)).setCell ⟨NT, 1, none⟩ (.int .i64 0)).setCell ⟨NT, 2, none⟩ (.slice none 0 0)) := ⟨_, rfl⟩
  have q0 := (Go.Joins.block_setCell (i := 2) (Go.Joins.block_setCell (i := 1) (Go.Joins.block_setCell (i := 0) HKx.out (.int .i64 0)) (.int .i64 0)) (.slice none 0 0))
  rw [← hW] at q0
  have z0 : W5.cell? ⟨NT, 0, none⟩ = some (.int .i64 0) := Go.Joins.cell_of_block q0 0
  have z1 : W5.cell? ⟨NT, 1, none⟩ = some (.int .i64 0) := Go.Joins.cell_of_block q0 1
  have z2 : W5.cell? ⟨NT, 2, none⟩ = some (.slice none 0 0) := Go.Joins.cell_of_block q0 2
  have B5 : Below w.heap.size w W5 := by
    have h1 := HNT.out
    rw [hW]
    exact ((HB.out.setCell (by simp; omega) _).setCell (by simp; omega) _).setCell (by simp; omega) _
  simp only [← hW]
  clear hW q0
  simp [bodyPost, results, Try.results36, go_sem, z0, z1, z2]
  exact B5

set_option maxHeartbeats 4000000 in
theorem specNoB {w : World} {s r : Int} {bt : Nat} {vt : Value} {tbl : List Int} (h : Rd w bt vt tbl) (hv : validB s r tbl = true) (h2 : r = 2) :
    Calls Try.prog 36 #[ruleV s r vt] w fun e w' => e = .returned (.tuple #[ruleV 0 0 (.slice none 0 0), .bool false]) ∧ Below w.heap.size w w' := by
  have HRd := hid h
  have HV := hid hv
  have h22 : (r == 2) = true := by simp [h2]
  clear hv h2
  obtain ⟨ao, cap, rfl, _, _, _⟩ := h
  go_enter Try.func36, Try.ntmps36
  go_wp2_with fail
  obtain ⟨w1, hW⟩ : ∃ w1, w1 = (w.alloc (Obj.cells #[.int .i64 s, .int .i64 r, (Value.slice ao tbl.length cap)] 24)).alloc (Obj.cells #[Value.int IntKind.i64 0, Value.int IntKind.i64 0, Value.slice none 0 0] 24) := ⟨_, rfl⟩
  obtain ⟨NR, hN⟩ : ∃ NR, NR = w.heap.size := ⟨_, rfl⟩
  obtain ⟨NT, hN1⟩ : ∃ NT, NT = NR + 1 := ⟨_, rfl⟩
  have b1 : Below w.heap.size w w1 := by rw [hW]; exact Go.Joins.below_alloc2 _ _ _
  have st : Below w1.heap.size w1 w1 ∧ w1.cell? ⟨NR, 0, none⟩ = some (.int .i64 s) ∧ w1.cell? ⟨NR, 1, none⟩ = some (.int .i64 r) ∧ w1.cell? ⟨NR, 2, none⟩ = some (Value.slice ao tbl.length cap) ∧ Rd w1 bt (Value.slice ao tbl.length cap) tbl ∧ w1.heap.size ≤ w1.heap.size := by
    refine ⟨Below.refl _ _, ?_, ?_, ?_, HRd.out.keep b1 (Nat.le_refl _), Nat.le_refl _⟩
    · rw [hW]; exact cell_old (cell_top hN rfl)
    · rw [hW]; exact cell_old (cell_top hN rfl)
    · rw [hW]; exact cell_old (cell_top hN rfl)
  have kb : w1.heap[NT]? = some (Obj.cells #[.int .i64 0, .int .i64 0, .slice none 0 0] 24) := by rw [hW]; exact heap_top (by simp; omega)
  have HNT : Hid (w.heap.size ≤ NT) := by simp only [Hid]; omega
  have HRT : Hid (NR < NT) := by simp only [Hid]; omega
  have HNR : Hid (w.heap.size ≤ NR) := by simp only [Hid]; omega
  have HB1 := hid b1
  have HKB := hid kb
  simp only [← hW, ← hN, ← hN1]
  clear hW hN hN1 b1 kb
  go_at_call 74
  refine (Spec.is (rd3_1_0 st) st.2.1 st.2.2.1 st.2.2.2.1).mono ?_
  rw [HV.out]
  rintro e w2 ⟨rfl, mm, hw2⟩
  have bel : Below w1.heap.size w1 w2 := by rw [hw2]; exact Spec.below_drewN' _ _ _
  replace st := next3_1 bel st
  clear bel hw2
  have kb2 := (st.1.block _ (Array.getElem?_eq_some_iff.1 HKB.out).1).trans HKB.out
  have HB := hid (HB1.out.trans (st.1.mono HB1.out.size))
  have y0 : w2.cell? ⟨NT, 0, none⟩ = some (.int .i64 0) := Go.Joins.cell_of_block kb2 0
  have y1 : w2.cell? ⟨NT, 1, none⟩ = some (.int .i64 0) := Go.Joins.cell_of_block kb2 1
  have y2 : w2.cell? ⟨NT, 2, none⟩ = some (.slice none 0 0) := Go.Joins.cell_of_block kb2 2
  have g0 : w2.frozen? ⟨NT, 0, none⟩ = false := Go.Joins.unfrozen_of_block kb2 0
  have g1 : w2.frozen? ⟨NT, 1, none⟩ = false := Go.Joins.unfrozen_of_block kb2 1
  have g2 : w2.frozen? ⟨NT, 2, none⟩ = false := Go.Joins.unfrozen_of_block kb2 2
  have HKx := hid kb2
  clear kb2
  go_wp2
  obtain ⟨W5, hW⟩ : ∃ W5, W5 = (((w2.setCell ⟨NT, 0, none⟩ (.int .i64 0)).setCell ⟨NT, 1, none⟩ (.int .i64 0)).setCell ⟨NT, 2, none⟩ (.slice none 0 0)) := ⟨_, rfl⟩
  have q0 := (Go.Joins.block_setCell (i := 2) (Go.Joins.block_setCell (i := 1) (Go.Joins.block_setCell (i := 0) HKx.out (.int .i64 0)) (.int .i64 0)) (.slice none 0 0))
  rw [← hW] at q0
  have z0 : W5.cell? ⟨NT, 0, none⟩ = some (.int .i64 0) := Go.Joins.cell_of_block q0 0
  have z1 : W5.cell? ⟨NT, 1, none⟩ = some (.int .i64 0) := Go.Joins.cell_of_block q0 1
  have z2 : W5.cell? ⟨NT, 2, none⟩ = some (.slice none 0 0) := Go.Joins.cell_of_block q0 2
  have B5 : Below w.heap.size w W5 := by
    have h1 := HNT.out
    rw [hW]
    exact ((HB.out.setCell (by simp; omega) _).setCell (by simp; omega) _).setCell (by simp; omega) _
  simp only [← hW]
  clear hW q0
  simp [bodyPost, results, Try.results36, go_sem, z0, z1, z2]
  exact B5

set_option maxHeartbeats 4000000 in
theorem implOk {w : World} {s r : Int} {L M bt : Nat} {vt : Value} {tbl : List Int} (h : Rd w bt vt tbl) (hv : validB s r tbl = true) (h2 : ¬ r = 2) (hL : (L : Int) = 2 * r + 1) (hM : (M : Int) = s ^ (L + 2)) :
    Calls Try.prog 37 #[ruleV s r vt] w fun e w' => ∃ b', e = .returned (.tuple #[ruleV s (r + 1) (.slice (some ⟨b', 0, none⟩) M M), .bool true]) ∧
      Own 2 w' b' (.slice (some ⟨b', 0, none⟩) M M) (tab (midT s tbl L) M) ∧ w.heap.size ≤ b' ∧ Below w.heap.size w w' := by
  have HV := hid hv
  obtain ⟨hs, hr, hl, ha⟩ := Al.valid_parts hv
  have HRd := hid h
  have HS := hid hs
  have HLen : Hid ((tbl.length : Int) = s ^ L) := by simp only [Hid]; rw [hl]; congr 1; omega
  have HL3 : Hid (1 ≤ L ∧ L ≤ 3) := by simp only [Hid]; omega
  have HM : Hid ((M : Int) = s ^ (2 * (r + 1) + 1).toNat) := by simp only [Hid]; rw [hM]; congr 1; omega
  have HLL : Hid (L + 2 = (2 * (r + 1) + 1).toNat) := by simp only [Hid]; omega
  have HR1 : Hid (0 ≤ r + 1 ∧ r + 1 ≤ 2) := by simp only [Hid]; omega
  have hw1 : wrap64 (r + 1) = r + 1 := wrap_id (by omega) (by omega)
  have h22 : (r == 2) = false := by simpa using h2
  obtain ⟨ao, cap, rfl, _, _, _⟩ := h
  obtain ⟨r1, r2⟩ := hr
  clear hv hs hl ha h2 hL hM
  go_enter Try.func37, Try.ntmps37
  go_wp2_with fail
  obtain ⟨w1, hW⟩ : ∃ w1, w1 = (w.alloc (Obj.cells #[.int .i64 s, .int .i64 r, (Value.slice ao tbl.length cap)] 24)).alloc (Obj.cells #[Value.int IntKind.i64 0, Value.int IntKind.i64 0, Value.slice none 0 0] 24) := ⟨_, rfl⟩
  obtain ⟨NR, hN⟩ : ∃ NR, NR = w.heap.size := ⟨_, rfl⟩
  obtain ⟨NT, hN1⟩ : ∃ NT, NT = NR + 1 := ⟨_, rfl⟩
  have b1 : Below w.heap.size w w1 := by rw [hW]; exact Go.Joins.below_alloc2 _ _ _
  have st : Below w1.heap.size w1 w1 ∧ w1.cell? ⟨NR, 0, none⟩ = some (.int .i64 s) ∧ w1.cell? ⟨NR, 1, none⟩ = some (.int .i64 r) ∧ w1.cell? ⟨NR, 2, none⟩ = some (Value.slice ao tbl.length cap) ∧ Rd w1 bt (Value.slice ao tbl.length cap) tbl ∧ w1.heap.size ≤ w1.heap.size := by
    refine ⟨Below.refl _ _, ?_, ?_, ?_, HRd.out.keep b1 (Nat.le_refl _), Nat.le_refl _⟩
    · rw [hW]; exact cell_old (cell_top hN rfl)
    · rw [hW]; exact cell_old (cell_top hN rfl)
    · rw [hW]; exact cell_old (cell_top hN rfl)
  have kb : w1.heap[NT]? = some (Obj.cells #[.int .i64 0, .int .i64 0, .slice none 0 0] 24) := by rw [hW]; exact heap_top (by simp; omega)
  have HNT : Hid (w.heap.size ≤ NT) := by simp only [Hid]; omega
  have HRT : Hid (NR < NT) := by simp only [Hid]; omega
  have HNR : Hid (w.heap.size ≤ NR) := by simp only [Hid]; omega
  have HB1 := hid b1
  have HKB := hid kb
  simp only [← hW, ← hN, ← hN1]
  clear hW hN hN1 b1 kb
  go_at_call 77
  refine (implValid (rd3_1_0 st)).mono ?_
  rw [HV.out]
  rintro e w2 ⟨rfl, bel⟩
  replace st := next3_1 bel st
  clear bel
  have HST := hid st
  have kb2 := (st.1.block _ (Array.getElem?_eq_some_iff.1 HKB.out).1).trans HKB.out
  have HKB2 := hid kb2
  clear kb2
  go_wp2_with fail
  go_at_call 59
  refine (tellWider (w := w2) (M := M) (L := L + 2) HS.out HR1.out HM.out HLL.out (k0 := .pointer (some ⟨NR, 0, none⟩)) (midT s tbl L) ?_).mono ?_
  · intro k hk wr b hb hbn ho
    have h4 := HST.out
    have c0 := (hb.cell (World.block_lt_of_cell? _ _ h4.2.1)).trans h4.2.1
    have c1 := (hb.cell (World.block_lt_of_cell? _ _ h4.2.2.1)).trans h4.2.2.1
    have c2 := (hb.cell (World.block_lt_of_cell? _ _ h4.2.2.2.1)).trans h4.2.2.2.1
    refine (closure c0 c1 c2 (h4.2.2.2.2.1.keep hb (Nat.le_refl _)) HS.out HLen.out HL3.out ho).mono ?_
    rintro e w' ⟨rfl, bel⟩
    exact ⟨rfl, bel.mono (Nat.le_of_lt ho.lt)⟩
  rintro e w5 ⟨b', rfl, own, hbn, bel⟩
  have kb5 := (bel.block _ (Array.getElem?_eq_some_iff.1 HKB2.out).1).trans HKB2.out
  have HO := hid own
  have HNB : Hid (NT ≠ b') := Nat.ne_of_lt (Nat.lt_of_lt_of_le (Array.getElem?_eq_some_iff.1 HKB2.out).1 hbn)
  have hb2 := HB1.out.trans (st.1.mono HB1.out.size)
  have HLo := hid (Nat.le_trans hb2.size hbn)
  have HB := hid (hb2.trans (bel.mono hb2.size))
  clear own bel hbn st hb2 HST
  have y0 : w5.cell? ⟨NT, 0, none⟩ = some (.int .i64 0) := Go.Joins.cell_of_block kb5 0
  have y1 : w5.cell? ⟨NT, 1, none⟩ = some (.int .i64 0) := Go.Joins.cell_of_block kb5 1
  have y2 : w5.cell? ⟨NT, 2, none⟩ = some (.slice none 0 0) := Go.Joins.cell_of_block kb5 2
  have g0 : w5.frozen? ⟨NT, 0, none⟩ = false := Go.Joins.unfrozen_of_block kb5 0
  have g1 : w5.frozen? ⟨NT, 1, none⟩ = false := Go.Joins.unfrozen_of_block kb5 1
  have g2 : w5.frozen? ⟨NT, 2, none⟩ = false := Go.Joins.unfrozen_of_block kb5 2
  have HKx := hid kb5
  clear kb5
  go_wp2
  obtain ⟨W5, hW⟩ : ∃ W5, W5 = (((w5.setCell ⟨NT, 0, none⟩ (.int .i64 s)).setCell ⟨NT, 1, none⟩ (.int .i64 (r + 1))).setCell ⟨NT, 2, none⟩ (.slice (some ⟨b', 0, none⟩) M M)) := ⟨_, rfl⟩
  have q0 := (Go.Joins.block_setCell (i := 2) (Go.Joins.block_setCell (i := 1) (Go.Joins.block_setCell (i := 0) HKx.out (.int .i64 s)) (.int .i64 (r + 1))) (.slice (some ⟨b', 0, none⟩) M M))
  rw [← hW] at q0
  have z0 : W5.cell? ⟨NT, 0, none⟩ = some (.int .i64 s) := Go.Joins.cell_of_block q0 0
  have z1 : W5.cell? ⟨NT, 1, none⟩ = some (.int .i64 (r + 1)) := Go.Joins.cell_of_block q0 1
  have z2 : W5.cell? ⟨NT, 2, none⟩ = some (.slice (some ⟨b', 0, none⟩) M M) := Go.Joins.cell_of_block q0 2
  have O5 := (own_set (own_set (own_set HO.out ⟨NT, 0, none⟩ (.int .i64 s) HNB.out) ⟨NT, 1, none⟩ (.int .i64 (r + 1)) HNB.out) ⟨NT, 2, none⟩ (.slice (some ⟨b', 0, none⟩) M M) HNB.out)
  rw [← hW] at O5
  have B5 : Below w.heap.size w W5 := by
    have h1 := HNT.out
    rw [hW]
    exact ((HB.out.setCell (by simp; omega) _).setCell (by simp; omega) _).setCell (by simp; omega) _
  simp only [← hW]
  clear hW q0
  simp [bodyPost, results, Try.results37, go_sem, z0, z1, z2]
  exact ⟨O5, HLo.out, B5⟩


set_option maxHeartbeats 16000000 in
theorem specOk {w : World} {s r : Int} {L M bt : Nat} {vt : Value} {tbl : List Int} (h : Rd w bt vt tbl) (hv : validB s r tbl = true) (h2 : ¬ r = 2) (hL : (L : Int) = 2 * r + 1) (hM : (M : Int) = s ^ (L + 2)) :
    Calls Try.prog 36 #[ruleV s r vt] w fun e w' => ∃ v' b', e = .returned (.tuple #[ruleV s (r + 1) v', .bool true]) ∧
      Own 2 w' b' v' (tab (midT s tbl L) M) ∧ w.heap.size ≤ b' ∧ Below w.heap.size w w' := by
  have HV := hid hv
  obtain ⟨hs, hr, hl, ha⟩ := Al.valid_parts hv
  have HRd := hid h
  have HS := hid hs
  have HLen : Hid ((tbl.length : Int) = s ^ L) := by simp only [Hid]; rw [hl]; congr 1; omega
  have HL3 : Hid (1 ≤ L ∧ L ≤ 3) := by simp only [Hid]; omega
  have HM := hid hM
  have hM2 : M ≤ 243 := by have := (pow_bd hs (show L + 2 ≤ 5 by omega)).2; omega
  have hw1 : wrap64 (r + 1) = r + 1 := wrap_id (by omega) (by omega)
  have hLe : 2 * r + 3 = ((L + 2 : Nat) : Int) := by omega
  have h22 : (r == 2) = false := by simpa using h2
  obtain ⟨ao, cap, rfl, _, _, h4⟩ := h
  obtain ⟨off, rfl, hb, hcell⟩ := h4 (by have := pow_pos' hs (2 * r + 1).toNat; omega)
  have HC := hid hcell
  have HBt := hid hb
  obtain ⟨n, hn⟩ : ∃ n, n = tbl.length := ⟨_, rfl⟩
  have Hn := hid hn
  rw [← hn] at HRd HC HLen
  rw [← hn]
  obtain ⟨r1, r2⟩ := hr
  clear hv hl ha h2 hL hM h4 hcell hb hn
  go_enter Try.func36, Try.ntmps36
  go_wp2_with fail
  obtain ⟨w1, hW⟩ : ∃ w1, w1 = (w.alloc (Obj.cells #[.int .i64 s, .int .i64 r, (Value.slice (some ⟨bt, off, none⟩) n cap)] 24)).alloc (Obj.cells #[Value.int IntKind.i64 0, Value.int IntKind.i64 0, Value.slice none 0 0] 24) := ⟨_, rfl⟩
  obtain ⟨NR, hN⟩ : ∃ NR, NR = w.heap.size := ⟨_, rfl⟩
  obtain ⟨NT, hN1⟩ : ∃ NT, NT = NR + 1 := ⟨_, rfl⟩
  have b1 : Below w.heap.size w w1 := by rw [hW]; exact Go.Joins.below_alloc2 _ _ _
  have st : Below w1.heap.size w1 w1 ∧ w1.cell? ⟨NR, 0, none⟩ = some (.int .i64 s) ∧ w1.cell? ⟨NR, 1, none⟩ = some (.int .i64 r) ∧ w1.cell? ⟨NR, 2, none⟩ = some (Value.slice (some ⟨bt, off, none⟩) n cap) ∧ Rd w1 bt (Value.slice (some ⟨bt, off, none⟩) n cap) tbl ∧ w1.heap.size ≤ w1.heap.size := by
    refine ⟨Below.refl _ _, ?_, ?_, ?_, HRd.out.keep b1 (Nat.le_refl _), Nat.le_refl _⟩
    · rw [hW]; exact cell_old (cell_top hN rfl)
    · rw [hW]; exact cell_old (cell_top hN rfl)
    · rw [hW]; exact cell_old (cell_top hN rfl)
  have kb : w1.heap[NT]? = some (Obj.cells #[.int .i64 0, .int .i64 0, .slice none 0 0] 24) := by rw [hW]; exact heap_top (by simp; omega)
  have HNT : Hid (w.heap.size ≤ NT) := by simp only [Hid]; omega
  have HRT : Hid (NR < NT) := by simp only [Hid]; omega
  have HNR : Hid (w.heap.size ≤ NR) := by simp only [Hid]; omega
  have HB1 := hid b1
  have HKB := hid kb
  have HKR : Hid (w1.heap[NR]? = some (Obj.cells #[.int .i64 s, .int .i64 r, (Value.slice (some ⟨bt, off, none⟩) n cap)] 24)) := by simp only [Hid]; rw [hW]; exact heap_old (heap_top hN)
  simp only [← hW, ← hN, ← hN1]
  clear hW hN hN1 b1 kb
  go_at_call 74
  refine (Spec.is (rd3_1_0 st) st.2.1 st.2.2.1 st.2.2.2.1).mono ?_
  rw [HV.out]
  rintro e w2 ⟨rfl, mm, hw2⟩
  have bel : Below w1.heap.size w1 w2 := by rw [hw2]; exact Spec.below_drewN' _ _ _
  replace st := next3_1 bel st
  clear bel hw2
  have kb2 := (st.1.block _ (Array.getElem?_eq_some_iff.1 HKB.out).1).trans HKB.out
  have HB2 := hid (HB1.out.trans (st.1.mono HB1.out.size))
  have kR : w2.heap[NR]? = some (Obj.cells #[.int .i64 s, .int .i64 r, (Value.slice (some ⟨bt, off, none⟩) n cap)] 24) := (st.1.block _ (Array.getElem?_eq_some_iff.1 HKR.out).1).trans HKR.out
  have q1 : (w2.alloc (Obj.cells #[Value.int IntKind.i64 s, Value.int IntKind.i64 (r + 1), Value.slice none 0 0] 24)).cell? ⟨NR, 1, none⟩ = some (.int .i64 r) := cell_old st.2.2.1
  go_wp2
  clear q1
  obtain ⟨w3, hW⟩ : ∃ w3, w3 = w2.alloc (Obj.cells #[Value.int IntKind.i64 s, Value.int IntKind.i64 (r + 1), Value.slice none 0 0] 24) := ⟨_, rfl⟩
  obtain ⟨NO, hN⟩ : ∃ NO, NO = w2.heap.size := ⟨_, rfl⟩
  have HTO : Hid (NT < NO) := by simp only [Hid]; rw [hN]; exact (Array.getElem?_eq_some_iff.1 kb2).1
  have kT : w3.heap[NT]? = some (Obj.cells #[.int .i64 0, .int .i64 0, .slice none 0 0] 24) := by rw [hW]; exact heap_old kb2
  have kR3 : w3.heap[NR]? = some (Obj.cells #[.int .i64 s, .int .i64 r, (Value.slice (some ⟨bt, off, none⟩) n cap)] 24) := by rw [hW]; exact heap_old kR
  have kO : w3.heap[NO]? = some (Obj.cells #[.int .i64 s, .int .i64 (r + 1), .slice none 0 0] 24) := by rw [hW]; exact heap_top hN
  have b3 : Below w.heap.size w w3 := by rw [hW]; exact HB2.out.trans ((below1 _ _).mono HB2.out.size)
  have HNO : Hid (w.heap.size ≤ NO) := by have := HTO.out; have := HNT.out; simp only [Hid]; omega
  simp only [← hW, ← hN]
  clear hW hN kb2 kR st
  go_loopw [6] (fun t wr => ∃ m : Nat, m ≤ M ∧ t = .int .i64 m ∧ Below w.heap.size w wr ∧ wr.heap[NT]? = some (Obj.cells #[.int .i64 0, .int .i64 0, .slice none 0 0] 24) ∧ wr.heap[NR]? = some (Obj.cells #[.int .i64 s, .int .i64 r, (Value.slice (some ⟨bt, off, none⟩) n cap)] 24) ∧
    ∃ ao5 c5, wr.heap[NO]? = some (Obj.cells #[.int .i64 s, .int .i64 (r + 1), .slice ao5 m c5] 24) ∧
      wr.ownsRow (NO + 1) 2 1 (.slice ao5 m c5) (tab (midT s tbl L) m).length ((tab (midT s tbl L) m).map (Value.int .i64))) (fun t _ => M - (intOf t).toNat)
  case atStart => exact ⟨0, Nat.zero_le _, rfl, b3, kT, kR3, none, 0, kO, World.ownsRow_nil w3 (NO + 1) 2 1⟩
  case round =>
    clear b3 kT kO kR3
    obtain ⟨m, hm, rfl, bel0, kT, kR, ao5, c5, kO, hR⟩ := hrel
    have hpw := (specPower (w := wr) (st := s) (k := L + 2) HS.out (by have := HL3.out; omega)).mono (R' := fun e w' => e = .returned (.int .i64 M) ∧ wr = w') (by rintro e w' ⟨rfl, rfl⟩; exact ⟨by rw [← HM.out], rfl⟩)
    have d0 : wr.cell? ⟨NR, 0, none⟩ = some (.int .i64 s) := Go.Joins.cell_of_block kR 0
    by_cases hlt : m < M
    · have hmi : (m : Int) < (M : Int) := by omega
      have HB0 := hid bel0
      have HkT := hid kT
      have HkO := hid kO
      have HkR := hid kR
      have HhR := hid hR
      clear bel0 kT kO hR kR
      go_wp2_with fail
      go_at_call 62
      refine hpw.mono ?_
      clear hpw
      rintro e w' ⟨rfl, hw'⟩
      subst hw'
      go_wp2_with fail
      go_at_call 64
      refine (specDigits HS.out (by omega) (by have := HL3.out; omega)).mono ?_
      rw [dig_length, show ((L : Int) + 2).toNat = L + 2 by omega]
      rintro e w4 ⟨bd, rfl, od, lo, bel⟩
      have kT0 := hid (heap_keep bel HkT.out)
      have kO0 := hid (heap_keep bel HkO.out)
      have kR0 := hid (heap_keep bel HkR.out)
      have hR0 := hid (rows_keep HhR.out bel)
      have hb4 := HB0.out.trans (bel.mono HB0.out.size)
      have hrow : ∀ k, (Value.slice ao5 m c5).ownBlock = some k → NO + 1 ≤ k ∧ k < bd := fun k hk => ⟨(HhR.out.lt k hk).1, Nat.lt_of_lt_of_le (HhR.out.lt k hk).2 lo⟩
      have hNO := (Array.getElem?_eq_some_iff.1 HkO.out).1
      obtain ⟨f1, f2, f3⟩ := mid_facts HS.out (tbl := tbl) (L := L) (by rw [← Hn.out]; exact HLen.out) m
      have hpart : Rd w4 bd (.slice (some ⟨bd, 1, none⟩) L (L + 1)) (((dig s m (L + 2)).drop 1).take L) := Told.rd_part od.rd 1 L (by rw [dig_length]; omega)
      obtain ⟨ds, hds⟩ : ∃ ds, ds = ((dig s m (L + 2)).drop 1).take L := ⟨_, rfl⟩
      rw [← hds] at f1 f2 f3 hpart
      obtain ⟨mi, hmm⟩ : ∃ mi : Nat, numL ds s = mi := ⟨_, (Int.toNat_of_nonneg (numL_bd HS.out f2).1).symm⟩
      obtain ⟨x, hx⟩ : ∃ x, x = tbl.getD mi 0 := ⟨_, rfl⟩
      have HT : Hid (tab (midT s tbl L) (m + 1) = tab (midT s tbl L) m ++ [x]) := by
        simp only [Hid]; rw [tab_succ]; congr 2
        unfold midT; rw [← hds, hmm, hx]; simp
      have hmn : (mi : Int) < (n : Int) := by have := Hn.out; omega
      have HZ : Hid (ds.length ≤ 16) := by have := HL3.out; simp only [Hid]; omega
      have HA := hid f2
      have HMi := hid hmm
      have st0 : Below w.heap.size w w4 ∧ w4.cell? ⟨NR, 0, none⟩ = some (.int .i64 s) ∧ w4.cell? ⟨NR, 1, none⟩ = some (.int .i64 r) ∧ w4.cell? ⟨NR, 2, none⟩ = some (Value.slice (some ⟨bt, off, none⟩) n cap) ∧ w4.cell? ⟨bt, off + mi, none⟩ = some (.int .i64 x) ∧ Rd w4 bd (.slice (some ⟨bd, 1, none⟩) L (L + 1)) ds ∧ w.heap.size ≤ w4.heap.size := ⟨hb4, Go.Joins.cell_of_block kR0.out 0, Go.Joins.cell_of_block kR0.out 1, Go.Joins.cell_of_block kR0.out 2, by rw [hx]; exact (hb4.cell (p := ⟨bt, off + mi, none⟩) HBt.out).trans (HC.out mi (by omega)), hpart, hb4.size⟩
      have HROW : Hid (some NR ≠ (Value.slice ao5 m c5).ownBlock ∧ some bt ≠ (Value.slice ao5 m c5).ownBlock ∧ some bd ≠ (Value.slice ao5 m c5).ownBlock) := by
        have h1 := HTO.out; have h2 := HRT.out; have h3 := HBt.out; have h4 := HNO.out
        exact ⟨fun e => by have := hrow _ e.symm; omega, fun e => by have := hrow _ e.symm; omega, fun e => by have := hrow _ e.symm; omega⟩
      have HNEo : Hid ((some NR : Option Nat) ≠ some NO ∧ (some bt : Option Nat) ≠ some NO ∧ (some bd : Option Nat) ≠ some NO) := by
        have h1 := HTO.out; have h2 := HRT.out; have h3 := HBt.out; have h4 := HNO.out
        exact ⟨by simp; omega, by simp; omega, by simp; omega⟩
      have e1 : IntKind.i64.wrap ((L : Int) + 2 - 1) = (L : Int) + 1 := by rw [IntKind.wrap_i64]; omega
      have e2 : ¬ L + 2 = 1 := by omega
      have e3 : max ((L : Int) + 1) 0 = (L : Int) + 1 := by omega
      have e4 : ((L : Int) + 1).toNat - 1 = L := by omega
      have e5 : (0 : Int) ≤ (L : Int) + 1 := by omega
      have e6 : (L : Int) + 1 ≤ (L : Int) + 2 := by omega
      have e7 : (1 : Int) ≤ (L : Int) + 1 := by have := HL3.out; omega
      clear od bel lo hb4 hrow f1 f2 f3 hpart hds hmm hx d0 hNO
      go_wp2_with fail
      refine wp_region_held_drew (S := (fun ww => Below w.heap.size w ww ∧ ww.cell? ⟨NR, 0, none⟩ = some (.int .i64 s) ∧ ww.cell? ⟨NR, 1, none⟩ = some (.int .i64 r) ∧ ww.cell? ⟨NR, 2, none⟩ = some (Value.slice (some ⟨bt, off, none⟩) n cap) ∧ ww.cell? ⟨bt, off + mi, none⟩ = some (.int .i64 x) ∧ Rd ww bd (.slice (some ⟨bd, 1, none⟩) L (L + 1)) ds ∧ w.heap.size ≤ ww.heap.size)) (by kernel_rfl) ?_ (fun hHeld => ?_)
      · ((try dsimp only); exact drew4_1 st0)
      generalize hD : w4.drew = wD at hHeld ⊢
      have kT : wD.heap[NT]? = some (Obj.cells #[.int .i64 0, .int .i64 0, .slice none 0 0] 24) := by rw [← hD]; exact kT0.out
      have kR : wD.heap[NR]? = some (Obj.cells #[.int .i64 s, .int .i64 r, (Value.slice (some ⟨bt, off, none⟩) n cap)] 24) := by rw [← hD]; exact kR0.out
      have kO : wD.heap[NO]? = some (Obj.cells #[.int .i64 s, .int .i64 (r + 1), .slice ao5 m c5] 24) := by rw [← hD]; exact kO0.out
      have hR : wD.ownsRow (NO + 1) 2 1 (.slice ao5 m c5) (tab (midT s tbl L) m).length ((tab (midT s tbl L) m).map (Value.int .i64)) := by rw [← hD]; exact hR0.out
      clear hD st0
      (refine wpAnyH_take (i := 0) (v := ?_) rfl ?_ ?_ ?_ (fun _ _ _ h => h) (Or.inl ⟨?_, ?_⟩) ?_ ?_; rotate_left 1; (focus decide +kernel); (focus decide +kernel); (focus decide +kernel); (focus rfl); (focus (intro w hSw; (try dsimp only at hSw); go_simp; (try (with_reducible rfl)); done)); (focus assumption); (try simp only [Act.put, List.setIfInBounds_toArray, List.set_cons_zero, List.set_cons_succ, List.getElem_toArray, List.getElem_cons_succ, List.getElem_cons_zero]))
      (refine wpAnyH_take (i := 2) (v := ?_) rfl ?_ ?_ ?_ (fun _ _ _ h => h) (Or.inl ⟨?_, ?_⟩) ?_ ?_; rotate_left 1; (focus decide +kernel); (focus decide +kernel); (focus decide +kernel); (focus rfl); (focus (intro w hSw; (try dsimp only at hSw); go_simp; (try (with_reducible rfl)); done)); (focus assumption); (try simp only [Act.put, List.setIfInBounds_toArray, List.set_cons_zero, List.set_cons_succ, List.getElem_toArray, List.getElem_cons_succ, List.getElem_cons_zero]))
      (refine wpAnyH_take (i := 3) (v := ?_) rfl ?_ ?_ ?_ (fun _ _ _ h => h) (Or.inl ⟨?_, ?_⟩) ?_ ?_; rotate_left 1; (focus decide +kernel); (focus decide +kernel); (focus decide +kernel); (focus rfl); (focus (intro w hSw; (try dsimp only at hSw); go_simp; (try (with_reducible rfl)); done)); (focus assumption); (try simp only [Act.put, List.setIfInBounds_toArray, List.set_cons_zero, List.set_cons_succ, List.getElem_toArray, List.getElem_cons_succ, List.getElem_cons_zero]))
      (refine wpAnyH_take (i := 4) (v := ?_) rfl ?_ ?_ ?_ (fun _ _ _ h => h) (Or.inl ⟨?_, ?_⟩) ?_ ?_; rotate_left 1; (focus decide +kernel); (focus decide +kernel); (focus decide +kernel); (focus rfl); (focus (intro w hSw; (try dsimp only at hSw); go_simp; (try (with_reducible rfl)); done)); (focus assumption); (try simp only [Act.put, List.setIfInBounds_toArray, List.set_cons_zero, List.set_cons_succ, List.getElem_toArray, List.getElem_cons_succ, List.getElem_cons_zero]))
      (refine wpAnyH_take (i := 5) (v := ?_) rfl ?_ ?_ ?_ (fun _ _ _ h => h) (Or.inl ⟨?_, ?_⟩) ?_ ?_; rotate_left 1; (focus decide +kernel); (focus decide +kernel); (focus decide +kernel); (focus rfl); (focus (intro w hSw; (try dsimp only at hSw); go_simp; (try (with_reducible rfl)); done)); (focus assumption); (try simp only [Act.put, List.setIfInBounds_toArray, List.set_cons_zero, List.set_cons_succ, List.getElem_toArray, List.getElem_cons_succ, List.getElem_cons_zero]))
      (refine wpAnyH_take (i := 6) (v := ?_) rfl ?_ ?_ ?_ (fun _ _ _ h => h) (Or.inl ⟨?_, ?_⟩) ?_ ?_; rotate_left 1; (focus decide +kernel); (focus decide +kernel); (focus decide +kernel); (focus rfl); (focus (intro w hSw; (try dsimp only at hSw); go_simp; (try (with_reducible rfl)); done)); (focus assumption); (try simp only [Act.put, List.setIfInBounds_toArray, List.set_cons_zero, List.set_cons_succ, List.getElem_toArray, List.getElem_cons_succ, List.getElem_cons_zero]))
      (refine wpAnyH_take (i := 7) (v := ?_) rfl ?_ ?_ ?_ (fun _ _ _ h => h) (Or.inl ⟨?_, ?_⟩) ?_ ?_; rotate_left 1; (focus decide +kernel); (focus decide +kernel); (focus decide +kernel); (focus rfl); (focus (intro w hSw; (try dsimp only at hSw); go_simp; (try (with_reducible rfl)); done)); (focus assumption); (try simp only [Act.put, List.setIfInBounds_toArray, List.set_cons_zero, List.set_cons_succ, List.getElem_toArray, List.getElem_cons_succ, List.getElem_cons_zero]))
      (refine wpAnyH_take (i := 8) (v := ?_) rfl ?_ ?_ ?_ (fun _ _ _ h => h) (Or.inl ⟨?_, ?_⟩) ?_ ?_; rotate_left 1; (focus decide +kernel); (focus decide +kernel); (focus decide +kernel); (focus rfl); (focus (intro w hSw; (try dsimp only at hSw); go_simp; (try (with_reducible rfl)); done)); (focus assumption); (try simp only [Act.put, List.setIfInBounds_toArray, List.set_cons_zero, List.set_cons_succ, List.getElem_toArray, List.getElem_cons_succ, List.getElem_cons_zero]))
      (refine wpAnyH_take (i := 9) (v := ?_) rfl ?_ ?_ ?_ (fun _ _ _ h => h) (Or.inl ⟨?_, ?_⟩) ?_ ?_; rotate_left 1; (focus decide +kernel); (focus decide +kernel); (focus decide +kernel); (focus rfl); (focus (intro w hSw; (try dsimp only at hSw); go_simp; (try (with_reducible rfl)); done)); (focus assumption); (try simp only [Act.put, List.setIfInBounds_toArray, List.set_cons_zero, List.set_cons_succ, List.getElem_toArray, List.getElem_cons_succ, List.getElem_cons_zero]))
      refine wpAnyH_ready (rs := [1, 10]) ?_ (by simp) ?_
      · decide +kernel
      refine AllReadyH.cons rfl (fun K hK => ?_) (AllReadyH.cons rfl (fun K hK => ?_) AllReadyH.nil)
      · have kv : wD.cell? ⟨NO, 2, none⟩ = some (.slice ao5 m c5) := Go.Joins.cell_of_block (kO) 2
        go_simp
        refine hK.out _ _ ?_ (fun hHeld => ?_)
        · (try dsimp only); exact hHeld
        clear hK K kv
        (try simp only [Act.put, List.setIfInBounds_toArray, List.set_cons_zero, List.set_cons_succ, List.getElem_toArray, List.getElem_cons_succ, List.getElem_cons_zero])
        refine wpAnyH_ready (rs := [10]) ?_ (by simp) ?_
        · decide +kernel
        refine AllReadyH.cons rfl (fun K hK => ?_) AllReadyH.nil
        go_simp
        go_at_call 76
        refine (specIndex (rd4_1_0 hHeld) HS.out HZ.out HA.out).mono ?_
        rw [HMi.out]
        rintro e w' ⟨rfl, hw'⟩
        subst hw'
        refine hK.out _ _ ?_ (fun hHeld => ?_)
        · (try dsimp only); exact hHeld
        clear hK K
        (try simp only [Act.put, List.setIfInBounds_toArray, List.set_cons_zero, List.set_cons_succ, List.getElem_toArray, List.getElem_cons_succ, List.getElem_cons_zero])
        (refine wpAnyH_take (i := 11) (v := ?_) rfl ?_ ?_ ?_ (fun _ _ _ h => h) (Or.inl ⟨?_, ?_⟩) ?_ ?_; rotate_left 1; (focus decide +kernel); (focus decide +kernel); (focus decide +kernel); (focus rfl); (focus (intro w hSw; (try dsimp only at hSw); go_simp; (try (with_reducible rfl)); done)); (focus assumption); (try simp only [Act.put, List.setIfInBounds_toArray, List.set_cons_zero, List.set_cons_succ, List.getElem_toArray, List.getElem_cons_succ, List.getElem_cons_zero]))
        (refine wpAnyH_take (i := 12) (v := ?_) rfl ?_ ?_ ?_ (fun _ _ _ h => h) (Or.inl ⟨?_, ?_⟩) ?_ ?_; rotate_left 1; (focus decide +kernel); (focus decide +kernel); (focus decide +kernel); (focus rfl); (focus (intro w hSw; (try dsimp only at hSw); go_simp; (try (with_reducible rfl)); done)); (focus assumption); (try simp only [Act.put, List.setIfInBounds_toArray, List.set_cons_zero, List.set_cons_succ, List.getElem_toArray, List.getElem_cons_succ, List.getElem_cons_zero]))
        refine wpAnyH_ready (rs := [13]) ?_ (by simp) ?_
        · decide +kernel
        refine AllReadyH.cons rfl (fun K hK => ?_) AllReadyH.nil
        go_simp
        refine hK.out _ _ ?_ (fun hHeld2 => ?_)
        · (try dsimp only); have bel := below1 wD (Obj.cells #[.int .i64 x] 2); exact next4_1 bel hHeld
        clear hK K
        have hHeld1 := hHeld
        clear hHeld
        have hHeld := hHeld2
        clear hHeld2
        (try simp only [Act.put, List.setIfInBounds_toArray, List.set_cons_zero, List.set_cons_succ, List.getElem_toArray, List.getElem_cons_succ, List.getElem_cons_zero])
        refine wpAnyH_ready (rs := [14]) ?_ (by simp) ?_
        · decide +kernel
        refine AllReadyH.cons rfl (fun K hK => ?_) AllReadyH.nil
        refine op_append1 rfl _ _ rfl (NO + 1) _ _ rfl hR x rfl ?c1 ?c2 ?_
        case c1 => rw [tab_length]; omega
        case c2 => exact (Array.getElem?_eq_some_iff.1 kO).1
        intro v' w5 hown5 hbel5 g5
        have kO5 := (hbel5.block NO (Nat.lt_succ_self NO)).trans kO
        have kT5 := (hbel5.block _ (Nat.lt_of_lt_of_le HTO.out (Nat.le_succ NO))).trans kT
        have kR5 := (hbel5.block _ (Nat.lt_of_lt_of_le (Nat.lt_trans HRT.out HTO.out) (Nat.le_succ NO))).trans kR
        have bel : Below w.heap.size wD w5 := hbel5.mono (by have := HNO.out; omega)
        refine hK.out _ _ ?_ (fun hHeld3 => ?_)
        · (try dsimp only); exact nextg4_1 g5 bel HROW.out.1 HROW.out.1 HROW.out.1 HROW.out.2.1 HROW.out.2.2 hHeld1
        clear hK K hHeld hHeld1
        obtain ⟨b5, hb5, ho5⟩ := Own.of hown5
        rcases ho5.form with ⟨_, he⟩ | ⟨c6, rfl, _, _, _⟩
        · exact absurd he (by simp)
        rw [show (tab (midT s tbl L) m ++ [x]).length = m + 1 by simp [tab_length]] at hown5 ⊢
        have hHeld := hHeld3
        clear hHeld3 bel ho5 hbel5
        (try simp only [Act.put, List.setIfInBounds_toArray, List.set_cons_zero, List.set_cons_succ, List.getElem_toArray, List.getElem_cons_succ, List.getElem_cons_zero])
        (refine wpAnyH_take (i := 15) (v := ?_) rfl ?_ ?_ ?_ (fun _ _ _ h => h) (Or.inl ⟨?_, ?_⟩) ?_ ?_; rotate_left 1; (focus decide +kernel); (focus decide +kernel); (focus decide +kernel); (focus rfl); (focus (intro w hSw; (try dsimp only at hSw); go_simp; (try (with_reducible rfl)); done)); (focus assumption); (try simp only [Act.put, List.setIfInBounds_toArray, List.set_cons_zero, List.set_cons_succ, List.getElem_toArray, List.getElem_cons_succ, List.getElem_cons_zero]))
        refine wpAnyH_ready (rs := [16]) ?_ (by simp) ?_
        · decide +kernel
        refine AllReadyH.cons rfl (fun K hK => ?_) AllReadyH.nil
        have y2 : w5.cell? ⟨NO, 2, none⟩ = some (.slice ao5 m c5) := Go.Joins.cell_of_block kO5 2
        have g2 : w5.frozen? ⟨NO, 2, none⟩ = false := Go.Joins.unfrozen_of_block kO5 2
        go_simp
        have kOs := Go.Joins.block_setCell (i := 2) kO5 (.slice (some ⟨b5, 0, none⟩) (m + 1) c6)
        have hRs := rows_set hown5 ⟨NO, 2, none⟩ (.slice (some ⟨b5, 0, none⟩) (m + 1) c6) (Nat.lt_succ_self NO)
        have kTs := (Below.heap_setCell w5 ⟨NO, 2, none⟩ (.slice (some ⟨b5, 0, none⟩) (m + 1) c6) _ (Nat.ne_of_lt HTO.out)).trans kT5
        have kRs := (Below.heap_setCell w5 ⟨NO, 2, none⟩ (.slice (some ⟨b5, 0, none⟩) (m + 1) c6) _ (Nat.ne_of_lt (Nat.lt_trans HRT.out HTO.out))).trans kR5
        have bel : Below w.heap.size w5 (w5.setCell ⟨NO, 2, none⟩ (.slice (some ⟨b5, 0, none⟩) (m + 1) c6)) := (Below.refl _ _).setCell (by have := HNO.out; simp; omega) _
        have gs : w5.grownBy (w5.setCell ⟨NO, 2, none⟩ (.slice (some ⟨b5, 0, none⟩) (m + 1) c6)) (some NO) := setCell_grown w5 ⟨NO, 2, none⟩ (.slice (some ⟨b5, 0, none⟩) (m + 1) c6)
        obtain ⟨wS, hW⟩ : ∃ wS, wS = w5.setCell ⟨NO, 2, none⟩ (.slice (some ⟨b5, 0, none⟩) (m + 1) c6) := ⟨_, rfl⟩
        rw [← hW] at kOs hRs bel gs kTs kRs
        refine hK.out _ _ ?_ (fun hHeld4 => ?_)
        · (try dsimp only); rw [← hW]; exact nextg4_1 gs bel HNEo.out.1 HNEo.out.1 HNEo.out.1 HNEo.out.2.1 HNEo.out.2.2 hHeld
        clear hK K
        simp only [← hW] at hHeld4 ⊢
        clear hW y2 g2
        (try simp only [Act.put, List.setIfInBounds_toArray, List.set_cons_zero, List.set_cons_succ, List.getElem_toArray, List.getElem_cons_succ, List.getElem_cons_zero])
        refine wpAnyH_done (by kernel_rfl) ?_ _
        have hBs := hHeld4.1
        clear hHeld4 hHeld
        go_wp2
        go_roundw
        case rel =>
          refine ⟨m + 1, by omega, by go_num, hBs, kTs, kRs, some ⟨b5, 0, none⟩, c6, kOs, ?_⟩
          rw [HT.out, List.map_append, List.length_append]
          simpa [tab_length] using hRs
        case measure => simp [intOf]; omega
      · go_simp
        go_at_call 76
        refine (specIndex (rd4_1_0 hHeld) HS.out HZ.out HA.out).mono ?_
        rw [HMi.out]
        rintro e w' ⟨rfl, hw'⟩
        subst hw'
        refine hK.out _ _ ?_ (fun hHeld => ?_)
        · (try dsimp only); exact hHeld
        clear hK K
        (try simp only [Act.put, List.setIfInBounds_toArray, List.set_cons_zero, List.set_cons_succ, List.getElem_toArray, List.getElem_cons_succ, List.getElem_cons_zero])
        (refine wpAnyH_take (i := 11) (v := ?_) rfl ?_ ?_ ?_ (fun _ _ _ h => h) (Or.inl ⟨?_, ?_⟩) ?_ ?_; rotate_left 1; (focus decide +kernel); (focus decide +kernel); (focus decide +kernel); (focus rfl); (focus (intro w hSw; (try dsimp only at hSw); go_simp; (try (with_reducible rfl)); done)); (focus assumption); (try simp only [Act.put, List.setIfInBounds_toArray, List.set_cons_zero, List.set_cons_succ, List.getElem_toArray, List.getElem_cons_succ, List.getElem_cons_zero]))
        (refine wpAnyH_take (i := 12) (v := ?_) rfl ?_ ?_ ?_ (fun _ _ _ h => h) (Or.inl ⟨?_, ?_⟩) ?_ ?_; rotate_left 1; (focus decide +kernel); (focus decide +kernel); (focus decide +kernel); (focus rfl); (focus (intro w hSw; (try dsimp only at hSw); go_simp; (try (with_reducible rfl)); done)); (focus assumption); (try simp only [Act.put, List.setIfInBounds_toArray, List.set_cons_zero, List.set_cons_succ, List.getElem_toArray, List.getElem_cons_succ, List.getElem_cons_zero]))
        refine wpAnyH_ready (rs := [1, 13]) ?_ (by simp) ?_
        · decide +kernel
        refine AllReadyH.cons rfl (fun K hK => ?_) (AllReadyH.cons rfl (fun K hK => ?_) AllReadyH.nil)
        · have kv : wD.cell? ⟨NO, 2, none⟩ = some (.slice ao5 m c5) := Go.Joins.cell_of_block (kO) 2
          go_simp
          refine hK.out _ _ ?_ (fun hHeld => ?_)
          · (try dsimp only); exact hHeld
          clear hK K kv
          (try simp only [Act.put, List.setIfInBounds_toArray, List.set_cons_zero, List.set_cons_succ, List.getElem_toArray, List.getElem_cons_succ, List.getElem_cons_zero])
          refine wpAnyH_ready (rs := [13]) ?_ (by simp) ?_
          · decide +kernel
          refine AllReadyH.cons rfl (fun K hK => ?_) AllReadyH.nil
          go_simp
          refine hK.out _ _ ?_ (fun hHeld2 => ?_)
          · (try dsimp only); have bel := below1 wD (Obj.cells #[.int .i64 x] 2); exact next4_1 bel hHeld
          clear hK K
          have hHeld1 := hHeld
          clear hHeld
          have hHeld := hHeld2
          clear hHeld2
          (try simp only [Act.put, List.setIfInBounds_toArray, List.set_cons_zero, List.set_cons_succ, List.getElem_toArray, List.getElem_cons_succ, List.getElem_cons_zero])
          refine wpAnyH_ready (rs := [14]) ?_ (by simp) ?_
          · decide +kernel
          refine AllReadyH.cons rfl (fun K hK => ?_) AllReadyH.nil
          refine op_append1 rfl _ _ rfl (NO + 1) _ _ rfl hR x rfl ?c1 ?c2 ?_
          case c1 => rw [tab_length]; omega
          case c2 => exact (Array.getElem?_eq_some_iff.1 kO).1
          intro v' w5 hown5 hbel5 g5
          have kO5 := (hbel5.block NO (Nat.lt_succ_self NO)).trans kO
          have kT5 := (hbel5.block _ (Nat.lt_of_lt_of_le HTO.out (Nat.le_succ NO))).trans kT
          have kR5 := (hbel5.block _ (Nat.lt_of_lt_of_le (Nat.lt_trans HRT.out HTO.out) (Nat.le_succ NO))).trans kR
          have bel : Below w.heap.size wD w5 := hbel5.mono (by have := HNO.out; omega)
          refine hK.out _ _ ?_ (fun hHeld3 => ?_)
          · (try dsimp only); exact nextg4_1 g5 bel HROW.out.1 HROW.out.1 HROW.out.1 HROW.out.2.1 HROW.out.2.2 hHeld1
          clear hK K hHeld hHeld1
          obtain ⟨b5, hb5, ho5⟩ := Own.of hown5
          rcases ho5.form with ⟨_, he⟩ | ⟨c6, rfl, _, _, _⟩
          · exact absurd he (by simp)
          rw [show (tab (midT s tbl L) m ++ [x]).length = m + 1 by simp [tab_length]] at hown5 ⊢
          have hHeld := hHeld3
          clear hHeld3 bel ho5 hbel5
          (try simp only [Act.put, List.setIfInBounds_toArray, List.set_cons_zero, List.set_cons_succ, List.getElem_toArray, List.getElem_cons_succ, List.getElem_cons_zero])
          (refine wpAnyH_take (i := 15) (v := ?_) rfl ?_ ?_ ?_ (fun _ _ _ h => h) (Or.inl ⟨?_, ?_⟩) ?_ ?_; rotate_left 1; (focus decide +kernel); (focus decide +kernel); (focus decide +kernel); (focus rfl); (focus (intro w hSw; (try dsimp only at hSw); go_simp; (try (with_reducible rfl)); done)); (focus assumption); (try simp only [Act.put, List.setIfInBounds_toArray, List.set_cons_zero, List.set_cons_succ, List.getElem_toArray, List.getElem_cons_succ, List.getElem_cons_zero]))
          refine wpAnyH_ready (rs := [16]) ?_ (by simp) ?_
          · decide +kernel
          refine AllReadyH.cons rfl (fun K hK => ?_) AllReadyH.nil
          have y2 : w5.cell? ⟨NO, 2, none⟩ = some (.slice ao5 m c5) := Go.Joins.cell_of_block kO5 2
          have g2 : w5.frozen? ⟨NO, 2, none⟩ = false := Go.Joins.unfrozen_of_block kO5 2
          go_simp
          have kOs := Go.Joins.block_setCell (i := 2) kO5 (.slice (some ⟨b5, 0, none⟩) (m + 1) c6)
          have hRs := rows_set hown5 ⟨NO, 2, none⟩ (.slice (some ⟨b5, 0, none⟩) (m + 1) c6) (Nat.lt_succ_self NO)
          have kTs := (Below.heap_setCell w5 ⟨NO, 2, none⟩ (.slice (some ⟨b5, 0, none⟩) (m + 1) c6) _ (Nat.ne_of_lt HTO.out)).trans kT5
          have kRs := (Below.heap_setCell w5 ⟨NO, 2, none⟩ (.slice (some ⟨b5, 0, none⟩) (m + 1) c6) _ (Nat.ne_of_lt (Nat.lt_trans HRT.out HTO.out))).trans kR5
          have bel : Below w.heap.size w5 (w5.setCell ⟨NO, 2, none⟩ (.slice (some ⟨b5, 0, none⟩) (m + 1) c6)) := (Below.refl _ _).setCell (by have := HNO.out; simp; omega) _
          have gs : w5.grownBy (w5.setCell ⟨NO, 2, none⟩ (.slice (some ⟨b5, 0, none⟩) (m + 1) c6)) (some NO) := setCell_grown w5 ⟨NO, 2, none⟩ (.slice (some ⟨b5, 0, none⟩) (m + 1) c6)
          obtain ⟨wS, hW⟩ : ∃ wS, wS = w5.setCell ⟨NO, 2, none⟩ (.slice (some ⟨b5, 0, none⟩) (m + 1) c6) := ⟨_, rfl⟩
          rw [← hW] at kOs hRs bel gs kTs kRs
          refine hK.out _ _ ?_ (fun hHeld4 => ?_)
          · (try dsimp only); rw [← hW]; exact nextg4_1 gs bel HNEo.out.1 HNEo.out.1 HNEo.out.1 HNEo.out.2.1 HNEo.out.2.2 hHeld
          clear hK K
          simp only [← hW] at hHeld4 ⊢
          clear hW y2 g2
          (try simp only [Act.put, List.setIfInBounds_toArray, List.set_cons_zero, List.set_cons_succ, List.getElem_toArray, List.getElem_cons_succ, List.getElem_cons_zero])
          refine wpAnyH_done (by kernel_rfl) ?_ _
          have hBs := hHeld4.1
          clear hHeld4 hHeld
          go_wp2
          go_roundw
          case rel =>
            refine ⟨m + 1, by omega, by go_num, hBs, kTs, kRs, some ⟨b5, 0, none⟩, c6, kOs, ?_⟩
            rw [HT.out, List.map_append, List.length_append]
            simpa [tab_length] using hRs
          case measure => simp [intOf]; omega
        · go_simp
          refine hK.out _ _ ?_ (fun hHeld2 => ?_)
          · (try dsimp only); have bel := below1 wD (Obj.cells #[.int .i64 x] 2); exact next4_1 bel hHeld
          clear hK K
          have hHeld1 := hHeld
          clear hHeld
          have hHeld := hHeld2
          clear hHeld2
          (try simp only [Act.put, List.setIfInBounds_toArray, List.set_cons_zero, List.set_cons_succ, List.getElem_toArray, List.getElem_cons_succ, List.getElem_cons_zero])
          refine wpAnyH_ready (rs := [1]) ?_ (by simp) ?_
          · decide +kernel
          refine AllReadyH.cons rfl (fun K hK => ?_) AllReadyH.nil
          have kv : (wD.alloc (Obj.cells #[.int .i64 x] 2)).cell? ⟨NO, 2, none⟩ = some (.slice ao5 m c5) := Go.Joins.cell_of_block (heap_old kO) 2
          go_simp
          refine hK.out _ _ ?_ (fun hHeld => ?_)
          · (try dsimp only); exact hHeld
          clear hK K kv
          (try simp only [Act.put, List.setIfInBounds_toArray, List.set_cons_zero, List.set_cons_succ, List.getElem_toArray, List.getElem_cons_succ, List.getElem_cons_zero])
          refine wpAnyH_ready (rs := [14]) ?_ (by simp) ?_
          · decide +kernel
          refine AllReadyH.cons rfl (fun K hK => ?_) AllReadyH.nil
          refine op_append1 rfl _ _ rfl (NO + 1) _ _ rfl hR x rfl ?c1 ?c2 ?_
          case c1 => rw [tab_length]; omega
          case c2 => exact (Array.getElem?_eq_some_iff.1 kO).1
          intro v' w5 hown5 hbel5 g5
          have kO5 := (hbel5.block NO (Nat.lt_succ_self NO)).trans kO
          have kT5 := (hbel5.block _ (Nat.lt_of_lt_of_le HTO.out (Nat.le_succ NO))).trans kT
          have kR5 := (hbel5.block _ (Nat.lt_of_lt_of_le (Nat.lt_trans HRT.out HTO.out) (Nat.le_succ NO))).trans kR
          have bel : Below w.heap.size wD w5 := hbel5.mono (by have := HNO.out; omega)
          refine hK.out _ _ ?_ (fun hHeld3 => ?_)
          · (try dsimp only); exact nextg4_1 g5 bel HROW.out.1 HROW.out.1 HROW.out.1 HROW.out.2.1 HROW.out.2.2 hHeld1
          clear hK K hHeld hHeld1
          obtain ⟨b5, hb5, ho5⟩ := Own.of hown5
          rcases ho5.form with ⟨_, he⟩ | ⟨c6, rfl, _, _, _⟩
          · exact absurd he (by simp)
          rw [show (tab (midT s tbl L) m ++ [x]).length = m + 1 by simp [tab_length]] at hown5 ⊢
          have hHeld := hHeld3
          clear hHeld3 bel ho5 hbel5
          (try simp only [Act.put, List.setIfInBounds_toArray, List.set_cons_zero, List.set_cons_succ, List.getElem_toArray, List.getElem_cons_succ, List.getElem_cons_zero])
          (refine wpAnyH_take (i := 15) (v := ?_) rfl ?_ ?_ ?_ (fun _ _ _ h => h) (Or.inl ⟨?_, ?_⟩) ?_ ?_; rotate_left 1; (focus decide +kernel); (focus decide +kernel); (focus decide +kernel); (focus rfl); (focus (intro w hSw; (try dsimp only at hSw); go_simp; (try (with_reducible rfl)); done)); (focus assumption); (try simp only [Act.put, List.setIfInBounds_toArray, List.set_cons_zero, List.set_cons_succ, List.getElem_toArray, List.getElem_cons_succ, List.getElem_cons_zero]))
          refine wpAnyH_ready (rs := [16]) ?_ (by simp) ?_
          · decide +kernel
          refine AllReadyH.cons rfl (fun K hK => ?_) AllReadyH.nil
          have y2 : w5.cell? ⟨NO, 2, none⟩ = some (.slice ao5 m c5) := Go.Joins.cell_of_block kO5 2
          have g2 : w5.frozen? ⟨NO, 2, none⟩ = false := Go.Joins.unfrozen_of_block kO5 2
          go_simp
          have kOs := Go.Joins.block_setCell (i := 2) kO5 (.slice (some ⟨b5, 0, none⟩) (m + 1) c6)
          have hRs := rows_set hown5 ⟨NO, 2, none⟩ (.slice (some ⟨b5, 0, none⟩) (m + 1) c6) (Nat.lt_succ_self NO)
          have kTs := (Below.heap_setCell w5 ⟨NO, 2, none⟩ (.slice (some ⟨b5, 0, none⟩) (m + 1) c6) _ (Nat.ne_of_lt HTO.out)).trans kT5
          have kRs := (Below.heap_setCell w5 ⟨NO, 2, none⟩ (.slice (some ⟨b5, 0, none⟩) (m + 1) c6) _ (Nat.ne_of_lt (Nat.lt_trans HRT.out HTO.out))).trans kR5
          have bel : Below w.heap.size w5 (w5.setCell ⟨NO, 2, none⟩ (.slice (some ⟨b5, 0, none⟩) (m + 1) c6)) := (Below.refl _ _).setCell (by have := HNO.out; simp; omega) _
          have gs : w5.grownBy (w5.setCell ⟨NO, 2, none⟩ (.slice (some ⟨b5, 0, none⟩) (m + 1) c6)) (some NO) := setCell_grown w5 ⟨NO, 2, none⟩ (.slice (some ⟨b5, 0, none⟩) (m + 1) c6)
          obtain ⟨wS, hW⟩ : ∃ wS, wS = w5.setCell ⟨NO, 2, none⟩ (.slice (some ⟨b5, 0, none⟩) (m + 1) c6) := ⟨_, rfl⟩
          rw [← hW] at kOs hRs bel gs kTs kRs
          refine hK.out _ _ ?_ (fun hHeld4 => ?_)
          · (try dsimp only); rw [← hW]; exact nextg4_1 gs bel HNEo.out.1 HNEo.out.1 HNEo.out.1 HNEo.out.2.1 HNEo.out.2.2 hHeld
          clear hK K
          simp only [← hW] at hHeld4 ⊢
          clear hW y2 g2
          (try simp only [Act.put, List.setIfInBounds_toArray, List.set_cons_zero, List.set_cons_succ, List.getElem_toArray, List.getElem_cons_succ, List.getElem_cons_zero])
          refine wpAnyH_done (by kernel_rfl) ?_ _
          have hBs := hHeld4.1
          clear hHeld4 hHeld
          go_wp2
          go_roundw
          case rel =>
            refine ⟨m + 1, by omega, by go_num, hBs, kTs, kRs, some ⟨b5, 0, none⟩, c6, kOs, ?_⟩
            rw [HT.out, List.map_append, List.length_append]
            simpa [tab_length] using hRs
          case measure => simp [intOf]; omega
    · have hkn : m = M := by omega
      subst hkn
      obtain ⟨b', hb', o'⟩ := Own.of hR
      have x0 : wr.cell? ⟨NO, 0, none⟩ = some (.int .i64 s) := Go.Joins.cell_of_block kO 0
      have x1 : wr.cell? ⟨NO, 1, none⟩ = some (.int .i64 (r + 1)) := Go.Joins.cell_of_block kO 1
      have x2 : wr.cell? ⟨NO, 2, none⟩ = some (.slice ao5 m c5) := Go.Joins.cell_of_block kO 2
      have hne : NT ≠ b' := by have := HTO.out; omega
      have HNB := hid hne
      have HLo : Hid (w.heap.size ≤ b') := by have := HNO.out; simp only [Hid]; omega
      have HB := hid bel0
      have HO := hid o'
      have HkT := hid kT
      clear bel0 hR kO o' hb' hne kR kT
      go_wp2_with fail
      go_at_call 62
      refine hpw.mono ?_
      clear hpw
      rintro e w' ⟨rfl, hw'⟩
      subst hw'
      have kb := HkT.out
      have y0 : wr.cell? ⟨NT, 0, none⟩ = some (.int .i64 0) := Go.Joins.cell_of_block kb 0
      have y1 : wr.cell? ⟨NT, 1, none⟩ = some (.int .i64 0) := Go.Joins.cell_of_block kb 1
      have y2 : wr.cell? ⟨NT, 2, none⟩ = some (.slice none 0 0) := Go.Joins.cell_of_block kb 2
      have g0 : wr.frozen? ⟨NT, 0, none⟩ = false := Go.Joins.unfrozen_of_block kb 0
      have g1 : wr.frozen? ⟨NT, 1, none⟩ = false := Go.Joins.unfrozen_of_block kb 1
      have g2 : wr.frozen? ⟨NT, 2, none⟩ = false := Go.Joins.unfrozen_of_block kb 2
      have HKx := hid kb
      clear kb
      go_wp2
      obtain ⟨W5, hW⟩ : ∃ W5, W5 = (((wr.setCell ⟨NT, 0, none⟩ (.int .i64 s)).setCell ⟨NT, 1, none⟩ (.int .i64 (r + 1))).setCell ⟨NT, 2, none⟩ (.slice ao5 m c5)) := ⟨_, rfl⟩
      have q0 := (Go.Joins.block_setCell (i := 2) (Go.Joins.block_setCell (i := 1) (Go.Joins.block_setCell (i := 0) HKx.out (.int .i64 s)) (.int .i64 (r + 1))) (.slice ao5 m c5))
      rw [← hW] at q0
      have z0 : W5.cell? ⟨NT, 0, none⟩ = some (.int .i64 s) := Go.Joins.cell_of_block q0 0
      have z1 : W5.cell? ⟨NT, 1, none⟩ = some (.int .i64 (r + 1)) := Go.Joins.cell_of_block q0 1
      have z2 : W5.cell? ⟨NT, 2, none⟩ = some (.slice ao5 m c5) := Go.Joins.cell_of_block q0 2
      have O5 := (own_set (own_set (own_set HO.out ⟨NT, 0, none⟩ (.int .i64 s) HNB.out) ⟨NT, 1, none⟩ (.int .i64 (r + 1)) HNB.out) ⟨NT, 2, none⟩ (.slice ao5 m c5) HNB.out)
      rw [← hW] at O5
      have B5 : Below w.heap.size w W5 := by
        have h1 := HNT.out
        rw [hW]
        exact ((HB.out.setCell (by simp; omega) _).setCell (by simp; omega) _).setCell (by simp; omega) _
      simp only [← hW]
      clear hW q0
      simp [bodyPost, results, Try.results36, go_sem, z0, z1, z2]
      exact ⟨b', O5, HLo.out, B5⟩

theorem agree (s r : Int) (tbl : List Int) (hz : tbl.length ≤ 1048576) : ∃ (qs qr : Int) (rs : List Int) (ok : Bool), rs.length ≤ 1000000 ∧
    (∀ (w : World) (b : Nat) (v : Value), Rd w b v tbl → Calls Try.prog 36 #[ruleV s r v] w fun e w' => ∃ ao c b', e = .returned (.tuple #[ruleV qs qr (.slice ao rs.length c), .bool ok]) ∧ Own 2 w' b' (.slice ao rs.length c) rs ∧ w.heap.size ≤ b' ∧ Below w.heap.size w w') ∧
    (∀ (w : World) (b : Nat) (v : Value), Rd w b v tbl → Calls Try.prog 37 #[ruleV s r v] w fun e w' => ∃ ao c b', e = .returned (.tuple #[ruleV qs qr (.slice ao rs.length c), .bool ok]) ∧ Own 2 w' b' (.slice ao rs.length c) rs ∧ w.heap.size ≤ b' ∧ Below w.heap.size w w') := by
  have no : ∀ {f : FuncId} {w : World} {v : Value}, Calls Try.prog f #[ruleV s r v] w (fun e w' => e = .returned (.tuple #[ruleV 0 0 (.slice none 0 0), .bool false]) ∧ Below w.heap.size w w') →
      Calls Try.prog f #[ruleV s r v] w fun e w' => ∃ ao c b', e = .returned (.tuple #[ruleV 0 0 (.slice ao ([] : List Int).length c), .bool false]) ∧ Own 2 w' b' (.slice ao ([] : List Int).length c) [] ∧ w.heap.size ≤ b' ∧ Below w.heap.size w w' := by
    intro f w v hc
    refine hc.mono ?_
    rintro e w' ⟨rfl, bel⟩
    exact ⟨none, 0, w.heap.size, rfl, Own.nil _ _ _, Nat.le_refl _, bel⟩
  cases hv : validB s r tbl with
  | false => exact ⟨0, 0, [], false, by simp, fun w b v h => no (specNoA h hv), fun w b v h => no (implNoA h hv)⟩
  | true =>
    by_cases h2 : r = 2
    · exact ⟨0, 0, [], false, by simp, fun w b v h => no (specNoB h hv h2), fun w b v h => no (implNoB h hv h2)⟩
    · obtain ⟨hs, hr, hl, ha⟩ := Al.valid_parts hv
      obtain ⟨L, hL⟩ : ∃ L : Nat, (L : Int) = 2 * r + 1 := ⟨(2 * r + 1).toNat, by omega⟩
      obtain ⟨M, hM⟩ : ∃ M : Nat, (M : Int) = s ^ (L + 2) := ⟨(s ^ (L + 2)).toNat, by have := pow_pos' hs (L + 2); omega⟩
      have hM2 : 1 ≤ M ∧ M ≤ 243 := by have := pow_bd hs (show L + 2 ≤ 5 by omega); omega
      refine ⟨s, r + 1, tab (midT s tbl L) M, true, by rw [tab_length]; omega, fun w b v h => ?_, fun w b v h => ?_⟩
      · refine (specOk h hv h2 hL hM).mono ?_
        rintro e w' ⟨v', b', rfl, own, lo, bel⟩
        rcases own.form with ⟨rfl, hz⟩ | ⟨c', rfl, _⟩
        · have := tab_length (midT s tbl L) M; rw [hz] at this; simp at this; omega
        · exact ⟨_, _, b', rfl, own, lo, bel⟩
      · refine (implOk h hv h2 hL hM).mono ?_
        rintro e w' ⟨b', rfl, own, lo, bel⟩
        rw [tab_length]
        exact ⟨_, _, b', rfl, own, lo, bel⟩

end Go.Proofs.Ytiijabiijkdhcaa.Wider
