/- The ways to go on, before each of some next states: waysTo. -/
import Derived.Test.YtjeoccjemkdbiaaWbi
namespace Go.Proofs.Ytjeoccjemkdbiaa.Wto
open Go.RowKit Go.Shelf Go.Proofs.Ytjeoccjemkdbiaa.Rd Go.Proofs.Ytjeoccjemkdbiaa.Help Go.Proofs.Ytjeoccjemkdbiaa.Ring Go.Proofs.Ytjeoccjemkdbiaa.Small Go.Proofs.Ytjeoccjemkdbiaa.Num Go.Proofs.Ytjeoccjemkdbiaa.Keep Go.Proofs.Ytjeoccjemkdbiaa.Rule Go.Proofs.Ytjeoccjemkdbiaa.Lnk Go.Proofs.Ytjeoccjemkdbiaa.LnkP Go.Proofs.Ytjeoccjemkdbiaa.LnkI Go.Proofs.Ytjeoccjemkdbiaa.Box Go.Proofs.Ytjeoccjemkdbiaa.Bkw Go.Proofs.Ytjeoccjemkdbiaa.FVal Go.Proofs.Ytjeoccjemkdbiaa.Wbi
set_option linter.unusedVariables false
set_option linter.unusedSimpArgs false

theorem infoL : (Try.prog.info? 22).map (fun i => (i.zero, i.size, i.bytes)) = some (some (.slice none 0 0), 1, 24) := by kernel_rfl
theorem unit_sm {n e : Nat} (he : e < n) : Sm 1 (unitL n e) := by
  refine ⟨fun i => ?_, ?_⟩
  · unfold unitL
    rw [updL_getD _ _ _ _ (by simpa using he)]
    have : ∀ j, (List.replicate n (0 : Int)).getD j 0 = 0 := fun j => by simp only [List.getD_eq_getElem?_getD, List.getElem?_replicate]; split <;> simp
    split <;> rw [this] <;> decide
  · unfold unitL
    rw [sum_upd _ _ _ (by simpa using he)]
    have : (List.replicate n (0 : Int)).sum = 0 := by
      clear he
      induction n with
      | zero => rfl
      | succ n ih => rw [List.replicate_succ, List.sum_cons, ih]; rfl
    omega
theorem bwds_sm (T : List Int) (S n : Nat) (hn : 0 < n) : ∀ (ws a : List Int) (M : Int), a.length = n → Sm M a → Sm ((S : Int) ^ ws.length * M) (bwds T S n ws a)
  | [], a, M, _, hm => by simpa [bwds] using hm
  | x :: ws, a, M, h, hm => by
    have := bwd_sm T S n (t := x) hn (bwds_len T S n ws a h) (bwds_sm T S n hn ws a M h hm)
    rw [List.length_cons, Int.pow_succ, Int.mul_comm ((S : Int) ^ ws.length), Int.mul_assoc]
    exact this

set_option maxHeartbeats 8000000 in
set_option maxRecDepth 100000 in
theorem waysTo {w : World} {S n bt bw e : Nat} {r : Int} {vt vw : Value} {tbl zs : List Int} (hk : Lk S n r tbl) (h : Rd w bt vt tbl) (hw : Rd w bw vw zs) (hz : 1 ≤ zs.length ∧ zs.length ≤ 16) (he : e < n) :
    Calls Try.prog 49 #[ruleV (S : Int) r vt, vw, .int .i64 (e : Int)] w fun x w' => ∃ WB b0, x = .returned (.slice (some ⟨WB, 0, none⟩) (zs.length + 1) (zs.length + 1)) ∧ w'.cell? ⟨WB, 0, none⟩ = some (.slice (some ⟨b0, 0, none⟩) n n) ∧ Rd.Own 2 w' b0 (.slice (some ⟨b0, 0, none⟩) n n) (bwds tbl S n zs (unitL n e)) ∧ Below w.heap.size w w' := by
  have HK := hid hk
  have HH := hid h
  have HW := hid hw
  have HE := hid he
  obtain ⟨hS, hr, hn, hl, hn1⟩ := hk
  obtain ⟨ao, cap, rfl, hc, hm, h4⟩ := h
  obtain ⟨off, rfl, hb, hcell⟩ := h4 (by rw [hl]; exact Nat.mul_pos hn1.1 (by omega))
  obtain ⟨ao, cw, rfl, hcw, hmw, hw4⟩ := hw
  obtain ⟨ow, rfl, hbw, hwcell⟩ := hw4 (by omega)
  obtain ⟨N, hN⟩ : ∃ N, N = tbl.length := ⟨_, rfl⟩
  obtain ⟨L, hLe⟩ : ∃ L, L = zs.length := ⟨_, rfl⟩
  rw [← hN] at HH hc hl ⊢
  rw [← hLe] at HW hcw hwcell hz ⊢
  have HL : Hid (1 ≤ L ∧ L ≤ 16 ∧ L = zs.length) := ⟨hz.1, hz.2, hLe⟩
  have HCW : Hid (bw < w.heap.size ∧ ∀ i, i < L → w.cell? ⟨bw, ow + i, none⟩ = some (.int .i64 (zs.getD i 0))) := ⟨hbw, hwcell⟩
  have HS : Hid ((2 ≤ (S : Int) ∧ (S : Int) ≤ 3) ∧ (0 ≤ r ∧ r ≤ 2)) := ⟨⟨Int.ofNat_le.2 hS.1, Int.ofNat_le.2 hS.2⟩, hr⟩
  have HSn : Hid ((2 ≤ S ∧ S ≤ 3) ∧ (1 ≤ n ∧ n ≤ 81)) := ⟨hS, hn1⟩
  have HEn := hid hn
  have HMK : Hid (∀ w : World, _) := run_make_row' (P := Try.prog) 22 2 (.int .i64 0) 8 Try.underlying22 infoI rfl .i64 .i64 n (by omega) (by omega)
  have hmk2 := run_make_row' (P := Try.prog) 71 22 (.slice none 0 0) 24 Try.underlying71 infoL rfl .i64 .i64 (L + 1) (by omega) (by omega)
  obtain ⟨M, hM⟩ : ∃ M, M = L + 1 := ⟨_, rfl⟩
  have hLM : (L : Int) + 1 = (M : Int) := by omega
  have hLw : wrap64 ((L : Int) + 1) = (M : Int) := by rw [← hLM]; exact wrap_id (by omega) (by omega)
  rw [← hM] at hmk2 ⊢
  rw [← hLM] at hmk2
  have HM := hid hM
  clear hS hr hn hl hn1 hc hm h4 hb hcell hcw hmw hw4 hbw hwcell hN hLe hM hLM
  go_enter Try.func49, Try.ntmps49
  go_wp2_with fail
  obtain ⟨w1, hW⟩ : ∃ x, x = (w.alloc (Obj.cells #[.int .i64 (S : Int), .int .i64 r, (.slice (some ⟨bt, off, none⟩) N cap)] 28)).alloc (Obj.cells (madeCells #[.slice none 0 0] M) 22) := ⟨_, rfl⟩
  obtain ⟨NRo, hR⟩ : ∃ x, x = w.heap.size := ⟨_, rfl⟩
  obtain ⟨WB, hWB⟩ : ∃ x, x = NRo + 1 := ⟨_, rfl⟩
  have HB1 : Hid (Below w.heap.size w w1) := by simp only [Hid]; rw [hW]; exact Go.Joins.below_alloc2 _ _ _
  have KR1 : Hid (w1.heap[NRo]? = some (Obj.cells #[.int .i64 (S : Int), .int .i64 r, (.slice (some ⟨bt, off, none⟩) N cap)] 28)) := by simp only [Hid]; rw [hW]; exact FNew.heap_old (FNew.heap_top hR)
  obtain ⟨C0, hC0⟩ : ∃ x, x = madeCells #[Value.slice none 0 0] M := ⟨_, rfl⟩
  have HC0 : Hid (C0.size = M) := by simp only [Hid]; rw [hC0]; simp [madeCells]
  have KB1 : Hid (w1.heap[WB]? = some (Obj.cells C0 22)) := by simp only [Hid]; rw [hW, hC0]; exact FNew.heap_top (by rw [hWB, hR]; simp)
  have HNs : Hid (w.heap.size ≤ NRo ∧ NRo ≠ WB ∧ w.heap.size ≤ WB ∧ bw ≠ WB) := by have := HCW.out.1; simp only [Hid]; omega
  simp only [← hW]
  simp only [← hR]
  simp only [← hWB]
  clear hW hR hWB hC0 hmk2
  have r0 := Go.Joins.cell_of_block KR1.out 0
  have r1 := Go.Joins.cell_of_block KR1.out 1
  have r2 := Go.Joins.cell_of_block KR1.out 2
  simp only [List.getElem?_toArray, List.getElem?_cons_zero, List.getElem?_cons_succ] at r0 r1 r2
  go_wp2_with fail
  go_at_call 32
  refine shapeOf.mono ?_
  rintro x w2 ⟨rfl, bel⟩
  have KR2 := hid (Box.heap_keep bel KR1.out)
  have KB2 := hid (Box.heap_keep bel KB1.out)
  have HB2 := hid (HB1.out.trans (bel.mono HB1.out.size))
  clear bel r0 r1 r2
  go_wp2_with fail
  go_at_call 42
  refine (ends HS.out.1 HS.out.2).mono ?_
  rw [← HEn.out]
  rintro x w3 ⟨rfl, bel⟩
  have KR3 := hid (Box.heap_keep bel KR2.out)
  have KB3 := hid (Box.heap_keep bel KB2.out)
  have HB3 := hid (HB2.out.trans (bel.mono HB2.out.size))
  clear bel
  have hmk := HMK.out
  have hLMi : (L : Int) < (M : Int) := by have := HM.out; omega
  have hen : (e : Int) < (n : Int) := by have := HE.out; omega
  have q1 : w3.cell? ⟨WB, L, none⟩ = some C0[L]! := by rw [Go.Joins.cell_of_block KB3.out L]; have := HC0.out; have := HM.out; simp [show L < C0.size by omega]
  have q2 : w3.frozen? ⟨WB, L, none⟩ = false := Go.Joins.unfrozen_of_block KB3.out L
  have q3 := Box.heap_lt KB3.out
  have ON : Hid (Rd.Own 2 ((w3.setCell ⟨WB, L, none⟩ (.slice (some ⟨w3.heap.size, 0, none⟩) n n)).alloc (Obj.cells (madeCells #[.int .i64 0] n) 2)) w3.heap.size (.slice (some ⟨w3.heap.size, 0, none⟩) n n) (List.replicate n 0)) := by
    have h1 := Own.made 2 (w3.setCell ⟨WB, L, none⟩ (.slice (some ⟨w3.heap.size, 0, none⟩) n n)) n (by have := HSn.out; unfold maxLen; omega)
    have e1 : (w3.setCell ⟨WB, L, none⟩ (.slice (some ⟨w3.heap.size, 0, none⟩) n n)).heap.size = w3.heap.size := by simp [World.setCell]
    rw [e1] at h1
    exact h1
  have q4 := ON.out.cell (i := e) (by simp; exact HE.out)
  have q5 := ON.out.free e
  have q6 : (List.replicate n (0 : Int)).getD e 0 = 0 := by simp only [List.getD_eq_getElem?_getD, List.getElem?_replicate]; split <;> simp
  rw [q6] at q4
  clear q6
  go_wp2
  clear q1 q2 q3 q4 q5 hmk
  have OU : Hid (Rd.Own 2 ((w3.setCell ⟨WB, L, none⟩ (.slice (some ⟨w3.heap.size, 0, none⟩) n n)).alloc (Obj.cells ((madeCells #[.int .i64 0] n).setIfInBounds e (.int .i64 1)) 2)) w3.heap.size (.slice (some ⟨w3.heap.size, 0, none⟩) n n) (unitL n e)) := by
    have h1 := ON.out.set e 1
    rw [World.setCell_alloc_at _ _ _ _ _ (by simp [World.setCell])] at h1
    have e1 : (List.replicate n (0 : Int)).set e 1 = unitL n e := by
      unfold unitL updL
      have q6 : (List.replicate n (0 : Int)).getD e 0 = 0 := by simp only [List.getD_eq_getElem?_getD, List.getElem?_replicate]; split <;> simp
      rw [q6]; rfl
    rw [e1] at h1
    exact h1
  have hszE : (w3.setCell ⟨WB, L, none⟩ (.slice (some ⟨w3.heap.size, 0, none⟩) n n)).heap.size = w3.heap.size := by simp [World.setCell]
  have hB4 : Below w.heap.size w ((w3.setCell ⟨WB, L, none⟩ (.slice (some ⟨w3.heap.size, 0, none⟩) n n)).alloc (Obj.cells ((madeCells #[.int .i64 0] n).setIfInBounds e (.int .i64 1)) 2)) :=
    (HB3.out.setCell (p := ⟨WB, L, none⟩) HNs.out.2.2.1 _).alloc (by rw [hszE]; exact HB3.out.size) _
  have kB4 : ((w3.setCell ⟨WB, L, none⟩ (.slice (some ⟨w3.heap.size, 0, none⟩) n n)).alloc (Obj.cells ((madeCells #[.int .i64 0] n).setIfInBounds e (.int .i64 1)) 2)).heap[WB]? = some (Obj.cells (C0.setIfInBounds L (.slice (some ⟨w3.heap.size, 0, none⟩) n n)) 22) := by
    exact FNew.heap_old (heap_setCell_same w3 WB L C0 22 _ KB3.out)
  have kR4 : ((w3.setCell ⟨WB, L, none⟩ (.slice (some ⟨w3.heap.size, 0, none⟩) n n)).alloc (Obj.cells ((madeCells #[.int .i64 0] n).setIfInBounds e (.int .i64 1)) 2)).heap[NRo]? = some (Obj.cells #[.int .i64 (S : Int), .int .i64 r, (.slice (some ⟨bt, off, none⟩) N cap)] 28) :=
    FNew.heap_old ((Below.heap_setCell w3 ⟨WB, L, none⟩ _ NRo HNs.out.2.1).trans KR3.out)
  have hne4 : w3.heap.size ≠ WB := by have := Box.heap_lt KB3.out; omega
  have HHB := hid hB4
  have HHK := hid kB4
  have HHR := hid kR4
  have HN4 := hid hne4
  clear hszE hB4 kB4 kR4 hne4
  go_loopw [8] (fun i wr => ∃ (k bV : Nat) (cs : Array Value), k ≤ L ∧ i = .int .i64 ((L : Int) - 1 - (k : Int)) ∧ Below w.heap.size w wr ∧ wr.heap[NRo]? = some (Obj.cells #[.int .i64 (S : Int), .int .i64 r, (.slice (some ⟨bt, off, none⟩) N cap)] 28) ∧ wr.heap[WB]? = some (Obj.cells cs 22) ∧ cs.size = M ∧ cs[L - k]? = some (.slice (some ⟨bV, 0, none⟩) n n) ∧ bV ≠ WB ∧ Rd.Own 2 wr bV (.slice (some ⟨bV, 0, none⟩) n n) (bwds tbl S n (zs.drop (L - k)) (unitL n e))) (fun i _ => (intOf i + 1).toNat)
  case atStart =>
    refine ⟨0, w3.heap.size, C0.setIfInBounds L (.slice (some ⟨w3.heap.size, 0, none⟩) n n), Nat.zero_le _, by simp, HHB.out, HHR.out, HHK.out, by simp; exact HC0.out, ?_, HN4.out, ?_⟩
    · have h1 := HC0.out; have h2 := HM.out
      rw [Nat.sub_zero, Array.getElem?_setIfInBounds_self_of_lt (by omega)]
    · have e2 : zs.drop (L - 0) = [] := by rw [Nat.sub_zero, HL.out.2.2]; exact List.drop_length
      rw [e2]; exact OU.out
  case round =>
    clear HHB HHK HHR HN4 OU ON
    obtain ⟨k, bV, cs, hk, rfl, hB, hR, hC, hcs, hci, hne, hO⟩ := hrel
    have KB := hid hB
    have HKR := hid hR
    have HKB := hid hC
    have KO := hid hO
    have HCS := hid (And.intro hcs (And.intro hci hne))
    clear hB hC hO hcs hne
    by_cases hlt : k < L
    · obtain ⟨i, hi⟩ : ∃ i, i = L - 1 - k := ⟨_, rfl⟩
      have hii : (L : Int) - 1 - (k : Int) = (i : Int) := by omega
      rw [hii]
      have hiL : i < L := by omega
      have hi1 : i + 1 = L - k := by omega
      obtain ⟨c, hcd⟩ : ∃ c, c = zs.getD i 0 := ⟨_, rfl⟩
      have HCc := hid hcd
      have r0 := Go.Joins.cell_of_block HKR.out 0
      have r1 := Go.Joins.cell_of_block HKR.out 1
      have r2 := Go.Joins.cell_of_block HKR.out 2
      simp only [List.getElem?_toArray, List.getElem?_cons_zero, List.getElem?_cons_succ] at r0 r1 r2
      have a0 : wr.cell? ⟨bw, ow + i, none⟩ = some (.int .i64 c) := by rw [hcd]; exact (KB.out.cell (p := ⟨bw, ow + i, none⟩) HCW.out.1).trans (HCW.out.2 i hiL)
      have v0 : wr.cell? ⟨WB, i + 1, none⟩ = some (.slice (some ⟨bV, 0, none⟩) n n) := by rw [Go.Joins.cell_of_block HKB.out (i + 1), hi1]; exact hci
      have hiM : (i : Int) < (M : Int) := by have := HM.out; omega
      have hiM1 : (i : Int) + 1 < (M : Int) := by have := HM.out; omega
      have hiLi : (i : Int) < (L : Int) := by omega
      have hi0 : (0 : Int) ≤ (i : Int) + 1 := by omega
      have hw1 : IntKind.i64.wrap ((i : Int) + 1) = (i : Int) + 1 := by
        have h5 := wrap_id (x := (i : Int) + 1) (by omega) (by omega)
        rw [IntKind.wrap_i64]; unfold wrap64 at h5; exact h5
      have HCI : Hid (i < cs.size) := by have := HM.out; have := HCS.out.1; simp only [Hid]; omega
      have HNB : Hid ((NRo ≠ WB ∧ True) ∧ True) := ⟨⟨HNs.out.2.1, trivial⟩, trivial⟩
      have hcall := Wbf.waysBefore (w := wr.drew) (to := c) HK.out (HH.out.keep KB.out.drew (Nat.le_refl _)) (KO.out.keep (Go.Proofs.Ytjeoccjemkdbiaa.Help.below_drewN _ _ 1)).rd (bwds_len tbl S n _ _ (unit_len n e)) (Sm.le (bwds_sm tbl S n (by have := HSn.out; omega) (zs.drop (L - k)) _ _ (unit_len n e) (unit_sm HE.out)) (pow_bd HSn.out.1.2 (by simp; have := HL.out; omega) (by decide))).bd
      have HCL := hid hcall
      have HIK : Hid (k < L ∧ i = L - 1 - k ∧ i + 1 = L - k) := ⟨hlt, hi, hi1⟩
      have HIQ : Hid ((i : Int) - 1 = (L : Int) - 1 - ((k + 1 : Nat) : Int)) := by simp only [Hid]; omega
      clear hcall hlt hi hii hiL hi1 hcd hk
      go_upto_region 7 with fail
      refine wp_region_held_drew (S := (fun ww => ww.cell? ⟨NRo, 0, none⟩ = some (.int .i64 (S : Int)) ∧ ww.cell? ⟨NRo, 1, none⟩ = some (.int .i64 r) ∧ ww.cell? ⟨NRo, 2, none⟩ = some (.slice (some ⟨bt, off, none⟩) N cap) ∧ ww.cell? ⟨bw, ow + i, none⟩ = some (.int .i64 c) ∧ ww.cell? ⟨WB, i + 1, none⟩ = some (.slice (some ⟨bV, 0, none⟩) n n))) (by kernel_rfl) ?_ (fun hHeld => ?_)
      · ((try dsimp only); exact ⟨r0, r1, r2, a0, v0⟩)
      (refine wpAnyH_take (i := 0) (v := ?_) rfl ?_ ?_ ?_ (fun _ _ _ h => h) (Or.inl ⟨?_, ?_⟩) ?_ ?_; rotate_left 1; (focus decide +kernel); (focus decide +kernel); (focus decide +kernel); (focus rfl); (focus (intro w hSw; (try dsimp only at hSw); go_simp; (try (with_reducible rfl)); done)); (focus assumption); (try simp only [Act.put, List.setIfInBounds_toArray, List.set_cons_zero, List.set_cons_succ, List.getElem_toArray, List.getElem_cons_succ, List.getElem_cons_zero]))
      (refine wpAnyH_take (i := 1) (v := ?_) rfl ?_ ?_ ?_ (fun _ _ _ h => h) (Or.inl ⟨?_, ?_⟩) ?_ ?_; rotate_left 1; (focus decide +kernel); (focus decide +kernel); (focus decide +kernel); (focus rfl); (focus (intro w hSw; (try dsimp only at hSw); go_simp; (try (with_reducible rfl)); done)); (focus assumption); (try simp only [Act.put, List.setIfInBounds_toArray, List.set_cons_zero, List.set_cons_succ, List.getElem_toArray, List.getElem_cons_succ, List.getElem_cons_zero]))
      (refine wpAnyH_take (i := 2) (v := ?_) rfl ?_ ?_ ?_ (fun _ _ _ h => h) (Or.inl ⟨?_, ?_⟩) ?_ ?_; rotate_left 1; (focus decide +kernel); (focus decide +kernel); (focus decide +kernel); (focus rfl); (focus (intro w hSw; (try dsimp only at hSw); go_simp; (try (with_reducible rfl)); done)); (focus assumption); (try simp only [Act.put, List.setIfInBounds_toArray, List.set_cons_zero, List.set_cons_succ, List.getElem_toArray, List.getElem_cons_succ, List.getElem_cons_zero]))
      (refine wpAnyH_take (i := 3) (v := ?_) rfl ?_ ?_ ?_ (fun _ _ _ h => h) (Or.inl ⟨?_, ?_⟩) ?_ ?_; rotate_left 1; (focus decide +kernel); (focus decide +kernel); (focus decide +kernel); (focus rfl); (focus (intro w hSw; (try dsimp only at hSw); go_simp; (try (with_reducible rfl)); done)); (focus assumption); (try simp only [Act.put, List.setIfInBounds_toArray, List.set_cons_zero, List.set_cons_succ, List.getElem_toArray, List.getElem_cons_succ, List.getElem_cons_zero]))
      (refine wpAnyH_take (i := 4) (v := ?_) rfl ?_ ?_ ?_ (fun _ _ _ h => h) (Or.inl ⟨?_, ?_⟩) ?_ ?_; rotate_left 1; (focus decide +kernel); (focus decide +kernel); (focus decide +kernel); (focus rfl); (focus (intro w hSw; (try dsimp only at hSw); go_simp; (try (with_reducible rfl)); done)); (focus assumption); (try simp only [Act.put, List.setIfInBounds_toArray, List.set_cons_zero, List.set_cons_succ, List.getElem_toArray, List.getElem_cons_succ, List.getElem_cons_zero]))
      (refine wpAnyH_take (i := 5) (v := ?_) rfl ?_ ?_ ?_ (fun _ _ _ h => h) (Or.inl ⟨?_, ?_⟩) ?_ ?_; rotate_left 1; (focus decide +kernel); (focus decide +kernel); (focus decide +kernel); (focus rfl); (focus (intro w hSw; (try dsimp only at hSw); go_simp; (try (with_reducible rfl)); done)); (focus assumption); (try simp only [Act.put, List.setIfInBounds_toArray, List.set_cons_zero, List.set_cons_succ, List.getElem_toArray, List.getElem_cons_succ, List.getElem_cons_zero]))
      (refine wpAnyH_take (i := 6) (v := ?_) rfl ?_ ?_ ?_ (fun _ _ _ h => h) (Or.inl ⟨?_, ?_⟩) ?_ ?_; rotate_left 1; (focus decide +kernel); (focus decide +kernel); (focus decide +kernel); (focus rfl); (focus (intro w hSw; (try dsimp only at hSw); go_simp; (try (with_reducible rfl)); done)); (focus assumption); (try simp only [Act.put, List.setIfInBounds_toArray, List.set_cons_zero, List.set_cons_succ, List.getElem_toArray, List.getElem_cons_succ, List.getElem_cons_zero]))
      (refine wpAnyH_take (i := 7) (v := ?_) rfl ?_ ?_ ?_ (fun _ _ _ h => h) (Or.inl ⟨?_, ?_⟩) ?_ ?_; rotate_left 1; (focus decide +kernel); (focus decide +kernel); (focus decide +kernel); (focus rfl); (focus (intro w hSw; (try dsimp only at hSw); go_simp; (try (with_reducible rfl)); done)); (focus assumption); (try simp only [Act.put, List.setIfInBounds_toArray, List.set_cons_zero, List.set_cons_succ, List.getElem_toArray, List.getElem_cons_succ, List.getElem_cons_zero]))
      (refine wpAnyH_take (i := 8) (v := ?_) rfl ?_ ?_ ?_ (fun _ _ _ h => h) (Or.inl ⟨?_, ?_⟩) ?_ ?_; rotate_left 1; (focus decide +kernel); (focus decide +kernel); (focus decide +kernel); (focus rfl); (focus (intro w hSw; (try dsimp only at hSw); go_simp; (try (with_reducible rfl)); done)); (focus assumption); (try simp only [Act.put, List.setIfInBounds_toArray, List.set_cons_zero, List.set_cons_succ, List.getElem_toArray, List.getElem_cons_succ, List.getElem_cons_zero]))
      (refine wpAnyH_take (i := 9) (v := ?_) rfl ?_ ?_ ?_ (fun _ _ _ h => h) (Or.inl ⟨?_, ?_⟩) ?_ ?_; rotate_left 1; (focus decide +kernel); (focus decide +kernel); (focus decide +kernel); (focus rfl); (focus (intro w hSw; (try dsimp only at hSw); go_simp; (try (with_reducible rfl)); done)); (focus assumption); (try simp only [Act.put, List.setIfInBounds_toArray, List.set_cons_zero, List.set_cons_succ, List.getElem_toArray, List.getElem_cons_succ, List.getElem_cons_zero]))
      (refine wpAnyH_take (i := 10) (v := ?_) rfl ?_ ?_ ?_ (fun _ _ _ h => h) (Or.inl ⟨?_, ?_⟩) ?_ ?_; rotate_left 1; (focus decide +kernel); (focus decide +kernel); (focus decide +kernel); (focus rfl); (focus (intro w hSw; (try dsimp only at hSw); go_simp; (try (with_reducible rfl)); done)); (focus assumption); (try simp only [Act.put, List.setIfInBounds_toArray, List.set_cons_zero, List.set_cons_succ, List.getElem_toArray, List.getElem_cons_succ, List.getElem_cons_zero]))
      (refine wpAnyH_take (i := 11) (v := ?_) rfl ?_ ?_ ?_ (fun _ _ _ h => h) (Or.inl ⟨?_, ?_⟩) ?_ ?_; rotate_left 1; (focus decide +kernel); (focus decide +kernel); (focus decide +kernel); (focus rfl); (focus (intro w hSw; (try dsimp only at hSw); go_simp; (try (with_reducible rfl)); done)); (focus assumption); (try simp only [Act.put, List.setIfInBounds_toArray, List.set_cons_zero, List.set_cons_succ, List.getElem_toArray, List.getElem_cons_succ, List.getElem_cons_zero]))
      refine wpAnyH_ready (rs := [12]) ?_ (by simp) ?_
      · decide +kernel
      refine AllReadyH.cons rfl (fun K hK => ?_) AllReadyH.nil
      go_simp
      go_at_call 44
      refine HCL.out.mono ?_
      rintro e w2 ⟨bT, rfl, oT, hlo, bel⟩
      have kR2 := Box.heap_keep bel HKR.out
      have kB2 := Box.heap_keep bel HKB.out
      have HB2 := hid ((KB.out.drew).trans (bel.mono (KB.out.drew).size))
      have HOT := hid oT
      have HLO2 := hid hlo
      refine hK.out _ _ ?_ (fun hHeld2 => ?_)
      · obtain ⟨e0, e1, e2, e3, e4⟩ := hHeld; exact ⟨cell_keep bel e0, cell_keep bel e1, cell_keep bel e2, cell_keep bel e3, cell_keep bel e4⟩
      clear hK K hHeld bel oT hlo
      have hHeld := hHeld2
      clear hHeld2
      (try simp only [Act.put, List.setIfInBounds_toArray, List.set_cons_zero, List.set_cons_succ, List.getElem_toArray, List.getElem_cons_succ, List.getElem_cons_zero])
      (refine wpAnyH_take (i := 13) (v := ?_) rfl ?_ ?_ ?_ (fun _ _ _ h => h) (Or.inl ⟨?_, ?_⟩) ?_ ?_; rotate_left 1; (focus decide +kernel); (focus decide +kernel); (focus decide +kernel); (focus rfl); (focus (intro w hSw; (try dsimp only at hSw); go_simp; (try (with_reducible rfl)); done)); (focus assumption); (try simp only [Act.put, List.setIfInBounds_toArray, List.set_cons_zero, List.set_cons_succ, List.getElem_toArray, List.getElem_cons_succ, List.getElem_cons_zero]))
      refine wpAnyH_ready (rs := [14]) ?_ (by simp) ?_
      · decide +kernel
      refine AllReadyH.cons rfl (fun K hK => ?_) AllReadyH.nil
      have q1 := Go.Joins.unfrozen_of_block kB2 i
      have q2 : w2.cell? ⟨WB, i, none⟩ = some cs[i]! := by rw [Go.Joins.cell_of_block kB2 i]; simp [HCI.out]
      go_simp
      refine hK.out _ _ ?_ (fun hHeld2 => ?_)
      · obtain ⟨e0, e1, e2, e3, e4⟩ := hHeld; (try dsimp only); exact ⟨(World.cell?_setCell_far _ _ _ _ (Ne.symm HNs.out.2.1)).trans e0, (World.cell?_setCell_far _ _ _ _ (Ne.symm HNs.out.2.1)).trans e1, (World.cell?_setCell_far _ _ _ _ (Ne.symm HNs.out.2.1)).trans e2, (World.cell?_setCell_far _ _ _ _ (Ne.symm HNs.out.2.2.2)).trans e3, (World.cell?_setCell_other _ _ _ _ (fun e => by simp at e)).trans e4⟩
      clear hK K hHeld2 hHeld q1 q2
      (try simp only [Act.put, List.setIfInBounds_toArray, List.set_cons_zero, List.set_cons_succ, List.getElem_toArray, List.getElem_cons_succ, List.getElem_cons_zero])
      refine wpAnyH_done (by kernel_rfl) ?_ _
      have hneT : bT ≠ WB := by have h1 := HLO2.out; have h2 := Box.heap_lt HKB.out; simp at h1; omega
      have kB3 := heap_setCell_same w2 WB i cs 22 (.slice (some ⟨bT, 0, none⟩) n n) kB2
      have kR3 := (Below.heap_setCell w2 ⟨WB, i, none⟩ (.slice (some ⟨bT, 0, none⟩) n n) NRo HNs.out.2.1).trans kR2
      have oT3 := own_set HOT.out ⟨WB, i, none⟩ (.slice (some ⟨bT, 0, none⟩) n n) hneT
      have bS := HB2.out.setCell (p := ⟨WB, i, none⟩) HNs.out.2.2.1 (.slice (some ⟨bT, 0, none⟩) n n)
      have HF1 := hid kB3
      have HF2 := hid kR3
      have HF3 := hid oT3
      have HF4 := hid bS
      have HF5 := hid hneT
      clear kB3 kR3 oT3 bS hneT kB2 kR2
      have hjw : wrap64 ((i : Int) - 1) = (i : Int) - 1 := wrap_id (by omega) (by omega)
      go_wp2
      go_roundw
      case rel =>
        refine ⟨k + 1, bT, cs.setIfInBounds i (.slice (some ⟨bT, 0, none⟩) n n), HIK.out.1, congrArg _ HIQ.out, HF4.out, HF2.out, HF1.out, by simp; exact HCS.out.1, ?_, HF5.out, ?_⟩
        · rw [show L - (k + 1) = i by have := HIK.out; omega, Array.getElem?_setIfInBounds_self_of_lt HCI.out]
        · have e3 : zs.drop (L - (k + 1)) = c :: zs.drop (L - k) := by
            have h1 : i < zs.length := by have := HL.out; have := HIK.out; omega
            rw [show L - (k + 1) = i by have := HIK.out; omega, ← HIK.out.2.2, List.drop_eq_getElem_cons h1, HCc.out, List.getD_eq_getElem?_getD, List.getElem?_eq_getElem h1]; rfl
          rw [e3]; exact HF3.out
      case measure => have := HIK.out; simp [intOf]; (try omega)
    · have hkn : L = k := by omega
      subst hkn
      have hneg : (L : Int) - 1 - (L : Int) = -1 := by omega
      rw [hneg]
      have HF : Hid (Rd.Own 2 wr bV (.slice (some ⟨bV, 0, none⟩) n n) (bwds tbl S n zs (unitL n e))) := by have h5 := KO.out; rw [Nat.sub_self, List.drop_zero] at h5; exact h5
      have HCC : Hid (wr.cell? ⟨WB, 0, none⟩ = some (.slice (some ⟨bV, 0, none⟩) n n)) := by simp only [Hid]; rw [Go.Joins.cell_of_block HKB.out 0]; rw [Nat.sub_self] at hci; exact hci
      clear KO hci
      go_wp2
      go_ret
      exact ⟨WB, bV, rfl, HCC.out, HF.out, KB.out⟩
end Go.Proofs.Ytjeoccjemkdbiaa.Wto
