/- SenseOf of the program. -/
import Derived.Test.YtffcaffhkleclaaSen
namespace Go.Proofs.Ytffcaffhkleclaa.SenI
open Go.RowKit Go.Proofs.Ytffcaffhkleclaa.Rd Go.Proofs.Ytffcaffhkleclaa.Help Go.Proofs.Ytffcaffhkleclaa.Ring Go.Proofs.Ytffcaffhkleclaa.Small Go.Proofs.Ytffcaffhkleclaa.Num Go.Proofs.Ytffcaffhkleclaa.Keep Go.Proofs.Ytffcaffhkleclaa.Rule Go.Proofs.Ytffcaffhkleclaa.Dig Go.Proofs.Ytffcaffhkleclaa.DigP Go.Proofs.Ytffcaffhkleclaa.Fl Go.Proofs.Ytffcaffhkleclaa.Sen
set_option linter.unusedVariables false
set_option linter.unusedSimpArgs false

theorem wideL {w : World} {s r : Int} {L : Nat} (hr : 0 ≤ r ∧ r ≤ 2) (hL : (L : Int) = 2 * r + 1) :
    Calls Try.prog 18 #[shapeV s r] w fun e w' => e = .returned (.int .i64 L) ∧ Below w.heap.size w w' := by
  rw [hL]; exact wide hr
theorem set_same {zs : List Int} {k : Nat} (hk : k < zs.length) : zs.set k (zs.getD k 0) = zs := by
  have e : zs.getD k 0 = zs[k] := by simp [List.getD, hk]
  rw [e]; exact List.set_getElem_self hk
set_option maxHeartbeats 16000000 in
set_option maxRecDepth 100000 in
theorem implOk {w : World} {s r : Int} {bt S L M : Nat} {vt : Value} {tbl : List Int} (h : Rd w bt vt tbl) (hv : validB s r tbl = true) (hS : (S : Int) = s) (hL : (L : Int) = 2 * r + 1) (hM : M = tbl.length) :
    Calls Try.prog 7 #[ruleV s r vt] w fun e w' => ∃ q, e = .returned (.tuple #[.float .f32 q, .bool true]) ∧ Is .f32 q (fop .quo .f32 (some (floatOfInt .f32 (C3 s tbl L S M : Nat))) (some (floatOfInt .f32 (A3 s L S M : Nat)))) ∧ Below w.heap.size w w' := by
  have HV := hid hv
  obtain ⟨hs, hr, hl, ha⟩ := Al.valid_parts hv
  have HRd := hid h
  have HS := hid hs
  have HSS := hid hS
  have HLen : Hid ((tbl.length : Int) = s ^ L) := by simp only [Hid]; rw [hl]; congr 1 <;> omega
  have HL3 : Hid (1 ≤ L ∧ L ≤ 5) := by simp only [Hid]; omega
  have hM2 : M ≤ 243 := by have := (pow_bd hs (show (2 * r + 1).toNat ≤ 5 by omega)).2; omega
  have HM2 := hid hM2
  have hLe : 2 * r + 1 = (L : Int) := by omega
  have hs2 : s ≤ 3 := hs.2
  obtain ⟨ao, cap, rfl, _, _, h4⟩ := h
  obtain ⟨off, rfl, hb, hcell⟩ := h4 (by have := pow_pos' hs (2 * r + 1).toNat; omega)
  have HTc := hid hcell
  have HBt := hid hb
  have HM := hid hM
  rw [← hM] at HRd ⊢
  have HR := hid hr
  have HLL := hid hL
  obtain ⟨r1, r2⟩ := hr
  clear hv hl ha hL hS h4 hcell hb hM
  go_enter Try.func7, Try.ntmps7
  go_wp2_with fail
  obtain ⟨w1, hW⟩ : ∃ w1, w1 = w.alloc (Obj.cells #[.int .i64 s, .int .i64 r, .slice (some ⟨bt, off, none⟩) M cap] 29) := ⟨_, rfl⟩
  obtain ⟨N, hN⟩ : ∃ N, N = w.heap.size := ⟨_, rfl⟩
  have b1 : Below w.heap.size w w1 := by rw [hW]; exact below1 _ _
  have k0 : w1.cell? ⟨N, 0, none⟩ = some (.int .i64 s) := by rw [hW, hN]; simp
  have k1 : w1.cell? ⟨N, 1, none⟩ = some (.int .i64 r) := by rw [hW, hN]; simp
  have k2 : w1.cell? ⟨N, 2, none⟩ = some (.slice (some ⟨bt, off, none⟩) M cap) := by rw [hW, hN]; simp
  simp only [← hW, ← hN]
  clear hW hN
  go_wp2_with fail
  go_at_call 15
  refine (implValid (HRd.out.keep b1 (Nat.le_refl _))).mono ?_
  rw [HV.out]
  rintro e w2 ⟨rfl, bel0⟩
  have c1 := (bel0.cell (World.block_lt_of_cell? _ _ k1)).trans k1
  have HNl : Hid (N < w2.heap.size) := Nat.lt_of_lt_of_le (World.block_lt_of_cell? _ _ k0) bel0.size
  have HC : Hid (w2.cell? ⟨N, 0, none⟩ = some (.int .i64 s) ∧ w2.cell? ⟨N, 2, none⟩ = some (.slice (some ⟨bt, off, none⟩) M cap)) := ⟨(bel0.cell (World.block_lt_of_cell? _ _ k0)).trans k0, (bel0.cell (World.block_lt_of_cell? _ _ k2)).trans k2⟩
  have HB2 := hid (b1.trans (bel0.mono b1.size))
  have HTb : Hid (∀ i, i < M → w2.cell? ⟨bt, off + i, none⟩ = some (.int .i64 (tbl.getD i 0))) := fun i hi => (HB2.out.cell (p := ⟨bt, off + i, none⟩) HBt.out).trans (HTc.out i (by have := HM.out; omega))
  have HTl : Hid (bt < w2.heap.size) := Nat.lt_of_lt_of_le HBt.out HB2.out.size
  have HC1 := hid c1
  have c0 := HC.out.1
  have c2 := HC.out.2
  clear b1 k0 k1 k2 bel0 c1
  go_wp2_with fail
  clear c0 c2
  go_loopw [4, 5, 18] (fun c a i wr => ∃ x : Nat, x ≤ M ∧ i = .int .i64 x ∧ (∃ cN aN : Nat, c = .int .i64 (cN : Int) ∧ a = .int .i64 (aN : Int) ∧ Hid (cN = C3 s tbl L S x) ∧ Hid (aN = A3 s L S x)) ∧ Below w2.heap.size w2 wr) (fun _ _ i _ => M - (intOf i).toNat)
  case atStart => exact ⟨0, Nat.zero_le _, rfl, ⟨0, 0, rfl, rfl, rfl, rfl⟩, Below.refl _ _⟩
  case round =>
    obtain ⟨x, hx, rfl, ⟨cN, aN, rfl, rfl, hcN, haN⟩, bel⟩ := hrel
    by_cases hxM : x < M
    · have hxi : (x : Int) < (M : Int) := by omega
      have hxb : (x : Int) ≤ 243 := by omega
      have hwx : wrap64 (x : Int) = (x : Int) := wrap_id (by omega) (by omega)
      obtain ⟨t2, ht2⟩ : ∃ t, t = tbl.getD x 0 := ⟨_, rfl⟩
      have q2 : wr.cell? ⟨bt, off + x, none⟩ = some (.int .i64 t2) := by rw [ht2]; exact (bel.cell (p := ⟨bt, off + x, none⟩) HTl.out).trans (HTb.out x hxM)
      have st7 : Below w2.heap.size w2 wr ∧ wr.cell? ⟨N, 0, none⟩ = some (.int .i64 s) ∧ wr.cell? ⟨N, 1, none⟩ = some (.int .i64 r) ∧ wr.cell? ⟨N, 2, none⟩ = some (.slice (some ⟨bt, off, none⟩) M cap) ∧ w2.heap.size ≤ wr.heap.size := ⟨bel, (bel.cell (p := ⟨N, 0, none⟩) HNl.out).trans HC.out.1, (bel.cell (p := ⟨N, 1, none⟩) HNl.out).trans HC1.out, (bel.cell (p := ⟨N, 2, none⟩) HNl.out).trans HC.out.2, bel.size⟩
      have HT2 := hid ht2
      have hHB0 := bel.size
      clear bel ht2
      go_wp2_with fail
      refine wp_region_held_drew (S := (fun ww => Below w2.heap.size w2 ww ∧ ww.cell? ⟨N, 0, none⟩ = some (.int .i64 s) ∧ ww.cell? ⟨N, 1, none⟩ = some (.int .i64 r) ∧ ww.cell? ⟨N, 2, none⟩ = some (.slice (some ⟨bt, off, none⟩) M cap) ∧ w2.heap.size ≤ ww.heap.size)) (by kernel_rfl) ?_ (fun hHeld => ?_)
      · ((try dsimp only); exact drew3_0 st7)
      (refine wpAnyH_take (i := 0) (v := ?_) rfl ?_ ?_ ?_ (fun _ _ _ h => h) (Or.inl ⟨?_, ?_⟩) ?_ ?_; rotate_left 1; (focus decide +kernel); (focus decide +kernel); (focus decide +kernel); (focus rfl); (focus (intro w hSw; (try dsimp only at hSw); go_simp; (try (with_reducible rfl)); done)); (focus assumption); (try simp only [Act.put, List.setIfInBounds_toArray, List.set_cons_zero, List.set_cons_succ, List.getElem_toArray, List.getElem_cons_succ, List.getElem_cons_zero]))
      (refine wpAnyH_take (i := 1) (v := ?_) rfl ?_ ?_ ?_ (fun _ _ _ h => h) (Or.inl ⟨?_, ?_⟩) ?_ ?_; rotate_left 1; (focus decide +kernel); (focus decide +kernel); (focus decide +kernel); (focus rfl); (focus (intro w hSw; (try dsimp only at hSw); go_simp; (try (with_reducible rfl)); done)); (focus assumption); (try simp only [Act.put, List.setIfInBounds_toArray, List.set_cons_zero, List.set_cons_succ, List.getElem_toArray, List.getElem_cons_succ, List.getElem_cons_zero]))
      (refine wpAnyH_take (i := 2) (v := ?_) rfl ?_ ?_ ?_ (fun _ _ _ h => h) (Or.inl ⟨?_, ?_⟩) ?_ ?_; rotate_left 1; (focus decide +kernel); (focus decide +kernel); (focus decide +kernel); (focus rfl); (focus (intro w hSw; (try dsimp only at hSw); go_simp; (try (with_reducible rfl)); done)); (focus assumption); (try simp only [Act.put, List.setIfInBounds_toArray, List.set_cons_zero, List.set_cons_succ, List.getElem_toArray, List.getElem_cons_succ, List.getElem_cons_zero]))
      (refine wpAnyH_take (i := 3) (v := ?_) rfl ?_ ?_ ?_ (fun _ _ _ h => h) (Or.inl ⟨?_, ?_⟩) ?_ ?_; rotate_left 1; (focus decide +kernel); (focus decide +kernel); (focus decide +kernel); (focus rfl); (focus (intro w hSw; (try dsimp only at hSw); go_simp; (try (with_reducible rfl)); done)); (focus assumption); (try simp only [Act.put, List.setIfInBounds_toArray, List.set_cons_zero, List.set_cons_succ, List.getElem_toArray, List.getElem_cons_succ, List.getElem_cons_zero]))
      refine wpAnyH_ready (rs := [4]) ?_ (by simp) ?_
      · decide +kernel
      refine AllReadyH.cons rfl (fun K hK => ?_) AllReadyH.nil
      go_simp
      go_at_call 17
      refine (shapeOf).mono ?_
      rintro e wq ⟨rfl, bel⟩
      refine hK.out _ _ ?_ (fun hHeld2 => ?_)
      · (try dsimp only); exact next3_0 bel hHeld
      clear hK K hHeld bel
      have hHeld := hHeld2
      clear hHeld2
      (try simp only [Act.put, List.setIfInBounds_toArray, List.set_cons_zero, List.set_cons_succ, List.getElem_toArray, List.getElem_cons_succ, List.getElem_cons_zero])
      refine wpAnyH_ready (rs := [5]) ?_ (by simp) ?_
      · decide +kernel
      refine AllReadyH.cons rfl (fun K hK => ?_) AllReadyH.nil
      go_simp
      go_at_call 18
      refine (wideL HR.out HLL.out).mono ?_
      rintro e wq ⟨rfl, bel⟩
      refine hK.out _ _ ?_ (fun hHeld2 => ?_)
      · (try dsimp only); exact next3_0 bel hHeld
      clear hK K hHeld bel
      have hHeld := hHeld2
      clear hHeld2
      (try simp only [Act.put, List.setIfInBounds_toArray, List.set_cons_zero, List.set_cons_succ, List.getElem_toArray, List.getElem_cons_succ, List.getElem_cons_zero])
      refine wpAnyH_ready (rs := [6]) ?_ (by simp) ?_
      · decide +kernel
      refine AllReadyH.cons rfl (fun K hK => ?_) AllReadyH.nil
      go_simp
      go_at_call 16
      refine (implDigits HS.out (by omega) (by have := HL3.out; omega)).mono ?_
      rw [dig_length, Int.toNat_natCast]
      rintro e wq ⟨bd, rfl, od, lo, bel⟩
      refine hK.out _ _ ?_ (fun hHeld2 => ?_)
      · (try dsimp only); exact next3_0 bel hHeld
      have hsz := Nat.le_trans hHeld.2.2.2.2 lo
      clear hK K hHeld bel
      have hHeld := hHeld2
      clear hHeld2
      (try simp only [Act.put, List.setIfInBounds_toArray, List.set_cons_zero, List.set_cons_succ, List.getElem_toArray, List.getElem_cons_succ, List.getElem_cons_zero])
      (refine wpAnyH_take (i := 7) (v := ?_) rfl ?_ ?_ ?_ (fun _ _ _ h => h) (Or.inl ⟨?_, ?_⟩) ?_ ?_; rotate_left 1; (focus decide +kernel); (focus decide +kernel); (focus decide +kernel); (focus rfl); (focus (intro w hSw; (try dsimp only at hSw); go_simp; (try (with_reducible rfl)); done)); (focus assumption); (try simp only [Act.put, List.setIfInBounds_toArray, List.set_cons_zero, List.set_cons_succ, List.getElem_toArray, List.getElem_cons_succ, List.getElem_cons_zero]))
      refine wpAnyH_done (by kernel_rfl) ?_ _
      have HBq := hid hHeld.1
      clear hHeld st7
      clear q2
      obtain ⟨ds, hds⟩ : ∃ ds, ds = dig s x L := ⟨_, rfl⟩
      have hdl : ds.length = L := by rw [hds, dig_length]
      have hda : allB ds s = true := by rw [hds]; exact dig_all HS.out _ _
      have HDS := hid hds
      have HDL := hid hdl
      have HDA := hid hda
      rw [← hds] at od
      have HBD : Hid (w2.heap.size ≤ bd) := hsz
      have HOd := hid od
      clear od hds hdl hda lo hHB0 hsz
      go_wp2
      go_loopw [4, 5, 32] (fun c a i wr => ∃ k : Nat, k ≤ L ∧ i = .int .i64 k ∧ (∃ cN aN : Nat, c = .int .i64 (cN : Int) ∧ a = .int .i64 (aN : Int) ∧ Hid (cN = C3 s tbl L S x + C2 s tbl L S x k) ∧ Hid (aN = A3 s L S x + A2 s L S x k)) ∧ Own 2 wr bd (.slice (some ⟨bd, 0, none⟩) L L) ds ∧ Below w2.heap.size w2 wr) (fun _ _ i _ => L - (intOf i).toNat)
      case atStart => exact ⟨0, Nat.zero_le _, rfl, ⟨cN, aN, rfl, rfl, by rw [hcN.out]; rfl, by rw [haN.out]; rfl⟩, HOd.out, HBq.out⟩
      case round =>
        clear hcN haN HBq HOd
        obtain ⟨k, hk, rfl, ⟨cN, aN, rfl, rfl, hcN, haN⟩, own, bel⟩ := hrel
        by_cases hkL : k < L
        · have hki : (k : Int) < (L : Int) := by omega
          have d0 := (bel.cell (p := ⟨N, 0, none⟩) HNl.out).trans HC.out.1
          have hox := own.cell (i := k) (by have := HDL.out; omega)
          obtain ⟨y, hy⟩ : ∃ y, y = ds.getD k 0 := ⟨_, rfl⟩
          rw [← hy] at hox
          have HY := hid hy
          have HB := hid bel
          have HOw := hid own
          clear bel own hy
          go_wp2
          clear d0 hox
          go_loopw [4, 5, 39] (fun c a i wr => ∃ n : Nat, n ≤ S ∧ i = .int .i64 n ∧ (∃ cN aN : Nat, c = .int .i64 (cN : Int) ∧ a = .int .i64 (aN : Int) ∧ Hid (cN = C3 s tbl L S x + C2 s tbl L S x k + C1 s tbl L x k n) ∧ Hid (aN = A3 s L S x + A2 s L S x k + A1 s L x k n)) ∧ (∃ u : Int, Own 2 wr bd (.slice (some ⟨bd, 0, none⟩) L L) (ds.set k u)) ∧ Below w2.heap.size w2 wr) (fun _ _ i _ => S - (intOf i).toNat)
          case atStart => exact ⟨0, Nat.zero_le _, rfl, ⟨cN, aN, rfl, rfl, by rw [hcN.out]; rfl, by rw [haN.out]; rfl⟩, ⟨y, by rw [HY.out, set_same (by have := HDL.out; omega)]; exact HOw.out⟩, HB.out⟩
          case round =>
            clear hcN haN HB HOw
            obtain ⟨n, hn, rfl, ⟨cN, aN, rfl, rfl, hcN, haN⟩, ⟨u, own⟩, bel⟩ := hrel
            have hbd := bounds (s := s) (tbl := tbl) HL3.out.2 (show S ≤ 3 by have := HSS.out; omega) HM2.out hxM hkL hn
            rw [← hcN.out, ← haN.out] at hbd
            have hcb : (cN : Int) ≤ 10000 := by omega
            have hab : (aN : Int) ≤ 10000 := by omega
            have hln : (ds.set k u).length = L := by rw [List.length_set]; exact HDL.out
            have hof := own.free k
            have hox := own.cell (i := k) (by omega)
            obtain ⟨z, hz⟩ : ∃ z, z = (ds.set k u).getD k 0 := ⟨_, rfl⟩
            rw [← hz] at hox
            have HB := hid bel
            have HOw := hid own
            have d0 := (bel.cell (p := ⟨N, 0, none⟩) HNl.out).trans HC.out.1
            clear bel own hbd hln hz
            by_cases hnS : n < S
            · have hni : (n : Int) < s := by have := HSS.out; omega
              have hdC : dC s tbl L x k n = if y = (n : Int) then 0 else if tbl.getD (numL (ds.set k (n : Int)) s).toNat 0 = tbl.getD x 0 then 0 else 1 := by rw [HY.out, HDS.out]; rfl
              have hdA : dA s L x k n = if y = (n : Int) then 0 else 1 := by rw [HY.out, HDS.out]; rfl
              by_cases he : y = (n : Int)
              · rw [if_pos he] at hdC hdA
                have hyb : ((n : Int) == y) = true := by simpa using he.symm
                have hcx : Hid (cN = C3 s tbl L S x + C2 s tbl L S x k + C1 s tbl L x k (n + 1)) := by simp only [Hid]; rw [hcN.out]; simp only [C1, su]; omega
                have hax : Hid (aN = A3 s L S x + A2 s L S x k + A1 s L x k (n + 1)) := by simp only [Hid]; rw [haN.out]; simp only [A1, su]; omega
                clear he hdC hdA hof hox
                go_wp2
                go_roundw
                case rel => exact ⟨n + 1, by omega, by go_num, ⟨cN, aN, rfl, rfl, hcx, hax⟩, ⟨u, HOw.out⟩, HB.out⟩
                case measure => simp [intOf]; omega
              · rw [if_neg he] at hdC hdA
                have hyb : ((n : Int) == y) = false := by simpa using fun e => he e.symm
                have o6 := HOw.out.set k (n : Int)
                rw [List.set_set] at o6
                have B6 := HB.out.setCell (p := ⟨bd, k, none⟩) HBD.out (.int .i64 (n : Int))
                have hal := all_set HDA.out (y := (n : Int)) (by have := HSS.out; omega) k
                obtain ⟨zs, hzs⟩ : ∃ zs, zs = ds.set k (n : Int) := ⟨_, rfl⟩
                have hzl : zs.length = L := by rw [hzs, List.length_set]; exact HDL.out
                rw [← hzs] at o6 hal hdC
                obtain ⟨w6, hw6⟩ : ∃ w6, w6 = wr.setCell ⟨bd, k, none⟩ (.int .i64 (n : Int)) := ⟨_, rfl⟩
                rw [← hw6] at o6 B6
                obtain ⟨mi, hmm⟩ : ∃ mi : Nat, numL zs s = mi := ⟨_, (Int.toNat_of_nonneg (numL_bd HS.out hal).1).symm⟩
                have hnb := (numL_bd HS.out hal).2
                rw [hzl, ← HLen.out] at hnb
                rw [hmm, Int.toNat_natCast] at hdC
                obtain ⟨t1, ht1⟩ : ∃ t, t = tbl.getD mi 0 := ⟨_, rfl⟩
                rw [← ht1, ← HT2.out] at hdC
                have HT1 : Hid (tbl.getD (numL zs s).toNat 0 = t1) := by simp only [Hid]; rw [hmm, Int.toNat_natCast, ht1]
                have q0 : w6.cell? ⟨N, 0, none⟩ = some (.int .i64 s) := (B6.cell (p := ⟨N, 0, none⟩) HNl.out).trans HC.out.1
                have q1 : w6.cell? ⟨N, 1, none⟩ = some (.int .i64 r) := (B6.cell (p := ⟨N, 1, none⟩) HNl.out).trans HC1.out
                have q2 : w6.cell? ⟨N, 2, none⟩ = some (.slice (some ⟨bt, off, none⟩) M cap) := (B6.cell (p := ⟨N, 2, none⟩) HNl.out).trans HC.out.2
                have q0' := q0
                have q1' := q1
                have q2' := q2
                rw [hw6] at q0' q1' q2'
                have HA1 : Hid (aN + 1 = A3 s L S x + A2 s L S x k + A1 s L x k (n + 1)) := by simp only [Hid]; rw [haN.out]; simp only [A1, su]; omega
                have HdC := hid hdC
                have HZs := hid hzs
                have HB6 := hid B6
                have HO6 := hid o6
                have HRd6 : Hid (Rd w6 bd (.slice (some ⟨bd, 0, none⟩) L L) zs) := o6.rd
                have HZl : Hid (zs.length ≤ 16) := by have := HL3.out; simp only [Hid]; omega
                have HAl := hid hal
                have HNb := hid hnb
                have HRt : Hid (Rd w6 bt (.slice (some ⟨bt, off, none⟩) M cap) tbl) := (HRd.out.keep HB2.out (Nat.le_refl _)).keep B6 (Nat.le_refl _)
                clear he hdC hdA hzs hzl hmm hnb hal ht1 o6 B6 d0
                go_wp2_with fail
                simp only [← hw6]
                clear hw6 q0' q1' q2'
                go_at_call 19
                refine (Told.toldOf HRt.out HRd6.out HS.out HZl.out HAl.out HNb.out).mono ?_
                rw [HT1.out]
                rintro e w7 ⟨rfl, bel7⟩
                have HB7 := hid (HB6.out.trans (bel7.mono HB6.out.size))
                have HO7 := hid (HO6.out.keep bel7)
                clear bel7 q0 q1 q2 hof hox
                by_cases ht : t1 = t2
                · have hcx : Hid (cN = C3 s tbl L S x + C2 s tbl L S x k + C1 s tbl L x k (n + 1)) := by
                    have h1 := HdC.out
                    rw [if_pos ht] at h1
                    simp only [Hid]; rw [hcN.out]; simp only [C1, su]; omega
                  have htb : (t1 != t2) = false := by simpa using ht
                  clear ht
                  go_wp2
                  go_roundw
                  case rel => exact ⟨n + 1, by omega, by go_num, ⟨cN, aN + 1, rfl, by go_num, hcx, HA1⟩, ⟨(n : Int), by rw [← HZs.out]; exact HO7.out⟩, HB7.out⟩
                  case measure => simp [intOf]; omega
                · have hcx : Hid (cN + 1 = C3 s tbl L S x + C2 s tbl L S x k + C1 s tbl L x k (n + 1)) := by
                    have h1 := HdC.out
                    rw [if_neg ht] at h1
                    simp only [Hid]; rw [hcN.out]; simp only [C1, su]; omega
                  have htb : (t1 != t2) = true := by simpa using ht
                  clear ht
                  go_wp2
                  go_roundw
                  case rel => exact ⟨n + 1, by omega, by go_num, ⟨cN + 1, aN + 1, by go_num, by go_num, hcx, HA1⟩, ⟨(n : Int), by rw [← HZs.out]; exact HO7.out⟩, HB7.out⟩
                  case measure => simp [intOf]; omega
            · have hnS2 : n = S := by omega
              have hni : ¬ (n : Int) < s := by have := HSS.out; omega
              have hcx : Hid (cN = C3 s tbl L S x + C2 s tbl L S x (k + 1)) := by simp only [Hid]; rw [hcN.out, hnS2]; simp only [C2, su]; omega
              have hax : Hid (aN = A3 s L S x + A2 s L S x (k + 1)) := by simp only [Hid]; rw [haN.out, hnS2]; simp only [A2, su]; omega
              have HO8 : Hid (Own 2 (wr.setCell ⟨bd, k, none⟩ (.int .i64 y)) bd (.slice (some ⟨bd, 0, none⟩) L L) ds) := by
                have o6 := HOw.out.set k y
                rw [List.set_set, HY.out, set_same (by have := HDL.out; omega), ← HY.out] at o6
                exact o6
              clear hnS2
              go_wp2
              go_roundw
              case rel => exact ⟨k + 1, by omega, by go_num, ⟨cN, aN, rfl, rfl, hcx, hax⟩, HO8.out, HB.out.setCell (p := ⟨bd, k, none⟩) HBD.out _⟩
              case measure => simp [intOf]; omega
        · have hkL2 : k = L := by omega
          have hki : ¬ (k : Int) < (L : Int) := by omega
          have hcx : Hid (cN = C3 s tbl L S (x + 1)) := by simp only [Hid]; rw [hcN.out, hkL2]; simp only [C3, su]
          have hax : Hid (aN = A3 s L S (x + 1)) := by simp only [Hid]; rw [haN.out, hkL2]; simp only [A3, su]
          have HB := hid bel
          clear bel hkL2 own
          go_wp2
          go_roundw
          case rel => exact ⟨x + 1, by omega, by go_num, ⟨cN, aN, rfl, rfl, hcx, hax⟩, HB.out⟩
          case measure => simp [intOf]; omega
    · have hxM2 : x = M := by omega
      subst hxM2
      have hxi : ¬ (x : Int) < (x : Int) := by omega
      have HI := int_is cN
      have HJ := int_is aN
      have e1 := C3_le s tbl L S x
      have e2 := A3_le s L S x
      have g1 : x * (L * S) ≤ 243 * (5 * 3) := Nat.mul_le_mul (by omega) (Nat.mul_le_mul HL3.out.2 (show S ≤ 3 by have := HSS.out; omega))
      rw [← hcN.out] at e1
      rw [← haN.out] at e2
      have hwc : wrap64 (cN : Int) = (cN : Int) := wrap_id (by omega) (by omega)
      have hwa : wrap64 (aN : Int) = (aN : Int) := wrap_id (by omega) (by omega)
      have hs3 : (Try.prog.underlying 2).isSome = true := by kernel_rfl
      have hd3 := Try.underlying26
      have HB := hid (HB2.out.trans (bel.mono HB2.out.size))
      clear e1 e2 g1 bel
      go_wp2_with (refine wpList_fop rfl .quo _ _ _ _ rfl _ _ _ rfl rfl rfl HI HJ ?_; intro r1 m1 h1)
      go_ret2
      exact ⟨_, rfl, by rw [← hcN.out, ← haN.out]; exact h1, HB.out.trans (Spec.below_drewN' _ _ _)⟩

end Go.Proofs.Ytffcaffhkleclaa.SenI
