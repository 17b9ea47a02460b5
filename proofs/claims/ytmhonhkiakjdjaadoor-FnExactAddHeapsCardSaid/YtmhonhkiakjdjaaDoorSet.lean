/- spec.l04Settle: heaps that fall, the model. -/
import Derived.Test.YtmhonhkiakjdjaaDoorHeb
import Derived.Test.YtmhonhkiakjdjaaDoorSOwn
import Derived.StillTailTactics
import Derived.Deep.Cut
namespace Go.Proofs.YtmhonhkiakjdjaaDoor.Set
open Go.RowKit Go.Proofs.YtmhonhkiakjdjaaDoor.Rd Go.Proofs.YtmhonhkiakjdjaaDoor.Help Go.Proofs.YtmhonhkiakjdjaaDoor.Small Go.Proofs.YtmhonhkiakjdjaaDoor.FVal Go.Proofs.YtmhonhkiakjdjaaDoor.Keep Go.Proofs.YtmhonhkiakjdjaaDoor.Rule Go.Proofs.YtmhonhkiakjdjaaDoor.Grow Go.Proofs.YtmhonhkiakjdjaaDoor.Sbe Go.Proofs.YtmhonhkiakjdjaaDoor.Sfi Go.Proofs.YtmhonhkiakjdjaaDoor.FMir Go.Proofs.YtmhonhkiakjdjaaDoor.Hea Go.Proofs.YtmhonhkiakjdjaaDoor.Heb
set_option linter.unusedVariables false
set_option linter.unusedSimpArgs false

theorem l00Min {w : World} {a b : Nat} (ha : a ≤ 1000000) (hb : b ≤ 1000000) :
    Calls Tryd.prog 55 #[.int .i64 (a : Int), .int .i64 (b : Int)] w fun e w' => e = .returned (.int .i64 ((min a b : Nat) : Int)) ∧ w = w' := by
  by_cases h : a < b
  · have hi : (a : Int) < (b : Int) := by omega
    have hm : min a b = a := by omega
    rw [hm]
    clear hm h
    go_enter Tryd.func55, Tryd.ntmps55
    go_wp2
    go_ret
    exact ⟨rfl, rfl⟩
  · have hi : ¬ (a : Int) < (b : Int) := by omega
    have hi2 : (b : Int) ≤ (a : Int) := by omega
    have hm : min a b = b := by omega
    rw [hm]
    clear hm h hi
    go_enter Tryd.func55, Tryd.ntmps55
    go_wp2
    go_ret
    exact ⟨rfl, rfl⟩
theorem take_one {L : List Nat} {i : Nat} (h : i < L.length) : L.take (i + 1) = L.take i ++ [L.getD i 0] := by
  rw [List.take_add_one, List.getElem?_eq_getElem h, List.getD_eq_getElem?_getD, List.getElem?_eq_getElem h]; rfl
theorem take_mem {L : List Nat} {i x : Nat} (h : x ∈ L.take i) : x ∈ L := List.mem_of_mem_take h
theorem cell_bd {n : Nat} {T : Int} {y : List Int} {a x : Nat} {L : List Nat} (hg : Hgd n T y) (h4 : 4 ≤ y.getD a 0) (ha : a < n) (hL : ∀ z ∈ L, z < n) (hlen : L.length ≤ 4) :
    0 ≤ (addAll (y.set a (y.getD a 0 - 4)) L).getD x 0 ∧ (addAll (y.set a (y.getD a 0 - 4)) L).getD x 0 ≤ T + 4 := by
  have hs : (y.set a (y.getD a 0 - 4)).length = n := by rw [List.length_set, hg.1]
  rw [addAll_get x L _ (fun z hz => by rw [hs]; exact hL z hz), getD_set]
  have h1 := hg.le x
  have h2 := hg.le a
  have h3 : L.count x ≤ L.length := List.count_le_length
  have hay : a < y.length := by rw [hg.1]; exact ha
  by_cases hx : x = a
  · rw [if_pos ⟨hx, hay⟩]; omega
  · rw [if_neg (fun e => hx e.1)]; omega
theorem meas {M j n a a2 : Nat} (hj : j < M) (ha : a ≤ n) (ha2 : a2 ≤ n) : (M - (j + 1)) * (n + 1) + (n - a2) < (M - j) * (n + 1) + (n - a) := by
  obtain ⟨d, hd⟩ : ∃ d, M - j = d + 1 := ⟨M - j - 1, by omega⟩
  rw [show M - (j + 1) = d by omega, hd, Nat.succ_mul]
  omega

set_option maxHeartbeats 8000000 in
theorem l04Settle {w : World} {N R C n MM : Nat} {T : Int} {b : Nat} {v : Value} {zs : List Int} (k0 : w.cell? ⟨N, 0, none⟩ = some (.int .i64 R)) (k1 : w.cell? ⟨N, 1, none⟩ = some (.int .i64 C)) (k2 : w.cell? ⟨N, 2, none⟩ = some v) (h : Rd w b v zs) (hR : 1 ≤ R ∧ R ≤ 24) (hC : 1 ≤ C ∧ C ≤ 24) (hn : n = R * C) (hgd : Hgd n T zs) (hT : T ≤ 20000) (hMM : MM ≤ 100000000) (hN : hv (hseq R C zs MM) = n) (hj : ∀ j, j < MM → hv (hseq R C zs j) < n) :
    Calls Tryd.prog 39 #[.pointer (some ⟨N, 0, none⟩)] w fun e w' => ∃ b' k, e = .returned (.tuple #[ruleV R C (.slice (some ⟨b', 0, none⟩) n k), .int .i64 (MM : Int)]) ∧ Rd.Own 2 w' b' (.slice (some ⟨b', 0, none⟩) n k) (hseq R C zs MM) ∧ w.heap.size ≤ b' ∧ Below w.heap.size w w' := by
  have hle : n ≤ 576 := by rw [hn]; exact Nat.le_trans (Nat.mul_le_mul hR.2 hC.2) (by decide)
  have hpos : 0 < n := by rw [hn]; exact Nat.mul_pos hR.1 hC.1
  have HHv := hid h
  have HL : Hid (zs.length = n) := hgd.1
  have HZ : Hid (1 ≤ zs.length ∧ zs.length ≤ 1048576) := by simp only [Hid]; rw [HL.out]; omega
  have HK := hid (And.intro k0 (And.intro k1 k2))
  have HN := hid hn
  have HGD : Hid (∀ j, j ≤ MM → Hgd n T (hseq R C zs j)) := hseq_good hC.1 hn hgd hj
  have HE := hid (And.intro hN hj)
  have hn5 : 1 ≤ n ∧ n ≤ 576 := by omega
  have hNw : N < w.heap.size := World.block_lt_of_cell? w _ k0
  have HNw := hid hNw
  clear hn hpos hle k0 k1 k2 hNw h hgd hN hj
  go_enter Tryd.func39, Tryd.ntmps39
  go_wp2_with fail
  obtain ⟨w1, hW⟩ : ∃ w1, w1 = w.alloc (Obj.cells #[.int .i64 0, .int .i64 0, .slice none 0 0] 26) := ⟨_, rfl⟩
  obtain ⟨NT, hTt⟩ : ∃ NT, NT = w.heap.size := ⟨_, rfl⟩
  have bw : Below w.heap.size w w1 := by rw [hW]; exact below1 _ _
  have kT : w1.heap[NT]? = some (Obj.cells #[.int .i64 0, .int .i64 0, .slice none 0 0] 26) := by rw [hW]; exact FNew.heap_top hTt
  have HNT : Hid (w.heap.size ≤ NT) := by simp only [Hid]; omega
  simp only [← hW, ← hTt]
  clear hW hTt
  go_at_call 26
  refine (SOwn.l04Own (cell_keep bw HK.out.1) (cell_keep bw HK.out.2.1) (cell_keep bw HK.out.2.2) (HHv.out.keep bw (Nat.le_refl _)) HZ.out).mono ?_
  rw [HL.out]
  rintro e w2 ⟨b', k, rfl, ow, lo, hk1, hk2, bel⟩
  have HNTb : Hid (NT ≠ b') := Nat.ne_of_lt (Nat.lt_of_lt_of_le (Sfi.heap_lt kT) lo)
  have HLO : Hid (w.heap.size ≤ b') := Nat.le_trans bw.size lo
  replace kT := Sfi.heap_keep bel kT
  have HB2 := hid (bw.trans (bel.mono bw.size))
  have HOW := hid ow
  have HKT := hid kT
  have hk5 : n ≤ k ∧ k ≤ 9223372036854775807 := by unfold maxLen at hk2; omega
  clear bel bw lo ow kT hk1 hk2
  go_wp2_with fail
  obtain ⟨w4, hW⟩ : ∃ w4, w4 = w2.alloc (Obj.cells #[.int .i64 R, .int .i64 C, .slice (some ⟨b', 0, none⟩) n k] 26) := ⟨_, rfl⟩
  obtain ⟨NX, hN⟩ : ∃ NX, NX = w2.heap.size := ⟨_, rfl⟩
  have bel : Below w2.heap.size w2 w4 := by rw [hW]; exact below1 _ _
  have HKX : Hid (w4.heap[NX]? = some (Obj.cells #[.int .i64 R, .int .i64 C, .slice (some ⟨b', 0, none⟩) n k] 26)) := by simp only [Hid]; rw [hW]; exact FNew.heap_top hN
  have HWb : Hid (NX ≠ b') := by simp only [Hid]; rw [hN]; exact Nat.ne_of_gt HOW.out.lt
  have HKT4 := hid (Sfi.heap_keep bel HKT.out)
  have HOW4 := hid (HOW.out.keep bel)
  have HB4 := hid (HB2.out.trans (bel.mono HB2.out.size))
  have HNb : Hid (N ≠ b') := Nat.ne_of_lt (Nat.lt_of_lt_of_le HNw.out HLO.out)
  simp only [← hW, ← hN]
  clear hW hN bel HKT HOW HB2
  go_loopw [5, 6] (fun c t wr => ∃ j a : Nat, j ≤ MM ∧ a ≤ n ∧ c = .int .i64 (j : Int) ∧ t = .int .i64 (a : Int) ∧ w4.grownBy wr (some b') ∧ Rd.Own 2 wr b' (.slice (some ⟨b', 0, none⟩) n k) (hseq R C zs j) ∧ ∀ i, i < a → (hseq R C zs j).getD i 0 < 4) (fun c t _ => (MM - (intOf c).toNat) * (n + 1) + (n - (intOf t).toNat))
  case atStart => exact ⟨0, 0, Nat.zero_le _, Nat.zero_le _, rfl, rfl, g_refl _ _, HOW4.out, fun i hi => by omega⟩
  case round =>
    obtain ⟨j, a, hj, ha, rfl, rfl, hg, hown, hlight⟩ := hrel
    have HG := hid hg
    have HOW := hid hown
    have HLI := hid hlight
    have HBW := hid (g_below HB4.out hg HLO.out)
    have HY := hid (HGD.out j hj)
    have x2 : wr.cell? ⟨NX, 2, none⟩ = some (.slice (some ⟨b', 0, none⟩) n k) := g_cell HG.out (Go.Joins.cell_of_block HKX.out 2) HWb.out
    clear hg hown hlight
    by_cases hlt : a < n
    · obtain ⟨z, hz⟩ : ∃ z, z = (hseq R C zs j).getD a 0 := ⟨_, rfl⟩
      have oc : wr.cell? ⟨b', a, none⟩ = some (.int .i64 z) := by rw [hz]; exact HOW.out.cell (by rw [HY.out.1]; exact hlt)
      have of := HOW.out.free a
      have hzb : 0 ≤ z ∧ z ≤ 20000 := by rw [hz]; have := HY.out.le a; omega
      have HZZ := hid hz
      clear hz
      by_cases h4 : z < 4
      · go_wp2
        go_roundw
        case rel =>
          refine ⟨j, a + 1, hj, by omega, rfl, by go_num, HG.out, HOW.out, fun i hi => ?_⟩
          by_cases hia : i = a
          · rw [hia, ← HZZ.out]; exact h4
          · exact HLI.out i (by omega)
        case measure => simp [intOf]; omega
      · have h4' : 4 ≤ z := by omega
        have h4i : ¬ z < 4 := h4
        have HV : Hid (hv (hseq R C zs j) = a) := hv_eq (by rw [HY.out.1]; exact hlt) (by rw [← HZZ.out]; exact h4') HLI.out
        have hjM : j < MM := by
          rcases Nat.lt_or_ge j MM with h | h
          · exact h
          · have hjj : j = MM := by omega
            have h1 := HE.out.1
            rw [← hjj, HV.out] at h1
            omega
        clear h4
        go_upto_region 9 with fail
        obtain ⟨w5, hw5⟩ : ∃ w5, w5 = wr.setCell ⟨b', a, none⟩ (.int .i64 (z - 4)) := ⟨_, rfl⟩
        have qo := HOW.out.set a (z - 4)
        have qg := g_set HG.out a (.int .i64 (z - 4))
        rw [← hw5] at qo qg
        simp only [← hw5]
        have HO5 := hid qo
        have HG5 := hid qg
        have HB5 := hid (g_below HB4.out qg HLO.out)
        clear hw5 qo qg x2 oc of
        go_wp2_with fail
        go_at_call 54
        refine (Sbe.l04Beside (cell_keep HB5.out HK.out.1) (cell_keep HB5.out HK.out.2.1) hR hC (by have := HN.out; omega)).mono ?_
        rintro e w6 ⟨vs, bs, rfl, ows, los, bel⟩
        have HG6 := hid (g_bel HG5.out bel)
        have HO6 := hid (HO5.out.keep bel)
        have HBb : Hid (bs ≠ b') := Nat.ne_of_gt (Nat.lt_of_lt_of_le HO5.out.lt los)
        obtain ⟨aos, caps, hvs, hcs, hms, h4s⟩ := ows.rd
        rw [ints_len] at hvs hcs h4s
        obtain ⟨LL, hLL⟩ : ∃ LL, LL = sbL R C a := ⟨_, rfl⟩
        obtain ⟨L, hL⟩ : ∃ L, L = LL.length := ⟨_, rfl⟩
        rw [← hLL, ← hL] at hvs hcs h4s
        subst hvs
        have hms5 : caps ≤ 9223372036854775807 := by unfold maxLen at hms; omega
        have hL4 : L ≤ 4 := by rw [hL, hLL]; exact sbL_len _ _ _
        have HLn : Hid (∀ x ∈ LL, x < n) := fun x hx => by
          rw [hLL] at hx
          have h1 := sb_mem hC.1 (by have := HN.out; omega) hx
          have := HN.out; omega
        have HLL := hid hLL
        have HLE := hid hL
        have HS := hid h4s
        clear bel ows los hL h4s hLL
        go_wp2
        go_loopw [6, 8] (fun t i wx => ∃ q a2 : Nat, q ≤ L ∧ a2 ≤ a ∧ i = .int .i64 (q : Int) ∧ t = .int .i64 (a2 : Int) ∧ w6.grownBy wx (some b') ∧ Rd.Own 2 wx b' (.slice (some ⟨b', 0, none⟩) n k) (addAll ((hseq R C zs j).set a (z - 4)) (LL.take q)) ∧ ∀ x ∈ LL.take q, a2 ≤ x) (fun _ i _ => L - (intOf i).toNat)
        case atStart => exact ⟨0, a, Nat.zero_le _, Nat.le_refl _, rfl, rfl, g_refl _ _, HO6.out, fun x hx => by simp at hx⟩
        case round =>
          obtain ⟨q, a2, hq, ha2, rfl, rfl, hg2, hown2, hmin⟩ := hrel
          have HGx := hid hg2
          have HG2 := hid (g_trans HG6.out hg2)
          have HOW2 := hid hown2
          have HBW2 := hid (g_below HB4.out HG2.out HLO.out)
          have HMI := hid hmin
          clear hg2 hown2 hmin
          by_cases hlt2 : q < L
          · obtain ⟨offs, hao, hbs, hcells⟩ := HS.out (by omega)
            subst hao
            obtain ⟨x, hx⟩ : ∃ x, x = LL.getD q 0 := ⟨_, rfl⟩
            have hqL : q < LL.length := by rw [← HLE.out]; exact hlt2
            have hxm : x ∈ LL := by rw [hx, List.getD_eq_getElem?_getD, List.getElem?_eq_getElem hqL]; exact List.getElem_mem hqL
            have hxn : x < n := HLn.out x hxm
            have hgx : (ints LL).getD q 0 = (x : Int) := by rw [hx]; simp [ints, List.getD_eq_getElem?_getD, hqL]
            have sc : wr.cell? ⟨bs, offs + q, none⟩ = some (.int .i64 (x : Int)) := g_cell HGx.out (by rw [← hgx, HLL.out]; rw [HLL.out] at hcells; exact hcells q hlt2) HBb.out
            have HCs : Hid (∀ i, i < L → w6.cell? ⟨bs, offs + i, none⟩ = some (.int .i64 ((ints (sbL R C a)).getD i 0))) := by rw [← HLL.out]; exact hcells
            have hcb := cell_bd (x := x) HY.out (by rw [← HZZ.out]; exact h4') hlt (L := LL.take q) (fun y hy => HLn.out y (take_mem hy)) (by rw [List.length_take]; omega)
            rw [← HZZ.out] at hcb
            obtain ⟨c, hc⟩ : ∃ c, c = (addAll ((hseq R C zs j).set a (z - 4)) (LL.take q)).getD x 0 := ⟨_, rfl⟩
            rw [← hc] at hcb
            have hlen2 : (addAll ((hseq R C zs j).set a (z - 4)) (LL.take q)).length = n := by rw [addAll_len, List.length_set, HY.out.1]
            have oc : wr.cell? ⟨b', x, none⟩ = some (.int .i64 c) := by rw [hc]; exact HOW2.out.cell (by rw [hlen2]; exact hxn)
            have of := HOW2.out.free x
            have x2 : wr.cell? ⟨NX, 2, none⟩ = some (.slice (some ⟨b', 0, none⟩) n k) := g_cell HG2.out (Go.Joins.cell_of_block HKX.out 2) HWb.out
            have HCc := hid hc
            have HX := hid hx
            have HQL := hid hqL
            have hcb2 : 0 ≤ c ∧ c ≤ 20004 := by omega
            have hxi : (x : Int) < (n : Int) := by omega
            clear hx hgx hqL hcells hbs hc hlen2 hcb hxm
            go_upto_region 13 with fail
            go_still_tail 10, (by kernel_rfl)
            change wpList _ _ _ _ _ wr.drew
            have ocd : wr.drew.cell? ⟨b', x, none⟩ = some (.int .i64 c) := oc
            have ofd : wr.drew.frozen? ⟨b', x, none⟩ = false := of
            have scd : wr.drew.cell? ⟨bs, offs + q, none⟩ = some (.int .i64 (x : Int)) := sc
            obtain ⟨wd, hwd⟩ : ∃ wd, wd = wr.drew := ⟨_, rfl⟩
            have HG3 : Hid (w6.grownBy wd (some b')) := by simp only [Hid]; rw [hwd]; exact g_drew HGx.out
            have HO3 : Hid (Rd.Own 2 wd b' (.slice (some ⟨b', 0, none⟩) n k) (addAll ((hseq R C zs j).set a (z - 4)) (LL.take q))) := by simp only [Hid]; rw [hwd]; exact HOW2.out
            rw [← hwd] at ocd ofd scd ⊢
            clear hwd oc of sc x2
            go_upto_region 14 with fail
            obtain ⟨w7, hw7⟩ : ∃ w7, w7 = wd.setCell ⟨b', x, none⟩ (.int .i64 (c + 1)) := ⟨_, rfl⟩
            have qo := HO3.out.set x (c + 1)
            have qg := g_set HG3.out x (.int .i64 (c + 1))
            have qs : w7.cell? ⟨bs, offs + q, none⟩ = some (.int .i64 (x : Int)) := by rw [hw7]; exact set_cell scd HBb.out
            rw [← hw7] at qo qg
            simp only [← hw7]
            have HQ := hid (And.intro qo qg)
            clear hw7 qo qg ocd ofd scd
            go_wp2_with fail
            go_at_call 55
            refine (l00Min (a := a2) (b := x) (by omega) (by omega)).mono ?_
            rintro e w8 ⟨rfl, rfl⟩
            clear qs
            go_wp2
            go_roundw
            case rel =>
              refine ⟨q + 1, min a2 x, by omega, Nat.le_trans (Nat.min_le_left _ _) ha2, by go_num, rfl, HQ.out.2, ?_, fun y hy => ?_⟩
              · rw [take_one HQL.out, ← HX.out, addAll_snoc]
                show Rd.Own 2 _ b' _ (List.set _ x (_ + 1))
                rw [← HCc.out]
                exact HQ.out.1
              · rw [take_one HQL.out, ← HX.out] at hy
                rcases List.mem_append.1 hy with hy | hy
                · exact Nat.le_trans (Nat.min_le_left _ _) (HMI.out y hy)
                · have : y = x := by simpa using hy
                  rw [this]; exact Nat.min_le_right _ _
            case measure => simp [intOf]; omega
          · have hqe : q = L := by omega
            subst hqe
            have HT : Hid (LL.take q = LL) := by simp only [Hid]; rw [HLE.out]; exact List.take_length
            have HS1 : Hid (hseq R C zs (j + 1) = addAll ((hseq R C zs j).set a (z - 4)) LL) := by
              show topple (hseq R C zs j) (hv (hseq R C zs j)) (sbL R C (hv (hseq R C zs j))) = _
              rw [HV.out, ← HLL.out, HZZ.out]; rfl
            go_wp2
            go_roundw
            case rel =>
              refine ⟨j + 1, a2, by omega, by omega, by go_num, rfl, HG2.out, ?_, fun i hi => ?_⟩
              · rw [HS1.out, ← HT.out]; exact HOW2.out
              · rw [HS1.out, addAll_get i LL _ (fun y hy => by rw [List.length_set, HY.out.1]; exact HLn.out y hy), getD_set]
                have hne : ¬ i = a := by omega
                rw [if_neg (fun e => hne e.1), List.count_eq_zero.2 (fun hm => by have := HMI.out i (by rw [HT.out]; exact hm); omega)]
                have := HLI.out i (by omega)
                simpa using this
            case measure =>
              have := meas (n := n) (a := a) (a2 := a2) hjM ha (by omega)
              simpa [intOf] using this
    · have han : a = n := by omega
      have hjM : j = MM := by
        rcases Nat.lt_or_ge j MM with h | h
        · have h1 := HE.out.2 j h
          have h2 := hv_none (y := hseq R C zs j) (fun i hi => HLI.out i (by rw [HY.out.1] at hi; omega))
          rw [h2, HY.out.1] at h1
          omega
        · omega
      subst hjM
      have HLo : Hid (w.heap.size ≤ b') := HLO.out
      have x0 : wr.cell? ⟨NX, 0, none⟩ = some (.int .i64 R) := g_cell HG.out (Go.Joins.cell_of_block HKX.out 0) HWb.out
      have x1 : wr.cell? ⟨NX, 1, none⟩ = some (.int .i64 C) := g_cell HG.out (Go.Joins.cell_of_block HKX.out 1) HWb.out
      have kT := g_heap HG.out HKT4.out HNTb.out
      have HNB : Hid (NT ≠ b') := HNTb.out
      have HB : Hid (Below w.heap.size w wr) := HBW.out
      subst han
      have y0 : wr.cell? ⟨NT, 0, none⟩ = some (.int .i64 0) := Go.Joins.cell_of_block kT 0
      have y1 : wr.cell? ⟨NT, 1, none⟩ = some (.int .i64 0) := Go.Joins.cell_of_block kT 1
      have y2 : wr.cell? ⟨NT, 2, none⟩ = some (.slice none 0 0) := Go.Joins.cell_of_block kT 2
      have g0 : wr.frozen? ⟨NT, 0, none⟩ = false := Go.Joins.unfrozen_of_block kT 0
      have g1 : wr.frozen? ⟨NT, 1, none⟩ = false := Go.Joins.unfrozen_of_block kT 1
      have g2 : wr.frozen? ⟨NT, 2, none⟩ = false := Go.Joins.unfrozen_of_block kT 2
      have HKx := hid kT
      clear kT
      go_wp2
      obtain ⟨W5, hW⟩ : ∃ W5, W5 = (((wr.setCell ⟨NT, 0, none⟩ (.int .i64 R)).setCell ⟨NT, 1, none⟩ (.int .i64 C)).setCell ⟨NT, 2, none⟩ (.slice (some ⟨b', 0, none⟩) a k)) := ⟨_, rfl⟩
      have q0 := (Go.Joins.block_setCell (i := 2) (Go.Joins.block_setCell (i := 1) (Go.Joins.block_setCell (i := 0) HKx.out (.int .i64 R)) (.int .i64 C)) (.slice (some ⟨b', 0, none⟩) a k))
      rw [← hW] at q0
      have z0 : W5.cell? ⟨NT, 0, none⟩ = some (.int .i64 R) := Go.Joins.cell_of_block q0 0
      have z1 : W5.cell? ⟨NT, 1, none⟩ = some (.int .i64 C) := Go.Joins.cell_of_block q0 1
      have z2 : W5.cell? ⟨NT, 2, none⟩ = some (.slice (some ⟨b', 0, none⟩) a k) := Go.Joins.cell_of_block q0 2
      have O5 := (own_set (own_set (own_set HOW.out ⟨NT, 0, none⟩ (.int .i64 R) HNB.out) ⟨NT, 1, none⟩ (.int .i64 C) HNB.out) ⟨NT, 2, none⟩ (.slice (some ⟨b', 0, none⟩) a k) HNB.out)
      rw [← hW] at O5
      have B5 : Below w.heap.size w W5 := by
        have h1 := HNT.out
        rw [hW]
        exact ((HB.out.setCell (by simp; omega) _).setCell (by simp; omega) _).setCell (by simp; omega) _
      simp only [← hW]
      clear hW q0
      simp [bodyPost, results, Tryd.results39, go_sem, z0, z1, z2]
      exact ⟨b', k, ⟨rfl, rfl⟩, O5, HLo.out, B5⟩

end Go.Proofs.YtmhonhkiakjdjaaDoor.Set
