/- SenseOf of the model. -/
import Derived.Test.YtffcaffhkleclaaSen
namespace Go.Proofs.Ytffcaffhkleclaa.SenS
open Go.RowKit Go.Proofs.Ytffcaffhkleclaa.Rd Go.Proofs.Ytffcaffhkleclaa.Help Go.Proofs.Ytffcaffhkleclaa.Ring Go.Proofs.Ytffcaffhkleclaa.Small Go.Proofs.Ytffcaffhkleclaa.Num Go.Proofs.Ytffcaffhkleclaa.Keep Go.Proofs.Ytffcaffhkleclaa.Rule Go.Proofs.Ytffcaffhkleclaa.Dig Go.Proofs.Ytffcaffhkleclaa.DigP Go.Proofs.Ytffcaffhkleclaa.Fl Go.Proofs.Ytffcaffhkleclaa.Sen
set_option linter.unusedVariables false
set_option linter.unusedSimpArgs false

theorem idxS {w : World} {b : Nat} {v : Value} {zs : List Int} {s : Int} {mi : Nat} (h : Rd w b v zs) (hs : 2 ≤ s ∧ s ≤ 3) (hl : zs.length ≤ 16) (ha : allB zs s = true) (hm : numL zs s = mi) :
    Calls Try.prog 13 #[v, .int .i64 s] w fun e w' => e = .returned (.int .i64 mi) ∧ w' = w := by
  rw [← hm]; exact (specIndex h hs hl ha).mono fun _ _ ⟨he, hw⟩ => ⟨he, hw.symm⟩
set_option maxHeartbeats 16000000 in
set_option maxRecDepth 100000 in
theorem specOk {w : World} {s r : Int} {bt S L M : Nat} {vt : Value} {tbl : List Int} (h : Rd w bt vt tbl) (hv : validB s r tbl = true) (hS : (S : Int) = s) (hL : (L : Int) = 2 * r + 1) (hM : M = tbl.length) :
    Calls Try.prog 5 #[ruleV s r vt] w fun e w' => ∃ q, e = .returned (.tuple #[.float .f32 q, .bool true]) ∧ Is .f32 q (fop .quo .f32 (some (floatOfInt .f32 (C3 s tbl L S M : Nat))) (some (floatOfInt .f32 (A3 s L S M : Nat)))) ∧ Below w.heap.size w w' := by
  have HV := hid hv
  obtain ⟨hs, hr, hl, ha⟩ := Al.valid_parts hv
  have HRd := hid h
  have HS := hid hs
  have HSS := hid hS
  have HLen : Hid ((tbl.length : Int) = s ^ L) := by simp only [Hid]; rw [hl]; congr 1 <;> omega
  have HL3 : Hid (1 ≤ L ∧ L ≤ 5) := by simp only [Hid]; omega
  have hM2 : M ≤ 243 := by have := (pow_bd hs (show (2 * r + 1).toNat ≤ 5 by omega)).2; omega
  have HM2 := hid hM2
  have hLe : 2 * r + 1 = (L : Int) := by omega
  have hs2 : s ≤ 3 := hs.2
  obtain ⟨ao, cap, rfl, _, _, h4⟩ := h
  obtain ⟨off, rfl, hb, hcell⟩ := h4 (by have := pow_pos' hs (2 * r + 1).toNat; omega)
  have HTc := hid hcell
  have HBt := hid hb
  have HM := hid hM
  rw [← hM] at HRd ⊢
  obtain ⟨r1, r2⟩ := hr
  clear hv hl ha hL hS h4 hcell hb hM
  go_enter Try.func5, Try.ntmps5
  go_wp2_with fail
  obtain ⟨w1, hW⟩ : ∃ w1, w1 = w.alloc (Obj.cells #[.int .i64 s, .int .i64 r, .slice (some ⟨bt, off, none⟩) M cap] 29) := ⟨_, rfl⟩
  obtain ⟨N, hN⟩ : ∃ N, N = w.heap.size := ⟨_, rfl⟩
  have b1 : Below w.heap.size w w1 := by rw [hW]; exact below1 _ _
  have k0 : w1.cell? ⟨N, 0, none⟩ = some (.int .i64 s) := by rw [hW, hN]; simp
  have k1 : w1.cell? ⟨N, 1, none⟩ = some (.int .i64 r) := by rw [hW, hN]; simp
  have k2 : w1.cell? ⟨N, 2, none⟩ = some (.slice (some ⟨bt, off, none⟩) M cap) := by rw [hW, hN]; simp
  simp only [← hW, ← hN]
  clear hW hN
  go_at_call 11
  refine (Spec.is (s := s) (r := r) (HRd.out.keep b1 (Nat.le_refl _)) k0 k1 k2).mono ?_
  rw [HV.out]
  rintro e w2 ⟨rfl, mm, hw2⟩
  have bel0 : Below w1.heap.size w1 w2 := by rw [hw2]; exact Spec.below_drewN' _ _ _
  have c1 := (bel0.cell (World.block_lt_of_cell? _ _ k1)).trans k1
  have HNl : Hid (N < w2.heap.size) := Nat.lt_of_lt_of_le (World.block_lt_of_cell? _ _ k0) bel0.size
  have HC : Hid (w2.cell? ⟨N, 0, none⟩ = some (.int .i64 s) ∧ w2.cell? ⟨N, 2, none⟩ = some (.slice (some ⟨bt, off, none⟩) M cap)) := ⟨(bel0.cell (World.block_lt_of_cell? _ _ k0)).trans k0, (bel0.cell (World.block_lt_of_cell? _ _ k2)).trans k2⟩
  have HB2 := hid (b1.trans (bel0.mono b1.size))
  have HTb : Hid (∀ i, i < M → w2.cell? ⟨bt, off + i, none⟩ = some (.int .i64 (tbl.getD i 0))) := fun i hi => (HB2.out.cell (p := ⟨bt, off + i, none⟩) HBt.out).trans (HTc.out i (by have := HM.out; omega))
  have HTl : Hid (bt < w2.heap.size) := Nat.lt_of_lt_of_le HBt.out HB2.out.size
  clear b1 k0 k1 k2 hw2 bel0
  go_wp2
  clear c1
  go_loopw [5, 6, 7] (fun c a i wr => ∃ x : Nat, x ≤ M ∧ i = .int .i64 x ∧ (∃ cN aN : Nat, c = .int .i64 (cN : Int) ∧ a = .int .i64 (aN : Int) ∧ Hid (cN = C3 s tbl L S x) ∧ Hid (aN = A3 s L S x)) ∧ Below w2.heap.size w2 wr) (fun _ _ i _ => M - (intOf i).toNat)
  case atStart => exact ⟨0, Nat.zero_le _, rfl, ⟨0, 0, rfl, rfl, rfl, rfl⟩, Below.refl _ _⟩
  case round =>
    obtain ⟨x, hx, rfl, ⟨cN, aN, rfl, rfl, hcN, haN⟩, bel⟩ := hrel
    have d0 := (bel.cell (p := ⟨N, 0, none⟩) HNl.out).trans HC.out.1
    have d2 := (bel.cell (p := ⟨N, 2, none⟩) HNl.out).trans HC.out.2
    by_cases hxM : x < M
    · have hxi : (x : Int) < (M : Int) := by omega
      have hxb : (x : Int) ≤ 243 := by omega
      have HB := hid bel
      clear bel
      go_wp2
      clear d0 d2
      go_loopw [5, 6, 8] (fun c a i wr => ∃ k : Nat, k ≤ L ∧ i = .int .i64 k ∧ (∃ cN aN : Nat, c = .int .i64 (cN : Int) ∧ a = .int .i64 (aN : Int) ∧ Hid (cN = C3 s tbl L S x + C2 s tbl L S x k) ∧ Hid (aN = A3 s L S x + A2 s L S x k)) ∧ Below w2.heap.size w2 wr) (fun _ _ i _ => L - (intOf i).toNat)
      case atStart => exact ⟨0, Nat.zero_le _, rfl, ⟨cN, aN, rfl, rfl, by rw [hcN.out]; rfl, by rw [haN.out]; rfl⟩, HB.out⟩
      case round =>
        clear hcN haN HB
        obtain ⟨k, hk, rfl, ⟨cN, aN, rfl, rfl, hcN, haN⟩, bel⟩ := hrel
        have d0 := (bel.cell (p := ⟨N, 0, none⟩) HNl.out).trans HC.out.1
        have d2 := (bel.cell (p := ⟨N, 2, none⟩) HNl.out).trans HC.out.2
        by_cases hkL : k < L
        · have hki : (k : Int) < (L : Int) := by omega
          have HB := hid bel
          clear bel
          go_wp2
          clear d0 d2
          go_loopw [5, 6, 9] (fun c a i wr => ∃ n : Nat, n ≤ S ∧ i = .int .i64 n ∧ (∃ cN aN : Nat, c = .int .i64 (cN : Int) ∧ a = .int .i64 (aN : Int) ∧ Hid (cN = C3 s tbl L S x + C2 s tbl L S x k + C1 s tbl L x k n) ∧ Hid (aN = A3 s L S x + A2 s L S x k + A1 s L x k n)) ∧ Below w2.heap.size w2 wr) (fun _ _ i _ => S - (intOf i).toNat)
          case atStart => exact ⟨0, Nat.zero_le _, rfl, ⟨cN, aN, rfl, rfl, by rw [hcN.out]; rfl, by rw [haN.out]; rfl⟩, HB.out⟩
          case round =>
            clear hcN haN HB
            obtain ⟨n, hn, rfl, ⟨cN, aN, rfl, rfl, hcN, haN⟩, bel⟩ := hrel
            have d0 := (bel.cell (p := ⟨N, 0, none⟩) HNl.out).trans HC.out.1
            have d2 := (bel.cell (p := ⟨N, 2, none⟩) HNl.out).trans HC.out.2
            have hbd := bounds (s := s) (tbl := tbl) HL3.out.2 (show S ≤ 3 by have := HSS.out; omega) HM2.out hxM hkL hn
            rw [← hcN.out, ← haN.out] at hbd
            have hcb : (cN : Int) ≤ 10000 := by omega
            have hab : (aN : Int) ≤ 10000 := by omega
            have HB := hid bel
            clear bel hbd
            by_cases hnS : n < S
            · have hni : (n : Int) < s := by have := HSS.out; omega
              go_wp2_with fail
              go_at_call 12
              refine (specDigits HS.out (by omega) (by have := HL3.out; omega)).mono ?_
              rw [dig_length, Int.toNat_natCast]
              rintro e w5 ⟨bd, rfl, od, lo, bel5⟩
              have B5 := HB.out.trans (bel5.mono HB.out.size)
              have hbd : w2.heap.size ≤ bd := Nat.le_trans HB.out.size lo
              obtain ⟨ds, hds⟩ : ∃ ds, ds = dig s x L := ⟨_, rfl⟩
              have hdl : ds.length = L := by rw [hds, dig_length]
              have hda : allB ds s = true := by rw [hds]; exact dig_all HS.out _ _
              rw [← hds] at od
              have hox := od.cell (i := k) (by omega)
              have hof := od.free k
              obtain ⟨y, hy⟩ : ∃ y, y = ds.getD k 0 := ⟨_, rfl⟩
              rw [← hy] at hox
              have hdC : dC s tbl L x k n = if y = (n : Int) then 0 else if tbl.getD (numL (ds.set k (n : Int)) s).toNat 0 = tbl.getD x 0 then 0 else 1 := by rw [hy, hds]; rfl
              have hdA : dA s L x k n = if y = (n : Int) then 0 else 1 := by rw [hy, hds]; rfl
              by_cases he : y = (n : Int)
              · rw [if_pos he] at hdC hdA
                have hyb : (y == (n : Int)) = true := by simpa using he
                have hcx : Hid (cN = C3 s tbl L S x + C2 s tbl L S x k + C1 s tbl L x k (n + 1)) := by simp only [Hid]; rw [hcN.out]; simp only [C1, su]; omega
                have hax : Hid (aN = A3 s L S x + A2 s L S x k + A1 s L x k (n + 1)) := by simp only [Hid]; rw [haN.out]; simp only [A1, su]; omega
                have HB5 := hid B5
                clear he hdC hdA hds hdl hda hy od lo bel5 B5 hof d0 d2
                go_wp2
                go_roundw
                case rel => exact ⟨n + 1, by omega, by go_num, ⟨cN, aN, rfl, rfl, hcx, hax⟩, HB5.out⟩
                case measure => simp [intOf]; omega
              · rw [if_neg he] at hdC hdA
                have hyb : (y == (n : Int)) = false := by simpa using he
                have o6 := od.set k (n : Int)
                have B6 := B5.setCell (p := ⟨bd, k, none⟩) hbd (.int .i64 (n : Int))
                have hal := all_set hda (y := (n : Int)) (by have := HSS.out; omega) k
                obtain ⟨zs, hzs⟩ : ∃ zs, zs = ds.set k (n : Int) := ⟨_, rfl⟩
                have hzl : zs.length = L := by rw [hzs, List.length_set, hdl]
                rw [← hzs] at o6 hal hdC
                obtain ⟨w6, hw6⟩ : ∃ w6, w6 = w5.setCell ⟨bd, k, none⟩ (.int .i64 (n : Int)) := ⟨_, rfl⟩
                rw [← hw6] at o6 B6
                obtain ⟨mi, hmm⟩ : ∃ mi : Nat, numL zs s = mi := ⟨_, (Int.toNat_of_nonneg (numL_bd HS.out hal).1).symm⟩
                have hnb := (numL_bd HS.out hal).2
                rw [hzl, ← HLen.out, hmm] at hnb
                have hml : mi < M := by have := HM.out; omega
                have hmi : (mi : Int) < (M : Int) := by omega
                rw [hmm, Int.toNat_natCast] at hdC
                obtain ⟨t1, ht1⟩ : ∃ t, t = tbl.getD mi 0 := ⟨_, rfl⟩
                obtain ⟨t2, ht2⟩ : ∃ t, t = tbl.getD x 0 := ⟨_, rfl⟩
                have q1 : w6.cell? ⟨bt, off + mi, none⟩ = some (.int .i64 t1) := by rw [ht1]; exact (B6.cell (p := ⟨bt, off + mi, none⟩) HTl.out).trans (HTb.out mi hml)
                have q2 : w6.cell? ⟨bt, off + x, none⟩ = some (.int .i64 t2) := by rw [ht2]; exact (B6.cell (p := ⟨bt, off + x, none⟩) HTl.out).trans (HTb.out x hxM)
                have q3 : w6.cell? ⟨N, 0, none⟩ = some (.int .i64 s) := (B6.cell (p := ⟨N, 0, none⟩) HNl.out).trans HC.out.1
                have q4 : w6.cell? ⟨N, 2, none⟩ = some (.slice (some ⟨bt, off, none⟩) M cap) := (B6.cell (p := ⟨N, 2, none⟩) HNl.out).trans HC.out.2
                rw [← ht1, ← ht2] at hdC
                have HA1 : Hid (aN + 1 = A3 s L S x + A2 s L S x k + A1 s L x k (n + 1)) := by simp only [Hid]; rw [haN.out]; simp only [A1, su]; omega
                have HdC := hid hdC
                have HIX : Hid (∀ q : Nat, Calls Try.prog 13 #[.slice (some ⟨bd, 0, none⟩) L L, .int .i64 s] (w6.drewN q) fun e w' => e = .returned (.int .i64 mi) ∧ w' = w6.drewN q) := fun q => idxS (w := w6.drewN q) (zs := zs) (b := bd) (show Rd w6 bd _ zs from o6.rd) HS.out (by have := HL3.out; omega) hal hmm
                have HB6 := hid B6
                clear he hdC hdA hds hdl hda hy od lo bel5 B5 B6 hbd hal hzs hzl hmm hnb hml ht1 ht2 o6 d0 d2
                go_wp2_with fail
                simp only [← hw6]
                clear hw6
                go_quiet ((go_at_call 13; refine Calls.quiet_of_same (HIX.out _)))
                by_cases ht : t1 = t2
                · have hcx : Hid (cN = C3 s tbl L S x + C2 s tbl L S x k + C1 s tbl L x k (n + 1)) := by
                    have h1 := HdC.out
                    rw [if_pos ht] at h1
                    simp only [Hid]; rw [hcN.out]; simp only [C1, su]; omega
                  have htb : (t1 != t2) = false := by simpa using ht
                  clear ht
                  go_wp2
                  go_roundw
                  case rel => exact ⟨n + 1, by omega, by go_num, ⟨cN, aN + 1, rfl, by go_num, hcx, HA1⟩, HB6.out.trans (Spec.below_drewN' _ _ _)⟩
                  case measure => simp [intOf]; omega
                · have hcx : Hid (cN + 1 = C3 s tbl L S x + C2 s tbl L S x k + C1 s tbl L x k (n + 1)) := by
                    have h1 := HdC.out
                    rw [if_neg ht] at h1
                    simp only [Hid]; rw [hcN.out]; simp only [C1, su]; omega
                  have htb : (t1 != t2) = true := by simpa using ht
                  clear ht
                  go_wp2
                  go_roundw
                  case rel => exact ⟨n + 1, by omega, by go_num, ⟨cN + 1, aN + 1, by go_num, by go_num, hcx, HA1⟩, HB6.out.trans (Spec.below_drewN' _ _ _)⟩
                  case measure => simp [intOf]; omega
            · have hnS2 : n = S := by omega
              have hni : ¬ (n : Int) < s := by have := HSS.out; omega
              have hcx : Hid (cN = C3 s tbl L S x + C2 s tbl L S x (k + 1)) := by simp only [Hid]; rw [hcN.out, hnS2]; simp only [C2, su]; omega
              have hax : Hid (aN = A3 s L S x + A2 s L S x (k + 1)) := by simp only [Hid]; rw [haN.out, hnS2]; simp only [A2, su]; omega
              clear hnS2
              go_wp2
              go_roundw
              case rel => exact ⟨k + 1, by omega, by go_num, ⟨cN, aN, rfl, rfl, hcx, hax⟩, HB.out⟩
              case measure => simp [intOf]; omega
        · have hkL2 : k = L := by omega
          have hki : ¬ (k : Int) < (L : Int) := by omega
          have hcx : Hid (cN = C3 s tbl L S (x + 1)) := by simp only [Hid]; rw [hcN.out, hkL2]; simp only [C3, su]
          have hax : Hid (aN = A3 s L S (x + 1)) := by simp only [Hid]; rw [haN.out, hkL2]; simp only [A3, su]
          have HB := hid bel
          clear bel hkL2
          go_wp2
          go_roundw
          case rel => exact ⟨x + 1, by omega, by go_num, ⟨cN, aN, rfl, rfl, hcx, hax⟩, HB.out⟩
          case measure => simp [intOf]; omega
    · have hxM2 : x = M := by omega
      subst hxM2
      have hxi : ¬ (x : Int) < (x : Int) := by omega
      have HI := int_is cN
      have HJ := int_is aN
      have e1 := C3_le s tbl L S x
      have e2 := A3_le s L S x
      have g1 : x * (L * S) ≤ 243 * (5 * 3) := Nat.mul_le_mul (by omega) (Nat.mul_le_mul HL3.out.2 (show S ≤ 3 by have := HSS.out; omega))
      rw [← hcN.out] at e1
      rw [← haN.out] at e2
      have hwc : wrap64 (cN : Int) = (cN : Int) := wrap_id (by omega) (by omega)
      have hwa : wrap64 (aN : Int) = (aN : Int) := wrap_id (by omega) (by omega)
      have hs3 : (Try.prog.underlying 2).isSome = true := by kernel_rfl
      have hd3 := Try.underlying26
      have HB := hid (HB2.out.trans (bel.mono HB2.out.size))
      clear e1 e2 g1 bel
      go_wp2_with (refine wpList_fop rfl .quo _ _ _ _ rfl _ _ _ rfl rfl rfl HI HJ ?_; intro r1 m1 h1)
      go_ret2
      exact ⟨_, rfl, by rw [← hcN.out, ← haN.out]; exact h1, HB.out.trans (Spec.below_drewN' _ _ _)⟩

end Go.Proofs.Ytffcaffhkleclaa.SenS
