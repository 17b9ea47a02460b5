/- Words that come behind steps: spec.l03Come. -/
import Derived.Test.YtbnndbciimfciaaCwR
import Derived.Test.YtbnndbciimfciaaCwC
namespace Go.Proofs.Ytbnndbciimfciaa.CwO
open Go.RowKit Go.Proofs.Ytbnndbciimfciaa.Rd Go.Proofs.Ytbnndbciimfciaa.Help Go.Proofs.Ytbnndbciimfciaa.Ring Go.Proofs.Ytbnndbciimfciaa.Small Go.Proofs.Ytbnndbciimfciaa.Num Go.Proofs.Ytbnndbciimfciaa.Keep Go.Proofs.Ytbnndbciimfciaa.Rule Go.Proofs.Ytbnndbciimfciaa.Dig Go.Proofs.Ytbnndbciimfciaa.DigP Go.Proofs.Ytbnndbciimfciaa.CwP Go.Proofs.Ytbnndbciimfciaa.CwI Go.Proofs.Ytbnndbciimfciaa.CwR Go.Proofs.Ytbnndbciimfciaa.CwC Go.Proofs.Ytbnndbciimfciaa.Few Go.Proofs.Ytbnndbciimfciaa.Rdb
set_option linter.unusedVariables false
set_option linter.unusedSimpArgs false

theorem comeNo {w : World} {s : Int} {R n T A g : Nat} (hs : 2 ≤ s ∧ s ≤ 3) (hn : 1 ≤ n ∧ n ≤ 12 ∧ T ≤ 4 ∧ R ≤ 2) (hA : A = n + 2 * R * T) (hf : ¬ Few s A) (c0 : w.cell? ⟨g, 0, none⟩ = some (.int .i64 s)) (c1 : w.cell? ⟨g, 1, none⟩ = some (.int .i64 (R : Int))) :
    Calls Try.prog 17 #[.pointer (some ⟨g, 0, none⟩), .int .i64 (n : Int), .int .i64 (T : Int)] w fun e w' => e = .returned (.slice none 0 0) ∧ w = w' := by
  obtain ⟨Q, hQ⟩ : ∃ Q, Q = 2 * R * T := ⟨_, rfl⟩
  have hQi : 2 * (R : Int) * (T : Int) = (Q : Int) := by rw [hQ]; simp
  have hQ16 : Q ≤ 16 := by rw [hQ]; exact Nat.le_trans (Nat.mul_le_mul (Nat.mul_le_mul (Nat.le_refl 2) hn.2.2.2) hn.2.2.1) (by decide)
  have HW4 : Hid (wrap64 (Q : Int) = (Q : Int)) := wrap_id (by omega) (by omega)
  have hnQ : (n : Int) + (Q : Int) = (A : Int) := by omega
  have HW3 : Hid (wrap64 ((n : Int) + (Q : Int)) = (A : Int)) := by simp only [Hid]; rw [hnQ]; exact wrap_id (by omega) (by omega)
  have hR2 : R ≤ 2 := hn.2.2.2
  have hf2 : s = 2 ∧ 14 < A ∨ s = 3 ∧ 9 < A := by unfold Few at hf; omega
  clear hnQ hQ hf hn hA hs
  have hw3 := HW3.out
  have hw4 := HW4.out
  rcases hf2 with ⟨rfl, h⟩ | ⟨rfl, h⟩
  · have hgt : (14 : Int) < (A : Int) := by omega
    go_enter Try.func17, Try.ntmps17
    go_wp2
    go_ret
    exact ⟨rfl, rfl⟩
  · have hgt : (9 : Int) < (A : Int) := by omega
    go_enter Try.func17, Try.ntmps17
    go_wp2
    go_ret
    exact ⟨rfl, rfl⟩

set_option maxHeartbeats 8000000 in
set_option maxRecDepth 100000 in
theorem comeOk {w : World} {s : Int} {R n T A g bt : Nat} {vt : Value} {tbl : List Int} (hk : Ok tbl s (R : Int)) (ht : Rd w bt vt tbl) (hn : 1 ≤ n ∧ T ≤ 4) (hA : A = n + 2 * R * T) (hf : Few s A) (c0 : w.cell? ⟨g, 0, none⟩ = some (.int .i64 s)) (c1 : w.cell? ⟨g, 1, none⟩ = some (.int .i64 (R : Int))) (c2 : w.cell? ⟨g, 2, none⟩ = some vt) :
    Calls Try.prog 17 #[.pointer (some ⟨g, 0, none⟩), .int .i64 (n : Int), .int .i64 (T : Int)] w fun e w' => ∃ bC, e = .returned (.slice (some ⟨bC, 0, none⟩) (pw s n) (pw s n)) ∧ OwnB 4 w' bC (.slice (some ⟨bC, 0, none⟩) (pw s n) (pw s n)) (lo (pw s n) (cm tbl s (R : Int) A T)) ∧ Below w.heap.size w w' := by
  have HK := hid hk
  have HT := hid ht
  have HF := hid hf
  have hs := hk.st
  have hr := hk.re
  have hR2 : R ≤ 2 := by omega
  have hA16 := few16 hf
  have hg : g < w.heap.size := World.block_lt_of_cell? w _ c0
  have HG : Hid (∀ W : World, Below w.heap.size w W → W.cell? ⟨g, 0, none⟩ = some (.int .i64 s) ∧ W.cell? ⟨g, 1, none⟩ = some (.int .i64 (R : Int)) ∧ W.cell? ⟨g, 2, none⟩ = some vt) := fun W hb => ⟨(hb.cell (p := ⟨g, 0, none⟩) hg).trans c0, (hb.cell (p := ⟨g, 1, none⟩) hg).trans c1, (hb.cell (p := ⟨g, 2, none⟩) hg).trans c2⟩
  obtain ⟨Q, hQ⟩ : ∃ Q, Q = 2 * R * T := ⟨_, rfl⟩
  have hQi : 2 * (R : Int) * (T : Int) = (Q : Int) := by rw [hQ]; simp
  have HQ : Hid (A = n + Q ∧ Q = 2 * R * T ∧ A ≤ 16 ∧ R ≤ 2 ∧ 1 ≤ n ∧ T ≤ 4) := ⟨by rw [hA, hQ], hQ, hA16, hR2, hn.1, hn.2⟩
  have hQ20 : Q ≤ 16 := by have := HQ.out; omega
  have HW4 : Hid (wrap64 (Q : Int) = (Q : Int)) := wrap_id (by omega) (by omega)
  have hnQ : (n : Int) + (Q : Int) = (A : Int) := by have := HQ.out; omega
  have HW3 : Hid (wrap64 ((n : Int) + (Q : Int)) = (A : Int)) := by simp only [Hid]; rw [hnQ]; exact wrap_id (by omega) (by omega)
  have HFn : Hid (Few s n) := few_le hf (by have := HQ.out; omega)
  have HPA : Hid (1 ≤ pw s A ∧ pw s A ≤ 19683) := few_bd hf
  have hPn := few_bd HFn.out
  obtain ⟨Pn, hPnd⟩ : ∃ Pn, Pn = pw s n := ⟨_, rfl⟩
  have HPn := hid hPnd
  rw [← hPnd] at hPn ⊢
  have hmk := run_make_row' (P := Try.prog) 41 4 (.bool false) 1 Try.underlying41 infoB rfl .i64 .i64 Pn (by omega) (by omega)
  have HMK := hid hmk
  have hcm : ∀ j, (∃ k' : Nat, k' < pw s A ∧ numN s (iterW tbl s (R : Int) T (dig s (k' : Int) A)) = j) ↔ cm tbl s (R : Int) A T j := fun j => Iff.rfl
  have hf2 : s = 2 ∧ A ≤ 14 ∨ s = 3 ∧ A ≤ 9 := hf
  have hn16 : n ≤ 16 := by have := HQ.out; omega
  clear hnQ hQ hQ20 hA hn hs hr hg hPnd hmk ht hf
  have hw3 := HW3.out
  have hw4 := HW4.out
  have key : Calls Try.prog 17 #[.pointer (some ⟨g, 0, none⟩), .int .i64 (n : Int), .int .i64 (T : Int)] w fun e w' => ∃ bC, e = .returned (.slice (some ⟨bC, 0, none⟩) Pn Pn) ∧ OwnB 4 w' bC (.slice (some ⟨bC, 0, none⟩) Pn Pn) (lo Pn (cm tbl s (R : Int) A T)) ∧ Below w.heap.size w w' := by
    rcases hf2 with ⟨hs2, hle⟩ | ⟨hs2, hle⟩
    · have hs3 : (s == 3) = false := by rw [hs2]; rfl
      have hgt : ¬ (14 : Int) < (A : Int) := by omega
      clear hle hs2
      go_enter Try.func17, Try.ntmps17
      go_wp2_with fail
      go_at_call 24
      refine (powS HK.out.st hn16).mono ?_
      rw [← pw_cast HK.out.st n, ← HPn.out]
      rintro e w1 ⟨rfl, rfl⟩
      have hmk := HMK.out
      go_wp2
      obtain ⟨w5, hW⟩ : ∃ x, x = w.alloc (Obj.cells (madeCells #[.bool false] Pn) 4) := ⟨_, rfl⟩
      obtain ⟨bC, hbC⟩ : ∃ x, x = w.heap.size := ⟨_, rfl⟩
      have oT : OwnB 4 w5 bC (.slice (some ⟨bC, 0, none⟩) Pn Pn) (List.replicate Pn false) := by
        have := OwnB.made 4 w Pn (by unfold maxLen; omega)
        rw [hW, hbC]; exact this
      have HB5 : Hid (Below w.heap.size w w5) := by simp only [Hid]; rw [hW]; exact below1 _ _
      have HLO : Hid (w.heap.size ≤ bC) := by simp only [Hid]; omega
      have OT : Hid (OwnB 4 w5 bC (.slice (some ⟨bC, 0, none⟩) Pn Pn) (lo Pn (fun j => ∃ k' : Nat, k' < 0 ∧ numN s (iterW tbl s (R : Int) T (dig s (k' : Int) A)) = j))) := by
        have e : lo Pn (fun j => ∃ k' : Nat, k' < 0 ∧ numN s (iterW tbl s (R : Int) T (dig s (k' : Int) A)) = j) = List.replicate Pn false := by
          rw [lo_false]; exact lo_congr (fun j _ => ⟨fun ⟨k', h, _⟩ => absurd h (by omega), fun h => h.elim⟩)
        simp only [Hid]; rw [e]; exact oT
      simp only [← hW]
      simp only [← hbC]
      clear hW hbC oT hmk
      go_loopw [10] (fun i wr => ∃ k : Nat, k ≤ pw s A ∧ i = .int .i64 (k : Int) ∧ Below w.heap.size w wr ∧ OwnB 4 wr bC (.slice (some ⟨bC, 0, none⟩) Pn Pn) (lo Pn (fun j => ∃ k' : Nat, k' < k ∧ numN s (iterW tbl s (R : Int) T (dig s (k' : Int) A)) = j))) (fun i _ => pw s A - (intOf i).toNat)
      case atStart => exact ⟨0, Nat.zero_le _, rfl, HB5.out, OT.out⟩
      case round =>
        clear HB5 OT
        obtain ⟨k, hkP, rfl, hB, hO⟩ := hrel
        have KB := hid hB
        have KO := hid hO
        have g0 := (HG.out wr hB).1
        have hw3 := HW3.out
        clear hB hO
        obtain ⟨PA, hPA⟩ : ∃ PA, PA = pw s A := ⟨_, rfl⟩
        have HPAd := hid hPA
        go_wp2_with fail
        go_at_call 24
        refine (powS HK.out.st HQ.out.2.2.1).mono ?_
        rw [← pw_cast HK.out.st A, ← HPAd.out]
        rintro e w6 ⟨rfl, rfl⟩
        rw [← hPA] at hkP
        have hPA2 : PA ≤ 19683 := by rw [hPA]; exact HPA.out.2
        clear hPA
        by_cases hlt : k < PA
        · have hki : (k : Int) < (PA : Int) := by omega
          have hkb : 0 ≤ (k : Int) ∧ (k : Int) ≤ 1000000000 := by omega
          have HKB := hid hkb
          have HI : Hid (k < PA) := hlt
          clear hkb
          go_wp2_with fail
          go_at_call 25
          refine (specCells HK.out.st HKB.out (by have := HQ.out; omega)).mono ?_
          rintro e w7 ⟨b2, rfl, o2, lo2, bel⟩
          rw [show ((A : Int)).toNat = A by simp] at o2 ⊢
          have HO2 := hid o2
          have KB7 := hid (KB.out.trans (bel.mono KB.out.size))
          have KO7 := hid (KO.out.keep bel)
          have hT4 : T ≤ 4 := HQ.out.2.2.2.2.2
          clear o2 lo2 bel g0
          go_wp2
          go_loopw [11, 12] (fun v i wx => ∃ (t b' : Nat), t ≤ T ∧ i = .int .i64 (t : Int) ∧ Below w.heap.size w wx ∧ OwnB 4 wx bC (.slice (some ⟨bC, 0, none⟩) Pn Pn) (lo Pn (fun j => ∃ k' : Nat, k' < k ∧ numN s (iterW tbl s (R : Int) T (dig s (k' : Int) A)) = j)) ∧ Rd.Own 2 wx b' v (iterW tbl s (R : Int) t (dig s (k : Int) A))) (fun _ i _ => T - (intOf i).toNat)
          case atStart => exact ⟨0, b2, Nat.zero_le _, rfl, KB7.out, KO7.out, HO2.out⟩
          case round =>
            clear KB7 KO7 HO2
            obtain ⟨t, b', ht, rfl, hB, hO, hW⟩ := hrel
            have KB1 := hid hB
            have KO1 := hid hO
            have KW := hid hW
            have hgc := HG.out wr hB
            have hda := iterW_all HK.out (dig_all HK.out.st (k : Int) A) t
            have hdl : (iterW tbl s (R : Int) t (dig s (k : Int) A)).length = A - 2 * R * t := by rw [iterW_length, dig_length]; congr 2
            clear hB hO hW
            by_cases hltt : t < T
            · have hQt : 2 * R * (t + 1) ≤ 2 * R * T := Nat.mul_le_mul_left _ (by omega)
              have hexp : 2 * R * (t + 1) = 2 * R * t + 2 * R := by rw [Nat.mul_add, Nat.mul_one]
              have hcall := l03Row HK.out (HT.out.keep KB1.out (Nat.le_refl _)) KW.out.rd hgc.1 hgc.2.1 hgc.2.2 (by rw [hdl]; have := HQ.out; omega) hda
              have HCL := hid hcall
              have hti : (t : Int) < (T : Int) := by omega
              clear hcall hgc hda hdl hQt hexp
              go_wp2_with fail
              go_at_call 26
              refine HCL.out.mono ?_
              rintro e w8 ⟨v', b3, rfl, o3, lo3, bel⟩
              have HO3 := hid o3
              have KB8 := hid (KB1.out.trans (bel.mono KB1.out.size))
              have KO8 := hid (KO1.out.keep bel)
              clear o3 lo3 bel
              go_wp2
              go_roundw
              case rel => exact ⟨t + 1, b3, hltt, by go_num, KB8.out, KO8.out, HO3.out⟩
              case measure => simp [intOf]; omega
            · have htT : T = t := by omega
              subst htT
              obtain ⟨jx, hjx⟩ : ∃ jx, jx = numN s (iterW tbl s (R : Int) T (dig s (k : Int) A)) := ⟨_, rfl⟩
              have HJ : Hid ((jx : Int) = numL (iterW tbl s (R : Int) T (dig s (k : Int) A)) s) := by simp only [Hid]; rw [hjx]; exact num_cast HK.out.st hda
              have hjl : jx < Pn := by
                have h5 := num_lt HK.out.st hda
                rw [hdl] at h5
                rw [hjx, HPn.out]
                have e2 : A - 2 * R * T = n := by have := HQ.out; omega
                rw [e2] at h5; exact h5
              have hnum := specNumber3 KW.out.rd HK.out.st (by rw [hdl]; have := HQ.out; omega) hda
              rw [← HJ.out] at hnum
              have HNU := hid hnum
              have hji : (jx : Int) < (Pn : Int) := by omega
              have HSET : Hid ((lo Pn (fun j => ∃ k' : Nat, k' < k ∧ numN s (iterW tbl s (R : Int) T (dig s (k' : Int) A)) = j)).set jx true = lo Pn (fun j => ∃ k' : Nat, k' < k + 1 ∧ numN s (iterW tbl s (R : Int) T (dig s (k' : Int) A)) = j)) := by
                simp only [Hid]
                rw [lo_set hjl]
                refine lo_congr (fun j _ => ⟨?_, ?_⟩)
                · rintro (⟨i', h1, h2⟩ | h1)
                  · exact ⟨i', by omega, h2⟩
                  · exact ⟨k, by omega, by rw [h1, hjx]⟩
                · rintro ⟨i', h1, h3⟩
                  rcases Nat.lt_or_ge i' k with h4 | h4
                  · exact .inl ⟨i', h4, h3⟩
                  · have : i' = k := by omega
                    subst this
                    exact .inr (by rw [← h3, hjx])
              have g0 := hgc.1
              have hq1 := KO1.out.cell (i := jx) (by rw [lo_length]; exact hjl)
              have hq2 := KO1.out.free jx
              clear hda hdl hgc hjx hnum hltt hjl
              go_wp2_with fail
              go_at_call 18
              refine HNU.out.mono ?_
              rintro e w8 ⟨rfl, rfl⟩
              go_wp2
              have oS := KO1.out.set jx true
              rw [HSET.out] at oS
              have bS := KB1.out.setCell (p := ⟨bC, jx, none⟩) HLO.out (.bool true)
              go_roundw
              case rel => exact ⟨k + 1, by rw [← HPAd.out]; exact HI.out, by go_num, bS, oS⟩
              case measure => have := HI.out; rw [← HPAd.out]; simp [intOf]; omega
        · have hkP2 : k = pw s A := by rw [← HPAd.out]; omega
          have hki : ¬ (k : Int) < (PA : Int) := by omega
          have HOF : Hid (OwnB 4 wr bC (.slice (some ⟨bC, 0, none⟩) Pn Pn) (lo Pn (cm tbl s (R : Int) A T))) := by
            have h5 := KO.out
            rw [hkP2] at h5
            exact h5
          clear KO hkP2
          go_wp2
          go_ret
          exact ⟨bC, rfl, HOF.out, KB.out⟩
    · have hs3 : (s == 3) = true := by rw [hs2]; rfl
      have hgt : ¬ (9 : Int) < (A : Int) := by omega
      clear hle hs2
      go_enter Try.func17, Try.ntmps17
      go_wp2_with fail
      go_at_call 24
      refine (powS HK.out.st hn16).mono ?_
      rw [← pw_cast HK.out.st n, ← HPn.out]
      rintro e w1 ⟨rfl, rfl⟩
      have hmk := HMK.out
      go_wp2
      obtain ⟨w5, hW⟩ : ∃ x, x = w.alloc (Obj.cells (madeCells #[.bool false] Pn) 4) := ⟨_, rfl⟩
      obtain ⟨bC, hbC⟩ : ∃ x, x = w.heap.size := ⟨_, rfl⟩
      have oT : OwnB 4 w5 bC (.slice (some ⟨bC, 0, none⟩) Pn Pn) (List.replicate Pn false) := by
        have := OwnB.made 4 w Pn (by unfold maxLen; omega)
        rw [hW, hbC]; exact this
      have HB5 : Hid (Below w.heap.size w w5) := by simp only [Hid]; rw [hW]; exact below1 _ _
      have HLO : Hid (w.heap.size ≤ bC) := by simp only [Hid]; omega
      have OT : Hid (OwnB 4 w5 bC (.slice (some ⟨bC, 0, none⟩) Pn Pn) (lo Pn (fun j => ∃ k' : Nat, k' < 0 ∧ numN s (iterW tbl s (R : Int) T (dig s (k' : Int) A)) = j))) := by
        have e : lo Pn (fun j => ∃ k' : Nat, k' < 0 ∧ numN s (iterW tbl s (R : Int) T (dig s (k' : Int) A)) = j) = List.replicate Pn false := by
          rw [lo_false]; exact lo_congr (fun j _ => ⟨fun ⟨k', h, _⟩ => absurd h (by omega), fun h => h.elim⟩)
        simp only [Hid]; rw [e]; exact oT
      simp only [← hW]
      simp only [← hbC]
      clear hW hbC oT hmk
      go_loopw [10] (fun i wr => ∃ k : Nat, k ≤ pw s A ∧ i = .int .i64 (k : Int) ∧ Below w.heap.size w wr ∧ OwnB 4 wr bC (.slice (some ⟨bC, 0, none⟩) Pn Pn) (lo Pn (fun j => ∃ k' : Nat, k' < k ∧ numN s (iterW tbl s (R : Int) T (dig s (k' : Int) A)) = j))) (fun i _ => pw s A - (intOf i).toNat)
      case atStart => exact ⟨0, Nat.zero_le _, rfl, HB5.out, OT.out⟩
      case round =>
        clear HB5 OT
        obtain ⟨k, hkP, rfl, hB, hO⟩ := hrel
        have KB := hid hB
        have KO := hid hO
        have g0 := (HG.out wr hB).1
        have hw3 := HW3.out
        clear hB hO
        obtain ⟨PA, hPA⟩ : ∃ PA, PA = pw s A := ⟨_, rfl⟩
        have HPAd := hid hPA
        go_wp2_with fail
        go_at_call 24
        refine (powS HK.out.st HQ.out.2.2.1).mono ?_
        rw [← pw_cast HK.out.st A, ← HPAd.out]
        rintro e w6 ⟨rfl, rfl⟩
        rw [← hPA] at hkP
        have hPA2 : PA ≤ 19683 := by rw [hPA]; exact HPA.out.2
        clear hPA
        by_cases hlt : k < PA
        · have hki : (k : Int) < (PA : Int) := by omega
          have hkb : 0 ≤ (k : Int) ∧ (k : Int) ≤ 1000000000 := by omega
          have HKB := hid hkb
          have HI : Hid (k < PA) := hlt
          clear hkb
          go_wp2_with fail
          go_at_call 25
          refine (specCells HK.out.st HKB.out (by have := HQ.out; omega)).mono ?_
          rintro e w7 ⟨b2, rfl, o2, lo2, bel⟩
          rw [show ((A : Int)).toNat = A by simp] at o2 ⊢
          have HO2 := hid o2
          have KB7 := hid (KB.out.trans (bel.mono KB.out.size))
          have KO7 := hid (KO.out.keep bel)
          have hT4 : T ≤ 4 := HQ.out.2.2.2.2.2
          clear o2 lo2 bel g0
          go_wp2
          go_loopw [11, 12] (fun v i wx => ∃ (t b' : Nat), t ≤ T ∧ i = .int .i64 (t : Int) ∧ Below w.heap.size w wx ∧ OwnB 4 wx bC (.slice (some ⟨bC, 0, none⟩) Pn Pn) (lo Pn (fun j => ∃ k' : Nat, k' < k ∧ numN s (iterW tbl s (R : Int) T (dig s (k' : Int) A)) = j)) ∧ Rd.Own 2 wx b' v (iterW tbl s (R : Int) t (dig s (k : Int) A))) (fun _ i _ => T - (intOf i).toNat)
          case atStart => exact ⟨0, b2, Nat.zero_le _, rfl, KB7.out, KO7.out, HO2.out⟩
          case round =>
            clear KB7 KO7 HO2
            obtain ⟨t, b', ht, rfl, hB, hO, hW⟩ := hrel
            have KB1 := hid hB
            have KO1 := hid hO
            have KW := hid hW
            have hgc := HG.out wr hB
            have hda := iterW_all HK.out (dig_all HK.out.st (k : Int) A) t
            have hdl : (iterW tbl s (R : Int) t (dig s (k : Int) A)).length = A - 2 * R * t := by rw [iterW_length, dig_length]; congr 2
            clear hB hO hW
            by_cases hltt : t < T
            · have hQt : 2 * R * (t + 1) ≤ 2 * R * T := Nat.mul_le_mul_left _ (by omega)
              have hexp : 2 * R * (t + 1) = 2 * R * t + 2 * R := by rw [Nat.mul_add, Nat.mul_one]
              have hcall := l03Row HK.out (HT.out.keep KB1.out (Nat.le_refl _)) KW.out.rd hgc.1 hgc.2.1 hgc.2.2 (by rw [hdl]; have := HQ.out; omega) hda
              have HCL := hid hcall
              have hti : (t : Int) < (T : Int) := by omega
              clear hcall hgc hda hdl hQt hexp
              go_wp2_with fail
              go_at_call 26
              refine HCL.out.mono ?_
              rintro e w8 ⟨v', b3, rfl, o3, lo3, bel⟩
              have HO3 := hid o3
              have KB8 := hid (KB1.out.trans (bel.mono KB1.out.size))
              have KO8 := hid (KO1.out.keep bel)
              clear o3 lo3 bel
              go_wp2
              go_roundw
              case rel => exact ⟨t + 1, b3, hltt, by go_num, KB8.out, KO8.out, HO3.out⟩
              case measure => simp [intOf]; omega
            · have htT : T = t := by omega
              subst htT
              obtain ⟨jx, hjx⟩ : ∃ jx, jx = numN s (iterW tbl s (R : Int) T (dig s (k : Int) A)) := ⟨_, rfl⟩
              have HJ : Hid ((jx : Int) = numL (iterW tbl s (R : Int) T (dig s (k : Int) A)) s) := by simp only [Hid]; rw [hjx]; exact num_cast HK.out.st hda
              have hjl : jx < Pn := by
                have h5 := num_lt HK.out.st hda
                rw [hdl] at h5
                rw [hjx, HPn.out]
                have e2 : A - 2 * R * T = n := by have := HQ.out; omega
                rw [e2] at h5; exact h5
              have hnum := specNumber3 KW.out.rd HK.out.st (by rw [hdl]; have := HQ.out; omega) hda
              rw [← HJ.out] at hnum
              have HNU := hid hnum
              have hji : (jx : Int) < (Pn : Int) := by omega
              have HSET : Hid ((lo Pn (fun j => ∃ k' : Nat, k' < k ∧ numN s (iterW tbl s (R : Int) T (dig s (k' : Int) A)) = j)).set jx true = lo Pn (fun j => ∃ k' : Nat, k' < k + 1 ∧ numN s (iterW tbl s (R : Int) T (dig s (k' : Int) A)) = j)) := by
                simp only [Hid]
                rw [lo_set hjl]
                refine lo_congr (fun j _ => ⟨?_, ?_⟩)
                · rintro (⟨i', h1, h2⟩ | h1)
                  · exact ⟨i', by omega, h2⟩
                  · exact ⟨k, by omega, by rw [h1, hjx]⟩
                · rintro ⟨i', h1, h3⟩
                  rcases Nat.lt_or_ge i' k with h4 | h4
                  · exact .inl ⟨i', h4, h3⟩
                  · have : i' = k := by omega
                    subst this
                    exact .inr (by rw [← h3, hjx])
              have g0 := hgc.1
              have hq1 := KO1.out.cell (i := jx) (by rw [lo_length]; exact hjl)
              have hq2 := KO1.out.free jx
              clear hda hdl hgc hjx hnum hltt hjl
              go_wp2_with fail
              go_at_call 18
              refine HNU.out.mono ?_
              rintro e w8 ⟨rfl, rfl⟩
              go_wp2
              have oS := KO1.out.set jx true
              rw [HSET.out] at oS
              have bS := KB1.out.setCell (p := ⟨bC, jx, none⟩) HLO.out (.bool true)
              go_roundw
              case rel => exact ⟨k + 1, by rw [← HPAd.out]; exact HI.out, by go_num, bS, oS⟩
              case measure => have := HI.out; rw [← HPAd.out]; simp [intOf]; omega
        · have hkP2 : k = pw s A := by rw [← HPAd.out]; omega
          have hki : ¬ (k : Int) < (PA : Int) := by omega
          have HOF : Hid (OwnB 4 wr bC (.slice (some ⟨bC, 0, none⟩) Pn Pn) (lo Pn (cm tbl s (R : Int) A T))) := by
            have h5 := KO.out
            rw [hkP2] at h5
            exact h5
          clear KO hkP2
          go_wp2
          go_ret
          exact ⟨bC, rfl, HOF.out, KB.out⟩
  exact key
end Go.Proofs.Ytbnndbciimfciaa.CwO
