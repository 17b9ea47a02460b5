/- WindingOf of the model. -/
import Derived.Test.YthcbhbdgbiiagaaWnd
import Derived.Test.YthcbhbdgbiiagaaFNew
import Derived.Test.YthcbhbdgbiiagaaApp
namespace Go.Proofs.Ythcbhbdgbiiagaa.WinS
open Go.RowKit Go.Proofs.Ythcbhbdgbiiagaa.Rd Go.Proofs.Ythcbhbdgbiiagaa.Help Go.Proofs.Ythcbhbdgbiiagaa.Ring Go.Proofs.Ythcbhbdgbiiagaa.Small Go.Proofs.Ythcbhbdgbiiagaa.FVal Go.Proofs.Ythcbhbdgbiiagaa.Keep Go.Proofs.Ythcbhbdgbiiagaa.Rule Go.Proofs.Ythcbhbdgbiiagaa.Grow Go.Proofs.Ythcbhbdgbiiagaa.Wav Go.Proofs.Ythcbhbdgbiiagaa.Wnd
set_option linter.unusedVariables false
set_option linter.unusedSimpArgs false

theorem rows_keep {w w' : World} {base : Nat} {v : Value} {n : Nat} {xs : List Value} (h : w.ownsRow base 2 1 v n xs) (bel : Below w.heap.size w w') : w'.ownsRow base 2 1 v n xs := by
  refine h.kept (below_grown bel) ?_
  cases hv : v.ownBlock with
  | none => exact .inl rfl
  | some k => right; simp

set_option maxHeartbeats 4000000 in
theorem specNo1 {w : World} {s r st : Int} {b : Nat} {v : Value} {zs : List Int} (h : Rd w b v zs) (hq : waveB s r zs st = false) :
    Calls Try.prog 40 #[ruleV s r v, .int .i64 st] w fun e w' => e = .returned (.tuple #[.slice none 0 0, .bool false]) ∧ Below w.heap.size w w' := by
  have HQ := hid hq
  clear hq
  have HH := hid h
  obtain ⟨ao, cap, rfl, hc, hm, h4⟩ := h
  have H4 := hid h4
  have hcap : zs.length ≤ cap ∧ cap ≤ 9223372036854775807 := by unfold maxLen at hm; omega
  clear hc hm h4
  go_enter Try.func40, Try.ntmps40
  go_wp2_with fail
  obtain ⟨w1, hW⟩ : ∃ w1, w1 = w.alloc (Obj.cells #[.int .i64 s, .int .i64 r, .slice ao zs.length cap] 26) := ⟨_, rfl⟩
  obtain ⟨N, hN⟩ : ∃ N, N = w.heap.size := ⟨_, rfl⟩
  have st1 : Below w.heap.size w w1 ∧ w1.cell? ⟨N, 0, none⟩ = some (.int .i64 s) ∧ w1.cell? ⟨N, 1, none⟩ = some (.int .i64 r) ∧ w1.cell? ⟨N, 2, none⟩ = some (.slice ao zs.length cap) ∧ w.heap.size ≤ w1.heap.size := by
    rw [hW, hN]
    exact ⟨below1 _ _, by simp, by simp, by simp, (below1 _ _).size⟩
  simp only [← hW, ← hN]
  clear hW hN
  go_at_call 84
  refine (Wav.spec (HH.out.keep st1.1 (Nat.le_refl _)) st1.2.1 st1.2.2.1 st1.2.2.2.1).mono ?_
  rw [HQ.out]
  rintro e w2 ⟨rfl, hm2⟩
  have bel := Wav.below_m hm2
  replace st1 := next3_0 bel st1
  clear hm2 bel
  have HB := hid st1.1
  clear st1
  go_wp2
  go_ret2
  exact ⟨rfl, HB.out⟩

set_option maxHeartbeats 4000000 in
theorem specNo2 {w : World} {s r st : Int} {b : Nat} {v : Value} {zs : List Int} (h : Rd w b v zs) (hq : waveB s r zs st = true) (h2 : s < 2) :
    Calls Try.prog 40 #[ruleV s r v, .int .i64 st] w fun e w' => e = .returned (.tuple #[.slice none 0 0, .bool false]) ∧ Below w.heap.size w w' := by
  have HQ := hid hq
  have d2 : decide (s < 2) = true := decide_eq_true h2
  clear hq h2
  have HH := hid h
  obtain ⟨ao, cap, rfl, hc, hm, h4⟩ := h
  have H4 := hid h4
  have hcap : zs.length ≤ cap ∧ cap ≤ 9223372036854775807 := by unfold maxLen at hm; omega
  clear hc hm h4
  go_enter Try.func40, Try.ntmps40
  go_wp2_with fail
  obtain ⟨w1, hW⟩ : ∃ w1, w1 = w.alloc (Obj.cells #[.int .i64 s, .int .i64 r, .slice ao zs.length cap] 26) := ⟨_, rfl⟩
  obtain ⟨N, hN⟩ : ∃ N, N = w.heap.size := ⟨_, rfl⟩
  have st1 : Below w.heap.size w w1 ∧ w1.cell? ⟨N, 0, none⟩ = some (.int .i64 s) ∧ w1.cell? ⟨N, 1, none⟩ = some (.int .i64 r) ∧ w1.cell? ⟨N, 2, none⟩ = some (.slice ao zs.length cap) ∧ w.heap.size ≤ w1.heap.size := by
    rw [hW, hN]
    exact ⟨below1 _ _, by simp, by simp, by simp, (below1 _ _).size⟩
  simp only [← hW, ← hN]
  clear hW hN
  go_at_call 84
  refine (Wav.spec (HH.out.keep st1.1 (Nat.le_refl _)) st1.2.1 st1.2.2.1 st1.2.2.2.1).mono ?_
  rw [HQ.out]
  rintro e w2 ⟨rfl, hm2⟩
  have bel := Wav.below_m hm2
  replace st1 := next3_0 bel st1
  clear hm2 bel
  have c0 := st1.2.1
  have c1 := st1.2.2.1
  have HB := hid st1.1
  clear st1
  go_wp2
  go_ret2
  exact ⟨rfl, HB.out⟩

set_option maxHeartbeats 4000000 in
theorem specNo3 {w : World} {s r st : Int} {b : Nat} {v : Value} {zs : List Int} (h : Rd w b v zs) (hq : waveB s r zs st = true) (h2 : 2 ≤ s) (h3 : r < 2) :
    Calls Try.prog 40 #[ruleV s r v, .int .i64 st] w fun e w' => e = .returned (.tuple #[.slice none 0 0, .bool false]) ∧ Below w.heap.size w w' := by
  have HQ := hid hq
  have d2 : decide (s < 2) = false := decide_eq_false (by omega)
  have d3 : decide (r < 2) = true := decide_eq_true h3
  clear hq h2 h3
  have HH := hid h
  obtain ⟨ao, cap, rfl, hc, hm, h4⟩ := h
  have H4 := hid h4
  have hcap : zs.length ≤ cap ∧ cap ≤ 9223372036854775807 := by unfold maxLen at hm; omega
  clear hc hm h4
  go_enter Try.func40, Try.ntmps40
  go_wp2_with fail
  obtain ⟨w1, hW⟩ : ∃ w1, w1 = w.alloc (Obj.cells #[.int .i64 s, .int .i64 r, .slice ao zs.length cap] 26) := ⟨_, rfl⟩
  obtain ⟨N, hN⟩ : ∃ N, N = w.heap.size := ⟨_, rfl⟩
  have st1 : Below w.heap.size w w1 ∧ w1.cell? ⟨N, 0, none⟩ = some (.int .i64 s) ∧ w1.cell? ⟨N, 1, none⟩ = some (.int .i64 r) ∧ w1.cell? ⟨N, 2, none⟩ = some (.slice ao zs.length cap) ∧ w.heap.size ≤ w1.heap.size := by
    rw [hW, hN]
    exact ⟨below1 _ _, by simp, by simp, by simp, (below1 _ _).size⟩
  simp only [← hW, ← hN]
  clear hW hN
  go_at_call 84
  refine (Wav.spec (HH.out.keep st1.1 (Nat.le_refl _)) st1.2.1 st1.2.2.1 st1.2.2.2.1).mono ?_
  rw [HQ.out]
  rintro e w2 ⟨rfl, hm2⟩
  have bel := Wav.below_m hm2
  replace st1 := next3_0 bel st1
  clear hm2 bel
  have c0 := st1.2.1
  have c1 := st1.2.2.1
  have HB := hid st1.1
  clear st1
  go_wp2
  go_ret2
  exact ⟨rfl, HB.out⟩

set_option maxHeartbeats 16000000 in
set_option maxRecDepth 8000 in
theorem specOk {w : World} {R C n b : Nat} {st : Int} {v : Value} {zs : List Int} (h : Rd w b v zs) (hq : waveB R C zs st = true) (hn : n = R * C) (hR2 : 2 ≤ R) (hC2 : 2 ≤ C) :
    Calls Try.prog 40 #[ruleV R C v, .int .i64 st] w fun e w' => ∃ v' b', e = .returned (.tuple #[v', .bool true]) ∧ Own 2 w' b' v' (acc zs st C (R - 1)) ∧ w.heap.size ≤ b' ∧ Below w.heap.size w w' := by
  obtain ⟨hs, hf, ha⟩ := wave_parts hq
  obtain ⟨hR, hC, hl, hle⟩ := field_nat hf
  have HQ := hid hq
  have HN : Hid (zs.length = n) := by simp only [Hid]; rw [hn]; exact hl
  have HNR := hid hn
  have HAl := hid ha
  have HR24 : Hid (R ≤ 24 ∧ C ≤ 24) := ⟨hR.2, hC.2⟩
  have HSt := hid hs
  have hRC : R ≤ 24 ∧ C ≤ 24 := ⟨hR.2, hC.2⟩
  have d2 : decide ((R : Int) < 2) = false := decide_eq_false (by omega)
  have d3 : decide ((C : Int) < 2) = false := decide_eq_false (by omega)
  have hn576 : n ≤ 576 := by rw [hn]; exact hle
  have hn4 : 1 ≤ n := by rw [hn]; exact Nat.mul_pos (by omega) (by omega)
  clear hq hf ha hl hle hn hR hC hs
  have HH := hid h
  obtain ⟨ao, cap, rfl, hc, hm, h4⟩ := h
  have H4 := hid h4
  have hcap : zs.length ≤ cap ∧ cap ≤ 9223372036854775807 := by unfold maxLen at hm; omega
  clear hc hm h4
  obtain ⟨off, hao, hb, hcell⟩ := H4.out (by rw [HN.out]; exact hn4)
  subst hao
  rw [HN.out] at HH hcap hcell ⊢
  have HC0 := hid hcell
  have HLb := hid hb
  clear hcell hb H4
  go_enter Try.func40, Try.ntmps40
  go_wp2_with fail
  obtain ⟨w1, hW⟩ : ∃ w1, w1 = w.alloc (Obj.cells #[.int .i64 R, .int .i64 C, .slice (some ⟨b, off, none⟩) n cap] 26) := ⟨_, rfl⟩
  obtain ⟨N, hN⟩ : ∃ N, N = w.heap.size := ⟨_, rfl⟩
  have st1 : Below w.heap.size w w1 ∧ w1.cell? ⟨N, 0, none⟩ = some (.int .i64 R) ∧ w1.cell? ⟨N, 1, none⟩ = some (.int .i64 C) ∧ w1.cell? ⟨N, 2, none⟩ = some (.slice (some ⟨b, off, none⟩) n cap) ∧ w.heap.size ≤ w1.heap.size := by
    rw [hW, hN]
    exact ⟨below1 _ _, by simp, by simp, by simp, (below1 _ _).size⟩
  simp only [← hW, ← hN]
  clear hW hN
  go_at_call 84
  refine (Wav.spec (HH.out.keep st1.1 (Nat.le_refl _)) st1.2.1 st1.2.2.1 st1.2.2.2.1).mono ?_
  rw [HQ.out]
  rintro e w2 ⟨rfl, hm2⟩
  have bel := Wav.below_m hm2
  replace st1 := next3_0 bel st1
  clear hm2 bel
  have HST := hid st1
  have c0 := st1.2.1
  have c1 := st1.2.2.1
  clear st1
  go_wp2_with fail
  have HB24 : Hid (Below w2.heap.size w2 (w2.alloc (Obj.cells #[] 2))) := below1 _ _
  have HO4 : Hid ((w2.alloc (Obj.cells #[] 2)).ownsRow w2.heap.size 2 1 (.slice (some ⟨w2.heap.size, 0, none⟩) 0 0) (acc zs st C 0).length ((acc zs st C 0).map (Value.int .i64))) := by
    simp only [Hid]; simpa [acc] using World.ownsRow_lit (base := w2.heap.size) (e := 2) (size := 1) w2 #[] 0 (Nat.le_refl _) (by simp) (by simp)
  clear d2 d3 c0 c1
  go_loopw [6, 7] (fun o t wr => ∃ p : Nat, p ≤ R - 1 ∧ t = .int .i64 (p : Int) ∧ wr.ownsRow w2.heap.size 2 1 o (acc zs st C p).length ((acc zs st C p).map (Value.int .i64)) ∧ Below w2.heap.size w2 wr) (fun _ t _ => R - (intOf t).toNat)
  case atStart => exact ⟨0, Nat.zero_le _, rfl, HO4.out, HB24.out⟩
  case round =>
    clear HO4 HB24
    obtain ⟨p, hp, rfl, hown, hbel⟩ := hrel
    have HO := hid hown
    have HB := hid hbel
    have c0 : wr.cell? ⟨N, 0, none⟩ = some (.int .i64 (R : Int)) := cell_keep hbel HST.out.2.1
    have c1 : wr.cell? ⟨N, 1, none⟩ = some (.int .i64 (C : Int)) := cell_keep hbel HST.out.2.2.1
    have hpw : wrap64 ((p : Int) + 1) = (p : Int) + 1 := wrap_id (by omega) (by omega)
    by_cases hlt : p + 1 < R
    · have hpi : (p : Int) + 1 < (R : Int) := by omega
      clear hown hbel
      go_wp2
      clear c0 c1 hpw
      go_loopw [6, 8] (fun o t wr => ∃ q : Nat, q ≤ C - 1 ∧ t = .int .i64 (q : Int) ∧ wr.ownsRow w2.heap.size 2 1 o (acc zs st C p ++ row zs st C p q).length ((acc zs st C p ++ row zs st C p q).map (Value.int .i64)) ∧ Below w2.heap.size w2 wr) (fun _ t _ => C - (intOf t).toNat)
      case atStart => exact ⟨0, Nat.zero_le _, rfl, by simpa [row] using HO.out, HB.out⟩
      case round =>
        clear HO HB
        obtain ⟨q, hq, rfl, hown, hbel⟩ := hrel
        have HO := hid hown
        have HB := hid hbel
        have c1 : wr.cell? ⟨N, 1, none⟩ = some (.int .i64 (C : Int)) := cell_keep hbel HST.out.2.2.1
        have hqw : wrap64 ((q : Int) + 1) = (q : Int) + 1 := wrap_id (by omega) (by omega)
        by_cases hlt2 : q + 1 < C
        · have hqi : (q : Int) + 1 < (C : Int) := by omega
          clear hown hbel
          go_wp2_with fail
          go_at_call 85
          refine (around HR24.out.1 HR24.out.2 hlt hlt2).mono ?_
          rintro e wa ⟨rfl, hcs, hlta, bela⟩
          obtain ⟨AB, hAB⟩ : ∃ AB, AB = wr.heap.size := ⟨_, rfl⟩
          rw [← hAB] at hcs hlta ⊢
          obtain ⟨A0, hA0⟩ : ∃ A0, A0 = p * C + q := ⟨_, rfl⟩
          rw [← hA0] at hcs
          have HAR : Hid (∀ j, ar A0 C j < n) := by intro j; rw [HNR.out, hA0]; exact ar_lt hlt hlt2 j
          have HCS := hid hcs
          have HBa := hid (HB.out.trans (bela.mono HB.out.size))
          have HOa : Hid (wa.ownsRow w2.heap.size 2 1 u6 (acc zs st C p ++ row zs st C p q).length ((acc zs st C p ++ row zs st C p q).map (Value.int .i64))) := rows_keep HO.out bela
          have HA0 := hid hA0
          clear hcs hlta bela hAB hA0 HO HB c1
          go_wp2
          go_loopw [10, 11] (fun x t wx => ∃ j : Nat, j ≤ 4 ∧ t = .int .i64 (j : Int) ∧ x = .int .i64 (sumW zs st A0 C j) ∧ ∃ m, wx = wa.drewN m) (fun _ t _ => 4 - (intOf t).toNat)
          case atStart => exact ⟨0, by omega, rfl, rfl, 0, rfl⟩
          case round =>
            obtain ⟨j, hj, rfl, rfl, m, hwr⟩ := hrel
            have hsb := sum_bd HAl.out HSt.out A0 C j
            have HWR := hid hwr
            by_cases hlt3 : j < 4
            · have hji : (j : Int) < 4 := by omega
              have hji5 : (j : Int) < 5 ∧ (j : Int) + 1 < 5 := by omega
              have hj5 : (j : Int) < 5 := hji5.1
              have hj15 : (j : Int) + 1 < 5 := hji5.2
              have hjw : IntKind.i64.wrap ((j : Int) + 1) = (j : Int) + 1 := by rw [IntKind.wrap_i64]; have h := wrap_id (x := (j : Int) + 1) (by omega) (by omega); unfold wrap64 at h; exact h
              have hP := HAR.out j
              have hQ := HAR.out (j + 1)
              have ha1 : wr.cell? ⟨AB, j, none⟩ = some (.int .i64 (ar A0 C j : Nat)) := by rw [hwr]; exact HCS.out j (by omega)
              have ha2 : wr.cell? ⟨AB, j + 1, none⟩ = some (.int .i64 (ar A0 C (j + 1) : Nat)) := by rw [hwr]; exact HCS.out (j + 1) (by omega)
              have hx1 : wr.cell? ⟨b, off + ar A0 C j, none⟩ = some (.int .i64 (zs.getD (ar A0 C j) 0)) := by rw [hwr]; exact (HBa.out.cell (p := ⟨b, off + ar A0 C j, none⟩) (Nat.lt_of_lt_of_le HLb.out HST.out.1.size)).trans ((HST.out.1.cell (p := ⟨b, off + ar A0 C j, none⟩) HLb.out).trans (HC0.out _ hP))
              have hx2 : wr.cell? ⟨b, off + ar A0 C (j + 1), none⟩ = some (.int .i64 (zs.getD (ar A0 C (j + 1)) 0)) := by rw [hwr]; exact (HBa.out.cell (p := ⟨b, off + ar A0 C (j + 1), none⟩) (Nat.lt_of_lt_of_le HLb.out HST.out.1.size)).trans ((HST.out.1.cell (p := ⟨b, off + ar A0 C (j + 1), none⟩) HLb.out).trans (HC0.out _ hQ))
              have c2 : wr.cell? ⟨N, 2, none⟩ = some (.slice (some ⟨b, off, none⟩) n cap) := by rw [hwr]; show wa.cell? _ = _; exact cell_keep HBa.out HST.out.2.2.2.1
              have hxb := wave_bd HAl.out HSt.out.1 (ar A0 C j)
              have hyb := wave_bd HAl.out HSt.out.1 (ar A0 C (j + 1))
              have hss : sumW zs st A0 C (j + 1) = sumW zs st A0 C j + wayL (zs.getD (ar A0 C j) 0) (zs.getD (ar A0 C (j + 1)) 0) st := rfl
              obtain ⟨P, hPq⟩ : ∃ P, P = ar A0 C j := ⟨_, rfl⟩
              obtain ⟨Q, hQq⟩ : ∃ Q, Q = ar A0 C (j + 1) := ⟨_, rfl⟩
              rw [← hPq] at hP ha1 hx1 hxb hss
              rw [← hQq] at hQ ha2 hx2 hyb hss
              obtain ⟨x, hx0⟩ : ∃ x, x = zs.getD P 0 := ⟨_, rfl⟩
              obtain ⟨y, hy0⟩ : ∃ y, y = zs.getD Q 0 := ⟨_, rfl⟩
              rw [← hx0] at hx1 hxb hss
              rw [← hy0] at hx2 hyb hss
              have hwb := way_bd hxb hyb HSt.out
              have HWy : Hid (∀ ww, Calls Try.prog 86 #[.int .i64 x, .int .i64 y, .int .i64 st] ww fun e w' => e = .returned (.int .i64 (wayL x y st)) ∧ w' = ww) := fun ww => specWay (by have := HSt.out; omega) (by have := HSt.out; omega) HSt.out
              obtain ⟨W, hW⟩ : ∃ W, W = wayL x y st := ⟨_, rfl⟩
              obtain ⟨S, hS⟩ : ∃ S, S = sumW zs st A0 C j := ⟨_, rfl⟩
              rw [← hW] at hwb hss HWy
              rw [← hS] at hsb hss ⊢
              have hSW : wrap64 (S + W) = S + W := wrap_id (by omega) (by omega)
              have hSK : IntKind.i64.wrap (S + W) = S + W := by rw [IntKind.wrap_i64]; unfold wrap64 at hSW; exact hSW
              have HSS := hid hss
              have hPi : (P : Int) < (n : Int) := by omega
              have hQi : (Q : Int) < (n : Int) := by omega
              clear hwr hsb hP hQ hxb hyb hss hPq hQq hx0 hy0 hwb hW hS hSW
              go_wp2_with fail
              go_quiet (first | (go_at_call 86; refine Calls.quiet_of_same (HWy.out _)))
              go_wp2
              go_roundw
              case rel => exact ⟨j + 1, by omega, by go_num, by rw [HSS.out], m + nq, by rw [HWR.out, World.drewN_drewN]⟩
              case measure => simp [intOf]; omega
            · have hj4 : j = 4 := by omega
              subst hj4
              have hvb := val_bd HAl.out HSt.out C p q
              have hvv : val zs st C p q = (sumW zs st A0 C 4).tdiv st := by rw [HA0.out]; rfl
              obtain ⟨V, hV⟩ : ∃ V, V = val zs st C p q := ⟨_, rfl⟩
              rw [← hV] at hvb hvv
              obtain ⟨S, hS⟩ : ∃ S, S = sumW zs st A0 C 4 := ⟨_, rfl⟩
              rw [← hS] at hvv hsb ⊢
              have hE : wrap64 (S.tdiv st) = V := by rw [← hvv]; exact wrap_id (by omega) (by omega)
              have h0 : ¬ st = 0 := by have := HSt.out; omega
              have HV := hid hV
              have HBr : Hid (Below w2.heap.size w2 wr) := by simp only [Hid]; rw [hwr]; exact HBa.out.trans ((FSpec.below_drewN' _ _ _).mono HBa.out.size)
              obtain ⟨ts, hts⟩ : ∃ ts, ts = acc zs st C p ++ row zs st C p q := ⟨_, rfl⟩
              have HTS := hid hts
              have HO2 : Hid (wr.ownsRow w2.heap.size 2 1 u6 ts.length (ts.map (Value.int .i64))) := by simp only [Hid]; rw [hwr, hts]; exact rows_keep HOa.out (FSpec.below_drewN' _ _ _)
              have hlen : ts.length ≤ 100000 := by
                rw [hts, List.length_append, acc_len, row_len]
                have : p * (C - 1) ≤ 24 * 24 := Nat.mul_le_mul (by omega) (by omega)
                omega
              clear hwr hsb hvb hvv hV hS hts HWR hlt3
              go_wp2_with (first | (at_builtin; refine App.append1 rfl _ _ rfl w2.heap.size _ _ rfl HO2.out V rfl ?c1 ?c2 ?_) | go_in)
              case c1 => omega
              case c2 => exact HBr.out.size
              intro v' w5 hown5 hbel5
              rw [show ts.length + 1 = (ts ++ [V]).length by simp, show (List.map (Value.int IntKind.i64) ts ++ [Value.int IntKind.i64 V]) = (ts ++ [V]).map (Value.int IntKind.i64) by simp, HTS.out, HV.out, List.append_assoc, ← row_succ] at hown5
              have HF := hid (And.intro hown5 (HBr.out.trans hbel5))
              clear hown5 hbel5
              go_wp2
              go_roundw
              case rel => exact ⟨q + 1, by omega, by go_num, HF.out.1, HF.out.2⟩
              case measure => simp [intOf]; omega
        · have hqC : q = C - 1 := by omega
          have hqi : ¬ (q : Int) + 1 < (C : Int) := by omega
          have hd : decide ((q : Int) + 1 < (C : Int)) = false := decide_eq_false hqi
          rw [hqC, ← acc_succ] at hown
          have HO2 := hid hown
          clear hown hbel
          go_wp2
          go_roundw
          case rel => exact ⟨p + 1, by omega, by go_num, HO2.out, HB.out⟩
          case measure => simp [intOf]; omega
    · have hpR : p = R - 1 := by omega
      have hd : decide ((p : Int) + 1 < (R : Int)) = false := decide_eq_false (by omega)
      rw [hpR] at hown
      obtain ⟨b', hb', ho⟩ := Own.of hown
      have HF := hid (And.intro ho (And.intro hb' hbel))
      clear hown hbel ho hb'
      go_wp2
      go_ret2
      exact ⟨_, b', rfl, HF.out.1, Nat.le_trans HST.out.1.size HF.out.2.1, HST.out.1.trans (HF.out.2.2.mono HST.out.1.size)⟩

end Go.Proofs.Ythcbhbdgbiiagaa.WinS
