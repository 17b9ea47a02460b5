/- WindingOf of the program. -/
import Derived.Test.YthcbhbdgbiiagaaBk4
import Derived.Test.YthcbhbdgbiiagaaApp
namespace Go.Proofs.Ythcbhbdgbiiagaa.WinI
open Go.RowKit Go.Proofs.Ythcbhbdgbiiagaa.Rd Go.Proofs.Ythcbhbdgbiiagaa.Help Go.Proofs.Ythcbhbdgbiiagaa.Ring Go.Proofs.Ythcbhbdgbiiagaa.Small Go.Proofs.Ythcbhbdgbiiagaa.FVal Go.Proofs.Ythcbhbdgbiiagaa.Keep Go.Proofs.Ythcbhbdgbiiagaa.Rule Go.Proofs.Ythcbhbdgbiiagaa.Grow Go.Proofs.Ythcbhbdgbiiagaa.Wav Go.Proofs.Ythcbhbdgbiiagaa.Wnd
set_option linter.unusedVariables false
set_option linter.unusedSimpArgs false

theorem sliceOne (W : World) (g : Nat) : (Instr.sliceAt 135 (.pointer (some ⟨g, 0, none⟩)) (some (.int .i64 1)) none none).run Try.prog W = .ok (.slice (some ⟨g, 1, none⟩) 4 4) W := by
  have hb := run_sliceBound (P := Try.prog) W .i64 1 5 .sliceB (by omega) (by omega)
  simp [Instr.sliceAt, run_underlying Try.underlying135, Instr.sureAddr, Instr.sliceBounds, hb, Try.sizeOf2, Addr.add]

theorem rows_keep {w w' : World} {base : Nat} {v : Value} {n : Nat} {xs : List Value} (h : w.ownsRow base 2 1 v n xs) (bel : Below w.heap.size w w') : w'.ownsRow base 2 1 v n xs := by
  refine h.kept (below_grown bel) ?_
  cases hv : v.ownBlock with
  | none => exact .inl rfl
  | some k => right; simp

set_option maxHeartbeats 2000000 in
theorem windNo1 {w : World} {R C NF NS : Nat} (h2 : R < 2) :
    Calls Try.prog 90 #[shapeV R C, (.func (.func 88) #[] #[.pointer (some ⟨NF, 0, none⟩), .pointer (some ⟨NS, 0, none⟩)]), (.func (.func 92) #[] #[.pointer (some ⟨NS, 0, none⟩)])] w fun e w' => e = .returned (.tuple #[.slice none 0 0, .bool false]) ∧ Below w.heap.size w w' := by
  have d2 : decide ((R : Int) < 2) = true := decide_eq_true (by omega)
  clear h2
  go_enter Try.func90, Try.ntmps90
  go_upto_region 1 with fail
  obtain ⟨w1, hW⟩ : ∃ w1, w1 = w.alloc (Obj.cells #[.int .i64 (R : Int), .int .i64 (C : Int)] 113) := ⟨_, rfl⟩
  obtain ⟨N, hN⟩ : ∃ N, N = w.heap.size := ⟨_, rfl⟩
  have bel1 : Below w.heap.size w w1 := by rw [hW]; exact below1 _ _
  have s0 : w1.cell? ⟨N, 0, none⟩ = some (.int .i64 (R : Int)) := by rw [hW, hN]; simp
  have s1 : w1.cell? ⟨N, 1, none⟩ = some (.int .i64 (C : Int)) := by rw [hW, hN]; simp
  simp only [← hW, ← hN]
  clear hW hN
  have HB := hid bel1
  clear bel1
  go_wp2
  go_ret2
  exact ⟨rfl, HB.out⟩

set_option maxHeartbeats 2000000 in
theorem windNo2 {w : World} {R C NF NS : Nat} (h2 : 2 ≤ R) (h3 : C < 2) :
    Calls Try.prog 90 #[shapeV R C, (.func (.func 88) #[] #[.pointer (some ⟨NF, 0, none⟩), .pointer (some ⟨NS, 0, none⟩)]), (.func (.func 92) #[] #[.pointer (some ⟨NS, 0, none⟩)])] w fun e w' => e = .returned (.tuple #[.slice none 0 0, .bool false]) ∧ Below w.heap.size w w' := by
  have d2 : decide ((R : Int) < 2) = false := decide_eq_false (by omega)
  have d3 : decide ((C : Int) < 2) = true := decide_eq_true (by omega)
  clear h2 h3
  go_enter Try.func90, Try.ntmps90
  go_upto_region 1 with fail
  obtain ⟨w1, hW⟩ : ∃ w1, w1 = w.alloc (Obj.cells #[.int .i64 (R : Int), .int .i64 (C : Int)] 113) := ⟨_, rfl⟩
  obtain ⟨N, hN⟩ : ∃ N, N = w.heap.size := ⟨_, rfl⟩
  have bel1 : Below w.heap.size w w1 := by rw [hW]; exact below1 _ _
  have s0 : w1.cell? ⟨N, 0, none⟩ = some (.int .i64 (R : Int)) := by rw [hW, hN]; simp
  have s1 : w1.cell? ⟨N, 1, none⟩ = some (.int .i64 (C : Int)) := by rw [hW, hN]; simp
  simp only [← hW, ← hN]
  clear hW hN
  have HB := hid bel1
  clear bel1
  go_wp2
  go_ret2
  exact ⟨rfl, HB.out⟩

set_option maxHeartbeats 16000000 in
set_option maxRecDepth 8000 in
theorem windOk {w : World} {R C n b NF NS : Nat} {st : Int} {v : Value} {zs : List Int} (f2 : w.cell? ⟨NF, 2, none⟩ = some v) (fs : w.cell? ⟨NS, 0, none⟩ = some (.int .i64 st)) (h : Rd w b v zs) (hq : waveB R C zs st = true) (hn : n = R * C) (hR2 : 2 ≤ R) (hC2 : 2 ≤ C) :
    Calls Try.prog 90 #[shapeV R C, (.func (.func 88) #[] #[.pointer (some ⟨NF, 0, none⟩), .pointer (some ⟨NS, 0, none⟩)]), (.func (.func 92) #[] #[.pointer (some ⟨NS, 0, none⟩)])] w fun e w' => ∃ v' b', e = .returned (.tuple #[v', .bool true]) ∧ Own 2 w' b' v' (acc zs st C (R - 1)) ∧ w.heap.size ≤ b' ∧ Below w.heap.size w w' := by
  obtain ⟨hs, hf, ha⟩ := wave_parts hq
  obtain ⟨hR, hC, hl, hle⟩ := field_nat hf
  have HN : Hid (zs.length = n) := by simp only [Hid]; rw [hn]; exact hl
  have HNR := hid hn
  have HAl := hid ha
  have HR24 : Hid (R ≤ 24 ∧ C ≤ 24) := ⟨hR.2, hC.2⟩
  have HSt := hid hs
  have hRC : R ≤ 24 ∧ C ≤ 24 := ⟨hR.2, hC.2⟩
  have d2 : decide ((R : Int) < 2) = false := decide_eq_false (by omega)
  have d3 : decide ((C : Int) < 2) = false := decide_eq_false (by omega)
  have HH := hid h
  have HFC := hid (And.intro f2 fs)
  have hw1 : wrap64 ((R : Int) - 1) = ((R - 1 : Nat) : Int) := by rw [show (R : Int) - 1 = ((R - 1 : Nat) : Int) by omega]; exact wrap_id (by omega) (by omega)
  have HW2 : Hid (wrap64 ((C : Int) - 1) = ((C - 1 : Nat) : Int)) := by simp only [Hid]; rw [show (C : Int) - 1 = ((C - 1 : Nat) : Int) by omega]; exact wrap_id (by omega) (by omega)
  have hsl : ∀ (W : World) (g : Nat), (Instr.sliceAt 135 (.pointer (some ⟨g, 0, none⟩)) (some (.int .i64 1)) none none).run Try.prog W = .ok (.slice (some ⟨g, 1, none⟩) 4 4) W := fun W g => sliceOne W g
  have HSL := hid @hsl
  clear hq hf ha hl hle hn hR hC hs f2 fs h hsl
  go_enter Try.func90, Try.ntmps90
  go_upto_region 1 with fail
  obtain ⟨w1, hW⟩ : ∃ w1, w1 = w.alloc (Obj.cells #[.int .i64 (R : Int), .int .i64 (C : Int)] 113) := ⟨_, rfl⟩
  obtain ⟨N, hN⟩ : ∃ N, N = w.heap.size := ⟨_, rfl⟩
  have bel1 : Below w.heap.size w w1 := by rw [hW]; exact below1 _ _
  have s0 : w1.cell? ⟨N, 0, none⟩ = some (.int .i64 (R : Int)) := by rw [hW, hN]; simp
  have s1 : w1.cell? ⟨N, 1, none⟩ = some (.int .i64 (C : Int)) := by rw [hW, hN]; simp
  simp only [← hW, ← hN]
  clear hW hN
  have HB1 := hid bel1
  have HS1 := hid (And.intro s0 s1)
  clear bel1
  go_wp2
  clear d2 d3 s0 s1 hw1
  go_loopw [8, 29] (fun o t wr => ∃ p : Nat, p ≤ R - 1 ∧ t = .int .i64 (p : Int) ∧ wr.ownsRow w1.heap.size 2 1 o (acc zs st C p).length ((acc zs st C p).map (Value.int .i64)) ∧ Below w1.heap.size w1 wr) (fun _ t _ => R - (intOf t).toNat)
  case atStart => exact ⟨0, Nat.zero_le _, rfl, by simpa [acc] using World.ownsRow_nil w1 w1.heap.size 2 1, Below.refl _ _⟩
  case round =>
    obtain ⟨p, hp, rfl, hown, hbel⟩ := hrel
    have HO := hid hown
    have HB := hid hbel
    by_cases hlt : p + 1 < R
    · have hpi : (p : Int) < ((R - 1 : Nat) : Int) := by omega
      have c1 : wr.cell? ⟨N, 1, none⟩ = some (.int .i64 (C : Int)) := cell_keep hbel HS1.out.2
      have hw2 := HW2.out
      clear hown hbel
      go_wp2
      clear c1 hw2 hpi
      (try simp only [show decide ((p : Int) < (R : Int) - 1) = true from decide_eq_true (by omega)])
      (try simp only [show decide ((p : Int) < ((R - 1 : Nat) : Int)) = true from decide_eq_true (by omega)])
      go_loopw [8, 35] (fun o t wr => ∃ q : Nat, q ≤ C - 1 ∧ t = .int .i64 (q : Int) ∧ wr.ownsRow w1.heap.size 2 1 o (acc zs st C p ++ row zs st C p q).length ((acc zs st C p ++ row zs st C p q).map (Value.int .i64)) ∧ Below w1.heap.size w1 wr) (fun _ t _ => C - (intOf t).toNat)
      case atStart => exact ⟨0, Nat.zero_le _, rfl, by simpa [row] using HO.out, HB.out⟩
      case round =>
        clear HO HB
        obtain ⟨q, hq, rfl, hown, hbel⟩ := hrel
        have HO := hid hown
        have HB := hid hbel
        have c0 : wr.cell? ⟨N, 0, none⟩ = some (.int .i64 (R : Int)) := cell_keep hbel HS1.out.1
        have c1 : wr.cell? ⟨N, 1, none⟩ = some (.int .i64 (C : Int)) := cell_keep hbel HS1.out.2
        by_cases hlt2 : q + 1 < C
        · have hqi : (q : Int) < ((C - 1 : Nat) : Int) := by omega
          clear hown hbel
          go_wp2_with fail
          go_at_call 119
          refine (Bk4.blockAt HR24.out.1 HR24.out.2 hlt hlt2).mono ?_
          obtain ⟨A0, hA0⟩ : ∃ A0, A0 = p * C + q := ⟨_, rfl⟩
          rw [← hA0]
          obtain ⟨a0, ha0⟩ : ∃ a0, a0 = ((A0 : Nat) : Int) := ⟨_, rfl⟩
          obtain ⟨a1, ha1⟩ : ∃ a1, a1 = ((A0 + 1 : Nat) : Int) := ⟨_, rfl⟩
          obtain ⟨a2, ha2⟩ : ∃ a2, a2 = ((A0 + C : Nat) : Int) := ⟨_, rfl⟩
          obtain ⟨a3, ha3⟩ : ∃ a3, a3 = ((A0 + C + 1 : Nat) : Int) := ⟨_, rfl⟩
          rw [← ha0, ← ha1, ← ha2, ← ha3]
          rintro e wa ⟨rfl, bela⟩
          have HBa := hid (HB.out.trans (bela.mono HB.out.size))
          have HOa : Hid (wa.ownsRow w1.heap.size 2 1 u8 (acc zs st C p ++ row zs st C p q).length ((acc zs st C p ++ row zs st C p q).map (Value.int .i64))) := rows_keep HO.out bela
          have HA0 := hid hA0
          obtain ⟨w8, hW8⟩ : ∃ w8, w8 = (wa.alloc (Obj.cells #[.int .i64 a0, .int .i64 a1, .int .i64 a2, .int .i64 a3] 133)).alloc (Obj.cells #[.int .i64 a0, .int .i64 a1, .int .i64 a3, .int .i64 a2, .int .i64 a0] 135) := ⟨_, rfl⟩
          obtain ⟨NB, hNB⟩ : ∃ NB, NB = wa.heap.size := ⟨_, rfl⟩
          obtain ⟨NR, hNR⟩ : ∃ NR, NR = NB + 1 := ⟨_, rfl⟩
          have bel8 : Below wa.heap.size wa w8 := by rw [hW8]; exact Go.Joins.below_alloc2 _ _ _
          have k8 : w8.heap[NR]? = some (Obj.cells #[.int .i64 a0, .int .i64 a1, .int .i64 a3, .int .i64 a2, .int .i64 a0] 135) := by rw [hW8]; exact FNew.heap_top (by rw [hNR, hNB]; simp)
          have HCS : Hid (∀ j, j < 5 → w8.cell? ⟨NR, j, none⟩ = some (.int .i64 (ar A0 C j : Nat))) := by
            intro j hj
            have : j = 0 ∨ j = 1 ∨ j = 2 ∨ j = 3 ∨ j = 4 := by omega
            rcases this with rfl | rfl | rfl | rfl | rfl
            · rw [Go.Joins.cell_of_block k8 0, ha0]; rfl
            · rw [Go.Joins.cell_of_block k8 1, ha1]; rfl
            · rw [Go.Joins.cell_of_block k8 2, ha3]; rfl
            · rw [Go.Joins.cell_of_block k8 3, ha2]; rfl
            · rw [Go.Joins.cell_of_block k8 4, ha0]; rfl
          have HB8 := hid (HBa.out.trans (bel8.mono HBa.out.size))
          have HO8 : Hid (w8.ownsRow w1.heap.size 2 1 u8 (acc zs st C p ++ row zs st C p q).length ((acc zs st C p ++ row zs st C p q).map (Value.int .i64))) := rows_keep HOa.out bel8
          have HAR : Hid (∀ j, ar A0 C j < n) := by intro j; rw [HNR.out, hA0]; exact ar_lt hlt hlt2 j
          clear c0 c1 bela ha0 ha1 ha2 ha3 hA0 HO HB HOa HBa bel8 k8
          go_upto_region 12 with fail
          simp only [← hW8, ← hNB, ← hNR]
          clear hW8 hNB hNR
          have hsl := HSL.out
          go_wp2
          clear hsl
          go_loopw [13, 55] (fun x t wx => ∃ j : Nat, j ≤ 4 ∧ t = .int .i64 (j : Int) ∧ x = .int .i64 (sumW zs st A0 C j) ∧ ∃ m, wx = w8.drewN m) (fun _ t _ => 4 - (intOf t).toNat)
          case atStart => exact ⟨0, by omega, rfl, rfl, 0, rfl⟩
          case round =>
            obtain ⟨j, hj, rfl, rfl, m, hwr⟩ := hrel
            have hsb := sum_bd HAl.out HSt.out A0 C j
            have HWR := hid hwr
            have hBr : Below w1.heap.size w1 wr := by rw [hwr]; exact HB8.out.trans ((FSpec.below_drewN' _ _ _).mono HB8.out.size)
            have hBw : Below w.heap.size w wr := HB1.out.trans (hBr.mono HB1.out.size)
            by_cases hlt3 : j < 4
            · have hji : (j : Int) < 4 := by omega
              have hj5 : (j : Int) < 5 := by omega
              have hP := HAR.out j
              have hQ := HAR.out (j + 1)
              have ha1 : wr.cell? ⟨NR, j, none⟩ = some (.int .i64 (ar A0 C j : Nat)) := by rw [hwr]; exact HCS.out j (by omega)
              have ha2 : wr.cell? ⟨NR, 1 + j, none⟩ = some (.int .i64 (ar A0 C (j + 1) : Nat)) := by rw [hwr, Nat.add_comm 1 j]; exact HCS.out (j + 1) (by omega)
              have hss : sumW zs st A0 C (j + 1) = sumW zs st A0 C j + wayL (zs.getD (ar A0 C j) 0) (zs.getD (ar A0 C (j + 1)) 0) st := rfl
              have hxb := wave_bd HAl.out HSt.out.1 (ar A0 C j)
              have hyb := wave_bd HAl.out HSt.out.1 (ar A0 C (j + 1))
              have hwb := way_bd hxb hyb HSt.out
              have hclo := clo1 (w := wr) (cell_keep hBw HFC.out.1) (cell_keep hBw HFC.out.2) (HH.out.keep hBw (Nat.le_refl _)) HN.out hP hQ HAl.out HSt.out
              obtain ⟨P, hPq⟩ : ∃ P, P = ar A0 C j := ⟨_, rfl⟩
              obtain ⟨Q, hQq⟩ : ∃ Q, Q = ar A0 C (j + 1) := ⟨_, rfl⟩
              rw [← hPq, ← hQq] at hss hwb hclo
              rw [← hPq] at ha1
              rw [← hQq] at ha2
              obtain ⟨W, hW⟩ : ∃ W, W = wayL (zs.getD P 0) (zs.getD Q 0) st := ⟨_, rfl⟩
              rw [← hW] at hwb hss hclo
              obtain ⟨S, hS⟩ : ∃ S, S = sumW zs st A0 C j := ⟨_, rfl⟩
              rw [← hS] at hsb hss ⊢
              have hSW : wrap64 (S + W) = S + W := wrap_id (by omega) (by omega)
              have HSS := hid hss
              have HCl := hid hclo
              clear hwr hsb hP hQ hxb hyb hwb hss hPq hQq hW hS hclo hBr hBw
              go_wp2_with fail
              go_at_call 88
              refine HCl.out.mono ?_
              rintro e wx ⟨rfl, m2, rfl⟩
              clear ha1 ha2
              go_wp2
              go_roundw
              case rel => exact ⟨j + 1, by omega, by go_num, by rw [HSS.out, hSW], m + m2, by rw [HWR.out, World.drewN_drewN]⟩
              case measure => simp [intOf]; omega
            · have hj4 : j = 4 := by omega
              subst hj4
              have hvb := val_bd HAl.out HSt.out C p q
              have hvv : val zs st C p q = (sumW zs st A0 C 4).tdiv st := by rw [HA0.out]; rfl
              obtain ⟨V, hV⟩ : ∃ V, V = val zs st C p q := ⟨_, rfl⟩
              rw [← hV] at hvb hvv
              obtain ⟨S, hS⟩ : ∃ S, S = sumW zs st A0 C 4 := ⟨_, rfl⟩
              rw [← hS] at hvv hsb ⊢
              have hE : wrap64 (S.tdiv st) = V := by rw [← hvv]; exact wrap_id (by omega) (by omega)
              have HV := hid hV
              have HBr := hid hBr
              have HCl := hid (clo2 (w := wr) (cell_keep hBw HFC.out.2) hE HSt.out)
              obtain ⟨ts, hts⟩ : ∃ ts, ts = acc zs st C p ++ row zs st C p q := ⟨_, rfl⟩
              have HTS := hid hts
              have HO2 : Hid (wr.ownsRow w1.heap.size 2 1 u8 ts.length (ts.map (Value.int .i64))) := by simp only [Hid]; rw [hwr, hts]; exact rows_keep HO8.out (FSpec.below_drewN' _ _ _)
              have hlen : ts.length ≤ 100000 := by
                rw [hts, List.length_append, acc_len, row_len]
                have : p * (C - 1) ≤ 24 * 24 := Nat.mul_le_mul (by omega) (by omega)
                omega
              clear hwr hsb hvb hvv hV hS hts HWR hlt3 hE hBr hBw
              go_wp2_with fail
              go_at_call 92
              refine HCl.out.mono ?_
              rintro e wx ⟨rfl, rfl⟩
              go_wp2_with (first | (at_builtin; refine App.append1 rfl _ _ rfl w1.heap.size _ _ rfl HO2.out V rfl ?c1 ?c2 ?_) | go_in)
              case c1 => omega
              case c2 => exact HBr.out.size
              intro v' w5 hown5 hbel5
              rw [show ts.length + 1 = (ts ++ [V]).length by simp, show (List.map (Value.int IntKind.i64) ts ++ [Value.int IntKind.i64 V]) = (ts ++ [V]).map (Value.int IntKind.i64) by simp, HTS.out, HV.out, List.append_assoc, ← row_succ] at hown5
              have HF := hid (And.intro hown5 (HBr.out.trans hbel5))
              clear hown5 hbel5
              go_wp2
              go_roundw
              case rel => exact ⟨q + 1, by omega, by go_num, HF.out.1, HF.out.2⟩
              case measure => simp [intOf]; omega
        · have hqC : q = C - 1 := by omega
          have hd : decide ((q : Int) < ((C - 1 : Nat) : Int)) = false := decide_eq_false (by omega)
          rw [hqC, ← acc_succ] at hown
          have HO2 := hid hown
          clear hown hbel c0 c1
          go_wp2
          go_roundw
          case rel => exact ⟨p + 1, by omega, by go_num, HO2.out, HB.out⟩
          case measure => simp [intOf]; omega
    · have hpR : p = R - 1 := by omega
      have hd : decide ((p : Int) < ((R - 1 : Nat) : Int)) = false := decide_eq_false (by omega)
      rw [hpR] at hown
      obtain ⟨b', hb', ho⟩ := Own.of hown
      have HF := hid (And.intro ho (And.intro hb' hbel))
      clear hown hbel ho hb'
      go_wp2
      go_ret2
      exact ⟨_, b', rfl, HF.out.1, Nat.le_trans HB1.out.size HF.out.2.1, HB1.out.trans (HF.out.2.2.mono HB1.out.size)⟩

end Go.Proofs.Ythcbhbdgbiiagaa.WinI
