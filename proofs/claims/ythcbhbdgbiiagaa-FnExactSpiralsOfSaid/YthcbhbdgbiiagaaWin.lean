/- WindingOf of both sides. -/
import Derived.Test.YthcbhbdgbiiagaaWinI
import Derived.Test.YthcbhbdgbiiagaaWinS
namespace Go.Proofs.Ythcbhbdgbiiagaa.Win
open Go.Proofs.Ythcbhbdgbiiagaa.WinI Go.Proofs.Ythcbhbdgbiiagaa.WinS Go.RowKit Go.Proofs.Ythcbhbdgbiiagaa.Rd Go.Proofs.Ythcbhbdgbiiagaa.Help Go.Proofs.Ythcbhbdgbiiagaa.Ring Go.Proofs.Ythcbhbdgbiiagaa.Small Go.Proofs.Ythcbhbdgbiiagaa.FVal Go.Proofs.Ythcbhbdgbiiagaa.Keep Go.Proofs.Ythcbhbdgbiiagaa.Rule Go.Proofs.Ythcbhbdgbiiagaa.Grow Go.Proofs.Ythcbhbdgbiiagaa.Wav Go.Proofs.Ythcbhbdgbiiagaa.Wnd
set_option linter.unusedVariables false
set_option linter.unusedSimpArgs false

set_option maxHeartbeats 4000000 in
theorem implNo1 {w : World} {s r st : Int} {b : Nat} {v : Value} {zs : List Int} (h : Rd w b v zs) (hq : waveB s r zs st = false) :
    Calls Try.prog 41 #[ruleV s r v, .int .i64 st] w fun e w' => e = .returned (.tuple #[.slice none 0 0, .bool false]) ∧ Below w.heap.size w w' := by
  have HQ := hid hq
  clear hq
  have HH := hid h
  obtain ⟨ao, cap, rfl, hc, hm, h4⟩ := h
  have H4 := hid h4
  have hcap : zs.length ≤ cap ∧ cap ≤ 9223372036854775807 := by unfold maxLen at hm; omega
  clear hc hm h4
  have hmf : ∀ (fn : Fn) (first cap : Array Value) (w : World), (Instr.makeFunc fn first cap).run Try.prog w = .ok (.func fn first cap) w := fun _ _ _ _ => rfl
  have HMF := hid hmf
  clear hmf
  go_enter Try.func41, Try.ntmps41
  go_upto_region 1 with fail
  obtain ⟨w1, hW⟩ : ∃ w1, w1 = ((w.alloc (Obj.cells #[.int .i64 s, .int .i64 r, .slice ao zs.length cap] 26)).alloc (Obj.cells #[.int .i64 st] 2)) := ⟨_, rfl⟩
  obtain ⟨NF, hF⟩ : ∃ NF, NF = w.heap.size := ⟨_, rfl⟩
  obtain ⟨NS, hS⟩ : ∃ NS, NS = NF + 1 := ⟨_, rfl⟩
  have bel1 : Below w.heap.size w w1 := by rw [hW]; exact Go.Joins.below_alloc2 _ _ _
  have kF : w1.heap[NF]? = some (Obj.cells #[.int .i64 s, .int .i64 r, .slice ao zs.length cap] 26) := by rw [hW]; exact FNew.heap_old (FNew.heap_top hF)
  have kS : w1.heap[NS]? = some (Obj.cells #[.int .i64 st] 2) := by rw [hW]; exact FNew.heap_top (by rw [hS, hF]; simp)
  have f0 : w1.cell? ⟨NF, 0, none⟩ = some (.int .i64 s) := Go.Joins.cell_of_block kF 0
  have f1 : w1.cell? ⟨NF, 1, none⟩ = some (.int .i64 r) := Go.Joins.cell_of_block kF 1
  have f2 : w1.cell? ⟨NF, 2, none⟩ = some (.slice ao zs.length cap) := Go.Joins.cell_of_block kF 2
  have fs : w1.cell? ⟨NS, 0, none⟩ = some (.int .i64 st) := Go.Joins.cell_of_block kS 0
  simp only [← hW, ← hF, ← hS]
  clear hW hF hS kF kS
  have HK := hid (And.intro bel1 (And.intro f0 (And.intro f1 (And.intro f2 fs))))
  clear bel1
  go_wp2_with fail
  go_at_call 87
  refine (Wav.impl (HH.out.keep HK.out.1 (Nat.le_refl _))).mono ?_
  rw [HQ.out]
  rintro e w2 ⟨rfl, bel2⟩
  have g0 := cell_keep bel2 f0
  have g1 := cell_keep bel2 f1
  have g2 := cell_keep bel2 f2
  have gs := cell_keep bel2 fs
  have HB2 := hid (HK.out.1.trans (bel2.mono HK.out.1.size))
  clear f0 f1 f2 fs bel2
  go_wp2
  go_ret2
  exact ⟨rfl, HB2.out⟩

set_option maxHeartbeats 4000000 in
theorem implNo2 {w : World} {R C b : Nat} {st : Int} {v : Value} {zs : List Int} (h : Rd w b v zs) (hq : waveB R C zs st = true) (h2 : R < 2) :
    Calls Try.prog 41 #[ruleV R C v, .int .i64 st] w fun e w' => e = .returned (.tuple #[.slice none 0 0, .bool false]) ∧ Below w.heap.size w w' := by
  have HQ := hid hq
  have HN := hid (windNo1 (w := w) (R := R) (C := C) (NF := 0) (NS := 0) h2)
  have HW : Hid (∀ (w : World) (NF NS : Nat), Calls Try.prog 90 #[shapeV R C, (.func (.func 88) #[] #[.pointer (some ⟨NF, 0, none⟩), .pointer (some ⟨NS, 0, none⟩)]), (.func (.func 92) #[] #[.pointer (some ⟨NS, 0, none⟩)])] w fun e w' => e = .returned (.tuple #[.slice none 0 0, .bool false]) ∧ Below w.heap.size w w') := fun w NF NS => windNo1 h2
  clear hq HN
  have HH := hid h
  obtain ⟨ao, cap, rfl, hc, hm, h4⟩ := h
  have H4 := hid h4
  have hcap : zs.length ≤ cap ∧ cap ≤ 9223372036854775807 := by unfold maxLen at hm; omega
  clear hc hm h4
  have hmf : ∀ (fn : Fn) (first cap : Array Value) (w : World), (Instr.makeFunc fn first cap).run Try.prog w = .ok (.func fn first cap) w := fun _ _ _ _ => rfl
  have HMF := hid hmf
  clear hmf
  go_enter Try.func41, Try.ntmps41
  go_upto_region 1 with fail
  obtain ⟨w1, hW⟩ : ∃ w1, w1 = ((w.alloc (Obj.cells #[.int .i64 (R : Int), .int .i64 (C : Int), .slice ao zs.length cap] 26)).alloc (Obj.cells #[.int .i64 st] 2)) := ⟨_, rfl⟩
  obtain ⟨NF, hF⟩ : ∃ NF, NF = w.heap.size := ⟨_, rfl⟩
  obtain ⟨NS, hS⟩ : ∃ NS, NS = NF + 1 := ⟨_, rfl⟩
  have bel1 : Below w.heap.size w w1 := by rw [hW]; exact Go.Joins.below_alloc2 _ _ _
  have kF : w1.heap[NF]? = some (Obj.cells #[.int .i64 (R : Int), .int .i64 (C : Int), .slice ao zs.length cap] 26) := by rw [hW]; exact FNew.heap_old (FNew.heap_top hF)
  have kS : w1.heap[NS]? = some (Obj.cells #[.int .i64 st] 2) := by rw [hW]; exact FNew.heap_top (by rw [hS, hF]; simp)
  have f0 : w1.cell? ⟨NF, 0, none⟩ = some (.int .i64 (R : Int)) := Go.Joins.cell_of_block kF 0
  have f1 : w1.cell? ⟨NF, 1, none⟩ = some (.int .i64 (C : Int)) := Go.Joins.cell_of_block kF 1
  have f2 : w1.cell? ⟨NF, 2, none⟩ = some (.slice ao zs.length cap) := Go.Joins.cell_of_block kF 2
  have fs : w1.cell? ⟨NS, 0, none⟩ = some (.int .i64 st) := Go.Joins.cell_of_block kS 0
  simp only [← hW, ← hF, ← hS]
  clear hW hF hS kF kS
  have HK := hid (And.intro bel1 (And.intro f0 (And.intro f1 (And.intro f2 fs))))
  clear bel1
  go_wp2_with fail
  go_at_call 87
  refine (Wav.impl (HH.out.keep HK.out.1 (Nat.le_refl _))).mono ?_
  rw [HQ.out]
  rintro e w2 ⟨rfl, bel2⟩
  have g0 := cell_keep bel2 f0
  have g1 := cell_keep bel2 f1
  have g2 := cell_keep bel2 f2
  have gs := cell_keep bel2 fs
  have HB2 := hid (HK.out.1.trans (bel2.mono HK.out.1.size))
  clear f0 f1 f2 fs bel2
  have hmf := HMF.out
  have HG := hid (And.intro g2 gs)
  go_wp2_with fail
  clear hmf
  go_at_call 91
  refine extentOf.mono ?_
  rintro e w3 ⟨rfl, bel3⟩
  have HG3 := hid (And.intro (cell_keep bel3 HG.out.1) (cell_keep bel3 HG.out.2))
  have HB3 := hid (HB2.out.trans (bel3.mono HB2.out.size))
  clear g0 g1 g2 gs bel3
  have hmf := HMF.out
  go_wp2_with fail
  clear hmf
  go_at_call 90
  refine (HW.out _ _ _).mono ?_
  rintro e w4 ⟨rfl, bel4⟩
  have HB4 := hid (HB3.out.trans (bel4.mono HB3.out.size))
  clear bel4
  go_wp2
  go_ret2
  exact ⟨rfl, HB4.out⟩

set_option maxHeartbeats 4000000 in
theorem implNo3 {w : World} {R C b : Nat} {st : Int} {v : Value} {zs : List Int} (h : Rd w b v zs) (hq : waveB R C zs st = true) (h2 : 2 ≤ R) (h3 : C < 2) :
    Calls Try.prog 41 #[ruleV R C v, .int .i64 st] w fun e w' => e = .returned (.tuple #[.slice none 0 0, .bool false]) ∧ Below w.heap.size w w' := by
  have HQ := hid hq
  have HN := hid (windNo2 (w := w) (R := R) (C := C) (NF := 0) (NS := 0) h2 h3)
  have HW : Hid (∀ (w : World) (NF NS : Nat), Calls Try.prog 90 #[shapeV R C, (.func (.func 88) #[] #[.pointer (some ⟨NF, 0, none⟩), .pointer (some ⟨NS, 0, none⟩)]), (.func (.func 92) #[] #[.pointer (some ⟨NS, 0, none⟩)])] w fun e w' => e = .returned (.tuple #[.slice none 0 0, .bool false]) ∧ Below w.heap.size w w') := fun w NF NS => windNo2 h2 h3
  clear hq HN
  have HH := hid h
  obtain ⟨ao, cap, rfl, hc, hm, h4⟩ := h
  have H4 := hid h4
  have hcap : zs.length ≤ cap ∧ cap ≤ 9223372036854775807 := by unfold maxLen at hm; omega
  clear hc hm h4
  have hmf : ∀ (fn : Fn) (first cap : Array Value) (w : World), (Instr.makeFunc fn first cap).run Try.prog w = .ok (.func fn first cap) w := fun _ _ _ _ => rfl
  have HMF := hid hmf
  clear hmf
  go_enter Try.func41, Try.ntmps41
  go_upto_region 1 with fail
  obtain ⟨w1, hW⟩ : ∃ w1, w1 = ((w.alloc (Obj.cells #[.int .i64 (R : Int), .int .i64 (C : Int), .slice ao zs.length cap] 26)).alloc (Obj.cells #[.int .i64 st] 2)) := ⟨_, rfl⟩
  obtain ⟨NF, hF⟩ : ∃ NF, NF = w.heap.size := ⟨_, rfl⟩
  obtain ⟨NS, hS⟩ : ∃ NS, NS = NF + 1 := ⟨_, rfl⟩
  have bel1 : Below w.heap.size w w1 := by rw [hW]; exact Go.Joins.below_alloc2 _ _ _
  have kF : w1.heap[NF]? = some (Obj.cells #[.int .i64 (R : Int), .int .i64 (C : Int), .slice ao zs.length cap] 26) := by rw [hW]; exact FNew.heap_old (FNew.heap_top hF)
  have kS : w1.heap[NS]? = some (Obj.cells #[.int .i64 st] 2) := by rw [hW]; exact FNew.heap_top (by rw [hS, hF]; simp)
  have f0 : w1.cell? ⟨NF, 0, none⟩ = some (.int .i64 (R : Int)) := Go.Joins.cell_of_block kF 0
  have f1 : w1.cell? ⟨NF, 1, none⟩ = some (.int .i64 (C : Int)) := Go.Joins.cell_of_block kF 1
  have f2 : w1.cell? ⟨NF, 2, none⟩ = some (.slice ao zs.length cap) := Go.Joins.cell_of_block kF 2
  have fs : w1.cell? ⟨NS, 0, none⟩ = some (.int .i64 st) := Go.Joins.cell_of_block kS 0
  simp only [← hW, ← hF, ← hS]
  clear hW hF hS kF kS
  have HK := hid (And.intro bel1 (And.intro f0 (And.intro f1 (And.intro f2 fs))))
  clear bel1
  go_wp2_with fail
  go_at_call 87
  refine (Wav.impl (HH.out.keep HK.out.1 (Nat.le_refl _))).mono ?_
  rw [HQ.out]
  rintro e w2 ⟨rfl, bel2⟩
  have g0 := cell_keep bel2 f0
  have g1 := cell_keep bel2 f1
  have g2 := cell_keep bel2 f2
  have gs := cell_keep bel2 fs
  have HB2 := hid (HK.out.1.trans (bel2.mono HK.out.1.size))
  clear f0 f1 f2 fs bel2
  have hmf := HMF.out
  have HG := hid (And.intro g2 gs)
  go_wp2_with fail
  clear hmf
  go_at_call 91
  refine extentOf.mono ?_
  rintro e w3 ⟨rfl, bel3⟩
  have HG3 := hid (And.intro (cell_keep bel3 HG.out.1) (cell_keep bel3 HG.out.2))
  have HB3 := hid (HB2.out.trans (bel3.mono HB2.out.size))
  clear g0 g1 g2 gs bel3
  have hmf := HMF.out
  go_wp2_with fail
  clear hmf
  go_at_call 90
  refine (HW.out _ _ _).mono ?_
  rintro e w4 ⟨rfl, bel4⟩
  have HB4 := hid (HB3.out.trans (bel4.mono HB3.out.size))
  clear bel4
  go_wp2
  go_ret2
  exact ⟨rfl, HB4.out⟩

set_option maxHeartbeats 8000000 in
theorem implOk {w : World} {R C n b : Nat} {st : Int} {v : Value} {zs : List Int} (h : Rd w b v zs) (hq : waveB R C zs st = true) (hn : n = R * C) (hR2 : 2 ≤ R) (hC2 : 2 ≤ C) :
    Calls Try.prog 41 #[ruleV R C v, .int .i64 st] w fun e w' => ∃ v' b', e = .returned (.tuple #[v', .bool true]) ∧ Own 2 w' b' v' (acc zs st C (R - 1)) ∧ w.heap.size ≤ b' ∧ Below w.heap.size w w' := by
  have HQ := hid hq
  have HN := hid hn
  have H22 := hid (And.intro hR2 hC2)
  clear hq hn hR2 hC2
  have HH := hid h
  obtain ⟨ao, cap, rfl, hc, hm, h4⟩ := h
  have H4 := hid h4
  have hcap : zs.length ≤ cap ∧ cap ≤ 9223372036854775807 := by unfold maxLen at hm; omega
  clear hc hm h4
  have hmf : ∀ (fn : Fn) (first cap : Array Value) (w : World), (Instr.makeFunc fn first cap).run Try.prog w = .ok (.func fn first cap) w := fun _ _ _ _ => rfl
  have HMF := hid hmf
  clear hmf
  go_enter Try.func41, Try.ntmps41
  go_upto_region 1 with fail
  obtain ⟨w1, hW⟩ : ∃ w1, w1 = ((w.alloc (Obj.cells #[.int .i64 (R : Int), .int .i64 (C : Int), .slice ao zs.length cap] 26)).alloc (Obj.cells #[.int .i64 st] 2)) := ⟨_, rfl⟩
  obtain ⟨NF, hF⟩ : ∃ NF, NF = w.heap.size := ⟨_, rfl⟩
  obtain ⟨NS, hS⟩ : ∃ NS, NS = NF + 1 := ⟨_, rfl⟩
  have bel1 : Below w.heap.size w w1 := by rw [hW]; exact Go.Joins.below_alloc2 _ _ _
  have kF : w1.heap[NF]? = some (Obj.cells #[.int .i64 (R : Int), .int .i64 (C : Int), .slice ao zs.length cap] 26) := by rw [hW]; exact FNew.heap_old (FNew.heap_top hF)
  have kS : w1.heap[NS]? = some (Obj.cells #[.int .i64 st] 2) := by rw [hW]; exact FNew.heap_top (by rw [hS, hF]; simp)
  have f0 : w1.cell? ⟨NF, 0, none⟩ = some (.int .i64 (R : Int)) := Go.Joins.cell_of_block kF 0
  have f1 : w1.cell? ⟨NF, 1, none⟩ = some (.int .i64 (C : Int)) := Go.Joins.cell_of_block kF 1
  have f2 : w1.cell? ⟨NF, 2, none⟩ = some (.slice ao zs.length cap) := Go.Joins.cell_of_block kF 2
  have fs : w1.cell? ⟨NS, 0, none⟩ = some (.int .i64 st) := Go.Joins.cell_of_block kS 0
  simp only [← hW, ← hF, ← hS]
  clear hW hF hS kF kS
  have HK := hid (And.intro bel1 (And.intro f0 (And.intro f1 (And.intro f2 fs))))
  clear bel1
  go_wp2_with fail
  go_at_call 87
  refine (Wav.impl (HH.out.keep HK.out.1 (Nat.le_refl _))).mono ?_
  rw [HQ.out]
  rintro e w2 ⟨rfl, bel2⟩
  have g0 := cell_keep bel2 f0
  have g1 := cell_keep bel2 f1
  have g2 := cell_keep bel2 f2
  have gs := cell_keep bel2 fs
  have HB2 := hid (HK.out.1.trans (bel2.mono HK.out.1.size))
  clear f0 f1 f2 fs bel2
  have hmf := HMF.out
  have HG := hid (And.intro g2 gs)
  go_wp2_with fail
  clear hmf
  go_at_call 91
  refine extentOf.mono ?_
  rintro e w3 ⟨rfl, bel3⟩
  have HG3 := hid (And.intro (cell_keep bel3 HG.out.1) (cell_keep bel3 HG.out.2))
  have HB3 := hid (HB2.out.trans (bel3.mono HB2.out.size))
  clear g0 g1 g2 gs bel3
  have hmf := HMF.out
  go_wp2_with fail
  clear hmf
  go_at_call 90
  refine (windOk HG3.out.1 HG3.out.2 (HH.out.keep HB3.out (Nat.le_refl _)) HQ.out HN.out H22.out.1 H22.out.2).mono ?_
  rintro e w4 ⟨v', b', rfl, hown, hb', bel4⟩
  have HF := hid (And.intro hown (And.intro (Nat.le_trans HB3.out.size hb') (HB3.out.trans (bel4.mono HB3.out.size))))
  clear bel4 hown hb'
  go_wp2
  go_ret2
  exact ⟨_, b', rfl, HF.out⟩

theorem liftNo {fn : Nat} {args : Array Value} {w : World} (h : Calls Try.prog fn args w fun e w' => e = .returned (.tuple #[.slice none 0 0, .bool false]) ∧ Below w.heap.size w w') :
    Calls Try.prog fn args w fun e w' => ∃ ao c b', e = .returned (.tuple #[.slice ao ([] : List Int).length c, .bool false]) ∧ Own 2 w' b' (.slice ao ([] : List Int).length c) [] ∧ w.heap.size ≤ b' ∧ Below w.heap.size w w' := by
  refine h.mono ?_
  rintro e w' ⟨rfl, bel⟩
  exact ⟨none, 0, w.heap.size, rfl, Own.nil _ _ _, Nat.le_refl _, bel⟩
theorem liftOk {fn : Nat} {args : Array Value} {w : World} {rs : List Int} (h : Calls Try.prog fn args w fun e w' => ∃ v' b', e = .returned (.tuple #[v', .bool true]) ∧ Own 2 w' b' v' rs ∧ w.heap.size ≤ b' ∧ Below w.heap.size w w') :
    Calls Try.prog fn args w fun e w' => ∃ ao c b', e = .returned (.tuple #[.slice ao rs.length c, .bool true]) ∧ Own 2 w' b' (.slice ao rs.length c) rs ∧ w.heap.size ≤ b' ∧ Below w.heap.size w w' := by
  refine h.mono ?_
  rintro e w' ⟨v', b', rfl, hown, hb, bel⟩
  obtain ⟨ao, c, rfl, _⟩ := hown.rd
  exact ⟨ao, c, b', rfl, hown, hb, bel⟩
theorem agree (s r st : Int) (zs : List Int) : ∃ (rs : List Int) (ok : Bool), rs.length ≤ 1000000 ∧ (∀ (w : World) (b : Nat) (v : Value), Rd w b v zs → Calls Try.prog 40 #[ruleV s r v, .int .i64 st] w fun e w' => ∃ ao c b', e = .returned (.tuple #[.slice ao rs.length c, .bool ok]) ∧ Own 2 w' b' (.slice ao rs.length c) rs ∧ w.heap.size ≤ b' ∧ Below w.heap.size w w') ∧ (∀ (w : World) (b : Nat) (v : Value), Rd w b v zs → Calls Try.prog 41 #[ruleV s r v, .int .i64 st] w fun e w' => ∃ ao c b', e = .returned (.tuple #[.slice ao rs.length c, .bool ok]) ∧ Own 2 w' b' (.slice ao rs.length c) rs ∧ w.heap.size ≤ b' ∧ Below w.heap.size w w') := by
  by_cases hq : waveB s r zs st = true
  · have hb := wave_nat hq
    obtain ⟨R, rfl⟩ := Int.eq_ofNat_of_zero_le (show 0 ≤ s by omega)
    obtain ⟨C, rfl⟩ := Int.eq_ofNat_of_zero_le (show 0 ≤ r by omega)
    by_cases h2 : R < 2
    · exact ⟨[], false, by simp, fun w b v hr => liftNo (specNo2 hr hq (by omega)), fun w b v hr => liftNo (implNo2 hr hq h2)⟩
    by_cases h3 : C < 2
    · exact ⟨[], false, by simp, fun w b v hr => liftNo (specNo3 hr hq (by omega) (by omega)), fun w b v hr => liftNo (implNo3 hr hq (by omega) h3)⟩
    refine ⟨acc zs st C (R - 1), true, ?_, fun w b v hr => liftOk (specOk hr hq rfl (by omega) (by omega)), fun w b v hr => liftOk (implOk hr hq rfl (by omega) (by omega))⟩
    rw [acc_len]
    have : (R - 1) * (C - 1) ≤ 24 * 24 := Nat.mul_le_mul (by omega) (by omega)
    omega
  · have hq : waveB s r zs st = false := by simpa using hq
    exact ⟨[], false, by simp, fun w b v hr => liftNo (specNo1 hr hq), fun w b v hr => liftNo (implNo1 hr hq)⟩

end Go.Proofs.Ythcbhbdgbiiagaa.Win
