/- For every list of numbers and every two numbers, impl.WordsOfRing answers as the model of the document does, writes into nothing that it is given, and what it hands out is memory of its own. No condition. -/
import Derived.Test.YtpehalecmgpbnaaRows
import Derived.Test.YtpehalecmgpbnaaHelp
import Derived.Test.YtpehalecmgpbnaaLawKit
import Derived.Test.YtpehalecmgpbnaaWords
import Derived.WalkKit
import Derived.WalkLawsBesides
import Derived.ProofKit
import Derived.OpenShut
import Derived.ShutString
import Derived.ChangeOld
import Derived.Below
import Derived.IntWalk
import Derived.Lib.SmallJoins
namespace Go.Proofs.Ytpehalecmgpbnaa.lawWordsOfRing
open Go.ChangeShapes Go.WideShapes Go.ChangeAt Go.RowKit Go.Joins Go.Proofs.Ytpehalecmgpbnaa.Rd Go.Proofs.Ytpehalecmgpbnaa.Help
set_option linter.unusedVariables false
theorem own : ownKnob Try.prog.godebug = none := by kernel_rfl
theorem laidOut : laidOutB Try.prog = true := by kernel_rfl
theorem agree (zs : List Int) (st L : Int) (hz : zs.length ≤ 1048576) : ∃ (ws : List Int) (ok : Bool), ws.length ≤ 1000000 ∧
    (∀ (w : World) (b : Nat) (v : Value), Rd w b v zs → Calls Try.prog 27 #[v, .int .i64 st, .int .i64 L] w fun e w' => ∃ v' b', e = .returned (.tuple #[v', .bool ok]) ∧ Own 2 w' b' v' ws ∧ w.heap.size ≤ b' ∧ Below w.heap.size w w') ∧
    (∀ (w : World) (b : Nat) (v : Value), Rd w b v zs → Calls Try.prog 28 #[v, .int .i64 st, .int .i64 L] w fun e w' => ∃ v' b', e = .returned (.tuple #[v', .bool ok]) ∧ Own 2 w' b' v' ws ∧ w.heap.size ≤ b' ∧ Below w.heap.size w w') := by
  by_cases h : Words.Good zs st L
  · obtain ⟨N, rfl⟩ := Int.eq_ofNat_of_zero_le (show 0 ≤ L by have := h.2.1; omega)
    refine ⟨Words.counts zs st N zs.length, true, ?_, fun w b v hr => ?_, fun w b v hr => Words.implOk hr h⟩
    · rw [Words.counts_length]
      have h1 := (Words.good_parts h.1).1
      have h2 := (Num.pow_bd h1 (show N ≤ 5 by have := h.2.2; omega)).2
      omega
    · refine Words.spec _ ((Words.specOk hr h).mono ?_)
      rintro e w' ⟨v', b', rfl, r⟩
      exact ⟨v', true, rfl, v', b', rfl, r⟩
  · refine ⟨[], false, by simp, fun w b v hr => ?_, fun w b v hr => ?_⟩
    · refine Words.spec _ ((Words.specNo hr h).mono ?_)
      rintro e w' ⟨rfl, rfl⟩
      exact ⟨_, false, rfl, _, w.heap.size, rfl, Own.nil _ _ _, Nat.le_refl _, Below.refl _ _⟩
    · refine (Words.implNo hr h).mono ?_
      rintro e w' ⟨rfl, bel⟩
      exact ⟨_, w.heap.size, rfl, Own.nil _ _ _, Nat.le_refl _, bel⟩

set_option maxHeartbeats 4000000 in
theorem walk {w : World} {b0 : Nat} {v0 : Value} {z0 : List Int} (h0 : Rd w b0 v0 z0) {a1 : Int} (f1 : (Lit.int .i64 a1).wf = true) {a2 : Int} (f2 : (Lit.int .i64 a2).wf = true) :
    Calls Try.prog 8 #[v0, .int .i64 a1, .int .i64 a2] w fun e w' => e = .returned (.bool true) ∧ Below w.heap.size w w' := by
  rcases Nat.lt_or_ge 1048576 z0.length with hx0 | hl0
  · obtain ⟨ao, cap, rfl, _, _, _⟩ := h0
    go_enter Try.func8, Try.ntmps8
    go_wp2
    go_ret
    exact ⟨rfl, Below.refl _ _⟩
  obtain ⟨ao0, cap0, e0, _⟩ := id h0
  have H0 : Hid (Rd w b0 v0 z0) := h0
  have HL0 : Hid (z0.length ≤ 1048576) := hl0
  have HV0 : Hid (v0 = .slice ao0 z0.length cap0) := e0
  have hi0 : (z0.length : Int) ≤ 1048576 := by omega
  obtain ⟨zs, q1, hlen, hspec, himpl⟩ := agree z0 a1 a2 hl0
  have HN : Hid (zs.length ≤ 1000000) := hlen
  have hlen' : (zs.length : Int) ≤ 1000000 := by omega
  have HSp := hid @hspec
  have HIm := hid @himpl
  have Bc : Below w.heap.size w w := Below.refl _ _
  clear h0 hl0; subst e0
  clear hlen hspec himpl
  go_enter Try.func8, Try.ntmps8
  go_wp2_with fail
  go_at_call 12
  refine (toS (H0.out.keep Bc (Nat.le_refl _)) HL0.out).mono ?_
  rintro e w1 ⟨rfl, os0, bel⟩
  obtain ⟨bs0, hbs0⟩ : ∃ b, b = w.heap.size := ⟨_, rfl⟩
  obtain ⟨vs0, hvs0⟩ : ∃ v, v = Value.slice (some ⟨w.heap.size, 0, none⟩) z0.length z0.length := ⟨_, rfl⟩
  rw [← hbs0] at hvs0
  rw [← hbs0, ← hvs0] at os0
  have cbs0 : w.heap.size ≤ bs0 := Nat.le_trans Bc.size (Nat.le_of_eq hbs0.symm)
  have HVs0 := hid hvs0
  replace Bc := Bc.trans (bel.mono Bc.size)
  have HBs0 := hid hbs0
  clear bel
  simp only [← hbs0, ← hvs0]
  clear hbs0 hvs0
  go_wp2_with fail
  go_at_call 27
  refine (HSp.out _ _ _ os0.rd).mono ?_
  rintro e w2 ⟨vW, bW, rfl, oW, lo, bel⟩
  have nes0W := (lim os0).imp id (fun hx => (by have hy := lo; omega : bs0 ≠ bW))
  have cbW : w.heap.size ≤ bW := Nat.le_trans Bc.size lo
  replace os0 := os0.keep bel
  replace Bc := Bc.trans (bel.mono Bc.size)
  clear bel lo
  go_wp2_with fail
  go_at_call 12
  refine (toS (H0.out.keep Bc (Nat.le_refl _)) HL0.out).mono ?_
  rintro e w3 ⟨rfl, ox0, bel⟩
  obtain ⟨bx0, hbx0⟩ : ∃ b, b = w2.heap.size := ⟨_, rfl⟩
  obtain ⟨vx0, hvx0⟩ : ∃ v, v = Value.slice (some ⟨w2.heap.size, 0, none⟩) z0.length z0.length := ⟨_, rfl⟩
  rw [← hbx0] at hvx0
  rw [← hbx0, ← hvx0] at ox0
  have nes0x0 := (lim os0).imp id (fun hx => (by have hy := (Nat.le_of_eq hbx0.symm); omega : bs0 ≠ bx0))
  have neWx0 := (lim oW).imp id (fun hx => (by have hy := (Nat.le_of_eq hbx0.symm); omega : bW ≠ bx0))
  have cbx0 : w.heap.size ≤ bx0 := Nat.le_trans Bc.size (Nat.le_of_eq hbx0.symm)
  have HVx0 := hid hvx0
  replace os0 := os0.keep bel
  replace oW := oW.keep bel
  replace Bc := Bc.trans (bel.mono Bc.size)
  have HBx0 := hid hbx0
  clear bel
  simp only [← hbx0, ← hvx0]
  clear hbx0 hvx0
  go_wp2_with fail
  go_at_call 28
  refine (HIm.out _ _ _ ox0.rd).mono ?_
  rintro e w4 ⟨vG, bG, rfl, oG, lo, bel⟩
  have nes0G := (lim os0).imp id (fun hx => (by have hy := lo; omega : bs0 ≠ bG))
  have neWG := (lim oW).imp id (fun hx => (by have hy := lo; omega : bW ≠ bG))
  have nex0G := (lim ox0).imp id (fun hx => (by have hy := lo; omega : bx0 ≠ bG))
  have cbG : w.heap.size ≤ bG := Nat.le_trans Bc.size lo
  replace os0 := os0.keep bel
  replace oW := oW.keep bel
  replace ox0 := ox0.keep bel
  replace Bc := Bc.trans (bel.mono Bc.size)
  clear bel lo
  go_wp2_with fail
  go_at_call 14
  refine (eqB oG.rd oW.rd).mono ?_
  rintro e w5 ⟨rfl, bel⟩
  replace os0 := os0.keep bel
  replace oW := oW.keep bel
  replace ox0 := ox0.keep bel
  replace oG := oG.keep bel
  replace Bc := Bc.trans (bel.mono Bc.size)
  clear bel
  go_wp2_with fail
  go_at_call 12
  refine (toS (H0.out.keep Bc (Nat.le_refl _)) HL0.out).mono ?_
  rintro e w6 ⟨rfl, oy0, bel⟩
  obtain ⟨by0, hby0⟩ : ∃ b, b = w5.heap.size := ⟨_, rfl⟩
  obtain ⟨vy0, hvy0⟩ : ∃ v, v = Value.slice (some ⟨w5.heap.size, 0, none⟩) z0.length z0.length := ⟨_, rfl⟩
  rw [← hby0] at hvy0
  rw [← hby0, ← hvy0] at oy0
  have nes0y0 := (lim os0).imp id (fun hx => (by have hy := (Nat.le_of_eq hby0.symm); omega : bs0 ≠ by0))
  have neWy0 := (lim oW).imp id (fun hx => (by have hy := (Nat.le_of_eq hby0.symm); omega : bW ≠ by0))
  have nex0y0 := (lim ox0).imp id (fun hx => (by have hy := (Nat.le_of_eq hby0.symm); omega : bx0 ≠ by0))
  have neGy0 := (lim oG).imp id (fun hx => (by have hy := (Nat.le_of_eq hby0.symm); omega : bG ≠ by0))
  have cby0 : w.heap.size ≤ by0 := Nat.le_trans Bc.size (Nat.le_of_eq hby0.symm)
  have HVy0 := hid hvy0
  replace os0 := os0.keep bel
  replace oW := oW.keep bel
  replace ox0 := ox0.keep bel
  replace oG := oG.keep bel
  replace Bc := Bc.trans (bel.mono Bc.size)
  have HBy0 := hid hby0
  clear bel
  simp only [← hby0, ← hvy0]
  clear hby0 hvy0
  go_wp2_with fail
  go_at_call 14
  refine (eqB ox0.rd oy0.rd).mono ?_
  rintro e w7 ⟨rfl, bel⟩
  replace os0 := os0.keep bel
  replace oW := oW.keep bel
  replace ox0 := ox0.keep bel
  replace oG := oG.keep bel
  replace oy0 := oy0.keep bel
  replace Bc := Bc.trans (bel.mono Bc.size)
  clear bel
  go_wp2_with fail
  go_at_call 17
  refine (markS ox0 (by omega) (by have := HN.out; have := HL0.out; omega)).mono ?_
  rintro e w8 ⟨rfl, mx0, g, gn⟩
  replace os0 := beside os0 g nes0x0
  replace oW := beside oW g neWx0
  replace oG := beside' oG g gn nex0G
  replace ox0 := mx0; clear mx0
  replace Bc := below_mark Bc g Bc.size cbx0; clear g gn
  go_wp2_with fail
  go_at_call 14
  refine (eqB oG.rd oW.rd).mono ?_
  rintro e w9 ⟨rfl, bel⟩
  replace os0 := os0.keep bel
  replace oW := oW.keep bel
  replace ox0 := ox0.keep bel
  replace oG := oG.keep bel
  replace Bc := Bc.trans (bel.mono Bc.size)
  clear bel
  go_wp2_with fail
  go_at_call 17
  refine (markS oG (by omega) (by have := HN.out; omega)).mono ?_
  rintro e w10 ⟨rfl, mG, g, gn⟩
  replace os0 := beside os0 g nes0G
  replace oW := beside oW g neWG
  replace ox0 := beside ox0 g nex0G
  replace oG := mG; clear mG
  replace Bc := below_mark Bc g Bc.size cbG; clear g gn
  go_wp2_with fail
  go_at_call 18
  refine (heldS oG.rd (by omega) (by have := HN.out; omega)).mono ?_
  rintro e w11 ⟨rfl, rfl⟩
  go_wp2_with fail
  go_at_call 12
  refine (toS (H0.out.keep Bc (Nat.le_refl _)) HL0.out).mono ?_
  rintro e w11 ⟨rfl, ok0, bel⟩
  obtain ⟨bk0, hbk0⟩ : ∃ b, b = w10.heap.size := ⟨_, rfl⟩
  obtain ⟨vk0, hvk0⟩ : ∃ v, v = Value.slice (some ⟨w10.heap.size, 0, none⟩) z0.length z0.length := ⟨_, rfl⟩
  rw [← hbk0] at hvk0
  rw [← hbk0, ← hvk0] at ok0
  have nes0k0 := (lim os0).imp id (fun hx => (by have hy := (Nat.le_of_eq hbk0.symm); omega : bs0 ≠ bk0))
  have neWk0 := (lim oW).imp id (fun hx => (by have hy := (Nat.le_of_eq hbk0.symm); omega : bW ≠ bk0))
  have nex0k0 := (lim ox0).imp id (fun hx => (by have hy := (Nat.le_of_eq hbk0.symm); omega : bx0 ≠ bk0))
  have neGk0 := (lim oG).imp id (fun hx => (by have hy := (Nat.le_of_eq hbk0.symm); omega : bG ≠ bk0))
  have cbk0 : w.heap.size ≤ bk0 := Nat.le_trans Bc.size (Nat.le_of_eq hbk0.symm)
  have HVk0 := hid hvk0
  replace os0 := os0.keep bel
  replace oW := oW.keep bel
  replace ox0 := ox0.keep bel
  replace oG := oG.keep bel
  replace Bc := Bc.trans (bel.mono Bc.size)
  have HBk0 := hid hbk0
  clear bel
  simp only [← hbk0, ← hvk0]
  clear hbk0 hvk0
  go_wp2_with fail
  go_at_call 28
  refine (HIm.out _ _ _ ok0.rd).mono ?_
  rintro e w12 ⟨vK, bK, rfl, oK, lo, bel⟩
  have nes0K := (lim os0).imp id (fun hx => (by have hy := lo; omega : bs0 ≠ bK))
  have neWK := (lim oW).imp id (fun hx => (by have hy := lo; omega : bW ≠ bK))
  have nex0K := (lim ox0).imp id (fun hx => (by have hy := lo; omega : bx0 ≠ bK))
  have neGK := (lim oG).imp id (fun hx => (by have hy := lo; omega : bG ≠ bK))
  have nek0K := (lim ok0).imp id (fun hx => (by have hy := lo; omega : bk0 ≠ bK))
  have cbK : w.heap.size ≤ bK := Nat.le_trans Bc.size lo
  replace os0 := os0.keep bel
  replace oW := oW.keep bel
  replace ox0 := ox0.keep bel
  replace oG := oG.keep bel
  replace ok0 := ok0.keep bel
  replace Bc := Bc.trans (bel.mono Bc.size)
  clear bel lo
  go_wp2_with fail
  go_at_call 14
  refine (eqB oK.rd oW.rd).mono ?_
  rintro e w13 ⟨rfl, bel⟩
  replace os0 := os0.keep bel
  replace oW := oW.keep bel
  replace ox0 := ox0.keep bel
  replace oG := oG.keep bel
  replace ok0 := ok0.keep bel
  replace oK := oK.keep bel
  replace Bc := Bc.trans (bel.mono Bc.size)
  clear bel
  go_wp2_with fail
  go_at_call 18
  refine (heldS oG.rd (by omega) (by have := HN.out; omega)).mono ?_
  rintro e w14 ⟨rfl, rfl⟩
  go_wp2
  go_ret
  exact ⟨rfl, Bc⟩

set_option maxRecDepth 100000 in
theorem lifted (os : Os) (started : os.Started) (H : Type) (enc : TypeId × Value → H) :
    ReturnsInHanded {} Try.checked os 8 .any (Rows.fnExactWordsOfRingSpec.pre6 enc Try.prog Try.f8 Rows.fnExactWordsOfRingRow.domain false) (Rows.fnExactWordsOfRingSpec.post enc Try.prog Try.f8 false true false false) := by
  refine returnsInHanded_of_change (C := Try.checked) own started (by kernel_rfl) Try.func8
    (ChangeSpec.witness6 (enc := enc) (C := Try.checked) false ⟨#[], #[.slice none 0 0, .int .i64 0, .int .i64 0], []⟩ 8 (by kernel_rfl) (by kernel_rfl) (by kernel_rfl) (by kernel_rfl)) ?_
  intro W base args ds gs before hval0 hW hcnd hreach
  have hval : ∀ (j : Nat) t v, Try.f8.params[j]? = some t → args[j]? = some v → Value.okWide Try.prog W .any base t v := hval0
  have hW' := hW
  obtain ⟨p, q, hA0, hV, rfl, hfz, hnd⟩ := hW
  have hA : DataW.TrodAll enc Try.prog W 0 (fun _ => true) true Try.f8.params.toList args.toList ds p := hA0
  rw [Try.params8] at hA hval
  obtain ⟨v0, vs0, d0, ds0, p0, q0, hargs, rfl, rfl, h0, r0⟩ := trodAll_cons hA
  obtain ⟨v1, vs1, d1, ds1, p1, q1, rfl, rfl, rfl, h1, r1⟩ := trodAll_cons r0
  obtain ⟨v2, vs2, d2, ds2, p2, q2, rfl, rfl, rfl, h2, r2⟩ := trodAll_cons r1
  obtain ⟨rfl, rfl, rfl⟩ := trodAll_nil r2
  obtain rfl : args = #[v0, v1, v2] := by cases args; simp_all
  obtain ⟨rfl, rfl⟩ := trodVars_none hV
  have k0 := h0
  have lt0 : ∀ x ∈ p0, x.block < W.heap.size := by obtain ⟨m, hm⟩ := k0; exact DataW.trod_lt m _ _ _ hm
  obtain ⟨a0, len0, cap0, rfl⟩ := okWide_slice Try.underlying22 (hval 0 22 v0 rfl rfl)
  obtain ⟨b0, z0, _, w0⟩ : ∃ b zs, zs.length = len0 ∧ Rd W b (.slice a0 len0 cap0) zs := by
    obtain ⟨fuel, hf⟩ := h0
    exact rd_open Try.underlying22 Try.underlying2 (by kernel_rfl) (by simpa [Value.cells] using hf)
  obtain ⟨a1, rfl, rfl, rfl, w1⟩ := open_int Try.underlying2 (hval 1 2 v1 rfl rfl) h1
  obtain ⟨a2, rfl, rfl, rfl, w2⟩ := open_int Try.underlying2 (hval 2 2 v2 rfl rfl) h2
  clear hA0 hval0
  refine (walk w0 w1 w2).mono fun e W' ⟨he, bel⟩ => ?_
  subst he
  exact ⟨_, rfl, _, _, _, [], _, [], hW', trodAll_mk1 (shut_bool Try.underlying4 _), (trodAll_cons_mk (Below.trod laidOut (by kernel_rfl) (of_decide_eq_true (by kernel_rfl)) k0 bel lt0) (trodAll_cons_mk (shut_int Try.underlying2 w1) (trodAll_cons_mk (shut_int Try.underlying2 w2) (trodAll_mk0)))), rfl, bel.frame _, fun h => by cases h⟩

theorem over : Rows.fnExactWordsOfRingRow.holds Try.pinned (OpenSpec.ofChange Rows.fnExactWordsOfRingSpec) :=
  OpenClaim.holds_of_wide 8 Try.f8 rfl rfl rfl rfl rfl rfl rfl ⟨rfl, rfl, rfl, rfl, rfl⟩ rfl rfl rfl rfl rfl (by kernel_rfl) Try.func8 (by kernel_rfl)
    (of_decide_eq_true (by kernel_rfl)) (by unfold Func.isWrapper; rw [if_neg (of_decide_eq_false (by kernel_rfl))]; exact ⟨rfl, rfl⟩)
    (fun os started H enc _ => lifted os started H enc)

theorem proved : Rows.FnExactWordsOfRingSaid := over
end Go.Proofs.Ytpehalecmgpbnaa.lawWordsOfRing
