/- Whether steps keep how often a word is there: the program's side. -/
import Derived.Test.YtjeoccjemkdbiaaKcS
import Derived.Test.YtjeoccjemkdbiaaRgs
import Derived.BigFrame
namespace Go.Proofs.Ytjeoccjemkdbiaa.KcI
open Go.RowKit Go.Shelf Go.Proofs.Ytjeoccjemkdbiaa.Rd Go.Proofs.Ytjeoccjemkdbiaa.Help Go.Proofs.Ytjeoccjemkdbiaa.Ring Go.Proofs.Ytjeoccjemkdbiaa.Small Go.Proofs.Ytjeoccjemkdbiaa.Num Go.Proofs.Ytjeoccjemkdbiaa.Keep Go.Proofs.Ytjeoccjemkdbiaa.Rule Go.Proofs.Ytjeoccjemkdbiaa.FVal Go.Proofs.Ytjeoccjemkdbiaa.Wbi Go.Proofs.Ytjeoccjemkdbiaa.Step Go.Proofs.Ytjeoccjemkdbiaa.Dig Go.Proofs.Ytjeoccjemkdbiaa.DigP Go.Proofs.Ytjeoccjemkdbiaa.CwP Go.Proofs.Ytjeoccjemkdbiaa.KcP Go.Proofs.Ytjeoccjemkdbiaa.KcS
set_option linter.unusedVariables false
set_option linter.unusedSimpArgs false
attribute [local go_sem] Oper.semAt_some

theorem limitOf {w : World} {s x y : Int} (hs : 2 ≤ s ∧ s ≤ 3) :
    Calls Try.prog 35 #[.int .i64 s, .int .i64 x, .int .i64 y] w fun e w' => e = .returned (.int .i64 (lim s x y)) ∧ w = w' := by
  rcases (show s = 2 ∨ s = 3 by omega) with rfl | rfl
  all_goals
    go_enter Try.func35, Try.ntmps35
    go_wp2
    go_ret
    exact ⟨rfl, rfl⟩

/-- The end, with both results in their cells. -/
theorem ret2 {w w2 : World} {NR : Nat} {a : Act} {x y : Bool} (hd : a.defers = []) (h6 : a.tmps.getD 6 undef = .pointer (some ⟨NR + 2, 0, none⟩)) (h7 : a.tmps.getD 7 undef = .pointer (some ⟨NR + 3, 0, none⟩)) (hN : w.heap.size = NR) (hB : Below w.heap.size w w2) (hlt : NR + 3 < w2.heap.size) (f6 : ∃ o, w2.heap[NR + 2]? = some (Obj.cells #[.bool o] 4)) (f7 : ∃ o, w2.heap[NR + 3]? = some (Obj.cells #[.bool o] 4)) :
    bodyPost Try.prog Try.f12 (fun e w' => e = .returned (.tuple #[.bool x, .bool y]) ∧ Below w.heap.size w w') .ret a ((w2.setCell ⟨NR + 2, 0, none⟩ (.bool x)).setCell ⟨NR + 3, 0, none⟩ (.bool y)) := by
  obtain ⟨o6, f6⟩ := f6
  obtain ⟨o7, f7⟩ := f7
  obtain ⟨W, hW⟩ : ∃ W, W = (w2.setCell ⟨NR + 2, 0, none⟩ (.bool x)).setCell ⟨NR + 3, 0, none⟩ (.bool y) := ⟨_, rfl⟩
  have k6 : W.cell? ⟨NR + 2, 0, none⟩ = some (.bool x) := by
    rw [hW]
    exact (World.cell?_setCell_far _ _ _ _ (by simp)).trans (Go.Joins.cell_of_block (one_setCell f6) 0)
  have k7 : W.cell? ⟨NR + 3, 0, none⟩ = some (.bool y) := by
    rw [hW]
    exact Go.Joins.cell_of_block (one_setCell ((Below.heap_setCell w2 ⟨NR + 2, 0, none⟩ _ (NR + 3) (by simp)).trans f7)) 0
  have bW : Below w.heap.size w W := by
    rw [hW]
    exact (hB.setCell (p := ⟨NR + 2, 0, none⟩) (by simp; omega) _).setCell (p := ⟨NR + 3, 0, none⟩) (by simp; omega) _
  rw [← hW]
  refine bodyPost_ret (v := .tuple #[.bool x, .bool y]) ?_ hd ⟨rfl, bW⟩
  rw [Array.getD_eq_getD_getElem?] at h6 h7
  simp only [results, Try.f12]
  simp [go_sem, h6, h7, k6, k7]

set_option maxHeartbeats 4000000 in
theorem implNo {w : World} {s r n : Int} {b bw : Nat} {v vw : Value} {tbl ws : List Int} (h : Rd w b v tbl) (hw : Rd w bw vw ws) (hv : askB s r tbl ws n = false) :
    Calls Try.prog 12 #[ruleV s r v, vw, .int .i64 n] w fun e w' => e = .returned (.tuple #[.bool false, .bool false]) ∧ Below w.heap.size w w' := by
  have HH := hid h
  have HW := hid hw
  have HF := hid hv
  obtain ⟨ao, cap, rfl, _, _, _⟩ := h
  obtain ⟨ao2, cap2, rfl, _, hm2, _⟩ := hw
  have hsz : ws.length ≤ 9223372036854775807 := by unfold maxLen at hm2; omega
  obtain ⟨m, hmm⟩ : ∃ m, m = ws.length := ⟨_, rfl⟩
  rw [← hmm] at hsz HW ⊢
  have HM := hid hmm
  clear hv hm2 hmm
  go_enter Try.func12, Try.ntmps12
  go_wp2_with fail
  obtain ⟨w1, hW⟩ : ∃ x, x = (((w.alloc (Obj.cells #[.int .i64 s, .int .i64 r, (.slice ao tbl.length cap)] 28)).alloc (Obj.cells #[(.slice ao2 m cap2)] 22)).alloc (Obj.cells #[.bool false] 4)).alloc (Obj.cells #[.bool false] 4) := ⟨_, rfl⟩
  obtain ⟨NR, hN⟩ : ∃ x, x = w.heap.size := ⟨_, rfl⟩
  have HB1 : Hid (Below w.heap.size w w1) := by simp only [Hid]; rw [hW]; exact ((((Below.refl _ w).alloc (Nat.le_refl _) _).alloc (by simp <;> omega) _).alloc (by simp <;> omega) _).alloc (by simp <;> omega) _
  have kR : w1.heap[NR]? = some (Obj.cells #[.int .i64 s, .int .i64 r, (.slice ao tbl.length cap)] 28) := by rw [hW]; exact FNew.heap_old (FNew.heap_old (FNew.heap_old (FNew.heap_top hN)))
  have kW : w1.heap[NR + 1]? = some (Obj.cells #[(.slice ao2 m cap2)] 22) := by rw [hW]; exact FNew.heap_old (FNew.heap_old (FNew.heap_top (by simp [hN])))
  have k6 : w1.heap[NR + 2]? = some (Obj.cells #[.bool false] 4) := by rw [hW]; exact FNew.heap_old (FNew.heap_top (by simp [hN]))
  have k7 : w1.heap[NR + 3]? = some (Obj.cells #[.bool false] 4) := by rw [hW]; exact FNew.heap_top (by simp [hN])
  have HNR : Hid (w.heap.size = NR) := by simp only [Hid]; exact hN.symm

  have hcl := Rule.implValid (s := s) (r := r) (HH.out.keep HB1.out (Nat.le_refl _))
  simp only [Nat.add_assoc, Nat.reduceAdd, ← hW, ← hN]
  clear hW hN
  go_at_call 30
  refine hcl.mono ?_
  clear hcl
  cases hq : validB s r tbl with
  | false =>
    rintro e w2 ⟨rfl, bel⟩
    replace kR := Box.heap_keep bel kR
    replace k6 := Box.heap_keep bel k6
    replace k7 := Box.heap_keep bel k7
    have HB2 := hid (HB1.out.trans (bel.mono HB1.out.size))
    have a6 := Go.Joins.cell_of_block k6 0
    have a7 := Go.Joins.cell_of_block k7 0
    have f6 := Go.Joins.unfrozen_of_block k6 0
    have f7 := Go.Joins.unfrozen_of_block k7 0
    simp only [List.getElem?_toArray, List.getElem?_cons_zero] at a6 a7
    clear bel hq
    go_wp2
    exact ret2 rfl rfl rfl HNR.out HB2.out (Box.heap_lt k7) ⟨_, k6⟩ ⟨_, k7⟩
  | true =>
    obtain ⟨hs, hr, _, _⟩ := Al.valid_parts hq
    have HS := hid hs
    have HR := hid hr
    have HQ := hid hq
    rintro e w2 ⟨rfl, bel⟩
    have KR := hid (Box.heap_keep bel kR)
    have KW := hid (Box.heap_keep bel kW)
    have K6 := hid (Box.heap_keep bel k6)
    have K7 := hid (Box.heap_keep bel k7)
    have HB2 := hid (HB1.out.trans (bel.mono HB1.out.size))
    have a0 := Go.Joins.cell_of_block KR.out 0
    have aw := Go.Joins.cell_of_block KW.out 0
    simp only [List.getElem?_toArray, List.getElem?_cons_zero] at a0 aw
    clear bel hq hs hr kR kW k6 k7
    go_wp2_with fail
    go_at_call 31
    refine (isWord (HW.out.keep HB2.out (Nat.le_refl _)) (by have := HS.out; omega)).mono ?_
    cases hwd : wordB ws s with
    | false =>
      rintro e w3 ⟨rfl, bel⟩
      have k6 := Box.heap_keep bel K6.out
      have k7 := Box.heap_keep bel K7.out
      have HB3 := hid (HB2.out.trans (bel.mono HB2.out.size))
      have a6 := Go.Joins.cell_of_block k6 0
      have a7 := Go.Joins.cell_of_block k7 0
      have f6 := Go.Joins.unfrozen_of_block k6 0
      have f7 := Go.Joins.unfrozen_of_block k7 0
      simp only [List.getElem?_toArray, List.getElem?_cons_zero] at a6 a7
      clear bel hwd aw a0
      go_wp2
      exact ret2 rfl rfl rfl HNR.out HB3.out (Box.heap_lt k7) ⟨_, k6⟩ ⟨_, k7⟩
    | true =>
      have HWD := hid hwd
      rintro e w3 ⟨rfl, bel⟩
      have KR3 := hid (Box.heap_keep bel KR.out)
      have KW3 := hid (Box.heap_keep bel KW.out)
      have k6 := Box.heap_keep bel K6.out
      have k7 := Box.heap_keep bel K7.out
      have HB3 := hid (HB2.out.trans (bel.mono HB2.out.size))
      have aw3 := Go.Joins.cell_of_block KW3.out 0
      simp only [List.getElem?_toArray, List.getElem?_cons_zero] at aw3
      clear bel hwd aw a0
      by_cases h3 : m ≤ 3
      · have e3 : decide ((3 : Int) < (m : Int)) = false := decide_eq_false (by omega)
        have K63 := hid k6
        have K73 := hid k7
        have st : Below w3.heap.size w3 w3 ∧ w3.cell? ⟨NR, 0, none⟩ = some (.int .i64 s) ∧ w3.cell? ⟨NR, 1, none⟩ = some (.int .i64 r) ∧ w3.cell? ⟨NR, 2, none⟩ = some (.slice ao tbl.length cap) ∧ w3.cell? ⟨NR + 1, 0, none⟩ = some (.slice ao2 m cap2) ∧ w3.heap.size ≤ w3.heap.size := ⟨Below.refl _ _, Go.Joins.cell_of_block KR3.out 0, Go.Joins.cell_of_block KR3.out 1, Go.Joins.cell_of_block KR3.out 2, aw3, Nat.le_refl _⟩
        clear k6 k7
        go_wp2_with fail
        clear aw3
        refine wp_region_held_drew (S := (fun ww => Below w3.heap.size w3 ww ∧ ww.cell? ⟨NR, 0, none⟩ = some (.int .i64 s) ∧ ww.cell? ⟨NR, 1, none⟩ = some (.int .i64 r) ∧ ww.cell? ⟨NR, 2, none⟩ = some (.slice ao tbl.length cap) ∧ ww.cell? ⟨NR + 1, 0, none⟩ = some (.slice ao2 m cap2) ∧ w3.heap.size ≤ ww.heap.size)) (by kernel_rfl) ?_ (fun hHeld => ?_)
        · ((try dsimp only); exact drew4_0 st)
        (refine wpAnyH_take (i := 0) (v := ?_) rfl ?_ ?_ ?_ (fun _ _ _ h => h) (Or.inl ⟨?_, ?_⟩) ?_ ?_; rotate_left 1; (focus decide +kernel); (focus decide +kernel); (focus decide +kernel); (focus rfl); (focus (intro w hSw; (try dsimp only at hSw); go_simp; (try (with_reducible rfl)); done)); (focus assumption); (try simp only [Act.put, List.setIfInBounds_toArray, List.set_cons_zero, List.set_cons_succ, List.getElem_toArray, List.getElem_cons_succ, List.getElem_cons_zero]))
        (refine wpAnyH_take (i := 3) (v := ?_) rfl ?_ ?_ ?_ (fun _ _ _ h => h) (Or.inl ⟨?_, ?_⟩) ?_ ?_; rotate_left 1; (focus decide +kernel); (focus decide +kernel); (focus decide +kernel); (focus rfl); (focus (intro w hSw; (try dsimp only at hSw); go_simp; (try (with_reducible rfl)); done)); (focus assumption); (try simp only [Act.put, List.setIfInBounds_toArray, List.set_cons_zero, List.set_cons_succ, List.getElem_toArray, List.getElem_cons_succ, List.getElem_cons_zero]))
        (refine wpAnyH_take (i := 4) (v := ?_) rfl ?_ ?_ ?_ (fun _ _ _ h => h) (Or.inl ⟨?_, ?_⟩) ?_ ?_; rotate_left 1; (focus decide +kernel); (focus decide +kernel); (focus decide +kernel); (focus rfl); (focus (intro w hSw; (try dsimp only at hSw); go_simp; (try (with_reducible rfl)); done)); (focus assumption); (try simp only [Act.put, List.setIfInBounds_toArray, List.set_cons_zero, List.set_cons_succ, List.getElem_toArray, List.getElem_cons_succ, List.getElem_cons_zero]))
        refine wpAnyH_ready (rs := [1]) ?_ (by simp) ?_
        · decide +kernel
        refine AllReadyH.cons rfl (fun K hK => ?_) AllReadyH.nil
        go_simp
        go_at_call 32
        refine (shapeOf).mono ?_
        rintro e wq ⟨rfl, bel⟩
        refine hK.out _ _ ?_ (fun hHeld2 => ?_)
        · (try dsimp only); exact next4_0 bel hHeld
        clear hK K hHeld bel
        have hHeld := hHeld2
        clear hHeld2
        (try simp only [Act.put, List.setIfInBounds_toArray, List.set_cons_zero, List.set_cons_succ, List.getElem_toArray, List.getElem_cons_succ, List.getElem_cons_zero])
        refine wpAnyH_ready (rs := [2]) ?_ (by simp) ?_
        · decide +kernel
        refine AllReadyH.cons rfl (fun K hK => ?_) AllReadyH.nil
        go_simp
        go_at_call 33
        refine (wide HR.out).mono ?_
        rintro e wq ⟨rfl, bel⟩
        refine hK.out _ _ ?_ (fun hHeld2 => ?_)
        · (try dsimp only); exact next4_0 bel hHeld
        clear hK K hHeld bel
        have hHeld := hHeld2
        clear hHeld2
        (try simp only [Act.put, List.setIfInBounds_toArray, List.set_cons_zero, List.set_cons_succ, List.getElem_toArray, List.getElem_cons_succ, List.getElem_cons_zero])
        (refine wpAnyH_take (i := 5) (v := ?_) rfl ?_ ?_ ?_ (fun _ _ _ h => h) (Or.inl ⟨?_, ?_⟩) ?_ ?_; rotate_left 1; (focus decide +kernel); (focus decide +kernel); (focus decide +kernel); (focus rfl); (focus (intro w hSw; (try dsimp only at hSw); go_simp; (try (with_reducible rfl)); done)); (focus assumption); (try simp only [Act.put, List.setIfInBounds_toArray, List.set_cons_zero, List.set_cons_succ, List.getElem_toArray, List.getElem_cons_succ, List.getElem_cons_zero]))
        (refine wpAnyH_take (i := 6) (v := ?_) rfl ?_ ?_ ?_ (fun _ _ _ h => h) (Or.inl ⟨?_, ?_⟩) ?_ ?_; rotate_left 1; (focus decide +kernel); (focus decide +kernel); (focus decide +kernel); (focus rfl); (focus (intro w hSw; (try dsimp only at hSw); go_simp; (try (with_reducible rfl)); done)); (focus assumption); (try simp only [Act.put, List.setIfInBounds_toArray, List.set_cons_zero, List.set_cons_succ, List.getElem_toArray, List.getElem_cons_succ, List.getElem_cons_zero]))
        refine wpAnyH_done (by kernel_rfl) ?_ _
        have KR4 := hid (Box.heap_keep hHeld.1 KR3.out)
        have KW4 := hid (Box.heap_keep hHeld.1 KW3.out)
        have K64 := hid (Box.heap_keep hHeld.1 K63.out)
        have K74 := hid (Box.heap_keep hHeld.1 K73.out)
        have HB4 := hid (HB3.out.trans (hHeld.1.mono HB3.out.size))
        obtain ⟨X, hX⟩ : ∃ X : Int, X = if 2 * r + 1 < (m : Int) then (m : Int) else 2 * r + 1 := ⟨_, rfl⟩
        rw [← hX]
        have HX := hid hX
        have a0 := Go.Joins.cell_of_block KR4.out 0
        simp only [List.getElem?_toArray, List.getElem?_cons_zero] at a0
        clear hHeld hX st
        go_wp2_with fail
        go_at_call 35
        refine (limitOf HS.out).mono ?_
        rintro e w5 ⟨rfl, rfl⟩
        go_wp2_with fail
        go_at_call 34
        refine isFromB.mono ?_
        have hno : decide (X ≤ n ∧ n ≤ lim s 10 6) = false := by
          have h5 := HF.out
          unfold askB smallB at h5
          rw [HQ.out, HWD.out, Bool.true_and, Bool.true_and] at h5
          apply decide_eq_false
          rintro ⟨p1, p2⟩
          have hX := HX.out
          rw [decide_eq_true (show 2 * r + 1 ≤ n ∧ n ≤ lim s 10 6 by constructor <;> (try exact p2); split at hX <;> omega), Bool.true_and] at h5
          have h6 := of_decide_eq_false h5
          rw [← HM.out] at h6
          exact h6 ⟨h3, by split at hX <;> omega⟩
        rw [hno]
        rintro e w6 ⟨rfl, rfl⟩
        have a6 := Go.Joins.cell_of_block K64.out 0
        have a7 := Go.Joins.cell_of_block K74.out 0
        have f6 := Go.Joins.unfrozen_of_block K64.out 0
        have f7 := Go.Joins.unfrozen_of_block K74.out 0
        simp only [List.getElem?_toArray, List.getElem?_cons_zero] at a6 a7
        clear hno a0
        go_wp2
        exact ret2 rfl rfl rfl HNR.out HB4.out (Box.heap_lt K74.out) ⟨_, K64.out⟩ ⟨_, K74.out⟩
      · have e3 : decide ((3 : Int) < (m : Int)) = true := decide_eq_true (by omega)
        have a6 := Go.Joins.cell_of_block k6 0
        have a7 := Go.Joins.cell_of_block k7 0
        have f6 := Go.Joins.unfrozen_of_block k6 0
        have f7 := Go.Joins.unfrozen_of_block k7 0
        simp only [List.getElem?_toArray, List.getElem?_cons_zero] at a6 a7
        go_wp2
        exact ret2 rfl rfl rfl HNR.out HB3.out (Box.heap_lt k7) ⟨_, k6⟩ ⟨_, k7⟩
end Go.Proofs.Ytjeoccjemkdbiaa.KcI

namespace Go.Proofs.Ytjeoccjemkdbiaa.KcJ
open Go.RowKit Go.Shelf Go.Proofs.Ytjeoccjemkdbiaa.Rd Go.Proofs.Ytjeoccjemkdbiaa.Help Go.Proofs.Ytjeoccjemkdbiaa.Ring Go.Proofs.Ytjeoccjemkdbiaa.Small Go.Proofs.Ytjeoccjemkdbiaa.Num Go.Proofs.Ytjeoccjemkdbiaa.Keep Go.Proofs.Ytjeoccjemkdbiaa.Rule Go.Proofs.Ytjeoccjemkdbiaa.FVal Go.Proofs.Ytjeoccjemkdbiaa.LnkI Go.Proofs.Ytjeoccjemkdbiaa.Box Go.Proofs.Ytjeoccjemkdbiaa.Wbi Go.Proofs.Ytjeoccjemkdbiaa.Step Go.Proofs.Ytjeoccjemkdbiaa.Dig Go.Proofs.Ytjeoccjemkdbiaa.DigP Go.Proofs.Ytjeoccjemkdbiaa.CwP Go.Proofs.Ytjeoccjemkdbiaa.KcP Go.Proofs.Ytjeoccjemkdbiaa.KcS Go.Proofs.Ytjeoccjemkdbiaa.KcI
set_option linter.unusedVariables false
set_option linter.unusedSimpArgs false
attribute [local go_sem] Oper.semAt_some

set_option maxHeartbeats 8000000 in
theorem implOk {w : World} {s r : Int} {n b bw : Nat} {v vw : Value} {tbl ws : List Int} (h : Rd w b v tbl) (hw : Rd w bw vw ws) (hv : askB s r tbl ws (n : Int) = true) :
    Calls Try.prog 12 #[ruleV s r v, vw, .int .i64 (n : Int)] w fun e w' => e = .returned (.tuple #[.bool (keptTo tbl s r ws n (pw s n)), .bool true]) ∧ Below w.heap.size w w' := by
  have HH := hid h
  have HW := hid hw
  obtain ⟨ao, cap, rfl, _, _, _⟩ := h
  obtain ⟨ao2, cap2, rfl, _, hm2, _⟩ := hw
  obtain ⟨m, hmm⟩ : ∃ m, m = ws.length := ⟨_, rfl⟩
  unfold askB at hv
  rw [Bool.and_eq_true, Bool.and_eq_true] at hv
  obtain ⟨hsm, hwd, hle⟩ := hv
  replace hle := of_decide_eq_true hle
  rw [← hmm] at HW hle ⊢
  unfold smallB at hsm
  rw [Bool.and_eq_true] at hsm
  obtain ⟨hq, hlm⟩ := hsm
  replace hlm := of_decide_eq_true hlm
  obtain ⟨hs, hr, _, _⟩ := Al.valid_parts hq
  have hn : 1 ≤ n ∧ n ≤ 10 := by
    have h3 : KcS.lim s 10 6 ≤ 10 := by unfold KcS.lim; split <;> omega
    omega
  have HLM : Hid (2 * r + 1 ≤ (n : Int) ∧ (m : Int) ≤ n ∧ (n : Int) ≤ KcS.lim s 10 6) := ⟨hlm.1, hle.2, hlm.2⟩
  have h3 : m ≤ 3 := hle.1
  have HN := hid hn
  have HS := hid hs
  have HR := hid hr
  have HQ := hid hq
  have HWD := hid hwd
  have HWA : Hid (allB ws s = true) := by unfold wordB at hwd; rw [Bool.and_eq_true] at hwd; exact hwd.2
  have HM : Hid (m = ws.length ∧ m ≤ 3) := ⟨hmm, h3⟩
  have e3 : decide ((3 : Int) < (m : Int)) = false := decide_eq_false (by omega)
  obtain ⟨P, hP⟩ : ∃ P, P = pw s n := ⟨_, rfl⟩
  have HP := hid hP
  obtain ⟨q, hqq⟩ : ∃ q, q = keptTo tbl s r ws n P := ⟨_, rfl⟩
  have HQQ := hid hqq
  rw [← hP, ← hqq]
  clear hqq hlm hle hn hs hr hq hwd hmm hm2 hP
  refine (callsIn_wide (n := 19)).1 ?_
  refine callsIn_of_wp_marks Try.func12 rfl trivial ?_ rfl
  refine wpIn_wide.2 ?_
  simp only [Try.ntmps12, List.size_toArray, List.length_cons, List.length_nil, Nat.reduceAdd, Nat.reduceSub, Array.replicate_succ, Array.replicate_zero, List.push_toArray, List.append_toArray, List.nil_append, List.cons_append]
  go_wp2_with fail
  obtain ⟨w1, hW⟩ : ∃ x, x = (((w.alloc (Obj.cells #[.int .i64 s, .int .i64 r, (.slice ao tbl.length cap)] 28)).alloc (Obj.cells #[(.slice ao2 m cap2)] 22)).alloc (Obj.cells #[.bool false] 4)).alloc (Obj.cells #[.bool false] 4) := ⟨_, rfl⟩
  obtain ⟨NR, hN⟩ : ∃ x, x = w.heap.size := ⟨_, rfl⟩
  have HB1 : Hid (Below w.heap.size w w1) := by simp only [Hid]; rw [hW]; exact ((((Below.refl _ w).alloc (Nat.le_refl _) _).alloc (by simp <;> omega) _).alloc (by simp <;> omega) _).alloc (by simp <;> omega) _
  have kR : w1.heap[NR]? = some (Obj.cells #[.int .i64 s, .int .i64 r, (.slice ao tbl.length cap)] 28) := by rw [hW]; exact FNew.heap_old (FNew.heap_old (FNew.heap_old (FNew.heap_top hN)))
  have kW : w1.heap[NR + 1]? = some (Obj.cells #[(.slice ao2 m cap2)] 22) := by rw [hW]; exact FNew.heap_old (FNew.heap_old (FNew.heap_top (by simp [hN])))
  have k6 : w1.heap[NR + 2]? = some (Obj.cells #[.bool false] 4) := by rw [hW]; exact FNew.heap_old (FNew.heap_top (by simp [hN]))
  have k7 : w1.heap[NR + 3]? = some (Obj.cells #[.bool false] 4) := by rw [hW]; exact FNew.heap_top (by simp [hN])
  have HNR : Hid (w.heap.size = NR) := by simp only [Hid]; exact hN.symm

  have hcl := Rule.implValid (s := s) (r := r) (HH.out.keep HB1.out (Nat.le_refl _))
  simp only [Nat.add_assoc, Nat.reduceAdd, ← hW, ← hN]
  clear hW hN
  go_at_call 30
  refine hcl.mono ?_
  clear hcl
  rw [HQ.out]
  rintro e w2 ⟨rfl, bel⟩
  have KR := hid (Box.heap_keep bel kR)
  have KW := hid (Box.heap_keep bel kW)
  have K6 := hid (Box.heap_keep bel k6)
  have K7 := hid (Box.heap_keep bel k7)
  have HB2 := hid (HB1.out.trans (bel.mono HB1.out.size))
  have a0 := Go.Joins.cell_of_block KR.out 0
  have aw := Go.Joins.cell_of_block KW.out 0
  simp only [List.getElem?_toArray, List.getElem?_cons_zero] at a0 aw
  clear bel kR kW k6 k7
  go_wp2_with fail
  go_at_call 31
  refine (isWord (HW.out.keep HB2.out (Nat.le_refl _)) (by have := HS.out; omega)).mono ?_
  rw [HWD.out]
  rintro e w3 ⟨rfl, bel⟩
  have KR3 := hid (Box.heap_keep bel KR.out)
  have KW3 := hid (Box.heap_keep bel KW.out)
  have K63 := hid (Box.heap_keep bel K6.out)
  have K73 := hid (Box.heap_keep bel K7.out)
  have HB3 := hid (HB2.out.trans (bel.mono HB2.out.size))
  have aw3 := Go.Joins.cell_of_block KW3.out 0
  simp only [List.getElem?_toArray, List.getElem?_cons_zero] at aw3
  clear bel aw a0
  have st : Below w3.heap.size w3 w3 ∧ w3.cell? ⟨NR, 0, none⟩ = some (.int .i64 s) ∧ w3.cell? ⟨NR, 1, none⟩ = some (.int .i64 r) ∧ w3.cell? ⟨NR, 2, none⟩ = some (.slice ao tbl.length cap) ∧ w3.cell? ⟨NR + 1, 0, none⟩ = some (.slice ao2 m cap2) ∧ w3.heap.size ≤ w3.heap.size := ⟨Below.refl _ _, Go.Joins.cell_of_block KR3.out 0, Go.Joins.cell_of_block KR3.out 1, Go.Joins.cell_of_block KR3.out 2, aw3, Nat.le_refl _⟩
  go_wp2_with fail
  clear aw3
  refine Box.wp_noPanic ?_
  refine wp_region_held_drew (S := (fun ww => Below w3.heap.size w3 ww ∧ ww.cell? ⟨NR, 0, none⟩ = some (.int .i64 s) ∧ ww.cell? ⟨NR, 1, none⟩ = some (.int .i64 r) ∧ ww.cell? ⟨NR, 2, none⟩ = some (.slice ao tbl.length cap) ∧ ww.cell? ⟨NR + 1, 0, none⟩ = some (.slice ao2 m cap2) ∧ w3.heap.size ≤ ww.heap.size)) (by kernel_rfl) ?_ (fun hHeld => ?_)
  · ((try dsimp only); exact drew4_0 st)
  (refine wpAnyH_take (i := 0) (v := ?_) rfl ?_ ?_ ?_ (fun _ _ _ h => h) (Or.inl ⟨?_, ?_⟩) ?_ ?_; rotate_left 1; (focus decide +kernel); (focus decide +kernel); (focus decide +kernel); (focus rfl); (focus (intro w hSw; (try dsimp only at hSw); go_simp; (try (with_reducible rfl)); done)); (focus assumption); (try simp only [Act.put, List.setIfInBounds_toArray, List.set_cons_zero, List.set_cons_succ, List.getElem_toArray, List.getElem_cons_succ, List.getElem_cons_zero]))
  (refine wpAnyH_take (i := 3) (v := ?_) rfl ?_ ?_ ?_ (fun _ _ _ h => h) (Or.inl ⟨?_, ?_⟩) ?_ ?_; rotate_left 1; (focus decide +kernel); (focus decide +kernel); (focus decide +kernel); (focus rfl); (focus (intro w hSw; (try dsimp only at hSw); go_simp; (try (with_reducible rfl)); done)); (focus assumption); (try simp only [Act.put, List.setIfInBounds_toArray, List.set_cons_zero, List.set_cons_succ, List.getElem_toArray, List.getElem_cons_succ, List.getElem_cons_zero]))
  (refine wpAnyH_take (i := 4) (v := ?_) rfl ?_ ?_ ?_ (fun _ _ _ h => h) (Or.inl ⟨?_, ?_⟩) ?_ ?_; rotate_left 1; (focus decide +kernel); (focus decide +kernel); (focus decide +kernel); (focus rfl); (focus (intro w hSw; (try dsimp only at hSw); go_simp; (try (with_reducible rfl)); done)); (focus assumption); (try simp only [Act.put, List.setIfInBounds_toArray, List.set_cons_zero, List.set_cons_succ, List.getElem_toArray, List.getElem_cons_succ, List.getElem_cons_zero]))
  refine wpAnyH_ready (rs := [1]) ?_ (by simp) ?_
  · decide +kernel
  refine AllReadyH.cons rfl (fun K hK => ?_) AllReadyH.nil
  go_simp
  go_at_call 32
  refine (shapeOf).mono ?_
  rintro e wq ⟨rfl, bel⟩
  refine hK.out _ _ ?_ (fun hHeld2 => ?_)
  · (try dsimp only); exact next4_0 bel hHeld
  clear hK K hHeld bel
  have hHeld := hHeld2
  clear hHeld2
  (try simp only [Act.put, List.setIfInBounds_toArray, List.set_cons_zero, List.set_cons_succ, List.getElem_toArray, List.getElem_cons_succ, List.getElem_cons_zero])
  refine wpAnyH_ready (rs := [2]) ?_ (by simp) ?_
  · decide +kernel
  refine AllReadyH.cons rfl (fun K hK => ?_) AllReadyH.nil
  go_simp
  go_at_call 33
  refine (wide HR.out).mono ?_
  rintro e wq ⟨rfl, bel⟩
  refine hK.out _ _ ?_ (fun hHeld2 => ?_)
  · (try dsimp only); exact next4_0 bel hHeld
  clear hK K hHeld bel
  have hHeld := hHeld2
  clear hHeld2
  (try simp only [Act.put, List.setIfInBounds_toArray, List.set_cons_zero, List.set_cons_succ, List.getElem_toArray, List.getElem_cons_succ, List.getElem_cons_zero])
  (refine wpAnyH_take (i := 5) (v := ?_) rfl ?_ ?_ ?_ (fun _ _ _ h => h) (Or.inl ⟨?_, ?_⟩) ?_ ?_; rotate_left 1; (focus decide +kernel); (focus decide +kernel); (focus decide +kernel); (focus rfl); (focus (intro w hSw; (try dsimp only at hSw); go_simp; (try (with_reducible rfl)); done)); (focus assumption); (try simp only [Act.put, List.setIfInBounds_toArray, List.set_cons_zero, List.set_cons_succ, List.getElem_toArray, List.getElem_cons_succ, List.getElem_cons_zero]))
  (refine wpAnyH_take (i := 6) (v := ?_) rfl ?_ ?_ ?_ (fun _ _ _ h => h) (Or.inl ⟨?_, ?_⟩) ?_ ?_; rotate_left 1; (focus decide +kernel); (focus decide +kernel); (focus decide +kernel); (focus rfl); (focus (intro w hSw; (try dsimp only at hSw); go_simp; (try (with_reducible rfl)); done)); (focus assumption); (try simp only [Act.put, List.setIfInBounds_toArray, List.set_cons_zero, List.set_cons_succ, List.getElem_toArray, List.getElem_cons_succ, List.getElem_cons_zero]))
  refine wpAnyH_done (by kernel_rfl) ?_ _
  have KR4 := hid (Box.heap_keep hHeld.1 KR3.out)
  have KW4 := hid (Box.heap_keep hHeld.1 KW3.out)
  have K64 := hid (Box.heap_keep hHeld.1 K63.out)
  have K74 := hid (Box.heap_keep hHeld.1 K73.out)
  have HB4 := hid (HB3.out.trans (hHeld.1.mono HB3.out.size))
  obtain ⟨X, hX⟩ : ∃ X : Int, X = if 2 * r + 1 < (m : Int) then (m : Int) else 2 * r + 1 := ⟨_, rfl⟩
  rw [← hX]
  have HX := hid hX
  have a0 := Go.Joins.cell_of_block KR4.out 0
  simp only [List.getElem?_toArray, List.getElem?_cons_zero] at a0
  clear hHeld hX st
  go_wp2_with fail
  go_at_call 35
  refine (limitOf HS.out).mono ?_
  rintro e w5 ⟨rfl, rfl⟩
  go_wp2_with fail
  go_at_call 34
  refine isFromB.mono ?_
  have hyes : decide (X ≤ (n : Int) ∧ (n : Int) ≤ KcS.lim s 10 6) = true := by
    apply decide_eq_true
    have hX := HX.out
    have h5 := HLM.out
    exact ⟨by split at hX <;> omega, h5.2.2⟩
  rw [hyes]
  rintro e w6 ⟨rfl, rfl⟩
  clear hyes
  go_wp2_with fail
  go_at_call 36
  refine Rgs.ringsOf.mono ?_
  rintro e w9 ⟨NS, NN, rfl, hcap, hlo1, hlo2, bel⟩
  have HCP := hid hcap
  have KR9 := hid (Box.heap_keep bel KR4.out)
  have KW9 := hid (Box.heap_keep bel KW4.out)
  have K69 := hid (Box.heap_keep bel K64.out)
  have K79 := hid (Box.heap_keep bel K74.out)
  have HB9 := hid (HB4.out.trans (bel.mono HB4.out.size))
  have HNS : Hid (NS < w9.heap.size ∧ NN < w9.heap.size ∧ NR + 3 < w9.heap.size) := ⟨Box.heap_lt hcap.1, Box.heap_lt hcap.2, Nat.lt_of_lt_of_le (Box.heap_lt K74.out) bel.size⟩
  clear bel hcap hlo1 hlo2 a0
  go_wp2
  have hsq := Rgs.stopsR (m := 18) (L := n) HS.out (by have := HN.out; omega) HCP.out
  rw [← HP.out] at hsq
  refine (wpIn_wide (n := 19)).1 ?_
  refine Frs.wpIn_rangeFunc_fresh (w := w9) (by omega) (gf := 60) (lb := #[.pointer (some ⟨NS, 0, none⟩), .pointer (some ⟨NN, 0, none⟩)]) rfl (enters_of Try.func60 (by kernel_rfl) rfl)
    (w0 := w9) hsq (fun h k => KpL.t h k) (KpL.b HNS.out.1 HNS.out.2.1 HNS.out.2.1 HNS.out.2.1) (Below.refl _ _) (fun _ => rfl)
    (fun pre W => W.heap[NR]? = some (Obj.cells #[.int .i64 s, .int .i64 r, (.slice ao tbl.length cap)] 28) ∧ W.heap[NR + 1]? = some (Obj.cells #[(.slice ao2 m cap2)] 22) ∧ (∃ o, W.heap[NR + 2]? = some (Obj.cells #[.bool o] 4)) ∧ (∃ o, W.heap[NR + 3]? = some (Obj.cells #[.bool o] 4)) ∧ Below w.heap.size w W ∧ w9.heap.size ≤ W.heap.size ∧ ∀ x, x ∈ pre → keptAt tbl s r ws n x.1 = true)
    (fun c pre W => c = .ret ∧ W.heap[NR + 2]? = some (Obj.cells #[.bool false] 4) ∧ W.heap[NR + 3]? = some (Obj.cells #[.bool true] 4) ∧ Below w.heap.size w W ∧ w9.heap.size ≤ W.heap.size ∧ keptTo tbl s r ws n P = false)
    ?own ?ownx ?owng ⟨KR9.out, KW9.out, ⟨_, K69.out⟩, ⟨_, K79.out⟩, HB9.out, Nat.le_refl _, fun x hx => by simp at hx⟩ ?a1 ?assign ?body ?done ?stop
  case own =>
    refine ownFrom_cells ?_ (fun s W hs => by obtain ⟨h1, h2, h3, h4, h5, h6, h7⟩ := hs; exact h6)
    rintro pre W W' ⟨h1, h2, ⟨o3, h3⟩, ⟨o4, h4⟩, h5, h6, h7⟩ hB bel hc
    exact ⟨hc _ _ h1 rfl, hc _ _ h2 rfl, ⟨_, hc _ _ h3 rfl⟩, ⟨_, hc _ _ h4 rfl⟩, h5.trans (bel.mono HB9.out.size), Nat.le_trans hB bel.size, h7⟩
  case ownx =>
    intro c
    refine ownFrom_cells ?_ (fun s W hs => by obtain ⟨h1, h2, h3, h5, h6, h7⟩ := hs; exact h6)
    rintro pre W W' ⟨h1, h3, h4, h5, h6, h7⟩ hB bel hc
    exact ⟨h1, hc _ _ h3 rfl, hc _ _ h4 rfl, h5.trans (bel.mono HB9.out.size), Nat.le_trans hB bel.size, h7⟩
  case owng =>
    intro x
    have hb : ∀ W, Rgs.isR s P n w9.heap.size x W → w9.heap.size ≤ W.heap.size := by
      rintro W ⟨_, g2, g3⟩
      obtain ⟨_, _, _, _, _, g4⟩ := g3.rd
      obtain ⟨_, _, g5, _⟩ := g4 (by rw [dig_length]; have := HN.out; omega)
      omega
    refine ownFrom_cells ?_ (fun s W hs => hb W hs)
    rintro _ W W' ⟨g1, g2, g3⟩ hB bel hc
    exact ⟨g1, g2, Box.own_cells g3 hc⟩
  case assign =>
    intro l x W K hK
    simp only [Rgs.encR]
    gi_wp2
    exact hK
  case body =>
    rintro l pre ⟨k, bR⟩ W ⟨h1, h2, h3, h4, h5, h6, h7⟩ ⟨g1, g2, g3⟩ hlen
    obtain ⟨zs, hzs⟩ : ∃ zs, zs = dig s (k : Int) n := ⟨_, rfl⟩
    have HFt : Hid (Fit s r tbl zs) := by simp only [Hid]; rw [hzs]; exact fit_dig HQ.out (by have := HN.out; omega) k
    have HZL : Hid (zs.length = n) := by simp only [Hid]; rw [hzs, dig_length]
    have HKA : Hid (keptAt tbl s r ws n k = (oft (nextL tbl zs s r n) ws n == oft zs ws n)) := by simp only [Hid]; unfold keptAt; rw [← hzs]
    dsimp only at g1 g2 g3 ⊢
    rw [← hzs] at g3
    have HRD := hid g3.rd
    have HGk := hid g1
    have H1 := hid h1
    have H2 := hid h2
    have H3 := hid h3
    have H4 := hid h4
    have H5 := hid h5
    have H6 := hid h6
    have H7 := hid h7
    have HTT := hid (HH.out.keep h5 (Nat.le_refl _))
    have HWW := hid (HW.out.keep h5 (Nat.le_refl _))
    have c0 := Go.Joins.cell_of_block h1 0
    have c1 := Go.Joins.cell_of_block h1 1
    have c2 := Go.Joins.cell_of_block h1 2
    have cw := Go.Joins.cell_of_block h2 0
    simp only [List.getElem?_toArray, List.getElem?_cons_zero, List.getElem?_cons_succ] at c0 c1 c2 cw
    have st : Below W.heap.size W W ∧ W.cell? ⟨NR, 0, none⟩ = some (.int .i64 s) ∧ W.cell? ⟨NR, 1, none⟩ = some (.int .i64 r) ∧ W.cell? ⟨NR, 2, none⟩ = some (.slice ao tbl.length cap) ∧ W.cell? ⟨NR + 1, 0, none⟩ = some (.slice ao2 m cap2) ∧ W.heap.size ≤ W.heap.size := ⟨Below.refl _ _, c0, c1, c2, cw, Nat.le_refl _⟩
    clear h1 h2 h3 h4 h5 h6 h7 g1 g2 g3 hlen hzs c0 c1 c2 cw
    gi_wp2_with fail
    refine Rih.wpIn_region_held_round (S := (fun ww => Below W.heap.size W ww ∧ ww.cell? ⟨NR, 0, none⟩ = some (.int .i64 s) ∧ ww.cell? ⟨NR, 1, none⟩ = some (.int .i64 r) ∧ ww.cell? ⟨NR, 2, none⟩ = some (.slice ao tbl.length cap) ∧ ww.cell? ⟨NR + 1, 0, none⟩ = some (.slice ao2 m cap2) ∧ W.heap.size ≤ ww.heap.size)) (by kernel_rfl) (by kernel_rfl) (by rintro ⟨_, _, hh⟩; exact hh) ?_ (fun hHeld => ?_)
    · ((try dsimp only); exact drew4_0 st)
    generalize hD : W.drew = wD at hHeld ⊢
    clear hD st
    (refine wpAnyH_take (i := 0) (v := ?_) rfl ?_ ?_ ?_ (fun _ _ _ h => h) (Or.inl ⟨?_, ?_⟩) ?_ ?_; rotate_left 1; (focus decide +kernel); (focus decide +kernel); (focus decide +kernel); (focus rfl); (focus (intro w hSw; (try dsimp only at hSw); go_simp; (try (with_reducible rfl)); done)); (focus assumption); (try simp only [Act.put, List.setIfInBounds_toArray, List.set_cons_zero, List.set_cons_succ, List.getElem_toArray, List.getElem_cons_succ, List.getElem_cons_zero]))
    (refine wpAnyH_take (i := 1) (v := ?_) rfl ?_ ?_ ?_ (fun _ _ _ h => h) (Or.inl ⟨?_, ?_⟩) ?_ ?_; rotate_left 1; (focus decide +kernel); (focus decide +kernel); (focus decide +kernel); (focus rfl); (focus (intro w hSw; (try dsimp only at hSw); go_simp; (try (with_reducible rfl)); done)); (focus assumption); (try simp only [Act.put, List.setIfInBounds_toArray, List.set_cons_zero, List.set_cons_succ, List.getElem_toArray, List.getElem_cons_succ, List.getElem_cons_zero]))
    (refine wpAnyH_take (i := 2) (v := ?_) rfl ?_ ?_ ?_ (fun _ _ _ h => h) (Or.inl ⟨?_, ?_⟩) ?_ ?_; rotate_left 1; (focus decide +kernel); (focus decide +kernel); (focus decide +kernel); (focus rfl); (focus (intro w hSw; (try dsimp only at hSw); go_simp; (try (with_reducible rfl)); done)); (focus assumption); (try simp only [Act.put, List.setIfInBounds_toArray, List.set_cons_zero, List.set_cons_succ, List.getElem_toArray, List.getElem_cons_succ, List.getElem_cons_zero]))
    (refine wpAnyH_take (i := 3) (v := ?_) rfl ?_ ?_ ?_ (fun _ _ _ h => h) (Or.inl ⟨?_, ?_⟩) ?_ ?_; rotate_left 1; (focus decide +kernel); (focus decide +kernel); (focus decide +kernel); (focus rfl); (focus (intro w hSw; (try dsimp only at hSw); go_simp; (try (with_reducible rfl)); done)); (focus assumption); (try simp only [Act.put, List.setIfInBounds_toArray, List.set_cons_zero, List.set_cons_succ, List.getElem_toArray, List.getElem_cons_succ, List.getElem_cons_zero]))
    (refine wpAnyH_take (i := 5) (v := ?_) rfl ?_ ?_ ?_ (fun _ _ _ h => h) (Or.inl ⟨?_, ?_⟩) ?_ ?_; rotate_left 1; (focus decide +kernel); (focus decide +kernel); (focus decide +kernel); (focus rfl); (focus (intro w hSw; (try dsimp only at hSw); go_simp; (try (with_reducible rfl)); done)); (focus assumption); (try simp only [Act.put, List.setIfInBounds_toArray, List.set_cons_zero, List.set_cons_succ, List.getElem_toArray, List.getElem_cons_succ, List.getElem_cons_zero]))
    (refine wpAnyH_take (i := 6) (v := ?_) rfl ?_ ?_ ?_ (fun _ _ _ h => h) (Or.inl ⟨?_, ?_⟩) ?_ ?_; rotate_left 1; (focus decide +kernel); (focus decide +kernel); (focus decide +kernel); (focus rfl); (focus (intro w hSw; (try dsimp only at hSw); go_simp; (try (with_reducible rfl)); done)); (focus assumption); (try simp only [Act.put, List.setIfInBounds_toArray, List.set_cons_zero, List.set_cons_succ, List.getElem_toArray, List.getElem_cons_succ, List.getElem_cons_zero]))
    (refine wpAnyH_take (i := 8) (v := ?_) rfl ?_ ?_ ?_ (fun _ _ _ h => h) (Or.inl ⟨?_, ?_⟩) ?_ ?_; rotate_left 1; (focus decide +kernel); (focus decide +kernel); (focus decide +kernel); (focus rfl); (focus (intro w hSw; (try dsimp only at hSw); go_simp; (try (with_reducible rfl)); done)); (focus assumption); (try simp only [Act.put, List.setIfInBounds_toArray, List.set_cons_zero, List.set_cons_succ, List.getElem_toArray, List.getElem_cons_succ, List.getElem_cons_zero]))
    (refine wpAnyH_take (i := 9) (v := ?_) rfl ?_ ?_ ?_ (fun _ _ _ h => h) (Or.inl ⟨?_, ?_⟩) ?_ ?_; rotate_left 1; (focus decide +kernel); (focus decide +kernel); (focus decide +kernel); (focus rfl); (focus (intro w hSw; (try dsimp only at hSw); go_simp; (try (with_reducible rfl)); done)); (focus assumption); (try simp only [Act.put, List.setIfInBounds_toArray, List.set_cons_zero, List.set_cons_succ, List.getElem_toArray, List.getElem_cons_succ, List.getElem_cons_zero]))
    (refine wpAnyH_take (i := 10) (v := ?_) rfl ?_ ?_ ?_ (fun _ _ _ h => h) (Or.inl ⟨?_, ?_⟩) ?_ ?_; rotate_left 1; (focus decide +kernel); (focus decide +kernel); (focus decide +kernel); (focus rfl); (focus (intro w hSw; (try dsimp only at hSw); go_simp; (try (with_reducible rfl)); done)); (focus assumption); (try simp only [Act.put, List.setIfInBounds_toArray, List.set_cons_zero, List.set_cons_succ, List.getElem_toArray, List.getElem_cons_succ, List.getElem_cons_zero]))
    refine wpAnyH_ready (rs := [4]) ?_ (by simp) ?_
    · decide +kernel
    refine AllReadyH.cons rfl (fun K hK => ?_) AllReadyH.nil
    go_simp
    go_at_call 37
    refine (KcP.timesIn (HRD.out.keep hHeld.1 (Nat.le_refl _)) (HWW.out.keep hHeld.1 (Nat.le_refl _)) HS.out (by rw [HZL.out]; have := HN.out; omega) HFt.out.ri (by have := HM.out; omega) HWA.out).mono ?_
    rw [HZL.out]
    rintro e wp ⟨rfl, rfl⟩
    refine hK.out _ _ ?_ (fun hHeld2 => ?_)
    · (try dsimp only); exact hHeld
    clear hK K hHeld2
    (try simp only [Act.put, List.setIfInBounds_toArray, List.set_cons_zero, List.set_cons_succ, List.getElem_toArray, List.getElem_cons_succ, List.getElem_cons_zero])
    refine wpAnyH_ready (rs := [7]) ?_ (by simp) ?_
    · decide +kernel
    refine AllReadyH.cons rfl (fun K hK => ?_) AllReadyH.nil
    go_simp
    go_at_call 38
    refine (implNext (HTT.out.keep hHeld.1 (Nat.le_refl _)) (HRD.out.keep hHeld.1 (Nat.le_refl _)) HFt.out).mono ?_
    rw [HZL.out]
    rintro e wq ⟨bN, rfl, oN, hlo, bel⟩
    have HON := hid oN
    refine hK.out _ _ ?_ (fun hHeld2 => ?_)
    · (try dsimp only); exact next4_0 bel hHeld
    clear hK K hHeld bel oN hlo
    have hHeld := hHeld2
    clear hHeld2
    (try simp only [Act.put, List.setIfInBounds_toArray, List.set_cons_zero, List.set_cons_succ, List.getElem_toArray, List.getElem_cons_succ, List.getElem_cons_zero])
    refine wpAnyH_ready (rs := [11]) ?_ (by simp) ?_
    · decide +kernel
    refine AllReadyH.cons rfl (fun K hK => ?_) AllReadyH.nil
    go_simp
    go_at_call 37
    refine (KcP.timesIn HON.out.rd (HWW.out.keep hHeld.1 (Nat.le_refl _)) HS.out (by rw [nextL_length]; have := HN.out; omega) (next_all HFt.out n) (by have := HM.out; omega) HWA.out).mono ?_
    rw [nextL_length]
    rintro e wp ⟨rfl, rfl⟩
    refine hK.out _ _ ?_ (fun hHeld2 => ?_)
    · (try dsimp only); exact hHeld
    clear hK K hHeld2
    (try simp only [Act.put, List.setIfInBounds_toArray, List.set_cons_zero, List.set_cons_succ, List.getElem_toArray, List.getElem_cons_succ, List.getElem_cons_zero])
    (refine wpAnyH_take (i := 12) (v := ?_) rfl ?_ ?_ ?_ (fun _ _ _ h => h) (Or.inl ⟨?_, ?_⟩) ?_ ?_; rotate_left 1; (focus decide +kernel); (focus decide +kernel); (focus decide +kernel); (focus rfl); (focus (intro w hSw; (try dsimp only at hSw); go_simp; (try (with_reducible rfl)); done)); (focus assumption); (try simp only [Act.put, List.setIfInBounds_toArray, List.set_cons_zero, List.set_cons_succ, List.getElem_toArray, List.getElem_cons_succ, List.getElem_cons_zero]))
    refine wpAnyH_done (by kernel_rfl) ?_ _
    have HBE := hid hHeld.1
    have kR := Box.heap_keep hHeld.1 H1.out
    have kW := Box.heap_keep hHeld.1 H2.out
    obtain ⟨o6, k6⟩ := H3.out
    obtain ⟨o7, k7⟩ := H4.out
    replace k6 := Box.heap_keep hHeld.1 k6
    replace k7 := Box.heap_keep hHeld.1 k7
    have hka := HKA.out
    obtain ⟨X, hX⟩ : ∃ X, X = oft (nextL tbl zs s r n) ws n := ⟨_, rfl⟩
    obtain ⟨Y, hY⟩ : ∃ Y, Y = oft zs ws n := ⟨_, rfl⟩
    rw [← hX, ← hY] at hka ⊢
    clear hHeld hX hY
    by_cases hxy : X = Y
    · have HKT : Hid (keptAt tbl s r ws n k = true) := by simp only [Hid]; rw [hka, hxy]; simp
      have HF1 := hid kR
      have HF2 := hid kW
      have HF3 := hid k6
      have HF4 := hid k7
      subst hxy
      clear hka kR kW k6 k7
      gi_wp2
      refine ⟨(keeps_bel HBE.out).from _, kp_bel HBE.out (by have := HNS.out; have := H6.out; omega), HF1.out, HF2.out, ⟨_, HF3.out⟩, ⟨_, HF4.out⟩, H5.out.trans (HBE.out.mono H5.out.size), Nat.le_trans H6.out HBE.out.size, ?_⟩
      intro x hx
      rcases List.mem_append.1 hx with h5 | h5
      · exact H7.out x h5
      · have h6 : x = (k, bR) := by simpa using h5
        rw [h6]; exact HKT.out
    · have HKF : Hid (keptTo tbl s r ws n P = false) := by simp only [Hid]; exact keptTo_no (by rw [hka]; simpa using hxy) P HGk.out
      have hne : ((X : Int) != (Y : Int)) = true := by simp; omega
      have a6 := Go.Joins.cell_of_block k6 0
      have a7 := Go.Joins.cell_of_block k7 0
      have f6 := Go.Joins.unfrozen_of_block k6 0
      have f7 := Go.Joins.unfrozen_of_block k7 0
      simp only [List.getElem?_toArray, List.getElem?_cons_zero] at a6 a7
      have HF3 := hid k6
      have HF4 := hid k7
      clear hka hxy kR kW k6 k7
      gi_wp2
      refine ⟨(((keeps_bel HBE.out).trans (KeepsOthers.setCell _ _ _)).trans (KeepsOthers.setCell _ _ _)).from _, rfl, ?_, ?_, ?_, ?_, HKF.out⟩
      · exact (Below.heap_setCell _ ⟨NR + 3, 0, none⟩ _ (NR + 2) (by simp)).trans (one_setCell HF3.out)
      · exact one_setCell ((Below.heap_setCell _ ⟨NR + 2, 0, none⟩ _ (NR + 3) (by simp)).trans HF4.out)
      · exact ((H5.out.trans (HBE.out.mono H5.out.size)).setCell (p := ⟨NR + 2, 0, none⟩) (by have := HNR.out; simp; omega) _).setCell (p := ⟨NR + 3, 0, none⟩) (by have := HNR.out; simp; omega) _
      · have := H6.out; have := HBE.out.size; simp [World.setCell]; omega
  case done =>
    rintro D xs W hD hS2 ⟨h1, h2, ⟨o6, h3⟩, ⟨o7, h4⟩, h5, h6, h7⟩ hK
    have HKP : Hid (keptTo tbl s r ws n P = true) := by
      simp only [Hid]; unfold keptTo; rw [List.all_eq_true]
      intro k hk
      rw [← hS2] at hk
      obtain ⟨x, hx, rfl⟩ := List.mem_map.1 hk
      exact h7 x hx
    have a6 := Go.Joins.cell_of_block h3 0
    have a7 := Go.Joins.cell_of_block h4 0
    have f6 := Go.Joins.unfrozen_of_block h3 0
    have f7 := Go.Joins.unfrozen_of_block h4 0
    simp only [List.getElem?_toArray, List.getElem?_cons_zero] at a6 a7
    have H3 := hid h3
    have H4 := hid h4
    have H5 := hid h5
    have HDk := hid hK
    have HD := hid hD
    clear h1 h2 h3 h4 h5 h6 h7 hK hD hS2
    have eq : q = true := by rw [HQQ.out]; exact HKP.out
    have HQT := hid eq
    clear eq
    go_wp2
    have k6 : ((W.setCell ⟨NR + 2, 0, none⟩ (.bool true)).setCell ⟨NR + 3, 0, none⟩ (.bool true)).heap[NR + 2]? = some (Obj.cells #[.bool true] 4) := (Below.heap_setCell _ ⟨NR + 3, 0, none⟩ _ (NR + 2) (by simp)).trans (one_setCell H3.out)
    have k7 : ((W.setCell ⟨NR + 2, 0, none⟩ (.bool true)).setCell ⟨NR + 3, 0, none⟩ (.bool true)).heap[NR + 3]? = some (Obj.cells #[.bool true] 4) := one_setCell ((Below.heap_setCell _ ⟨NR + 2, 0, none⟩ _ (NR + 3) (by simp)).trans H4.out)
    have kD : ((W.setCell ⟨NR + 2, 0, none⟩ (.bool true)).setCell ⟨NR + 3, 0, none⟩ (.bool true)).heap[D]? = some (.deferred (some [])) := (Below.heap_setCell _ ⟨NR + 3, 0, none⟩ _ D (by have := HD.out; have := HNS.out.2.2; simp; omega)).trans ((Below.heap_setCell _ ⟨NR + 2, 0, none⟩ _ D (by have := HD.out; have := HNS.out.2.2; simp; omega)).trans HDk.out)
    have bW := (H5.out.setCell (p := ⟨NR + 2, 0, none⟩) (by have := HNR.out; simp; omega) (.bool true)).setCell (p := ⟨NR + 3, 0, none⟩) (by have := HNR.out; simp; omega) (.bool true)
    refine leaves_marks (B := w9.heap.size) [D] _ ⟨by simp, by simpa using kD⟩ (by simpa using HD.out) (fun w' hb hc => ?_)
    have c6 := Go.Joins.cell_of_block (hc _ _ k6 rfl) 0
    have c7 := Go.Joins.cell_of_block (hc _ _ k7 rfl) 0
    simp only [List.getElem?_toArray, List.getElem?_cons_zero] at c6 c7
    exact ⟨.tuple #[.bool true, .bool true], by simp [results, Try.f12, go_sem, c6, c7], by rw [HQT.out], bW.trans (hb.mono HB9.out.size)⟩
  case stop =>
    rintro D c pre W hD hSp ⟨rfl, h3, h4, h5, h6, h7⟩ hK
    have eq : q = false := by rw [HQQ.out]; exact h7
    have HQF := hid eq
    have H3 := hid h3
    have H4 := hid h4
    have H5 := hid h5
    have HDk := hid hK
    have HD := hid hD
    clear eq h3 h4 h5 h6 h7 hD hSp hK
    gi_wp2
    refine leaves_marks (B := w9.heap.size) [D] W ⟨by simp, by simpa using HDk.out⟩ (by simpa using HD.out) (fun w' hb hc => ?_)
    have c6 := Go.Joins.cell_of_block (hc _ _ H3.out rfl) 0
    have c7 := Go.Joins.cell_of_block (hc _ _ H4.out rfl) 0
    simp only [List.getElem?_toArray, List.getElem?_cons_zero] at c6 c7
    exact ⟨.tuple #[.bool false, .bool true], by simp [results, Try.f12, go_sem, c6, c7], by rw [HQF.out], H5.out.trans (hb.mono HB9.out.size)⟩
end Go.Proofs.Ytjeoccjemkdbiaa.KcJ
