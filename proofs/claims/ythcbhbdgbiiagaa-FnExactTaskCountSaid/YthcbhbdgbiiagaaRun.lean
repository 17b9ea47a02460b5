/- RunRing of both sides. -/
import Derived.Test.YthcbhbdgbiiagaaStepR
import Derived.WalkSpells
import Derived.Lib.LazyBuf
namespace Go.Proofs.Ythcbhbdgbiiagaa.Run
open Go.RowKit Go.Proofs.Ythcbhbdgbiiagaa.Rd Go.Proofs.Ythcbhbdgbiiagaa.Help Go.Proofs.Ythcbhbdgbiiagaa.App Go.Proofs.Ythcbhbdgbiiagaa.Ring Go.Proofs.Ythcbhbdgbiiagaa.Small Go.Proofs.Ythcbhbdgbiiagaa.Num Go.Proofs.Ythcbhbdgbiiagaa.Keep Go.Proofs.Ythcbhbdgbiiagaa.Rule Go.Proofs.Ythcbhbdgbiiagaa.Step
set_option linter.unusedVariables false
set_option linter.unusedSimpArgs false

theorem appendAll {ops : Array Oper} {rest : List Oper} {o : Oper} {a : Act} {Q : Exit → Act → World → Prop} {W : World} (hgd : o.guard = none) (s x : Operand)
    (ho : o.op = .call { callee := .builtin .append, args := #[s, x], argTypes := #[22, 22] })
    (base : Nat) (v : Value) (hs : a.eval s = v) (hown : W.ownsRow base 2 1 v 0 []) (b off c : Nat) (zs : List Int)
    (hx : a.eval x = .slice (some ⟨b, off, none⟩) zs.length c) (hc : ∀ i, i < zs.length → W.cell? ⟨b, off + i, none⟩ = some (.int .i64 (zs.getD i 0))) (hlen : zs.length ≤ 1000000000) (hbase : base ≤ W.heap.size)
    (h : ∀ v' w', w'.ownsRow base 2 1 v' zs.length (zs.map (Value.int .i64)) → Below base W w' → wpList Try.prog ops Q rest (a.put o.dst v') w') :
    wpList Try.prog ops Q (o :: rest) a W := by
  obtain ⟨i, hi, hz0, hz1, hz2⟩ := info_parts infoI
  refine wpList_append_own W hgd s x 22 ho base 2 i (.int .i64 0) 1 8 Try.underlying22 hi hz0 hz1 hz2 rfl (by decide) v 0 [] hs hown ⟨b, off, none⟩ zs.length c (zs.map (Value.int .i64)) hx (by simp) ?_ ?_ ?_ ?_ hbase ?_
  · intro j u hj
    have hjl : j < zs.length := by have := (List.getElem?_eq_some_iff.1 hj).1; simpa using this
    rw [Go.WideShapes.add_plain, hc j hjl]
    simp [hjl] at hj
    simp [List.getD, hjl, hj]
  · intro u hu
    simp at hu
    obtain ⟨n, _, rfl⟩ := hu
    rfl
  · unfold maxLen; omega
  · omega
  · intro v' w' h1 hg _
    exact h v' w' (by simpa using h1) ((Below.refl base W).grown hg hbase (fun k hk => (hown.lt k hk).1))

set_option maxHeartbeats 1000000 in
theorem clone {w : World} {b : Nat} {v : Value} {zs : List Int} (h : Rd w b v zs) (hn : 1 ≤ zs.length ∧ zs.length ≤ 1048576) :
    Calls Try.prog 104 #[v] w fun e w' => ∃ v' b', e = .returned v' ∧ Own 2 w' b' v' zs ∧ w.heap.size ≤ b' ∧ Below w.heap.size w w' := by
  obtain ⟨ao, cap, rfl, hc, hm, h4⟩ := h
  obtain ⟨off, rfl, hb, hcell⟩ := h4 (by omega)
  have hnil : ∀ w : World, (binOp .eql 22 (.slice (some ⟨b, off, none⟩) zs.length cap) (.slice none 0 0)).run Try.prog w = .ok (.bool false) w := fun w => Lib.run_eql_slice_nil w _ _ _ _ _ _ _ Try.underlying22
  have HC := hid hcell
  clear hcell h4
  go_enter Try.func104, Try.ntmps104
  go_wp2_with (first | (at_builtin; refine appendAll rfl _ _ rfl w.heap.size _ rfl (World.ownsRow_lit (base := w.heap.size) (e := 2) (size := 1) w #[] 0 (Nat.le_refl _) (by simp) (by simp)) b off cap zs rfl (fun i hi => cell_keep (below1 _ _) (HC.out i hi)) ?c1 ?c2 ?_) | go_in)
  case c1 => omega
  case c2 => simp
  · intro v' w1 hown hbel
    have HO := hid hown
    have HB := hid (((Below.refl w.heap.size w).alloc (Nat.le_refl _) _).trans hbel)
    clear hown hbel
    go_wp2
    go_ret
    obtain ⟨b', hb', ho⟩ := Own.of HO.out
    exact ⟨_, b', rfl, ho, hb', HB.out⟩

/-- The ring behind k steps. -/
def runL (tbl zs : List Int) (s r : Int) : Nat → List Int
  | 0 => zs
  | k + 1 => nextL tbl (runL tbl zs s r k) s r zs.length
theorem runL_length (tbl zs : List Int) (s r : Int) (k : Nat) : (runL tbl zs s r k).length = zs.length := by
  cases k with
  | zero => rfl
  | succ k => simp [runL, nextL_length]
theorem run_fit {s r : Int} {tbl zs : List Int} (F : Fit s r tbl zs) (k : Nat) : Fit s r tbl (runL tbl zs s r k) := by
  induction k with
  | zero => exact F
  | succ k ih => exact ⟨F.st, F.re, F.len, F.ta, next_all ih _, by rw [runL_length]; exact F.n⟩

/-- What RunRing answers. -/
def okB (s r : Int) (tbl zs : List Int) (M : Int) : Bool := fitB s r tbl zs && decide (0 ≤ M ∧ M ≤ 1000)

set_option maxHeartbeats 2000000 in
theorem implRunRing {w : World} {s r M : Int} {bt br : Nat} {vt vr : Value} {tbl zs : List Int} (ht : Rd w bt vt tbl) (hr : Rd w br vr zs) :
    Calls Try.prog 115 #[ruleV s r vt, vr, .int .i64 M] w fun e w' => ∃ v' b', e = .returned (.tuple #[v', .bool (okB s r tbl zs M)]) ∧
      Own 2 w' b' v' (if okB s r tbl zs M = true then runL tbl zs s r M.toNat else []) ∧ w.heap.size ≤ b' ∧ Below w.heap.size w w' := by
  have HT := hid ht
  have HR := hid hr
  clear ht hr
  cases hf : fitB s r tbl zs with
  | true =>
    have HF := hid hf
    have HFF := hid (fit_of hf)
    have HG := hid (fun k => run_fit (fit_of hf) k)
    by_cases hM : 0 ≤ M ∧ M ≤ 1000
    · have e : okB s r tbl zs M = true := by simp only [okB, hf, decide_eq_true hM]; rfl
      rw [e]
      have HD := hid (decide_eq_true hM)
      obtain ⟨K, rfl⟩ := Int.eq_ofNat_of_zero_le hM.1
      obtain ⟨m1, m2⟩ := hM
      clear hf e
      go_enter Try.func115, Try.ntmps115
      go_wp2_with fail
      obtain ⟨w1, hW⟩ : ∃ w1, w1 = w.alloc (Obj.cells #[.int .i64 s, .int .i64 r, vt] 44) := ⟨_, rfl⟩
      obtain ⟨N, hN⟩ : ∃ N, N = w.heap.size := ⟨_, rfl⟩
      have st : Below w.heap.size w w1 ∧ w1.cell? ⟨N, 0, none⟩ = some (.int .i64 s) ∧ w1.cell? ⟨N, 1, none⟩ = some (.int .i64 r) ∧ w1.cell? ⟨N, 2, none⟩ = some vt ∧ Rd w1 bt vt tbl ∧ Rd w1 br vr zs ∧ w.heap.size ≤ w1.heap.size := by
        rw [hW, hN]
        exact ⟨below1 _ _, by simp, by simp, by simp, HT.out.keep (below1 _ _) (Nat.le_refl _), HR.out.keep (below1 _ _) (Nat.le_refl _), by simp⟩
      simp only [← hW, ← hN]
      clear hW hN
      go_at_call 132
      refine (fits (rd3_2_0 st) (rd3_2_1 st)).mono ?_
      rw [HF.out]
      rintro e w2 ⟨rfl, bel⟩
      replace st := next3_2 bel st
      clear bel
      go_wp2_with fail
      go_at_call 58
      refine isCountB.mono ?_
      rw [HD.out]
      rintro e w2' ⟨rfl, rfl⟩
      go_wp2_with fail
      go_at_call 104
      refine (clone (rd3_2_1 st) (by have := HFF.out.n; omega)).mono ?_
      rintro e w3 ⟨v', b', rfl, own, lo, bel⟩
      have HO := hid own
      have HL := hid (Nat.le_trans st.1.size lo)
      replace st := next3_2 bel st
      have ST := hid st
      clear bel own lo st
      go_wp2
      go_loopw [8, 21] (fun x t wr => ∃ k : Nat, k ≤ K ∧ t = .int .i64 k ∧ (∃ b, w.heap.size ≤ b ∧ Own 2 wr b x (runL tbl zs s r k)) ∧ Below w3.heap.size w3 wr) (fun _ t _ => K - (intOf t).toNat)
      case atStart => exact ⟨0, Nat.zero_le _, rfl, ⟨b', HL.out, HO.out⟩, Below.refl _ _⟩
      case round =>
        obtain ⟨k, hk, rfl, ⟨bk, hbk, own⟩, hbel⟩ := hrel
        by_cases hlt : k < K
        · have s2 := next3_2 hbel ST.out
          have HW := hid own
          have HBl := hid hbel
          have hlen := runL_length tbl zs s r k
          clear own hbel
          go_wp2_with fail
          go_at_call 133
          refine (implNext (rd3_2_0 s2) HW.out.rd (HG.out k)).mono ?_
          rw [hlen]
          rintro e w4 ⟨b4, rfl, own, lo, bel⟩
          have HO2 := hid own
          have HLo := hid (Nat.le_trans s2.1.size lo)
          have HB2 := hid (HBl.out.trans (bel.mono HBl.out.size))
          clear own lo bel s2 hlen
          go_wp2
          go_roundw
          case rel => exact ⟨k + 1, by omega, by go_num, ⟨b4, HLo.out, HO2.out⟩, HB2.out⟩
          case measure => simp [intOf]; omega
        · have hkn : K = k := by omega
          subst hkn
          have HW := hid own
          have HBl := hid (ST.out.1.trans (hbel.mono ST.out.1.size))
          clear own hbel
          go_wp2
          go_ret2
          refine ⟨_, rfl, bk, ?_, hbk, HBl.out⟩
          simpa using HW.out
    · have e : okB s r tbl zs M = false := by simp only [okB, decide_eq_false hM, Bool.and_false]
      rw [e]
      have HD := hid (decide_eq_false hM)
      clear hf e hM
      go_enter Try.func115, Try.ntmps115
      go_wp2_with fail
      obtain ⟨w1, hW⟩ : ∃ w1, w1 = w.alloc (Obj.cells #[.int .i64 s, .int .i64 r, vt] 44) := ⟨_, rfl⟩
      obtain ⟨N, hN⟩ : ∃ N, N = w.heap.size := ⟨_, rfl⟩
      have st : Below w.heap.size w w1 ∧ w1.cell? ⟨N, 0, none⟩ = some (.int .i64 s) ∧ w1.cell? ⟨N, 1, none⟩ = some (.int .i64 r) ∧ w1.cell? ⟨N, 2, none⟩ = some vt ∧ Rd w1 bt vt tbl ∧ Rd w1 br vr zs ∧ w.heap.size ≤ w1.heap.size := by
        rw [hW, hN]
        exact ⟨below1 _ _, by simp, by simp, by simp, HT.out.keep (below1 _ _) (Nat.le_refl _), HR.out.keep (below1 _ _) (Nat.le_refl _), by simp⟩
      simp only [← hW, ← hN]
      clear hW hN
      go_at_call 132
      refine (fits (rd3_2_0 st) (rd3_2_1 st)).mono ?_
      rw [HF.out]
      rintro e w2 ⟨rfl, bel⟩
      replace st := next3_2 bel st
      clear bel
      go_wp2_with fail
      go_at_call 58
      refine isCountB.mono ?_
      rw [HD.out]
      rintro e w2' ⟨rfl, rfl⟩
      go_wp2
      go_ret2
      refine ⟨_, rfl, w.heap.size, ?_, Nat.le_refl _, st.1⟩
      simpa using Own.nil _ _ _
  | false =>
    have HF := hid hf
    have e : okB s r tbl zs M = false := by simp only [okB, hf, Bool.false_and]
    rw [e]
    clear hf e
    go_enter Try.func115, Try.ntmps115
    go_wp2_with fail
    obtain ⟨w1, hW⟩ : ∃ w1, w1 = w.alloc (Obj.cells #[.int .i64 s, .int .i64 r, vt] 44) := ⟨_, rfl⟩
    obtain ⟨N, hN⟩ : ∃ N, N = w.heap.size := ⟨_, rfl⟩
    have st : Below w.heap.size w w1 ∧ w1.cell? ⟨N, 0, none⟩ = some (.int .i64 s) ∧ w1.cell? ⟨N, 1, none⟩ = some (.int .i64 r) ∧ w1.cell? ⟨N, 2, none⟩ = some vt ∧ Rd w1 bt vt tbl ∧ Rd w1 br vr zs ∧ w.heap.size ≤ w1.heap.size := by
      rw [hW, hN]
      exact ⟨below1 _ _, by simp, by simp, by simp, HT.out.keep (below1 _ _) (Nat.le_refl _), HR.out.keep (below1 _ _) (Nat.le_refl _), by simp⟩
    simp only [← hW, ← hN]
    clear hW hN
    go_at_call 132
    refine (fits (rd3_2_0 st) (rd3_2_1 st)).mono ?_
    rw [HF.out]
    rintro e w2 ⟨rfl, bel⟩
    replace st := next3_2 bel st
    clear bel
    go_wp2
    go_ret2
    refine ⟨_, rfl, w.heap.size, ?_, Nat.le_refl _, st.1⟩
    simpa using Own.nil _ _ _

end Go.Proofs.Ythcbhbdgbiiagaa.Run
