/- DamageOf of both sides. -/
import Derived.Test.YtpehalecmgpbnaaAlone
import Derived.Test.YtpehalecmgpbnaaKeep3
namespace Go.Proofs.Ytpehalecmgpbnaa.Damage
open Go.RowKit Go.Proofs.Ytpehalecmgpbnaa.Rd Go.Proofs.Ytpehalecmgpbnaa.Help Go.Proofs.Ytpehalecmgpbnaa.App Go.Proofs.Ytpehalecmgpbnaa.Ring Go.Proofs.Ytpehalecmgpbnaa.Small Go.Proofs.Ytpehalecmgpbnaa.Num Go.Proofs.Ytpehalecmgpbnaa.Keep Go.Proofs.Ytpehalecmgpbnaa.Rule Go.Proofs.Ytpehalecmgpbnaa.Step Go.Proofs.Ytpehalecmgpbnaa.Run Go.Proofs.Ytpehalecmgpbnaa.Alone
set_option linter.unusedVariables false
set_option linter.unusedSimpArgs false

/-- In how many of the first k cells two lists differ. -/
def differ (xs ys : List Int) : Nat → Int
  | 0 => 0
  | k + 1 => if xs.getD k 0 = ys.getD k 0 then differ xs ys k else differ xs ys k + 1
theorem differ_bd (xs ys : List Int) (k : Nat) : 0 ≤ differ xs ys k ∧ differ xs ys k ≤ k := by
  induction k with
  | zero => simp [differ]
  | succ k ih => simp only [differ]; split <;> omega

theorem row_keep {w w' : World} {base : Nat} {e : TypeId} {size n : Nat} {v : Value} {xs : List Value} (h : w.ownsRow base e size v n xs) (bel : Below w.heap.size w w') : w'.ownsRow base e size v n xs :=
  h.kept (below_grown bel) (by cases hv : v.ownBlock with
    | none => exact .inl rfl
    | some k => right; simp)

theorem append1g {ops : Array Oper} {rest : List Oper} {o : Oper} {a : Act} {Q : Exit → Act → World → Prop} {W : World} (hgd : o.guard = none) (s x : Operand)
    (ho : o.op = .call { callee := .builtin .append, args := #[s, x], argTypes := #[22, 22] })
    (base : Nat) (v : Value) (zs : List Int) (hs : a.eval s = v) (hown : W.ownsRow base 2 1 v zs.length (zs.map (Value.int .i64))) (y : Int)
    (hx : a.eval x = .slice (some ⟨W.heap.size, 0, none⟩) 1 1) (hlen : zs.length + 1 ≤ 1000000000000) (hbase : base ≤ W.heap.size)
    (h : ∀ v' w', w'.ownsRow base 2 1 v' (zs ++ [y]).length ((zs ++ [y]).map (Value.int .i64)) → Below base W w' → W.grownBy w' v.ownBlock → wpList Try.prog ops Q rest (a.put o.dst v') w') :
    wpList Try.prog ops Q (o :: rest) a (W.alloc (.cells #[.int .i64 y] 2)) := by
  obtain ⟨i, hi, hz0, hz1, hz2⟩ := info_parts infoI
  refine wpList_append_own (W.alloc (.cells #[.int .i64 y] 2)) hgd s x 22 ho base 2 i (.int .i64 0) 1 8 Try.underlying22 hi hz0 hz1 hz2 rfl (by decide) v zs.length _ hs (hown.alloc _) ⟨W.heap.size, 0, none⟩ 1 1 [.int .i64 y] hx rfl ?_ ?_ ?_ ?_ ?_ ?_
  · intro j u hj
    match j, hj with
    | 0, hj => simp at hj; subst hj; simp [Addr.add]
  · intro u hu; simp at hu; subst hu; rfl
  · unfold maxLen; omega
  · omega
  · simp; omega
  · intro v' w' h1 hg _
    refine h v' w' (by simpa using h1) ?_ ?_
    · exact ((Below.refl base W).alloc hbase (.cells #[.int .i64 y] 2)).grown hg (by simp; omega) (fun k hk => (hown.lt k hk).1)
    · exact grown_after (below1 W _) hg

set_option maxHeartbeats 1000000 in
theorem specDiffer {w : World} {b1 b2 : Nat} {v1 v2 : Value} {xs ys : List Int} (h1 : Rd w b1 v1 xs) (h2 : Rd w b2 v2 ys) (hl : xs.length = ys.length) (hn : xs.length ≤ 1000) :
    Calls Try.prog 41 #[v1, v2] w fun e w' => e = .returned (.int .i64 (differ xs ys xs.length)) ∧ ∃ m, w' = w.drewN m := by
  obtain ⟨ao, cap, rfl, hc, hm, h4⟩ := h1
  obtain ⟨ao2, cap2, rfl, hc2, hm2, h42⟩ := h2
  rw [← hl] at h42 ⊢
  obtain ⟨n, hnn⟩ : ∃ n, n = xs.length := ⟨_, rfl⟩
  rw [← hnn] at hn h4 h42 ⊢
  clear hc hc2 hm hm2 hnn hl
  go_enter Try.func41, Try.ntmps41
  go_wp2
  go_loopw [5, 6] (fun d i wr => ∃ k : Nat, k ≤ n ∧ i = .int .i64 k ∧ d = .int .i64 (differ xs ys k) ∧ ∃ m, wr = w.drewN m) (fun _ i _ => n - (intOf i).toNat)
  case atStart => exact ⟨0, Nat.zero_le _, rfl, rfl, 0, rfl⟩
  case round =>
    obtain ⟨k, hk, rfl, rfl, m, hw⟩ := hrel
    have HW := hid hw
    by_cases hlt : k < n
    · obtain ⟨off, rfl, hb, hcc⟩ := h4 (by omega)
      obtain ⟨off2, rfl, hb2, hcc2⟩ := h42 (by omega)
      obtain ⟨x, hx⟩ : ∃ x, x = xs.getD k 0 := ⟨_, rfl⟩
      obtain ⟨y, hy⟩ : ∃ y, y = ys.getD k 0 := ⟨_, rfl⟩
      have hcx : wr.cell? ⟨b1, off + k, none⟩ = some (.int .i64 x) := by rw [hw, hx]; exact hcc k hlt
      have hcy : wr.cell? ⟨b2, off2 + k, none⟩ = some (.int .i64 y) := by rw [hw, hy]; exact hcc2 k hlt
      have hki : (k : Int) < (n : Int) := by omega
      have hbd := differ_bd xs ys k
      obtain ⟨D, hD⟩ : ∃ D, D = differ xs ys k := ⟨_, rfl⟩
      rw [← hD] at hbd ⊢
      obtain ⟨d1, d2⟩ := hbd
      have HD := hid hD
      have HX := hid hx
      have HY := hid hy
      clear hx hy hD hw hcc hcc2
      by_cases he : x = y
      · have hnx : differ xs ys (k + 1) = D := by simp only [differ]; rw [if_pos (by rw [← HX.out, ← HY.out]; exact he), HD.out]
        have HNX := hid hnx
        subst he
        clear hnx
        go_wp2_with fail
        go_quiet (fail)
        go_wp2
        go_roundw
        case rel => exact ⟨k + 1, by omega, by go_num, by rw [HNX.out], m + nq, by rw [HW.out, World.drewN_drewN]⟩
        case measure => simp [intOf]; omega
      · have hnx : differ xs ys (k + 1) = D + 1 := by simp only [differ]; rw [if_neg (by rw [← HX.out, ← HY.out]; exact he), HD.out]
        have HNX := hid hnx
        have he2 : (x != y) = true := by simpa using he
        clear hnx he
        go_wp2_with fail
        go_quiet (fail)
        go_wp2
        go_roundw
        case rel => exact ⟨k + 1, by omega, by go_num, by rw [HNX.out], m + nq, by rw [HW.out, World.drewN_drewN]⟩
        case measure => simp [intOf]; omega
    · have hkn : k = n := by omega
      subst hkn
      obtain ⟨D, hD⟩ : ∃ D, D = differ xs ys k := ⟨_, rfl⟩
      have HD := hid hD
      rw [← hD]
      clear hD hw
      go_wp2
      go_ret
      exact ⟨by rw [← HD.out]; rfl, m, HW.out⟩

set_option maxHeartbeats 1000000 in
theorem implDiffer {w : World} {b1 b2 : Nat} {v1 v2 : Value} {xs ys : List Int} (h1 : Rd w b1 v1 xs) (h2 : Rd w b2 v2 ys) (hl : xs.length = ys.length) (hn : xs.length ≤ 1000) :
    Calls Try.prog 42 #[v1, v2] w fun e w' => e = .returned (.int .i64 (differ xs ys xs.length)) ∧ w = w' := by
  obtain ⟨ao, cap, rfl, hc, hm, h4⟩ := h1
  obtain ⟨ao2, cap2, rfl, hc2, hm2, h42⟩ := h2
  rw [← hl] at h42 ⊢
  obtain ⟨n, hnn⟩ : ∃ n, n = xs.length := ⟨_, rfl⟩
  rw [← hnn] at hn h4 h42 ⊢
  clear hc hc2 hm hm2 hnn hl
  go_enter Try.func42, Try.ntmps42
  go_wp2
  go_loop [5, 6, 7, 10] (fun d i0 x0 i => ∃ k : Nat, k ≤ n ∧ i = .int .i64 k ∧ d = .int .i64 (differ xs ys k)) (fun _ _ _ i => n - (intOf i).toNat)
  case atStart => exact ⟨0, Nat.zero_le _, rfl, rfl⟩
  case round =>
    obtain ⟨k, hk, rfl, rfl⟩ := hrel
    by_cases hlt : k < n
    · obtain ⟨off, rfl, hb, hcc⟩ := h4 (by omega)
      obtain ⟨off2, rfl, hb2, hcc2⟩ := h42 (by omega)
      obtain ⟨x, hx⟩ : ∃ x, x = xs.getD k 0 := ⟨_, rfl⟩
      obtain ⟨y, hy⟩ : ∃ y, y = ys.getD k 0 := ⟨_, rfl⟩
      have hcx : w.cell? ⟨b1, off + k, none⟩ = some (.int .i64 x) := by rw [hx]; exact hcc k hlt
      have hcy : w.cell? ⟨b2, off2 + k, none⟩ = some (.int .i64 y) := by rw [hy]; exact hcc2 k hlt
      have hki : (k : Int) < (n : Int) := by omega
      have hbd := differ_bd xs ys k
      obtain ⟨D, hD⟩ : ∃ D, D = differ xs ys k := ⟨_, rfl⟩
      rw [← hD] at hbd ⊢
      obtain ⟨d1, d2⟩ := hbd
      have HD := hid hD
      have HX := hid hx
      have HY := hid hy
      clear hx hy hD hcc hcc2
      by_cases he : x = y
      · have hnx : differ xs ys (k + 1) = D := by simp only [differ]; rw [if_pos (by rw [← HX.out, ← HY.out]; exact he), HD.out]
        have HNX := hid hnx
        subst he
        clear hnx
        go_wp2
        go_round
        case rel => exact ⟨k + 1, by omega, by go_num, by rw [HNX.out]⟩
        case measure => simp [intOf]; omega
      · have hnx : differ xs ys (k + 1) = D + 1 := by simp only [differ]; rw [if_neg (by rw [← HX.out, ← HY.out]; exact he), HD.out]
        have HNX := hid hnx
        have he2 : (x != y) = true := by simpa using he
        clear hnx he
        go_wp2
        go_round
        case rel => exact ⟨k + 1, by omega, by go_num, by rw [HNX.out]⟩
        case measure => simp [intOf]; omega
    · have hkn : k = n := by omega
      subst hkn
      obtain ⟨D, hD⟩ : ∃ D, D = differ xs ys k := ⟨_, rfl⟩
      have HD := hid hD
      rw [← hD]
      clear hD
      go_wp2
      go_ret
      exact ⟨by rw [← HD.out]; rfl, rfl⟩

/-- In how many cells both rings differ behind i steps. -/
def damAt (tbl xs ys : List Int) (s r : Int) (i : Nat) : Int := differ (runL tbl xs s r i) (runL tbl ys s r i) xs.length
def damL (tbl xs ys : List Int) (s r : Int) (k : Nat) : List Int := (List.range (k + 1)).map (damAt tbl xs ys s r)
theorem damL_length (tbl xs ys : List Int) (s r : Int) (k : Nat) : (damL tbl xs ys s r k).length = k + 1 := by simp [damL]
theorem damL_succ (tbl xs ys : List Int) (s r : Int) (k : Nat) : damL tbl xs ys s r (k + 1) = damL tbl xs ys s r k ++ [damAt tbl xs ys s r (k + 1)] := by simp [damL, List.range_succ]
theorem damL_zero (tbl xs ys : List Int) (s r : Int) : damL tbl xs ys s r 0 = [damAt tbl xs ys s r 0] := by simp [damL]

def okD (s r : Int) (tbl xs ys : List Int) (M : Int) : Prop := fitB s r tbl xs = true ∧ fitB s r tbl ys = true ∧ xs.length = ys.length ∧ 0 ≤ M ∧ M ≤ 64

set_option maxHeartbeats 8000000 in
theorem implOk {w : World} {s r : Int} {K : Nat} {bt ba bb : Nat} {vt va vb : Value} {tbl xs ys : List Int} (ht : Rd w bt vt tbl) (ha : Rd w ba va xs) (hb : Rd w bb vb ys) (hok : okD s r tbl xs ys K) :
    Calls Try.prog 26 #[ruleV s r vt, va, vb, .int .i64 K] w fun e w' => ∃ v', ∃ b', e = .returned (.tuple #[v', .bool true]) ∧
      Own 2 w' b' v' (damL tbl xs ys s r K) ∧ w.heap.size ≤ b' ∧ Below w.heap.size w w' := by
  have HT := hid ht
  have HA := hid ha
  have HB := hid hb
  obtain ⟨k1, k2, k3, k4, k5⟩ := hok
  have HF1 := hid k1
  have HF2 := hid k2
  have HG1 := hid (fun k => run_fit (fit_of k1) k)
  have HG2 := hid (fun k => run_fit (fit_of k2) k)
  have HD := hid (decide_eq_true (And.intro k4 k5))
  have hz := (fit_of k1).n
  have HLn := hid k3
  obtain ⟨aoa, capa, rfl, _, _, _⟩ := ha
  obtain ⟨aob, capb, rfl, _, _, _⟩ := hb
  rw [← k3] at HB ⊢
  obtain ⟨n, hn⟩ : ∃ n, n = xs.length := ⟨_, rfl⟩
  have Hn := hid hn
  rw [← hn] at HA HB hz ⊢
  obtain ⟨n1, n2⟩ := hz
  clear ht k1 k2 k3 hn
  go_enter Try.func26, Try.ntmps26
  go_wp2_with fail
  obtain ⟨w1, hW⟩ : ∃ w1, w1 = w.alloc (Obj.cells #[.int .i64 s, .int .i64 r, vt] 28) := ⟨_, rfl⟩
  obtain ⟨N, hN⟩ : ∃ N, N = w.heap.size := ⟨_, rfl⟩
  have st : Below w.heap.size w w1 ∧ w1.cell? ⟨N, 0, none⟩ = some (.int .i64 s) ∧ w1.cell? ⟨N, 1, none⟩ = some (.int .i64 r) ∧ w1.cell? ⟨N, 2, none⟩ = some vt ∧ Rd w1 bt vt tbl ∧ Rd w1 ba (.slice aoa n capa) xs ∧ Rd w1 bb (.slice aob n capb) ys ∧ w.heap.size ≤ w1.heap.size := by
    rw [hW, hN]
    exact ⟨below1 _ _, by simp, by simp, by simp, HT.out.keep (below1 _ _) (Nat.le_refl _), HA.out.keep (below1 _ _) (Nat.le_refl _), HB.out.keep (below1 _ _) (Nat.le_refl _), by simp⟩
  simp only [← hW, ← hN]
  clear hW hN
  go_at_call 32
  refine (fits (rd3_3_0 st) (rd3_3_1 st)).mono ?_
  rw [HF1.out]
  rintro e w2 ⟨rfl, bel⟩
  replace st := next3_3 bel st
  clear bel
  go_wp2_with fail
  go_at_call 32
  refine (fits (rd3_3_0 st) (rd3_3_2 st)).mono ?_
  rw [HF2.out]
  rintro e w3 ⟨rfl, bel⟩
  replace st := next3_3 bel st
  clear bel
  go_wp2_with fail
  go_at_call 36
  refine isCountB.mono ?_
  rw [HD.out]
  rintro e w4 ⟨rfl, hw4⟩
  subst hw4
  go_wp2_with fail
  go_at_call 42
  refine (implDiffer (rd3_3_1 st) (rd3_3_2 st) HLn.out (by have := Hn.out; omega)).mono ?_
  rintro e w4 ⟨rfl, hw4⟩
  subst hw4
  have hd0 : differ xs ys xs.length = damAt tbl xs ys s r 0 := rfl
  rw [hd0]
  obtain ⟨D0, hD0⟩ : ∃ D, D = damAt tbl xs ys s r 0 := ⟨_, rfl⟩
  have HD0 := hid hD0
  rw [← hD0]
  have ST := hid st
  clear hd0 hD0 st
  go_wp2
  go_loopw [1, 2, 10, 38] (fun a b c t wr => ∃ k : Nat, k ≤ K ∧ t = .int .i64 k ∧ wr.ownsRow w3.heap.size 2 1 c (damL tbl xs ys s r k).length ((damL tbl xs ys s r k).map (Value.int .i64)) ∧
    (∃ ba' bb', Hid (Below w.heap.size w wr ∧ wr.cell? ⟨N, 0, none⟩ = some (.int .i64 s) ∧ wr.cell? ⟨N, 1, none⟩ = some (.int .i64 r) ∧ wr.cell? ⟨N, 2, none⟩ = some vt ∧ Rd wr bt vt tbl ∧ Rd wr ba' a (runL tbl xs s r k) ∧ Rd wr bb' b (runL tbl ys s r k) ∧ w3.heap.size ≤ wr.heap.size))) (fun _ _ _ t _ => K - (intOf t).toNat)
  case atStart =>
    refine ⟨0, Nat.zero_le _, rfl, ?_, ba, bb, ?_⟩
    · rw [damL_zero, ← HD0.out]
      exact World.ownsRow_lit (base := w3.heap.size) (e := 2) (size := 1) w3 #[.int .i64 D0] 1 (Nat.le_refl _) (by unfold maxLen; omega) (by simp)
    · obtain ⟨t0, t1, t2, t3, t4, t5, t6, t7⟩ := next3_3 (below1 w3 (.cells #[.int .i64 D0] 2)) ST.out
      exact ⟨t0, t1, t2, t3, t4, t5, t6, by simp⟩
  case round =>
    obtain ⟨k, hk, rfl, hown, ba', bb', HS⟩ := hrel
    by_cases hlt : k < K
    · have HC := hid hown
      have HSz := hid HS.out.2.2.2.2.2.2.2
      have st : Below w.heap.size w wr ∧ wr.cell? ⟨N, 0, none⟩ = some (.int .i64 s) ∧ wr.cell? ⟨N, 1, none⟩ = some (.int .i64 r) ∧ wr.cell? ⟨N, 2, none⟩ = some vt ∧ Rd wr bt vt tbl ∧ Rd wr ba' u1 (runL tbl xs s r k) ∧ Rd wr bb' u2 (runL tbl ys s r k) ∧ w.heap.size ≤ wr.heap.size := ⟨HS.out.1, HS.out.2.1, HS.out.2.2.1, HS.out.2.2.2.1, HS.out.2.2.2.2.1, HS.out.2.2.2.2.2.1, HS.out.2.2.2.2.2.2.1, HS.out.1.size⟩
      have hl1 := runL_length tbl xs s r k
      have hl2 := runL_length tbl ys s r k
      have HL1 := hid hl1
      have HL2 := hid hl2
      obtain ⟨aA, cA, hA, _⟩ := st.2.2.2.2.2.1
      obtain ⟨aB, cB, hB, _⟩ := st.2.2.2.2.2.2.1
      subst hA hB
      clear hown hl1 hl2
      go_wp2_with fail
      refine wp_region_held_drew (S := (fun ww => Below w.heap.size w ww ∧ ww.cell? ⟨N, 0, none⟩ = some (.int .i64 s) ∧ ww.cell? ⟨N, 1, none⟩ = some (.int .i64 r) ∧ ww.cell? ⟨N, 2, none⟩ = some vt ∧ Rd ww bt vt tbl ∧ Rd ww ba' (.slice aA (runL tbl xs s r k).length cA) (runL tbl xs s r k) ∧ Rd ww bb' (.slice aB (runL tbl ys s r k).length cB) (runL tbl ys s r k) ∧ w.heap.size ≤ ww.heap.size)) (by kernel_rfl) ?_ (fun hHeld => ?_)
      · ((try dsimp only); exact drew3_3 st)
      first | (refine wpAnyH_take (i := 0) (v := ?_) rfl ?_ ?_ ?_ (fun _ _ _ h => h) (Or.inl ⟨?_, ?_⟩) ?_ ?_; rotate_left 1; (focus decide +kernel); (focus decide +kernel); (focus decide +kernel); (focus rfl); (focus (intro w hSw; (try dsimp only at hSw); go_simp; (try (with_reducible rfl)); done)); (focus assumption); (try simp only [Act.put, List.setIfInBounds_toArray, List.set_cons_zero, List.set_cons_succ, List.getElem_toArray, List.getElem_cons_succ, List.getElem_cons_zero])) | (refine wpAnyH_take (i := 0) (v := undef) rfl ?_ ?_ ?_ (fun _ _ _ h => h) (Or.inr ⟨?_, rfl⟩) ?_ ?_; (focus decide +kernel); (focus decide +kernel); (focus decide +kernel); (focus rfl); (focus assumption); (try simp only [Act.put, List.setIfInBounds_toArray, List.set_cons_zero, List.set_cons_succ, List.getElem_toArray, List.getElem_cons_succ, List.getElem_cons_zero])) | skip
      first | (refine wpAnyH_take (i := 1) (v := ?_) rfl ?_ ?_ ?_ (fun _ _ _ h => h) (Or.inl ⟨?_, ?_⟩) ?_ ?_; rotate_left 1; (focus decide +kernel); (focus decide +kernel); (focus decide +kernel); (focus rfl); (focus (intro w hSw; (try dsimp only at hSw); go_simp; (try (with_reducible rfl)); done)); (focus assumption); (try simp only [Act.put, List.setIfInBounds_toArray, List.set_cons_zero, List.set_cons_succ, List.getElem_toArray, List.getElem_cons_succ, List.getElem_cons_zero])) | (refine wpAnyH_take (i := 1) (v := undef) rfl ?_ ?_ ?_ (fun _ _ _ h => h) (Or.inr ⟨?_, rfl⟩) ?_ ?_; (focus decide +kernel); (focus decide +kernel); (focus decide +kernel); (focus rfl); (focus assumption); (try simp only [Act.put, List.setIfInBounds_toArray, List.set_cons_zero, List.set_cons_succ, List.getElem_toArray, List.getElem_cons_succ, List.getElem_cons_zero])) | skip
      first | (refine wpAnyH_take (i := 3) (v := ?_) rfl ?_ ?_ ?_ (fun _ _ _ h => h) (Or.inl ⟨?_, ?_⟩) ?_ ?_; rotate_left 1; (focus decide +kernel); (focus decide +kernel); (focus decide +kernel); (focus rfl); (focus (intro w hSw; (try dsimp only at hSw); go_simp; (try (with_reducible rfl)); done)); (focus assumption); (try simp only [Act.put, List.setIfInBounds_toArray, List.set_cons_zero, List.set_cons_succ, List.getElem_toArray, List.getElem_cons_succ, List.getElem_cons_zero])) | (refine wpAnyH_take (i := 3) (v := undef) rfl ?_ ?_ ?_ (fun _ _ _ h => h) (Or.inr ⟨?_, rfl⟩) ?_ ?_; (focus decide +kernel); (focus decide +kernel); (focus decide +kernel); (focus rfl); (focus assumption); (try simp only [Act.put, List.setIfInBounds_toArray, List.set_cons_zero, List.set_cons_succ, List.getElem_toArray, List.getElem_cons_succ, List.getElem_cons_zero])) | skip
      first | (refine wpAnyH_take (i := 4) (v := ?_) rfl ?_ ?_ ?_ (fun _ _ _ h => h) (Or.inl ⟨?_, ?_⟩) ?_ ?_; rotate_left 1; (focus decide +kernel); (focus decide +kernel); (focus decide +kernel); (focus rfl); (focus (intro w hSw; (try dsimp only at hSw); go_simp; (try (with_reducible rfl)); done)); (focus assumption); (try simp only [Act.put, List.setIfInBounds_toArray, List.set_cons_zero, List.set_cons_succ, List.getElem_toArray, List.getElem_cons_succ, List.getElem_cons_zero])) | (refine wpAnyH_take (i := 4) (v := undef) rfl ?_ ?_ ?_ (fun _ _ _ h => h) (Or.inr ⟨?_, rfl⟩) ?_ ?_; (focus decide +kernel); (focus decide +kernel); (focus decide +kernel); (focus rfl); (focus assumption); (try simp only [Act.put, List.setIfInBounds_toArray, List.set_cons_zero, List.set_cons_succ, List.getElem_toArray, List.getElem_cons_succ, List.getElem_cons_zero])) | skip
      first | (refine wpAnyH_take (i := 6) (v := ?_) rfl ?_ ?_ ?_ (fun _ _ _ h => h) (Or.inl ⟨?_, ?_⟩) ?_ ?_; rotate_left 1; (focus decide +kernel); (focus decide +kernel); (focus decide +kernel); (focus rfl); (focus (intro w hSw; (try dsimp only at hSw); go_simp; (try (with_reducible rfl)); done)); (focus assumption); (try simp only [Act.put, List.setIfInBounds_toArray, List.set_cons_zero, List.set_cons_succ, List.getElem_toArray, List.getElem_cons_succ, List.getElem_cons_zero])) | (refine wpAnyH_take (i := 6) (v := undef) rfl ?_ ?_ ?_ (fun _ _ _ h => h) (Or.inr ⟨?_, rfl⟩) ?_ ?_; (focus decide +kernel); (focus decide +kernel); (focus decide +kernel); (focus rfl); (focus assumption); (try simp only [Act.put, List.setIfInBounds_toArray, List.set_cons_zero, List.set_cons_succ, List.getElem_toArray, List.getElem_cons_succ, List.getElem_cons_zero])) | skip
      first | (refine wpAnyH_take (i := 7) (v := ?_) rfl ?_ ?_ ?_ (fun _ _ _ h => h) (Or.inl ⟨?_, ?_⟩) ?_ ?_; rotate_left 1; (focus decide +kernel); (focus decide +kernel); (focus decide +kernel); (focus rfl); (focus (intro w hSw; (try dsimp only at hSw); go_simp; (try (with_reducible rfl)); done)); (focus assumption); (try simp only [Act.put, List.setIfInBounds_toArray, List.set_cons_zero, List.set_cons_succ, List.getElem_toArray, List.getElem_cons_succ, List.getElem_cons_zero])) | (refine wpAnyH_take (i := 7) (v := undef) rfl ?_ ?_ ?_ (fun _ _ _ h => h) (Or.inr ⟨?_, rfl⟩) ?_ ?_; (focus decide +kernel); (focus decide +kernel); (focus decide +kernel); (focus rfl); (focus assumption); (try simp only [Act.put, List.setIfInBounds_toArray, List.set_cons_zero, List.set_cons_succ, List.getElem_toArray, List.getElem_cons_succ, List.getElem_cons_zero])) | skip
      first | (refine wpAnyH_take (i := 2) (v := undef) rfl ?_ ?_ ?_ (fun _ _ _ h => h) (Or.inr ⟨?_, rfl⟩) ?_ ?_; (focus decide +kernel); (focus decide +kernel); (focus decide +kernel); (focus rfl); (focus assumption); (try simp only [Act.put, List.setIfInBounds_toArray, List.set_cons_zero, List.set_cons_succ, List.getElem_toArray, List.getElem_cons_succ, List.getElem_cons_zero])) | (refine wpAnyH_ready (rs := [2]) ?_ (by simp) ?_; (focus decide +kernel); refine AllReadyH.cons rfl (fun K hK => ?_) AllReadyH.nil; go_simp; (go_at_call 33; refine (implNext (rd3_3_0 hHeld) (rd3_3_1 hHeld) (HG1.out k)).mono ?_; rintro e w5 ⟨b5, rfl, own5, lo5, bel⟩; have HC5 := hid (row_keep (w := wr.drew) HC.out bel); have bel5 := bel); refine hK.out _ _ ?_ (fun hHeld => ?_); ((try dsimp only); exact next3_3 bel hHeld); clear hK K; (try simp only [Act.put, List.setIfInBounds_toArray, List.set_cons_zero, List.set_cons_succ, List.getElem_toArray, List.getElem_cons_succ, List.getElem_cons_zero]))
      first | (refine wpAnyH_take (i := 3) (v := ?_) rfl ?_ ?_ ?_ (fun _ _ _ h => h) (Or.inl ⟨?_, ?_⟩) ?_ ?_; rotate_left 1; (focus decide +kernel); (focus decide +kernel); (focus decide +kernel); (focus rfl); (focus (intro w hSw; (try dsimp only at hSw); go_simp; (try (with_reducible rfl)); done)); (focus assumption); (try simp only [Act.put, List.setIfInBounds_toArray, List.set_cons_zero, List.set_cons_succ, List.getElem_toArray, List.getElem_cons_succ, List.getElem_cons_zero])) | (refine wpAnyH_take (i := 3) (v := undef) rfl ?_ ?_ ?_ (fun _ _ _ h => h) (Or.inr ⟨?_, rfl⟩) ?_ ?_; (focus decide +kernel); (focus decide +kernel); (focus decide +kernel); (focus rfl); (focus assumption); (try simp only [Act.put, List.setIfInBounds_toArray, List.set_cons_zero, List.set_cons_succ, List.getElem_toArray, List.getElem_cons_succ, List.getElem_cons_zero])) | skip
      first | (refine wpAnyH_take (i := 4) (v := ?_) rfl ?_ ?_ ?_ (fun _ _ _ h => h) (Or.inl ⟨?_, ?_⟩) ?_ ?_; rotate_left 1; (focus decide +kernel); (focus decide +kernel); (focus decide +kernel); (focus rfl); (focus (intro w hSw; (try dsimp only at hSw); go_simp; (try (with_reducible rfl)); done)); (focus assumption); (try simp only [Act.put, List.setIfInBounds_toArray, List.set_cons_zero, List.set_cons_succ, List.getElem_toArray, List.getElem_cons_succ, List.getElem_cons_zero])) | (refine wpAnyH_take (i := 4) (v := undef) rfl ?_ ?_ ?_ (fun _ _ _ h => h) (Or.inr ⟨?_, rfl⟩) ?_ ?_; (focus decide +kernel); (focus decide +kernel); (focus decide +kernel); (focus rfl); (focus assumption); (try simp only [Act.put, List.setIfInBounds_toArray, List.set_cons_zero, List.set_cons_succ, List.getElem_toArray, List.getElem_cons_succ, List.getElem_cons_zero])) | skip
      first | (refine wpAnyH_take (i := 6) (v := ?_) rfl ?_ ?_ ?_ (fun _ _ _ h => h) (Or.inl ⟨?_, ?_⟩) ?_ ?_; rotate_left 1; (focus decide +kernel); (focus decide +kernel); (focus decide +kernel); (focus rfl); (focus (intro w hSw; (try dsimp only at hSw); go_simp; (try (with_reducible rfl)); done)); (focus assumption); (try simp only [Act.put, List.setIfInBounds_toArray, List.set_cons_zero, List.set_cons_succ, List.getElem_toArray, List.getElem_cons_succ, List.getElem_cons_zero])) | (refine wpAnyH_take (i := 6) (v := undef) rfl ?_ ?_ ?_ (fun _ _ _ h => h) (Or.inr ⟨?_, rfl⟩) ?_ ?_; (focus decide +kernel); (focus decide +kernel); (focus decide +kernel); (focus rfl); (focus assumption); (try simp only [Act.put, List.setIfInBounds_toArray, List.set_cons_zero, List.set_cons_succ, List.getElem_toArray, List.getElem_cons_succ, List.getElem_cons_zero])) | skip
      first | (refine wpAnyH_take (i := 7) (v := ?_) rfl ?_ ?_ ?_ (fun _ _ _ h => h) (Or.inl ⟨?_, ?_⟩) ?_ ?_; rotate_left 1; (focus decide +kernel); (focus decide +kernel); (focus decide +kernel); (focus rfl); (focus (intro w hSw; (try dsimp only at hSw); go_simp; (try (with_reducible rfl)); done)); (focus assumption); (try simp only [Act.put, List.setIfInBounds_toArray, List.set_cons_zero, List.set_cons_succ, List.getElem_toArray, List.getElem_cons_succ, List.getElem_cons_zero])) | (refine wpAnyH_take (i := 7) (v := undef) rfl ?_ ?_ ?_ (fun _ _ _ h => h) (Or.inr ⟨?_, rfl⟩) ?_ ?_; (focus decide +kernel); (focus decide +kernel); (focus decide +kernel); (focus rfl); (focus assumption); (try simp only [Act.put, List.setIfInBounds_toArray, List.set_cons_zero, List.set_cons_succ, List.getElem_toArray, List.getElem_cons_succ, List.getElem_cons_zero])) | skip
      first | (refine wpAnyH_take (i := 5) (v := undef) rfl ?_ ?_ ?_ (fun _ _ _ h => h) (Or.inr ⟨?_, rfl⟩) ?_ ?_; (focus decide +kernel); (focus decide +kernel); (focus decide +kernel); (focus rfl); (focus assumption); (try simp only [Act.put, List.setIfInBounds_toArray, List.set_cons_zero, List.set_cons_succ, List.getElem_toArray, List.getElem_cons_succ, List.getElem_cons_zero])) | (refine wpAnyH_ready (rs := [5]) ?_ (by simp) ?_; (focus decide +kernel); refine AllReadyH.cons rfl (fun K hK => ?_) AllReadyH.nil; go_simp; (go_at_call 33; refine (implNext (rd3_3_0 hHeld) (rd3_3_2 hHeld) (HG2.out k)).mono ?_; rintro e w6 ⟨b6, rfl, own6, lo6, bel⟩; have HC6 := hid (row_keep HC5.out bel); have HZ := hid (And.intro lo5 (And.intro lo6 (And.intro (show wr.heap.size ≤ w5.heap.size from bel5.size) bel.size))); replace own5 := own5.keep bel); refine hK.out _ _ ?_ (fun hHeld => ?_); ((try dsimp only); exact next3_3 bel hHeld); clear hK K; (try simp only [Act.put, List.setIfInBounds_toArray, List.set_cons_zero, List.set_cons_succ, List.getElem_toArray, List.getElem_cons_succ, List.getElem_cons_zero]))
      first | (refine wpAnyH_take (i := 6) (v := ?_) rfl ?_ ?_ ?_ (fun _ _ _ h => h) (Or.inl ⟨?_, ?_⟩) ?_ ?_; rotate_left 1; (focus decide +kernel); (focus decide +kernel); (focus decide +kernel); (focus rfl); (focus (intro w hSw; (try dsimp only at hSw); go_simp; (try (with_reducible rfl)); done)); (focus assumption); (try simp only [Act.put, List.setIfInBounds_toArray, List.set_cons_zero, List.set_cons_succ, List.getElem_toArray, List.getElem_cons_succ, List.getElem_cons_zero])) | (refine wpAnyH_take (i := 6) (v := undef) rfl ?_ ?_ ?_ (fun _ _ _ h => h) (Or.inr ⟨?_, rfl⟩) ?_ ?_; (focus decide +kernel); (focus decide +kernel); (focus decide +kernel); (focus rfl); (focus assumption); (try simp only [Act.put, List.setIfInBounds_toArray, List.set_cons_zero, List.set_cons_succ, List.getElem_toArray, List.getElem_cons_succ, List.getElem_cons_zero])) | skip
      first | (refine wpAnyH_take (i := 7) (v := ?_) rfl ?_ ?_ ?_ (fun _ _ _ h => h) (Or.inl ⟨?_, ?_⟩) ?_ ?_; rotate_left 1; (focus decide +kernel); (focus decide +kernel); (focus decide +kernel); (focus rfl); (focus (intro w hSw; (try dsimp only at hSw); go_simp; (try (with_reducible rfl)); done)); (focus assumption); (try simp only [Act.put, List.setIfInBounds_toArray, List.set_cons_zero, List.set_cons_succ, List.getElem_toArray, List.getElem_cons_succ, List.getElem_cons_zero])) | (refine wpAnyH_take (i := 7) (v := undef) rfl ?_ ?_ ?_ (fun _ _ _ h => h) (Or.inr ⟨?_, rfl⟩) ?_ ?_; (focus decide +kernel); (focus decide +kernel); (focus decide +kernel); (focus rfl); (focus assumption); (try simp only [Act.put, List.setIfInBounds_toArray, List.set_cons_zero, List.set_cons_succ, List.getElem_toArray, List.getElem_cons_succ, List.getElem_cons_zero])) | skip
      refine wpAnyH_done (by kernel_rfl) ?_ _
      have H5 := hid own5
      have H6 := hid own6
      have H7 := hid hHeld
      clear own5 own6 st lo5 lo6 hHeld bel5
      go_wp2_with fail
      go_at_call 42
      have e5 : nextL tbl (runL tbl xs s r k) s r (runL tbl xs s r k).length = runL tbl xs s r (k + 1) := by rw [HL1.out]; rfl
      have e6 : nextL tbl (runL tbl ys s r k) s r (runL tbl ys s r k).length = runL tbl ys s r (k + 1) := by rw [HL2.out]; rfl
      refine (implDiffer H5.out.rd H6.out.rd (by rw [e5, e6, runL_length, runL_length]; exact HLn.out) (by rw [e5, runL_length]; have := Hn.out; omega)).mono ?_
      rintro e w7 ⟨rfl, hw7⟩
      subst hw7
      have hd : differ (nextL tbl (runL tbl xs s r k) s r (runL tbl xs s r k).length) (nextL tbl (runL tbl ys s r k) s r (runL tbl ys s r k).length) (nextL tbl (runL tbl xs s r k) s r (runL tbl xs s r k).length).length = damAt tbl xs ys s r (k + 1) := by
        rw [e5, e6, runL_length]; rfl
      rw [hd]
      obtain ⟨D, hD⟩ : ∃ D, D = damAt tbl xs ys s r (k + 1) := ⟨_, rfl⟩
      have HDD := hid hD
      rw [← hD]
      have E5 := hid e5
      have E6 := hid e6
      clear hD hd e5 e6
      go_wp2_with (first | (at_builtin; refine append1g rfl _ _ rfl w3.heap.size _ _ rfl HC6.out _ rfl ?c1 ?c2 ?_) | go_in)
      case c1 => rw [damL_length]; omega
      case c2 => exact Nat.le_trans HSz.out (Nat.le_trans HZ.out.2.2.1 HZ.out.2.2.2)
      · intro v' w8 hown8 hbel8 hg8
        have HG8 := hid hg8
        clear hg8
        have HO8 := hid hown8
        have HB8 := hid hbel8
        clear hown8 hbel8
        go_wp2
        go_roundw
        case rel =>
          refine ⟨k + 1, by omega, by go_num, ?_, b5, b6, ?_⟩
          · rw [damL_succ, ← HDD.out, List.map_append, List.length_append]
            exact HO8.out
          · have q3 := ST.out.1.size
            have hb8 : Below w.heap.size w w8 := H7.out.1.trans (HB8.out.mono q3)
            have hN3 : N < w3.heap.size := World.block_lt_of_cell? _ _ ST.out.2.1
            have hlt := fun j hj => (HC.out.lt j hj).2
            have g5 : ∀ c : Value, u10 = c → c.ownBlock ≠ some b5 := by
              intro c hc he
              have h1 := hlt b5 (by rw [hc]; exact he)
              have h2 := HZ.out.1
              have h3 : wr.heap.size ≤ b5 := h2
              omega
            have g6 : ∀ c : Value, u10 = c → c.ownBlock ≠ some b6 := by
              intro c hc he
              have h1 := hlt b6 (by rw [hc]; exact he)
              have h2 := HZ.out.2.1
              have h3 := HZ.out.2.2.1
              omega
            refine ⟨hb8, (HB8.out.cell (p := ⟨N, 0, none⟩) hN3).trans H7.out.2.1, (HB8.out.cell (p := ⟨N, 1, none⟩) hN3).trans H7.out.2.2.1, (HB8.out.cell (p := ⟨N, 2, none⟩) hN3).trans H7.out.2.2.2.1, HT.out.keep hb8 (Nat.le_refl _), ?_, ?_, ?_⟩
            · rw [← E5.out]; exact (H5.out.grown HG8.out (g5 _ rfl)).rd
            · rw [← E6.out]; exact (H6.out.grown HG8.out (g6 _ rfl)).rd
            · exact Nat.le_trans HSz.out (Nat.le_trans HZ.out.2.2.1 (Nat.le_trans HZ.out.2.2.2 HB8.out.size))
        case measure => simp [intOf]; omega
    · have hkn : K = k := by omega
      subst hkn
      have HC := hid hown
      clear hown
      go_wp2
      go_ret2
      obtain ⟨b', hb', ho⟩ := Own.of HC.out
      exact ⟨_, b', rfl, ho, Nat.le_trans ST.out.1.size hb', HS.out.1⟩

end Go.Proofs.Ytpehalecmgpbnaa.Damage
