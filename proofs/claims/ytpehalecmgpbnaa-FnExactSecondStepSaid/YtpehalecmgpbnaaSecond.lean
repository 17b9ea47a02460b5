/- SecondStep of both sides. -/
import Derived.Test.YtpehalecmgpbnaaDamageR
namespace Go.Proofs.Ytpehalecmgpbnaa.Second
open Go.RowKit Go.Proofs.Ytpehalecmgpbnaa.Rd Go.Proofs.Ytpehalecmgpbnaa.Help Go.Proofs.Ytpehalecmgpbnaa.App Go.Proofs.Ytpehalecmgpbnaa.Ring Go.Proofs.Ytpehalecmgpbnaa.Small Go.Proofs.Ytpehalecmgpbnaa.Num Go.Proofs.Ytpehalecmgpbnaa.Keep Go.Proofs.Ytpehalecmgpbnaa.Rule Go.Proofs.Ytpehalecmgpbnaa.Step Go.Proofs.Ytpehalecmgpbnaa.Run Go.Proofs.Ytpehalecmgpbnaa.Alone
set_option linter.unusedVariables false
set_option linter.unusedSimpArgs false

def okS (s r : Int) (tbl xs ys : List Int) : Prop := fitB s r tbl xs = true ∧ fitB s r tbl ys = true ∧ xs.length = ys.length
/-- The cell that leads back. -/
def secAt (tbl xs ys : List Int) (s r : Int) (i : Nat) : Int := (told tbl ys s r i + s - xs.getD i 0) % s
def secL (tbl xs ys : List Int) (s r : Int) (k : Nat) : List Int := (List.range k).map (secAt tbl xs ys s r)
theorem secL_length (tbl xs ys : List Int) (s r : Int) (k : Nat) : (secL tbl xs ys s r k).length = k := by simp [secL]
theorem secL_succ (tbl xs ys : List Int) (s r : Int) (k : Nat) : secL tbl xs ys s r (k + 1) = secL tbl xs ys s r k ++ [secAt tbl xs ys s r k] := by simp [secL, List.range_succ]
theorem sec_set (tbl xs ys : List Int) (s r : Int) (nx : List Int) (k : Nat) (h : k < nx.length) : (secL tbl xs ys s r k ++ nx.drop k).set k (secAt tbl xs ys s r k) = secL tbl xs ys s r (k + 1) ++ nx.drop (k + 1) := by
  rw [List.drop_eq_getElem_cons h, List.set_append_right _ _ (by rw [secL_length]; omega), secL_length, Nat.sub_self, List.set_cons_zero, secL_succ, List.append_assoc]
  rfl
theorem sec_get (tbl xs ys : List Int) (s r : Int) (nx : List Int) (k : Nat) (h : k < nx.length) : (secL tbl xs ys s r k ++ nx.drop k).getD k 0 = nx.getD k 0 := by
  have e := secL_length tbl xs ys s r k
  simp only [List.getD]
  rw [List.getElem?_append_right (by omega), e, List.getElem?_drop]
  simp
theorem next_get (tbl ys : List Int) (s r : Int) (n k : Nat) (h : k < n) : (nextL tbl ys s r n).getD k 0 = told tbl ys s r k := by
  simp [nextL, List.getD, h]

theorem append1w {o : Oper} {a : Act} {K : Act → World → Prop} {Q : Exit → Act → World → Prop} {W : World} (s x : Operand)
    (ho : o.op = .call { callee := .builtin .append, args := #[s, x], argTypes := #[22, 22] })
    (base : Nat) (v : Value) (zs : List Int) (hs : a.eval s = v) (hown : W.ownsRow base 2 1 v zs.length (zs.map (Value.int .i64))) (y : Int)
    (hx : a.eval x = .slice (some ⟨W.heap.size, 0, none⟩) 1 1) (hlen : zs.length + 1 ≤ 1000000000000) (hbase : base ≤ W.heap.size)
    (h : ∀ v' w', w'.ownsRow base 2 1 v' (zs ++ [y]).length ((zs ++ [y]).map (Value.int .i64)) → Below base W w' → K (a.put o.dst v') w') :
    o.wp Try.prog a (W.alloc (.cells #[.int .i64 y] 2)) K Q := by
  obtain ⟨i, hi, hz0, hz1, hz2⟩ := info_parts infoI
  refine wp_append_own (W.alloc (.cells #[.int .i64 y] 2)) s x 22 ho base 2 i (.int .i64 0) 1 8 Try.underlying22 hi hz0 hz1 hz2 rfl (by decide) v zs.length _ hs (hown.alloc _) ⟨W.heap.size, 0, none⟩ 1 1 [.int .i64 y] hx rfl ?_ ?_ ?_ ?_ ?_ ?_
  · intro j u hj
    match j, hj with
    | 0, hj => simp at hj; subst hj; simp [Addr.add]
  · intro u hu; simp at hu; subst hu; rfl
  · unfold maxLen; omega
  · omega
  · simp; omega
  · intro v' w' h1 hg _
    exact h v' w' (by simpa using h1) (((Below.refl base W).alloc hbase (.cells #[.int .i64 y] 2)).grown hg (by simp; omega) (fun k hk => (hown.lt k hk).1))

set_option maxHeartbeats 4000000 in
theorem implNo {w : World} {s r : Int} {bt ba bb : Nat} {vt va vb : Value} {tbl xs ys : List Int} (ht : Rd w bt vt tbl) (ha : Rd w ba va xs) (hb : Rd w bb vb ys) (hok : ¬ okS s r tbl xs ys) :
    Calls Try.prog 22 #[ruleV s r vt, va, vb] w fun e w' => e = .returned (.tuple #[.slice none 0 0, .bool false]) ∧ Below w.heap.size w w' := by
  have HT := hid ht
  have HA := hid ha
  have HB := hid hb
  obtain ⟨aoa, capa, rfl, xa, xb, _⟩ := ha
  obtain ⟨aob, capb, rfl, ya, yb, _⟩ := hb
  have lx : xs.length ≤ 9223372036854775807 := by unfold maxLen at xb; omega
  have ly : ys.length ≤ 9223372036854775807 := by unfold maxLen at yb; omega
  clear ht xa xb ya yb
  cases h1 : fitB s r tbl xs with
  | false =>
    have HF1 := hid h1
    clear hok h1
    go_enter Try.func22, Try.ntmps22
    go_wp2_with fail
    obtain ⟨w1, hW⟩ : ∃ w1, w1 = w.alloc (Obj.cells #[.int .i64 s, .int .i64 r, vt] 28) := ⟨_, rfl⟩
    obtain ⟨N, hN⟩ : ∃ N, N = w.heap.size := ⟨_, rfl⟩
    have st : Below w.heap.size w w1 ∧ w1.cell? ⟨N, 0, none⟩ = some (.int .i64 s) ∧ w1.cell? ⟨N, 1, none⟩ = some (.int .i64 r) ∧ w1.cell? ⟨N, 2, none⟩ = some vt ∧ Rd w1 bt vt tbl ∧ Rd w1 ba (.slice aoa xs.length capa) xs ∧ Rd w1 bb (.slice aob ys.length capb) ys ∧ w.heap.size ≤ w1.heap.size := by
      rw [hW, hN]
      exact ⟨below1 _ _, by simp, by simp, by simp, HT.out.keep (below1 _ _) (Nat.le_refl _), HA.out.keep (below1 _ _) (Nat.le_refl _), HB.out.keep (below1 _ _) (Nat.le_refl _), by simp⟩
    simp only [← hW, ← hN]
    clear hW hN
    go_at_call 32
    refine (fits (rd3_3_0 st) (rd3_3_1 st)).mono ?_
    rw [HF1.out]
    rintro e w2 ⟨rfl, bel⟩
    replace st := next3_3 bel st
    clear bel
    go_wp2
    go_ret2
    exact ⟨rfl, st.1⟩
  | true =>
    have HF1 := hid h1
    cases h2 : fitB s r tbl ys with
    | false =>
      have HF2 := hid h2
      clear hok h1 h2
      go_enter Try.func22, Try.ntmps22
      go_wp2_with fail
      obtain ⟨w1, hW⟩ : ∃ w1, w1 = w.alloc (Obj.cells #[.int .i64 s, .int .i64 r, vt] 28) := ⟨_, rfl⟩
      obtain ⟨N, hN⟩ : ∃ N, N = w.heap.size := ⟨_, rfl⟩
      have st : Below w.heap.size w w1 ∧ w1.cell? ⟨N, 0, none⟩ = some (.int .i64 s) ∧ w1.cell? ⟨N, 1, none⟩ = some (.int .i64 r) ∧ w1.cell? ⟨N, 2, none⟩ = some vt ∧ Rd w1 bt vt tbl ∧ Rd w1 ba (.slice aoa xs.length capa) xs ∧ Rd w1 bb (.slice aob ys.length capb) ys ∧ w.heap.size ≤ w1.heap.size := by
        rw [hW, hN]
        exact ⟨below1 _ _, by simp, by simp, by simp, HT.out.keep (below1 _ _) (Nat.le_refl _), HA.out.keep (below1 _ _) (Nat.le_refl _), HB.out.keep (below1 _ _) (Nat.le_refl _), by simp⟩
      simp only [← hW, ← hN]
      clear hW hN
      go_at_call 32
      refine (fits (rd3_3_0 st) (rd3_3_1 st)).mono ?_
      rw [HF1.out]
      rintro e w2 ⟨rfl, bel⟩
      replace st := next3_3 bel st
      clear bel
      go_wp2_with fail
      go_at_call 32
      refine (fits (rd3_3_0 st) (rd3_3_2 st)).mono ?_
      rw [HF2.out]
      rintro e w3 ⟨rfl, bel⟩
      replace st := next3_3 bel st
      clear bel
      go_wp2
      go_ret2
      exact ⟨rfl, st.1⟩
    | true =>
      have HF2 := hid h2
      have h3 : ¬ xs.length = ys.length := fun h3 => hok ⟨h1, h2, h3⟩
      have e3 : ((xs.length : Int) != (ys.length : Int)) = true := by simp; omega
      clear hok h1 h2
      go_enter Try.func22, Try.ntmps22
      go_wp2_with fail
      obtain ⟨w1, hW⟩ : ∃ w1, w1 = w.alloc (Obj.cells #[.int .i64 s, .int .i64 r, vt] 28) := ⟨_, rfl⟩
      obtain ⟨N, hN⟩ : ∃ N, N = w.heap.size := ⟨_, rfl⟩
      have st : Below w.heap.size w w1 ∧ w1.cell? ⟨N, 0, none⟩ = some (.int .i64 s) ∧ w1.cell? ⟨N, 1, none⟩ = some (.int .i64 r) ∧ w1.cell? ⟨N, 2, none⟩ = some vt ∧ Rd w1 bt vt tbl ∧ Rd w1 ba (.slice aoa xs.length capa) xs ∧ Rd w1 bb (.slice aob ys.length capb) ys ∧ w.heap.size ≤ w1.heap.size := by
        rw [hW, hN]
        exact ⟨below1 _ _, by simp, by simp, by simp, HT.out.keep (below1 _ _) (Nat.le_refl _), HA.out.keep (below1 _ _) (Nat.le_refl _), HB.out.keep (below1 _ _) (Nat.le_refl _), by simp⟩
      simp only [← hW, ← hN]
      clear hW hN
      go_at_call 32
      refine (fits (rd3_3_0 st) (rd3_3_1 st)).mono ?_
      rw [HF1.out]
      rintro e w2 ⟨rfl, bel⟩
      replace st := next3_3 bel st
      clear bel
      go_wp2_with fail
      go_at_call 32
      refine (fits (rd3_3_0 st) (rd3_3_2 st)).mono ?_
      rw [HF2.out]
      rintro e w3 ⟨rfl, bel⟩
      replace st := next3_3 bel st
      clear bel
      go_wp2
      go_ret2
      exact ⟨rfl, st.1⟩

set_option maxHeartbeats 4000000 in
theorem specNo {w : World} {s r : Int} {bt ba bb : Nat} {vt va vb : Value} {tbl xs ys : List Int} (ht : Rd w bt vt tbl) (ha : Rd w ba va xs) (hb : Rd w bb vb ys) (hok : ¬ okS s r tbl xs ys) :
    Calls Try.prog 21 #[ruleV s r vt, va, vb] w fun e w' => e = .returned (.tuple #[.slice none 0 0, .bool false]) ∧ Below w.heap.size w w' := by
  have HT := hid ht
  have HA := hid ha
  have HB := hid hb
  obtain ⟨aoa, capa, rfl, xa, xb, _⟩ := ha
  obtain ⟨aob, capb, rfl, ya, yb, _⟩ := hb
  have lx : xs.length ≤ 9223372036854775807 := by unfold maxLen at xb; omega
  have ly : ys.length ≤ 9223372036854775807 := by unfold maxLen at yb; omega
  clear ht xa xb ya yb
  cases h1 : fitB s r tbl ys with
  | false =>
    have HF1 := hid h1
    clear hok h1
    go_enter Try.func21, Try.ntmps21
    go_wp2_with fail
    obtain ⟨w1, hW⟩ : ∃ w1, w1 = w.alloc (Obj.cells #[.int .i64 s, .int .i64 r, vt] 28) := ⟨_, rfl⟩
    obtain ⟨N, hN⟩ : ∃ N, N = w.heap.size := ⟨_, rfl⟩
    have st : Below w.heap.size w w1 ∧ w1.cell? ⟨N, 0, none⟩ = some (.int .i64 s) ∧ w1.cell? ⟨N, 1, none⟩ = some (.int .i64 r) ∧ w1.cell? ⟨N, 2, none⟩ = some vt ∧ Rd w1 bt vt tbl ∧ Rd w1 ba (.slice aoa xs.length capa) xs ∧ Rd w1 bb (.slice aob ys.length capb) ys ∧ w.heap.size ≤ w1.heap.size := by
      rw [hW, hN]
      exact ⟨below1 _ _, by simp, by simp, by simp, HT.out.keep (below1 _ _) (Nat.le_refl _), HA.out.keep (below1 _ _) (Nat.le_refl _), HB.out.keep (below1 _ _) (Nat.le_refl _), by simp⟩
    simp only [← hW, ← hN]
    clear hW hN
    go_at_call 30
    refine (can st.2.1 st.2.2.1 st.2.2.2.1 (rd3_3_0 st) (rd3_3_2 st)).mono ?_
    rw [HF1.out]
    rintro e w2 ⟨rfl, bel⟩
    replace st := next3_3 bel st
    clear bel
    go_wp2
    go_ret2
    exact ⟨rfl, st.1⟩
  | true =>
    have HF1 := hid h1
    have HST := hid (fit_of h1).st
    cases h2 : fitB s r tbl xs with
    | false =>
      have HF2 := hid ((Damage.ring_fit h1).symm.trans h2)
      clear hok h1 h2
      go_enter Try.func21, Try.ntmps21
      go_wp2_with fail
      obtain ⟨w1, hW⟩ : ∃ w1, w1 = w.alloc (Obj.cells #[.int .i64 s, .int .i64 r, vt] 28) := ⟨_, rfl⟩
      obtain ⟨N, hN⟩ : ∃ N, N = w.heap.size := ⟨_, rfl⟩
      have st : Below w.heap.size w w1 ∧ w1.cell? ⟨N, 0, none⟩ = some (.int .i64 s) ∧ w1.cell? ⟨N, 1, none⟩ = some (.int .i64 r) ∧ w1.cell? ⟨N, 2, none⟩ = some vt ∧ Rd w1 bt vt tbl ∧ Rd w1 ba (.slice aoa xs.length capa) xs ∧ Rd w1 bb (.slice aob ys.length capb) ys ∧ w.heap.size ≤ w1.heap.size := by
        rw [hW, hN]
        exact ⟨below1 _ _, by simp, by simp, by simp, HT.out.keep (below1 _ _) (Nat.le_refl _), HA.out.keep (below1 _ _) (Nat.le_refl _), HB.out.keep (below1 _ _) (Nat.le_refl _), by simp⟩
      simp only [← hW, ← hN]
      clear hW hN
      go_at_call 30
      refine (can st.2.1 st.2.2.1 st.2.2.2.1 (rd3_3_0 st) (rd3_3_2 st)).mono ?_
      rw [HF1.out]
      rintro e w2 ⟨rfl, bel⟩
      replace st := next3_3 bel st
      clear bel
      go_wp2_with fail
      go_at_call 38
      refine (specL02Ring (rd3_3_1 st) HST.out).mono ?_
      rw [HF2.out]
      rintro e w3 ⟨rfl, hw3⟩
      subst hw3
      go_wp2
      go_ret2
      exact ⟨rfl, st.1⟩
    | true =>
      have HF2 := hid ((Damage.ring_fit h1).symm.trans h2)
      have h3 : ¬ xs.length = ys.length := fun h3 => hok ⟨h2, h1, h3⟩
      have e3 : ((xs.length : Int) != (ys.length : Int)) = true := by simp; omega
      clear hok h1 h2
      go_enter Try.func21, Try.ntmps21
      go_wp2_with fail
      obtain ⟨w1, hW⟩ : ∃ w1, w1 = w.alloc (Obj.cells #[.int .i64 s, .int .i64 r, vt] 28) := ⟨_, rfl⟩
      obtain ⟨N, hN⟩ : ∃ N, N = w.heap.size := ⟨_, rfl⟩
      have st : Below w.heap.size w w1 ∧ w1.cell? ⟨N, 0, none⟩ = some (.int .i64 s) ∧ w1.cell? ⟨N, 1, none⟩ = some (.int .i64 r) ∧ w1.cell? ⟨N, 2, none⟩ = some vt ∧ Rd w1 bt vt tbl ∧ Rd w1 ba (.slice aoa xs.length capa) xs ∧ Rd w1 bb (.slice aob ys.length capb) ys ∧ w.heap.size ≤ w1.heap.size := by
        rw [hW, hN]
        exact ⟨below1 _ _, by simp, by simp, by simp, HT.out.keep (below1 _ _) (Nat.le_refl _), HA.out.keep (below1 _ _) (Nat.le_refl _), HB.out.keep (below1 _ _) (Nat.le_refl _), by simp⟩
      simp only [← hW, ← hN]
      clear hW hN
      go_at_call 30
      refine (can st.2.1 st.2.2.1 st.2.2.2.1 (rd3_3_0 st) (rd3_3_2 st)).mono ?_
      rw [HF1.out]
      rintro e w2 ⟨rfl, bel⟩
      replace st := next3_3 bel st
      clear bel
      go_wp2_with fail
      go_at_call 38
      refine (specL02Ring (rd3_3_1 st) HST.out).mono ?_
      rw [HF2.out]
      rintro e w3 ⟨rfl, hw3⟩
      subst hw3
      go_wp2
      go_ret2
      exact ⟨rfl, st.1⟩

set_option maxHeartbeats 8000000 in
theorem implOk {w : World} {s r : Int} {bt ba bb : Nat} {vt va vb : Value} {tbl xs ys : List Int} (ht : Rd w bt vt tbl) (ha : Rd w ba va xs) (hb : Rd w bb vb ys) (hok : okS s r tbl xs ys) :
    Calls Try.prog 22 #[ruleV s r vt, va, vb] w fun e w' => ∃ v', ∃ b', e = .returned (.tuple #[v', .bool true]) ∧
      Own 2 w' b' v' (secL tbl xs ys s r ys.length) ∧ w.heap.size ≤ b' ∧ Below w.heap.size w w' := by
  have HT := hid ht
  have HA := hid ha
  have HB := hid hb
  obtain ⟨k1, k2, k3⟩ := hok
  have HFX := hid k1
  have HFY := hid k2
  have HRX := hid ((Damage.ring_fit k2).symm.trans k1)
  have HST := hid (fit_of k1).st
  have FX := hid (fit_of k1)
  have FY := hid (fit_of k2)
  have hz := (fit_of k2).n
  obtain ⟨s1, s2⟩ := (fit_of k1).st
  obtain ⟨aoa, capa, rfl, _, _, ja⟩ := ha
  obtain ⟨offa, rfl, hba, hca⟩ := ja (by omega)
  obtain ⟨aob, capb, rfl, _, _, jb⟩ := hb
  obtain ⟨offb, rfl, hbb, hcb⟩ := jb (by omega)
  have HCA := hid hca
  have e3 : ((xs.length : Int) != (ys.length : Int)) = false := by rw [k3]; simp
  have HLn := hid k3
  obtain ⟨n1, n2⟩ := hz
  have n3 : xs.length ≤ 64 := by omega
  clear ht k1 k2 k3 ja jb hca hcb
  go_enter Try.func22, Try.ntmps22
  go_wp2_with fail
  obtain ⟨w1, hW⟩ : ∃ w1, w1 = w.alloc (Obj.cells #[.int .i64 s, .int .i64 r, vt] 28) := ⟨_, rfl⟩
  obtain ⟨N, hN⟩ : ∃ N, N = w.heap.size := ⟨_, rfl⟩
  have st : Below w.heap.size w w1 ∧ w1.cell? ⟨N, 0, none⟩ = some (.int .i64 s) ∧ w1.cell? ⟨N, 1, none⟩ = some (.int .i64 r) ∧ w1.cell? ⟨N, 2, none⟩ = some vt ∧ Rd w1 bt vt tbl ∧ Rd w1 ba (.slice (some ⟨ba, offa, none⟩) xs.length capa) xs ∧ Rd w1 bb (.slice (some ⟨bb, offb, none⟩) ys.length capb) ys ∧ w.heap.size ≤ w1.heap.size := by
    rw [hW, hN]
    exact ⟨below1 _ _, by simp, by simp, by simp, HT.out.keep (below1 _ _) (Nat.le_refl _), HA.out.keep (below1 _ _) (Nat.le_refl _), HB.out.keep (below1 _ _) (Nat.le_refl _), by simp⟩
  simp only [← hW, ← hN]
  clear hW hN
  go_at_call 32
  refine (fits (rd3_3_0 st) (rd3_3_1 st)).mono ?_
  rw [HFX.out]
  rintro e w2 ⟨rfl, bel⟩
  replace st := next3_3 bel st
  clear bel
  go_wp2_with fail
  go_at_call 32
  refine (fits (rd3_3_0 st) (rd3_3_2 st)).mono ?_
  rw [HFY.out]
  rintro e w3 ⟨rfl, bel⟩
  replace st := next3_3 bel st
  clear bel
  go_wp2_with fail
  go_at_call 33
  refine (implNext (rd3_3_0 st) (rd3_3_2 st) FY.out).mono ?_
  rintro e w4 ⟨b4, rfl, own4, lo4, bel4⟩
  have HL4 := hid (Nat.le_trans st.1.size lo4)
  have hNb : N < b4 := Nat.lt_of_lt_of_le (World.block_lt_of_cell? _ _ st.2.1) lo4
  have HNb := hid hNb
  have ST := hid (next3_3 bel4 st)
  have HO4 := hid own4
  clear st own4 lo4 bel4 hNb
  go_wp2
  go_loopw [9, 10, 33] (fun i0 x0 t wr => ∃ k : Nat, k ≤ xs.length ∧ t = .int .i64 k ∧ Own 2 wr b4 (.slice (some ⟨b4, 0, none⟩) ys.length ys.length) (secL tbl xs ys s r k ++ (nextL tbl ys s r ys.length).drop k) ∧
    Hid (Below w.heap.size w wr ∧ wr.cell? ⟨N, 0, none⟩ = some (.int .i64 s))) (fun _ _ t _ => xs.length - (intOf t).toNat)
  case atStart => exact ⟨0, Nat.zero_le _, rfl, by simpa [secL] using HO4.out, ⟨ST.out.1, ST.out.2.1⟩⟩
  case round =>
    obtain ⟨k, hk, rfl, own, HS⟩ := hrel
    by_cases hlt : k < xs.length
    · have hky : k < ys.length := by have := HLn.out; omega
      have hlen : (secL tbl xs ys s r k ++ (nextL tbl ys s r ys.length).drop k).length = ys.length := by rw [List.length_append, secL_length, List.length_drop, nextL_length]; omega
      have hy := own.cell (i := k) (by omega)
      have hyf := own.free k
      rw [sec_get tbl xs ys s r _ k (by rw [nextL_length]; omega), next_get tbl ys s r _ k hky] at hy
      have bx := all_getD FX.out.ri (i := k) hlt
      have bY := told_bd FY.out (k : Int)
      obtain ⟨x, hx⟩ : ∃ x, x = xs.getD k 0 := ⟨_, rfl⟩
      obtain ⟨y, hyy⟩ : ∃ y, y = told tbl ys s r k := ⟨_, rfl⟩
      have hxc : wr.cell? ⟨ba, offa + k, none⟩ = some (.int .i64 x) := by rw [hx]; exact (HS.out.1.cell hba).trans (HCA.out k hlt)
      rw [← hyy] at hy bY
      rw [← hx] at bx
      obtain ⟨x1, x2⟩ := bx
      obtain ⟨y1, y2⟩ := bY
      obtain ⟨z, hz⟩ : ∃ z, z = secAt tbl xs ys s r k := ⟨_, rfl⟩
      have ez : (y + s - x).tmod s = z := by rw [hz, Int.tmod_eq_emod_of_nonneg (by omega), hyy, hx]; rfl
      have HZ := hid hz
      have bz : 0 ≤ z ∧ z ≤ 2 := by
        rw [← ez, Int.tmod_eq_emod_of_nonneg (by omega)]
        have g1 := Int.emod_nonneg (y + s - x) (show s ≠ 0 by omega)
        have g2 := Int.emod_lt_of_pos (y + s - x) (show 0 < s by omega)
        omega
      obtain ⟨z1, z2⟩ := bz
      have hc0 := HS.out.2
      have HW := hid own
      have hki : (k : Int) < (ys.length : Int) := by omega
      have hki2 : (k : Int) < (xs.length : Int) := by omega
      clear own hx hyy hz hlen
      go_wp2_with fail
      go_region
      all_goals
        go_wp2
        go_roundw
        case rel =>
          refine ⟨k + 1, by omega, by go_num, ?_, ?_⟩
          · have h1 := HW.out.set k z
            rw [HZ.out, sec_set tbl xs ys s r _ k (by rw [nextL_length]; omega), ← HZ.out] at h1
            exact h1
          · have hne : N ≠ b4 := Nat.ne_of_lt HNb.out
            refine ⟨HS.out.1.drew.setCell HL4.out _, ?_⟩
            show (wr.setCell { block := b4, off := k } (Value.int IntKind.i64 z)).cell? ⟨N, 0, none⟩ = _
            rw [World.cell?_setCell_far _ _ _ _ (by simpa using fun h => hne h.symm)]
            exact HS.out.2
        case measure => simp [intOf]; omega
    · have hkn : k = xs.length := by omega
      subst hkn
      have e1 : (nextL tbl ys s r ys.length).drop xs.length = [] := by
        apply List.drop_eq_nil_of_le
        rw [nextL_length]
        have := HLn.out
        omega
      rw [e1, List.append_nil] at own
      have HW := hid own
      clear own e1
      go_wp2
      go_ret2
      refine ⟨_, b4, rfl, ?_, HL4.out, HS.out.1⟩
      rw [← HLn.out] at HW ⊢
      exact HW.out

set_option maxHeartbeats 8000000 in
theorem specOk {w : World} {s r : Int} {bt ba bb : Nat} {vt va vb : Value} {tbl xs ys : List Int} (ht : Rd w bt vt tbl) (ha : Rd w ba va xs) (hb : Rd w bb vb ys) (hok : okS s r tbl xs ys) :
    Calls Try.prog 21 #[ruleV s r vt, va, vb] w fun e w' => ∃ v', ∃ b', e = .returned (.tuple #[v', .bool true]) ∧
      Own 2 w' b' v' (secL tbl xs ys s r ys.length) ∧ w.heap.size ≤ b' ∧ Below w.heap.size w w' := by
  have HT := hid ht
  have HA := hid ha
  have HB := hid hb
  obtain ⟨k1, k2, k3⟩ := hok
  have HFX := hid k1
  have HFY := hid k2
  have HRX := hid ((Damage.ring_fit k2).symm.trans k1)
  have HST := hid (fit_of k1).st
  have FX := hid (fit_of k1)
  have FY := hid (fit_of k2)
  have hz := (fit_of k2).n
  obtain ⟨s1, s2⟩ := (fit_of k1).st
  obtain ⟨aoa, capa, rfl, _, _, ja⟩ := ha
  obtain ⟨offa, rfl, hba, hca⟩ := ja (by omega)
  obtain ⟨aob, capb, rfl, _, _, jb⟩ := hb
  obtain ⟨offb, rfl, hbb, hcb⟩ := jb (by omega)
  have HCA := hid hca
  have e3 : ((xs.length : Int) != (ys.length : Int)) = false := by rw [k3]; simp
  have HLn := hid k3
  obtain ⟨n1, n2⟩ := hz
  have n3 : xs.length ≤ 64 := by omega
  clear ht k1 k2 k3 ja jb hca hcb
  go_enter Try.func21, Try.ntmps21
  go_wp2_with fail
  obtain ⟨w1, hW⟩ : ∃ w1, w1 = w.alloc (Obj.cells #[.int .i64 s, .int .i64 r, vt] 28) := ⟨_, rfl⟩
  obtain ⟨N, hN⟩ : ∃ N, N = w.heap.size := ⟨_, rfl⟩
  have st : Below w.heap.size w w1 ∧ w1.cell? ⟨N, 0, none⟩ = some (.int .i64 s) ∧ w1.cell? ⟨N, 1, none⟩ = some (.int .i64 r) ∧ w1.cell? ⟨N, 2, none⟩ = some vt ∧ Rd w1 bt vt tbl ∧ Rd w1 ba (.slice (some ⟨ba, offa, none⟩) xs.length capa) xs ∧ Rd w1 bb (.slice (some ⟨bb, offb, none⟩) ys.length capb) ys ∧ w.heap.size ≤ w1.heap.size := by
    rw [hW, hN]
    exact ⟨below1 _ _, by simp, by simp, by simp, HT.out.keep (below1 _ _) (Nat.le_refl _), HA.out.keep (below1 _ _) (Nat.le_refl _), HB.out.keep (below1 _ _) (Nat.le_refl _), by simp⟩
  simp only [← hW, ← hN]
  clear hW hN
  go_at_call 30
  refine (can st.2.1 st.2.2.1 st.2.2.2.1 (rd3_3_0 st) (rd3_3_2 st)).mono ?_
  rw [HFY.out]
  rintro e w2 ⟨rfl, bel⟩
  replace st := next3_3 bel st
  clear bel
  go_wp2_with fail
  go_at_call 38
  refine (specL02Ring (rd3_3_1 st) HST.out).mono ?_
  rw [HRX.out]
  rintro e w3 ⟨rfl, hw3⟩
  subst hw3
  go_wp2_with fail
  go_at_call 31
  refine (specStep st.2.1 st.2.2.1 st.2.2.2.1 (rd3_3_0 st) (rd3_3_2 st) FY.out).mono ?_
  rintro e w4 ⟨v4, b4, rfl, own4, lo4, bel4⟩
  obtain ⟨cap4, rfl⟩ := own_some own4 (by rw [nextL_length]; omega)
  rw [nextL_length] at own4 ⊢
  have HL4 := hid (Nat.le_trans st.1.size lo4)
  have ST := hid (next3_3 bel4 st)
  have HO4 := hid own4
  clear st own4 lo4 bel4
  go_wp2
  go_loopw [9, 10] (fun o t wr => ∃ k : Nat, k ≤ ys.length ∧ t = .int .i64 k ∧ wr.ownsRow w4.heap.size 2 1 o (secL tbl xs ys s r k).length ((secL tbl xs ys s r k).map (Value.int .i64)) ∧ Below w4.heap.size w4 wr) (fun _ t _ => ys.length - (intOf t).toNat)
  case atStart => exact ⟨0, Nat.zero_le _, rfl, by simpa [secL] using World.ownsRow_lit (base := w4.heap.size) (e := 2) (size := 1) w4 #[] 0 (Nat.le_refl _) (by simp) (by simp), (Below.refl _ _).alloc (Nat.le_refl _) _⟩
  case round =>
    obtain ⟨k, hk, rfl, hown, hbel⟩ := hrel
    by_cases hlt : k < ys.length
    · have hlx : k < xs.length := by have := HLn.out; omega
      have hb4 := HO4.out.lt
      have y0 := HO4.out.cell (i := k) (by rw [nextL_length]; omega)
      rw [next_get tbl ys s r _ k hlt] at y0
      have bx := all_getD FX.out.ri (i := k) hlx
      have bY := told_bd FY.out (k : Int)
      obtain ⟨x, hx⟩ : ∃ x, x = xs.getD k 0 := ⟨_, rfl⟩
      obtain ⟨y, hyy⟩ : ∃ y, y = told tbl ys s r k := ⟨_, rfl⟩
      rw [← hyy] at y0 bY
      rw [← hx] at bx
      obtain ⟨x1, x2⟩ := bx
      obtain ⟨y1, y2⟩ := bY
      obtain ⟨z, hz⟩ : ∃ z, z = secAt tbl xs ys s r k := ⟨_, rfl⟩
      have ez : (y + s - x).tmod s = z := by rw [hz, Int.tmod_eq_emod_of_nonneg (by omega), hyy, hx]; rfl
      have HZ := hid hz
      have bz : 0 ≤ z ∧ z ≤ 2 := by
        rw [← ez, Int.tmod_eq_emod_of_nonneg (by omega)]
        have g1 := Int.emod_nonneg (y + s - x) (show s ≠ 0 by omega)
        have g2 := Int.emod_lt_of_pos (y + s - x) (show 0 < s by omega)
        omega
      obtain ⟨z1, z2⟩ := bz
      have B0 : Below w.heap.size w wr := ST.out.1.trans (hbel.mono ST.out.1.size)
      have SS : Below w.heap.size w wr ∧ wr.cell? ⟨ba, offa + k, none⟩ = some (.int .i64 x) ∧ wr.cell? ⟨b4, k, none⟩ = some (.int .i64 y) ∧ wr.cell? ⟨N, 0, none⟩ = some (.int .i64 s) ∧ w.heap.size ≤ wr.heap.size :=
        ⟨B0, by rw [hx]; exact (B0.cell hba).trans (HCA.out k hlx), (hbel.cell hb4).trans y0, (hbel.cell (p := ⟨N, 0, none⟩) (World.block_lt_of_cell? _ _ ST.out.2.1)).trans ST.out.2.1, B0.size⟩
      have HC := hid hown
      have HB := hid hbel
      have hki : (k : Int) < (ys.length : Int) := by omega
      have hki2 : (k : Int) < (xs.length : Int) := by omega
      have hs0 : ¬ s = 0 := by omega
      have hwr1 : IntKind.i64.wrap (y + s) = y + s := by rw [IntKind.wrap_i64]; omega
      have hwr2 : IntKind.i64.wrap (y + s - x) = y + s - x := by rw [IntKind.wrap_i64]; omega
      have hwr3 : IntKind.i64.wrap z = z := by rw [IntKind.wrap_i64]; omega
      clear hown hbel hx hyy hz y0 B0
      go_wp2_with fail
      refine wp_region_held_drew (S := (fun ww => Below w.heap.size w ww ∧ ww.cell? ⟨ba, offa + k, none⟩ = some (.int .i64 x) ∧ ww.cell? ⟨b4, k, none⟩ = some (.int .i64 y) ∧ ww.cell? ⟨N, 0, none⟩ = some (.int .i64 s) ∧ w.heap.size ≤ ww.heap.size)) (by kernel_rfl) ?_ (fun hHeld => ?_)
      · ((try dsimp only); exact drew3_0 SS)
      (refine wpAnyH_take (i := 0) (v := ?_) rfl ?_ ?_ ?_ (fun _ _ _ h => h) (Or.inl ⟨?_, ?_⟩) ?_ ?_; rotate_left 1; (focus decide +kernel); (focus decide +kernel); (focus decide +kernel); (focus rfl); (focus (intro w hSw; (try dsimp only at hSw); go_simp; (try (with_reducible rfl)); done)); (focus assumption); (try simp only [Act.put, List.setIfInBounds_toArray, List.set_cons_zero, List.set_cons_succ, List.getElem_toArray, List.getElem_cons_succ, List.getElem_cons_zero]))
      (refine wpAnyH_take (i := 1) (v := ?_) rfl ?_ ?_ ?_ (fun _ _ _ h => h) (Or.inl ⟨?_, ?_⟩) ?_ ?_; rotate_left 1; (focus decide +kernel); (focus decide +kernel); (focus decide +kernel); (focus rfl); (focus (intro w hSw; (try dsimp only at hSw); go_simp; (try (with_reducible rfl)); done)); (focus assumption); (try simp only [Act.put, List.setIfInBounds_toArray, List.set_cons_zero, List.set_cons_succ, List.getElem_toArray, List.getElem_cons_succ, List.getElem_cons_zero]))
      (refine wpAnyH_take (i := 2) (v := ?_) rfl ?_ ?_ ?_ (fun _ _ _ h => h) (Or.inl ⟨?_, ?_⟩) ?_ ?_; rotate_left 1; (focus decide +kernel); (focus decide +kernel); (focus decide +kernel); (focus rfl); (focus (intro w hSw; (try dsimp only at hSw); go_simp; (try (with_reducible rfl)); done)); (focus assumption); (try simp only [Act.put, List.setIfInBounds_toArray, List.set_cons_zero, List.set_cons_succ, List.getElem_toArray, List.getElem_cons_succ, List.getElem_cons_zero]))
      (refine wpAnyH_take (i := 3) (v := ?_) rfl ?_ ?_ ?_ (fun _ _ _ h => h) (Or.inl ⟨?_, ?_⟩) ?_ ?_; rotate_left 1; (focus decide +kernel); (focus decide +kernel); (focus decide +kernel); (focus rfl); (focus (intro w hSw; (try dsimp only at hSw); go_simp; (try (with_reducible rfl)); done)); (focus assumption); (try simp only [Act.put, List.setIfInBounds_toArray, List.set_cons_zero, List.set_cons_succ, List.getElem_toArray, List.getElem_cons_succ, List.getElem_cons_zero]))
      (refine wpAnyH_take (i := 4) (v := ?_) rfl ?_ ?_ ?_ (fun _ _ _ h => h) (Or.inl ⟨?_, ?_⟩) ?_ ?_; rotate_left 1; (focus decide +kernel); (focus decide +kernel); (focus decide +kernel); (focus rfl); (focus (intro w hSw; (try dsimp only at hSw); go_simp; (try (with_reducible rfl)); done)); (focus assumption); (try simp only [Act.put, List.setIfInBounds_toArray, List.set_cons_zero, List.set_cons_succ, List.getElem_toArray, List.getElem_cons_succ, List.getElem_cons_zero]))
      (refine wpAnyH_take (i := 5) (v := ?_) rfl ?_ ?_ ?_ (fun _ _ _ h => h) (Or.inl ⟨?_, ?_⟩) ?_ ?_; rotate_left 1; (focus decide +kernel); (focus decide +kernel); (focus decide +kernel); (focus rfl); (focus (intro w hSw; (try dsimp only at hSw); go_simp; (try (with_reducible rfl)); done)); (focus assumption); (try simp only [Act.put, List.setIfInBounds_toArray, List.set_cons_zero, List.set_cons_succ, List.getElem_toArray, List.getElem_cons_succ, List.getElem_cons_zero]))
      (refine wpAnyH_take (i := 6) (v := ?_) rfl ?_ ?_ ?_ (fun _ _ _ h => h) (Or.inl ⟨?_, ?_⟩) ?_ ?_; rotate_left 1; (focus decide +kernel); (focus decide +kernel); (focus decide +kernel); (focus rfl); (focus (intro w hSw; (try dsimp only at hSw); go_simp; (try (with_reducible rfl)); done)); (focus assumption); (try simp only [Act.put, List.setIfInBounds_toArray, List.set_cons_zero, List.set_cons_succ, List.getElem_toArray, List.getElem_cons_succ, List.getElem_cons_zero]))
      (refine wpAnyH_take (i := 7) (v := ?_) rfl ?_ ?_ ?_ (fun _ _ _ h => h) (Or.inl ⟨?_, ?_⟩) ?_ ?_; rotate_left 1; (focus decide +kernel); (focus decide +kernel); (focus decide +kernel); (focus rfl); (focus (intro w hSw; (try dsimp only at hSw); go_simp; (try (with_reducible rfl)); done)); (focus assumption); (try simp only [Act.put, List.setIfInBounds_toArray, List.set_cons_zero, List.set_cons_succ, List.getElem_toArray, List.getElem_cons_succ, List.getElem_cons_zero]))
      (refine wpAnyH_take (i := 8) (v := ?_) rfl ?_ ?_ ?_ (fun _ _ _ h => h) (Or.inl ⟨?_, ?_⟩) ?_ ?_; rotate_left 1; (focus decide +kernel); (focus decide +kernel); (focus decide +kernel); (focus rfl); (focus (intro w hSw; (try dsimp only at hSw); go_simp; (try (with_reducible rfl)); done)); (focus assumption); (try simp only [Act.put, List.setIfInBounds_toArray, List.set_cons_zero, List.set_cons_succ, List.getElem_toArray, List.getElem_cons_succ, List.getElem_cons_zero]))
      (refine wpAnyH_take (i := 9) (v := ?_) rfl ?_ ?_ ?_ (fun _ _ _ h => h) (Or.inl ⟨?_, ?_⟩) ?_ ?_; rotate_left 1; (focus decide +kernel); (focus decide +kernel); (focus decide +kernel); (focus rfl); (focus (intro w hSw; (try dsimp only at hSw); go_simp; (try (with_reducible rfl)); done)); (focus assumption); (try simp only [Act.put, List.setIfInBounds_toArray, List.set_cons_zero, List.set_cons_succ, List.getElem_toArray, List.getElem_cons_succ, List.getElem_cons_zero]))
      (refine wpAnyH_take (i := 10) (v := ?_) rfl ?_ ?_ ?_ (fun _ _ _ h => h) (Or.inl ⟨?_, ?_⟩) ?_ ?_; rotate_left 1; (focus decide +kernel); (focus decide +kernel); (focus decide +kernel); (focus rfl); (focus (intro w hSw; (try dsimp only at hSw); go_simp; (try (with_reducible rfl)); done)); (focus assumption); (try simp only [Act.put, List.setIfInBounds_toArray, List.set_cons_zero, List.set_cons_succ, List.getElem_toArray, List.getElem_cons_succ, List.getElem_cons_zero]))
      (refine wpAnyH_take (i := 11) (v := ?_) rfl ?_ ?_ ?_ (fun _ _ _ h => h) (Or.inl ⟨?_, ?_⟩) ?_ ?_; rotate_left 1; (focus decide +kernel); (focus decide +kernel); (focus decide +kernel); (focus rfl); (focus (intro w hSw; (try dsimp only at hSw); go_simp; (try (with_reducible rfl)); done)); (focus assumption); (try simp only [Act.put, List.setIfInBounds_toArray, List.set_cons_zero, List.set_cons_succ, List.getElem_toArray, List.getElem_cons_succ, List.getElem_cons_zero]))
      (refine wpAnyH_take (i := 12) (v := ?_) rfl ?_ ?_ ?_ (fun _ _ _ h => h) (Or.inl ⟨?_, ?_⟩) ?_ ?_; rotate_left 1; (focus decide +kernel); (focus decide +kernel); (focus decide +kernel); (focus rfl); (focus (intro w hSw; (try dsimp only at hSw); go_simp; (try (with_reducible rfl)); done)); (focus assumption); (try simp only [Act.put, List.setIfInBounds_toArray, List.set_cons_zero, List.set_cons_succ, List.getElem_toArray, List.getElem_cons_succ, List.getElem_cons_zero]))
      (refine wpAnyH_take (i := 13) (v := ?_) rfl ?_ ?_ ?_ (fun _ _ _ h => h) (Or.inl ⟨?_, ?_⟩) ?_ ?_; rotate_left 1; (focus decide +kernel); (focus decide +kernel); (focus decide +kernel); (focus rfl); (focus (intro w hSw; (try dsimp only at hSw); go_simp; (try (with_reducible rfl)); done)); (focus assumption); (try simp only [Act.put, List.setIfInBounds_toArray, List.set_cons_zero, List.set_cons_succ, List.getElem_toArray, List.getElem_cons_succ, List.getElem_cons_zero]))
      (refine wpAnyH_take (i := 14) (v := ?_) rfl ?_ ?_ ?_ (fun _ _ _ h => h) (Or.inl ⟨?_, ?_⟩) ?_ ?_; rotate_left 1; (focus decide +kernel); (focus decide +kernel); (focus decide +kernel); (focus rfl); (focus (intro w hSw; (try dsimp only at hSw); go_simp; (try (with_reducible rfl)); done)); (focus assumption); (try simp only [Act.put, List.setIfInBounds_toArray, List.set_cons_zero, List.set_cons_succ, List.getElem_toArray, List.getElem_cons_succ, List.getElem_cons_zero]))
      (refine wpAnyH_take (i := 15) (v := ?_) rfl ?_ ?_ ?_ (fun _ _ _ h => h) (Or.inl ⟨?_, ?_⟩) ?_ ?_; rotate_left 1; (focus decide +kernel); (focus decide +kernel); (focus decide +kernel); (focus rfl); (focus (intro w hSw; (try dsimp only at hSw); go_simp; (try (with_reducible rfl)); done)); (focus assumption); (try simp only [Act.put, List.setIfInBounds_toArray, List.set_cons_zero, List.set_cons_succ, List.getElem_toArray, List.getElem_cons_succ, List.getElem_cons_zero]))
      (refine wpAnyH_ready (rs := [16]) ?_ (by simp) ?_; (focus decide +kernel); refine AllReadyH.cons rfl (fun K hK => ?_) AllReadyH.nil; go_simp; refine hK.out _ _ ?_ (fun hHeld2 => ?_); ((try dsimp only); exact next3_0 (below1 _ _) hHeld); clear hK K; (try simp only [Act.put, List.setIfInBounds_toArray, List.set_cons_zero, List.set_cons_succ, List.getElem_toArray, List.getElem_cons_succ, List.getElem_cons_zero]))
      refine wpAnyH_ready (rs := [17]) ?_ (by simp) ?_; (focus decide +kernel); refine AllReadyH.cons rfl (fun K hK => ?_) AllReadyH.nil
      rw [if_pos (by rfl)]
      refine append1w (.tmp 37) (.tmp 53) rfl w4.heap.size u9 (secL tbl xs ys s r k) rfl (W := wr.drew) HC.out.drew z rfl ?_ ?_ ?_
      · rw [secL_length]; omega
      · exact HB.out.size
      · intro v9 w9 hown9 hbel9'
        have hbel9 : Below w4.heap.size wr w9 := (Below.refl w4.heap.size wr).drew.trans hbel9'
        clear hbel9'
        have HO9 := hid hown9
        have HB9 := hid hbel9
        refine hK.out _ _ ?_ (fun hHeld3 => ?_)
        · have b1 : Below w.heap.size w w9 := SS.1.trans (hbel9.mono ST.out.1.size)
          exact ⟨b1, (hbel9.cell (p := ⟨ba, offa + k, none⟩) (Nat.lt_of_lt_of_le hba ST.out.1.size)).trans SS.2.1, (hbel9.cell (p := ⟨b4, k, none⟩) hb4).trans SS.2.2.1, (hbel9.cell (p := ⟨N, 0, none⟩) (World.block_lt_of_cell? _ _ ST.out.2.1)).trans SS.2.2.2.1, b1.size⟩
        · clear hK K hown9 hbel9
          (try simp only [Act.put, List.setIfInBounds_toArray, List.set_cons_zero, List.set_cons_succ, List.getElem_toArray, List.getElem_cons_succ, List.getElem_cons_zero])
          (refine wpAnyH_take (i := 18) (v := ?_) rfl ?_ ?_ ?_ (fun _ _ _ h => h) (Or.inl ⟨?_, ?_⟩) ?_ ?_; rotate_left 1; (focus decide +kernel); (focus decide +kernel); (focus decide +kernel); (focus rfl); (focus (intro w hSw; (try dsimp only at hSw); go_simp; (try (with_reducible rfl)); done)); (focus assumption); (try simp only [Act.put, List.setIfInBounds_toArray, List.set_cons_zero, List.set_cons_succ, List.getElem_toArray, List.getElem_cons_succ, List.getElem_cons_zero]))
          refine wpAnyH_done (by kernel_rfl) ?_ _
          clear SS hHeld hHeld2 hHeld3
          go_wp2
          go_roundw
          case rel =>
            refine ⟨k + 1, by omega, by go_num, ?_, HB.out.trans HB9.out⟩
            rw [secL_succ, ← HZ.out]
            exact HO9.out
          case measure => simp [intOf]; omega
    · have hkn : k = ys.length := by omega
      subst hkn
      have HC := hid hown
      have HB := hid (ST.out.1.trans (hbel.mono ST.out.1.size))
      clear hown hbel
      go_wp2
      go_ret2
      obtain ⟨b', hb', ho⟩ := Own.of HC.out
      exact ⟨_, b', rfl, ho, Nat.le_trans ST.out.1.size hb', HB.out⟩

end Go.Proofs.Ytpehalecmgpbnaa.Second
