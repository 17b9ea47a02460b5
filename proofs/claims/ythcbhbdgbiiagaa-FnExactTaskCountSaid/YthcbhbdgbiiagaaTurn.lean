/- Turned rings: spec.l02Turned and impl.turned (slices.Grow of nothing, slices.Concat of two). -/
import Derived.Test.YthcbhbdgbiiagaaWords
import Derived.Test.YthcbhbdgbiiagaaApp
import Derived.Lib.AppendZeros
import Derived.StillTailTactics
namespace Go.Proofs.Ythcbhbdgbiiagaa.Turn
open Go.RowKit Go.Proofs.Ythcbhbdgbiiagaa.Rd Go.Proofs.Ythcbhbdgbiiagaa.Help Go.Proofs.Ythcbhbdgbiiagaa.Ring Go.Proofs.Ythcbhbdgbiiagaa.Small Go.Proofs.Ythcbhbdgbiiagaa.Num Go.Proofs.Ythcbhbdgbiiagaa.App
set_option linter.unusedVariables false
set_option linter.unusedSimpArgs false

def rot (zs : List Int) (y : Nat) : Nat → List Int
  | 0 => []
  | k + 1 => rot zs y k ++ [zs.getD ((k + y) % zs.length) 0]
theorem rot_length (zs : List Int) (y k : Nat) : (rot zs y k).length = k := by
  induction k with
  | zero => rfl
  | succ k ih => simp [rot, ih]
theorem rot_succ (zs : List Int) (y k : Nat) : rot zs y (k + 1) = rot zs y k ++ [zs.getD ((k + y) % zs.length) 0] := rfl
theorem rot_mod (zs : List Int) (y k : Nat) : rot zs y k = rot zs (y % zs.length) k := by
  induction k with
  | zero => rfl
  | succ k ih => rw [rot_succ, rot_succ, ← ih, Nat.add_mod_mod]
theorem rot_getD (zs : List Int) (y k i : Nat) (h : i < k) : (rot zs y k).getD i 0 = zs.getD ((i + y) % zs.length) 0 := by
  induction k with
  | zero => omega
  | succ k ih =>
    have hl := rot_length zs y k
    by_cases hi : i < k
    · rw [rot_succ, ← ih hi]
      simp [List.getD, List.getElem?_append_left (show i < (rot zs y k).length by omega)]
    · have : i = k := by omega
      subst this
      rw [rot_succ]
      simp [List.getD, hl]

/-- A ring that is cut at y and put together the other way round. -/
theorem rot_cut (zs : List Int) (y : Nat) (hy : y < zs.length) : rot zs y zs.length = zs.drop y ++ zs.take y := by
  refine List.ext_getElem? fun i => ?_
  by_cases hi : i < zs.length
  · have h1 := rot_getD zs y zs.length i hi
    have hl := rot_length zs y zs.length
    have e1 : (rot zs y zs.length)[i]? = some ((rot zs y zs.length).getD i 0) := by
      simp [List.getD, List.getElem?_eq_getElem (show i < (rot zs y zs.length).length by omega)]
    rw [e1, h1]
    by_cases h2 : i + y < zs.length
    · rw [Nat.mod_eq_of_lt h2, List.getElem?_append_left (by simp; omega), List.getElem?_drop, Nat.add_comm y i]
      simp [List.getD, List.getElem?_eq_getElem h2]
    · rw [Nat.mod_eq_sub_mod (by omega), Nat.mod_eq_of_lt (by omega), List.getElem?_append_right (by simp; omega), List.getElem?_take]
      have e2 : i - (zs.drop y).length = i + y - zs.length := by simp; omega
      rw [e2, if_pos (by omega)]
      simp [List.getD, List.getElem?_eq_getElem (show i + y - zs.length < zs.length by omega)]
  · rw [List.getElem?_eq_none (by rw [rot_length]; omega), List.getElem?_eq_none (by simp; omega)]

set_option maxRecDepth 8000 in
set_option maxHeartbeats 1000000 in
/-- slices.Grow of nothing. -/
theorem grow {w : World} {n : Nat} (h : 1 ≤ n ∧ n ≤ 1000000) :
    Calls Try.prog 129 #[.slice none 0 0, .int .i64 n] w fun e w' => ∃ v, e = .returned v ∧
      w'.ownsRow w.heap.size 2 1 v 0 [] ∧ Below w.heap.size w w' := by
  obtain ⟨h1, h2⟩ := h
  obtain ⟨i0, hi, hz0, hz1, hz2⟩ := info_parts infoI
  have happ := Lib.run_append_nil_zeros (P := Try.prog) w 22 3 22 2 i0 (.int .i64 0) .i64 .i64 Try.underlying22 Try.underlying3 hi hz0 n (by omega) (by omega) (by omega) (by rw [hz2]; omega)
  obtain ⟨cap2, hcap⟩ : ∃ c, c = grownCap w n 0 2 := ⟨_, rfl⟩
  rw [← hcap] at happ
  have hcapge : n ≤ cap2 := by rw [hcap]; exact grownCap_ge w _ 0 2
  have hcaple : cap2 ≤ maxLen := by rw [hcap]; exact grownCap_le_maxLen w _ 0 2 (by unfold maxLen; omega)
  obtain ⟨Z, hZ⟩ : ∃ Z, Z = (Builtin.zeroCells (Value.int .i64 0).cells n ++ Builtin.zeroCells (Value.int .i64 0).cells (cap2 - n)) := ⟨_, rfl⟩
  rw [← hZ] at happ
  have hZs : Z.size = cap2 := by rw [hZ]; simp [size_zeroCells, Value.cells]; omega
  have HCM := hid hcaple
  clear hcap hZ hcaple
  have hc1 : cap2 ≤ 9223372036854775807 := by have := HCM.out; unfold maxLen at this; omega
  go_enter Try.func129, Try.ntmps129
  go_wp2_with (at_builtin; refine Lib.wpList_append_run _ rfl _ _ _ _ rfl _ _ rfl rfl _ _ happ ?_)
  go_ret
  exact ⟨_, rfl, ⟨by simp, .inr ⟨_, cap2, Z, rfl, Nat.le_refl _, heap_alloc_new _ _, Nat.zero_le _, HCM.out, by omega, by simp⟩⟩, ⟨rfl, rfl, rfl, by simp, fun k hk => Below.heap_alloc w _ k hk⟩⟩

/-- Numbers of another block appended to a slice that the call has made. -/
theorem appendN {ops : Array Oper} {rest : List Oper} {o : Oper} {a : Act} {Q : Exit → Act → World → Prop} {W : World} (hgd : o.guard = none) (s x : Operand)
    (ho : o.op = .call { callee := .builtin .append, args := #[s, x], argTypes := #[22, 22] })
    (base : Nat) (v : Value) (zs : List Int) (hs : a.eval s = v) (hown : W.ownsRow base 2 1 v zs.length (zs.map (Value.int .i64))) (ys : List Int) (b off n cap : Nat) (hn : n = ys.length)
    (hx : a.eval x = .slice (some ⟨b, off, none⟩) n cap) (hc : ∀ i, i < n → W.cell? ⟨b, off + i, none⟩ = some (.int .i64 (ys.getD i 0))) (hlen : zs.length + n ≤ 1000000000000) (hbase : base ≤ W.heap.size)
    (h : ∀ v' w', w'.ownsRow base 2 1 v' (zs ++ ys).length ((zs ++ ys).map (Value.int .i64)) → Below base W w' → wpList Try.prog ops Q rest (a.put o.dst v') w') :
    wpList Try.prog ops Q (o :: rest) a W := by
  obtain ⟨i, hi, hz0, hz1, hz2⟩ := info_parts infoI
  refine wpList_append_own W hgd s x 22 ho base 2 i (.int .i64 0) 1 8 Try.underlying22 hi hz0 hz1 hz2 rfl (by decide) v zs.length _ hs hown ⟨b, off, none⟩ n cap (ys.map (Value.int .i64)) hx (by simp [hn]) ?_ ?_ ?_ ?_ hbase ?_
  · intro j u hj
    have hjl : j < ys.length := by
      have := (List.getElem?_eq_some_iff.1 hj).1
      simpa using this
    have hj2 : u = .int .i64 (ys.getD j 0) := by
      rw [List.getElem?_map, List.getElem?_eq_getElem hjl] at hj
      simp at hj
      rw [← hj]
      simp [List.getD, List.getElem?_eq_getElem hjl]
    rw [hj2]
    by_cases hj0 : j = 0
    · subst hj0
      simpa [Addr.add] using hc 0 (by omega)
    · simpa [Addr.add, hj0] using hc j (by omega)
  · intro u hu
    obtain ⟨q, _, rfl⟩ := List.mem_map.1 hu
    rfl
  · unfold maxLen; omega
  · omega
  · intro v' w' h1 hg _
    refine h v' w' (by simpa [hn] using h1) ?_
    exact (Below.refl base W).grown hg hbase (fun k hk => (hown.lt k hk).1)

set_option maxHeartbeats 1000000 in
/-- slices.Concat of two lists, neither of them nil. -/
theorem concat2 {w : World} {c b1 o1 n1 c1 b2 o2 n2 c2 : Nat} {xs ys : List Int} (h1 : n1 = xs.length) (h2 : n2 = ys.length) (hl : 1 ≤ n1 + n2 ∧ n1 + n2 ≤ 1000000)
    (k0 : w.cell? ⟨c, 0, none⟩ = some (.slice (some ⟨b1, o1, none⟩) n1 c1)) (k1 : w.cell? ⟨c, 1, none⟩ = some (.slice (some ⟨b2, o2, none⟩) n2 c2)) (q1 : b1 < w.heap.size) (q2 : b2 < w.heap.size)
    (hx : ∀ i, i < n1 → w.cell? ⟨b1, o1 + i, none⟩ = some (.int .i64 (xs.getD i 0))) (hy : ∀ i, i < n2 → w.cell? ⟨b2, o2 + i, none⟩ = some (.int .i64 (ys.getD i 0))) :
    Calls Try.prog 109 #[.slice (some ⟨c, 0, none⟩) 2 2] w fun e w' => ∃ v' b', e = .returned v' ∧
      Own 2 w' b' v' (xs ++ ys) ∧ w.heap.size ≤ b' ∧ Below w.heap.size w w' := by
  obtain ⟨l1, l2⟩ := hl
  have HX := hid hx
  have HY := hid hy
  have H1 := hid h1
  have H2 := hid h2
  have Q1 := hid q1
  have Q2 := hid q2
  have K0 := hid k0
  have K1 := hid k1
  have qc : c < w.heap.size := World.block_lt_of_cell? _ _ k0
  have QC := hid qc
  clear hx hy h1 h2 q1 q2 qc
  go_enter Try.func109, Try.ntmps109
  go_wp2
  go_loop [3, 11] (fun s t => (s = .int .i64 0 ∧ t = .int .i64 0) ∨ (s = .int .i64 n1 ∧ t = .int .i64 1) ∨ (s = .int .i64 ((n1 : Int) + n2) ∧ t = .int .i64 2)) (fun _ t => 2 - (intOf t).toNat)
  case atStart => exact .inl ⟨rfl, rfl⟩
  case round =>
    rcases hrel with ⟨rfl, rfl⟩ | ⟨rfl, rfl⟩ | ⟨rfl, rfl⟩
    · go_wp2
      go_round
      case rel => exact .inr (.inl ⟨by go_num, rfl⟩)
      case measure => simp [intOf]
    · go_wp2
      go_round
      case rel => exact .inr (.inr ⟨by go_num, rfl⟩)
      case measure => simp [intOf]
    · clear k0 k1
      go_wp2_with fail
      go_at_call 129
      refine (grow (n := n1 + n2) ⟨l1, l2⟩).mono ?_
      rintro e w1 ⟨v1, rfl, own1, bel1⟩
      have HB1 := hid bel1
      have HO1 := hid own1
      clear bel1 own1
      go_wp2
      go_loopw [6, 27] (fun o t wr => ((t = .int .i64 0 ∧ wr.ownsRow w.heap.size 2 1 o 0 []) ∨ (t = .int .i64 1 ∧ wr.ownsRow w.heap.size 2 1 o xs.length (xs.map (Value.int .i64))) ∨ (t = .int .i64 2 ∧ wr.ownsRow w.heap.size 2 1 o (xs ++ ys).length ((xs ++ ys).map (Value.int .i64)))) ∧ Below w.heap.size w wr) (fun _ t _ => 2 - (intOf t).toNat)
      case atStart => exact ⟨.inl ⟨rfl, HO1.out⟩, HB1.out⟩
      case round =>
        obtain ⟨hd, hbel⟩ := hrel
        have HB := hid hbel
        have k0 : wr.cell? ⟨c, 0, none⟩ = some (.slice (some ⟨b1, o1, none⟩) n1 c1) := (hbel.cell (p := ⟨c, 0, none⟩) QC.out).trans K0.out
        have k1 : wr.cell? ⟨c, 1, none⟩ = some (.slice (some ⟨b2, o2, none⟩) n2 c2) := (hbel.cell (p := ⟨c, 1, none⟩) QC.out).trans K1.out
        have HX' := hid (fun i hi => (hbel.cell (p := ⟨b1, o1 + i, none⟩) Q1.out).trans (HX.out i hi))
        have HY' := hid (fun i hi => (hbel.cell (p := ⟨b2, o2 + i, none⟩) Q2.out).trans (HY.out i hi))
        clear hbel
        rcases hd with ⟨rfl, own⟩ | ⟨rfl, own⟩ | ⟨rfl, own⟩
        · have HO := hid own
          clear own
          go_wp2_with (first | (at_builtin; refine appendN rfl _ _ rfl w.heap.size _ [] rfl HO.out xs b1 o1 n1 c1 H1.out rfl HX'.out ?c1 ?c2 ?_) | go_in)
          case c1 => simp; omega
          case c2 => exact HB.out.size
          · intro v' w5 hown5 hbel5
            have HO5 := hid hown5
            have HB5 := hid hbel5
            clear hown5 hbel5
            go_wp2
            go_roundw
            case rel => exact ⟨.inr (.inl ⟨rfl, by simpa using HO5.out⟩), HB.out.trans HB5.out⟩
            case measure => simp [intOf]
        · have HO := hid own
          clear own
          go_wp2_with (first | (at_builtin; refine appendN rfl _ _ rfl w.heap.size _ xs rfl HO.out ys b2 o2 n2 c2 H2.out rfl HY'.out ?c1 ?c2 ?_) | go_in)
          case c1 => rw [← H1.out]; omega
          case c2 => exact HB.out.size
          · intro v' w5 hown5 hbel5
            have HO5 := hid hown5
            have HB5 := hid hbel5
            clear hown5 hbel5
            go_wp2
            go_roundw
            case rel => exact ⟨.inr (.inr ⟨rfl, by simpa using HO5.out⟩), HB.out.trans HB5.out⟩
            case measure => simp [intOf]
        · have HO := hid own
          clear own k0 k1
          go_wp2
          go_ret
          obtain ⟨b', hb', ho⟩ := Own.of HO.out
          exact ⟨_, b', rfl, ho, hb', HB.out⟩

def Good (zs : List Int) (y : Int) : Prop := isRingB zs 3 = true ∧ 0 ≤ y ∧ y ≤ 64

theorem ring3 (zs : List Int) : isRingB zs 3 = ringB zs 3 := by simp [isRingB]

end Go.Proofs.Ythcbhbdgbiiagaa.Turn
