/- Floats whose not-a-numbers are one value: what the operations of a walk give, told of that value alone. -/
import Derived.WalkKit
import Derived.WalkLawsBesides
import Derived.Deep.Draws
namespace Go.Proofs.Ytffcaffhkleclaa.Fl
open Go

/-! ## Words and the data that they stand for -/
def nanw (k : FloatKind) (b : Nat) : Bool := (k.format.read b).isNaN

/-- The number of a word, all not-a-numbers being one. -/
def cn (k : FloatKind) (b : Nat) : Option Nat := if nanw k b then none else some b

/-- 'b' is a word of the kind, and stands for 'v'. -/
def Is (k : FloatKind) (b : Nat) (v : Option Nat) : Prop := cn k b = v ∧ b < 2 ^ k.format.width

def sgn (k : FloatKind) : Nat := match k with | .f32 => 2147483648 | .f64 => 9223372036854775808
def inf (k : FloatKind) : Nat := match k with | .f32 => 2139095040 | .f64 => 9218868437227405312

theorem signWeight_eq (k : FloatKind) : k.format.signWeight = sgn k := by cases k <;> rfl
theorem infRung_eq (k : FloatKind) : k.format.infRung = inf k := by cases k <;> rfl
theorem width_eq (k : FloatKind) : 2 ^ k.format.width = 2 * sgn k := by cases k <;> rfl
theorem inf_lt (k : FloatKind) : inf k < sgn k := by cases k <;> decide
theorem binade_le (k : FloatKind) : k.format.binade ≤ inf k := by cases k <;> decide

theorem nanw_eq (k : FloatKind) (b : Nat) : nanw k b = decide (inf k < b % sgn k) := by
  unfold nanw Ieee.Format.read
  dsimp only
  rw [signWeight_eq, infRung_eq]
  have := binade_le k
  split
  · simp [Ieee.Datum.isNaN]; omega
  · split
    · simp [Ieee.Datum.isNaN]; omega
    · split
      · simp [Ieee.Datum.isNaN]; omega
      · simp [Ieee.Datum.isNaN]; omega

theorem word_mod (k : FloatKind) (neg : Bool) {r : Nat} (h : r < sgn k) : k.format.word neg r % sgn k = r := by
  unfold Ieee.Format.word
  rw [signWeight_eq]
  cases neg
  · simpa using Nat.mod_eq_of_lt h
  · simpa using Nat.mod_eq_of_lt h

theorem word_nan (k : FloatKind) (neg : Bool) {r : Nat} (h : r ≤ inf k) : nanw k (k.format.word neg r) = false := by
  have := inf_lt k
  rw [nanw_eq, word_mod k neg (by omega)]
  simp; omega

theorem write_nan (k : FloatKind) (d : Ieee.Datum) (h : d.isNaN = false) : nanw k (k.format.write d) = false := by
  cases d with
  | number neg m p =>
    show nanw k (k.format.nearest neg m p) = false
    unfold Ieee.Format.nearest
    dsimp only
    split
    · exact word_nan k neg (Nat.zero_le _)
    · exact word_nan k neg (by rw [← infRung_eq]; exact Nat.min_le_right _ _)
  | infinity neg => exact word_nan k neg (by rw [← infRung_eq]; exact Nat.le_refl _)
  | nan _ _ => simp [Ieee.Datum.isNaN] at h

theorem sum_nan {x y d : Ieee.Datum} (h : x.sum y = some d) : x.isNaN = false ∧ y.isNaN = false ∧ d.isNaN = false := by
  cases x <;> cases y <;> simp [Ieee.Datum.sum, Ieee.Datum.isNaN] at h ⊢
  · rw [← h]
  · rw [← h]
  · rw [← h]
  · rw [← h.2]

theorem product_nan {x y d : Ieee.Datum} (h : x.product y = some d) : x.isNaN = false ∧ y.isNaN = false ∧ d.isNaN = false := by
  cases x <;> cases y <;> simp [Ieee.Datum.product, Ieee.Datum.isNaN] at h ⊢
  · rw [← h]
  · rw [← h.2]
  · rw [← h.2]
  · rw [← h]

theorem quotient_nan {n : Nat} {x y d : Ieee.Datum} (h : x.quotient n y = some d) : x.isNaN = false ∧ y.isNaN = false ∧ d.isNaN = false := by
  cases x <;> cases y <;> simp [Ieee.Datum.quotient, Ieee.Datum.isNaN] at h ⊢
  · split at h
    · split at h
      · cases h
      · rw [← Option.some.inj h]
    · rw [← Option.some.inj h]
  · rw [← h]
  · rw [← h]

theorem root_nan {n : Nat} {x d : Ieee.Datum} (h : x.root n = some d) : x.isNaN = false ∧ d.isNaN = false := by
  cases x <;> simp [Ieee.Datum.root, Ieee.Datum.isNaN] at h ⊢
  · split at h
    · rw [← Option.some.inj h]
    · split at h
      · cases h
      · rw [← Option.some.inj h]
  · rw [← h.2]

theorem opposite_nan (d : Ieee.Datum) : d.opposite.isNaN = d.isNaN := by cases d <;> rfl

theorem map_some {k : FloatKind} {o : Option Ieee.Datum} {r : Nat} (h : o.map k.format.write = some r) : ∃ d, o = some d ∧ r = k.format.write d := by
  cases o with
  | none => cases h
  | some d => exact ⟨d, rfl, (Option.some.inj h).symm⟩

theorem floatBits_nan {op : BinOp} {k : FloatKind} {x y r : Nat} (h : floatBits op k x y = some r) : nanw k x = false ∧ nanw k y = false ∧ nanw k r = false := by
  unfold floatBits at h
  split at h
  · obtain ⟨d, hd, rfl⟩ := map_some h
    have := sum_nan hd
    exact ⟨this.1, this.2.1, write_nan k d this.2.2⟩
  · obtain ⟨d, hd, rfl⟩ := map_some h
    have := sum_nan hd
    rw [opposite_nan] at this
    exact ⟨this.1, this.2.1, write_nan k d this.2.2⟩
  · obtain ⟨d, hd, rfl⟩ := map_some h
    have := product_nan hd
    exact ⟨this.1, this.2.1, write_nan k d this.2.2⟩
  · obtain ⟨d, hd, rfl⟩ := map_some h
    have := quotient_nan hd
    exact ⟨this.1, this.2.1, write_nan k d this.2.2⟩
  · cases h

theorem floatBits_lt {op : BinOp} {k : FloatKind} {x y r : Nat} (h : floatBits op k x y = some r) : r < 2 ^ k.format.width := by
  have := floatBits_wf h
  cases k
  · have h2 : r < 2 ^ 32 := by simpa [Lit.wf] using this
    exact h2
  · have h2 : r < 2 ^ 64 := by simpa [Lit.wf] using this
    exact h2

/-! ## Operations -/
def fop (op : BinOp) (k : FloatKind) (a b : Option Nat) : Option Nat := a.bind fun x => b.bind fun y => floatBits op k x y

theorem cn_of (k : FloatKind) {b : Nat} (h : nanw k b = false) : cn k b = some b := by unfold cn; rw [h]; rfl
theorem cn_nan (k : FloatKind) {b : Nat} (h : nanw k b = true) : cn k b = none := by unfold cn; rw [h]; rfl

theorem fop_cn (op : BinOp) (k : FloatKind) (x y : Nat) : fop op k (cn k x) (cn k y) = floatBits op k x y := by
  cases hx : nanw k x
  · cases hy : nanw k y
    · rw [cn_of k hx, cn_of k hy]; rfl
    · rw [cn_of k hx, cn_nan k hy]
      cases h : floatBits op k x y with
      | none => rfl
      | some r => rw [(floatBits_nan h).2.1] at hy; cases hy
  · rw [cn_nan k hx]
    cases h : floatBits op k x y with
    | none => rfl
    | some r => rw [(floatBits_nan h).1] at hx; cases hx

theorem Is_some {k : FloatKind} {b : Nat} (h : nanw k b = false) (hb : b < 2 ^ k.format.width) : Is k b (some b) := ⟨cn_of k h, hb⟩
theorem Is_none {k : FloatKind} {b : Nat} (h : nanw k b = true) (hb : b < 2 ^ k.format.width) : Is k b none := ⟨cn_nan k h, hb⟩

theorem nan32 (y z : Nat) (hy : y < 2) (hz : z < 8388607) : Is .f32 (y * 2147483648 + 2139095040 + 1 + z) none := by
  refine Is_none ?_ ?_
  · rw [nanw_eq]; exact decide_eq_true (by show 2139095040 < _ % 2147483648; omega)
  · show _ < 2 ^ 32; omega
theorem nan64 (y z : Nat) (hy : y < 2) (hz : z < 4503599627370495) : Is .f64 (y * 9223372036854775808 + 9218868437227405312 + 1 + z) none := by
  refine Is_none ?_ ?_
  · rw [nanw_eq]; exact decide_eq_true (by show 9218868437227405312 < _ % 9223372036854775808; omega)
  · show _ < 2 ^ 64; omega
theorem cut_nan (k : FloatKind) (x y t : Nat) : Is k ((Question.nanBits k x y).cut t) none := by
  cases k
  · exact nan32 (t % 2) (t / 2 % 8388607) (Nat.mod_lt _ (by decide)) (Nat.mod_lt _ (by decide))
  · exact nan64 (t % 2) (t / 2 % 4503599627370495) (Nat.mod_lt _ (by decide)) (Nat.mod_lt _ (by decide))

theorem cut_nanConv (k : FloatKind) (x t : Nat) : Is k ((Question.nanConv k x).cut t) none := by
  have := cut_nan k 0 0 t
  cases k <;> exact this

section
variable {P : Program} (w : World)
theorem run_choose {α : Type} (q : Question) (hq : q.forced = false) (f : Nat → Sem α) : ((choose q).bind f).run P w = (f (q.cut (w.tape w.drawn q))).run P (w.drewN 1) := by
  show Sem.run P (Sem.choose q fun n => (Sem.pure n).bind f) w = _
  simp only [Sem.run, hq]
  rfl

theorem run_fop (op : BinOp) (hop : op = .add ∨ op = .sub ∨ op = .mul ∨ op = .quo) (t : TypeId) (k : FloatKind) (x y : Nat) :
    ∃ r n, (binOp op t (.float k x) (.float k y)).run P w = .ok (.float k r) (w.drewN n) ∧ Is k r (fop op k (cn k x) (cn k y)) := by
  rw [fop_cn]
  cases h : floatBits op k x y with
  | some r => exact ⟨r, 0, run_float_arith w op t k x y r h, Is_some (floatBits_nan h).2.2 (floatBits_lt h)⟩
  | none =>
    refine ⟨(Question.nanBits k x y).cut (w.tape w.drawn (Question.nanBits k x y)), 1, ?_, cut_nan k x y _⟩
    unfold floatBits at h
    rcases hop with rfl | rfl | rfl | rfl <;> simp only at h
    all_goals simp [binOp, Op.floatArith, h]
    all_goals (rw [if_neg (by simp [Question.forced])]; rfl)
end

/-! ## Comparisons -/
theorem order_nan_left (k : FloatKind) (x y : Nat) (h : nanw k x = true) : k.format.order x y = none := by
  unfold nanw at h; unfold Ieee.Format.order
  cases e : k.format.read x <;> simp [e, Ieee.Datum.isNaN] at h
  rfl
theorem order_nan_right (k : FloatKind) (x y : Nat) (h : nanw k y = true) : k.format.order x y = none := by
  unfold nanw at h; unfold Ieee.Format.order
  cases e : k.format.read y <;> simp [e, Ieee.Datum.isNaN] at h
  cases k.format.read x <;> rfl

def ford (k : FloatKind) (a b : Option Nat) : Option Ordering := a.bind fun x => b.bind fun y => k.format.order x y
theorem ford_cn (k : FloatKind) (x y : Nat) : ford k (cn k x) (cn k y) = k.format.order x y := by
  cases hx : nanw k x
  · cases hy : nanw k y
    · rw [cn_of k hx, cn_of k hy]; rfl
    · rw [cn_of k hx, cn_nan k hy, order_nan_right k x y hy]; rfl
  · rw [cn_nan k hx, order_nan_left k x y hx]; rfl

def fcmp (op : BinOp) (k : FloatKind) (a b : Option Nat) : Bool :=
  match op with
  | .eql => ford k a b == some .eq
  | .neq => ford k a b != some .eq
  | .lss => ford k a b == some .lt
  | .leq => ford k a b == some .lt || ford k a b == some .eq
  | .gtr => ford k a b == some .gt
  | .geq => ford k a b == some .gt || ford k a b == some .eq
  | _ => false

def isArith (op : BinOp) : Bool := match op with | .add | .sub | .mul | .quo => true | _ => false
def isCmp (op : BinOp) : Bool := match op with | .eql | .neq | .lss | .leq | .gtr | .geq => true | _ => false

section
variable {P : Program} (w : World)
theorem run_fcmp (op : BinOp) (hop : isCmp op = true) (t : TypeId) (k : FloatKind) (x y : Nat) {vx vy : Option Nat} (ix : Is k x vx) (iy : Is k y vy) :
    (binOp op t (.float k x) (.float k y)).run P w = .ok (.bool (fcmp op k vx vy)) w := by
  obtain ⟨rfl, _⟩ := ix
  obtain ⟨rfl, _⟩ := iy
  cases op <;> simp [isCmp] at hop <;> simp [binOp, Op.floatCmp, fcmp, ford_cn]
theorem eqGuard_float (op : BinOp) (t : TypeId) (X Y : Operand) (k k' : FloatKind) (x y : Nat) : (eqGuard op t X Y (.float k x) (.float k' y)).run P w = .ok () w := by
  cases op <;> rfl
end

/-! ## Conversions -/
def fconv (s k : FloatKind) (v : Option Nat) : Option Nat := if s = k then v else v.bind fun b => some (k.encode (s.decode b))
/-- No finite number becomes an infinity. -/
def Fits (s k : FloatKind) (v : Option Nat) : Prop := s = k ∨ ∀ b, v = some b → (s.decode b).isInfinity = false → (k.decode (k.encode (s.decode b))).isInfinity = false

section
variable {P : Program} (w : World)
theorem run_conv {s k : FloatKind} {src dst : TypeId} (hs : (P.underlying src).isSome = true) (hd : P.underlying dst = some (.float k)) {b : Nat} {v : Option Nat} (ib : Is s b v) (ok : Fits s k v) :
    ∃ r n, (convert src dst (.float s b)).run P w = .ok (.float k r) (w.drewN n) ∧ Is k r (fconv s k v) := by
  obtain ⟨rfl, hb⟩ := ib
  obtain ⟨u, hs'⟩ := Option.isSome_iff_exists.1 hs
  by_cases e : s = k
  · subst e
    refine ⟨b, 0, ?_, ?_⟩
    · cases u <;> simp [convert, run_underlying hs', run_underlying hd, Conv.floatToFloat, World.drewN_zero]
    · unfold fconv; rw [if_pos rfl]; exact ⟨rfl, hb⟩
  · unfold fconv; rw [if_neg e]
    rcases ok with ok | ok
    · exact absurd ok e
    have hn : nanw s b = (s.decode b).isNaN := rfl
    cases hd' : s.decode b with
    | nan sg t =>
      refine ⟨(Question.nanConv k b).cut (w.tape w.drawn (Question.nanConv k b)), 1, ?_, ?_⟩
      · have : (Question.nanConv k b).forced = false := rfl
        cases u <;> simp [convert, run_underlying hs', run_underlying hd, Conv.floatToFloat, e, hd'] <;> (rw [if_neg (by simp [Question.forced])]; rfl)
      · rw [cn_nan s (by rw [hn, hd']; rfl)]; exact cut_nanConv k b _
    | infinity sg =>
      refine ⟨k.encode (.infinity sg), 0, ?_, ?_⟩
      · cases u <;> simp [convert, run_underlying hs', run_underlying hd, Conv.floatToFloat, e, hd', World.drewN_zero]
      · rw [cn_of s (by rw [hn, hd']; rfl)]
        show Is k _ (some (k.encode (s.decode b)))
        rw [hd']
        exact Is_some (write_nan k _ rfl) (k.format.write_lt _)
    | number sg m p =>
      have hinf := ok b (cn_of s (by rw [hn, hd']; rfl)) (by rw [hd']; rfl)
      rw [hd'] at hinf
      refine ⟨k.encode (.number sg m p), 0, ?_, ?_⟩
      · cases u <;> simp [convert, run_underlying hs', run_underlying hd, Conv.floatToFloat, e, hd', hinf, World.drewN_zero]
      · rw [cn_of s (by rw [hn, hd']; rfl)]
        show Is k _ (some (k.encode (s.decode b)))
        rw [hd']
        exact Is_some (write_nan k _ rfl) (k.format.write_lt _)
end

/-! ## Signs -/
def fneg (k : FloatKind) (v : Option Nat) : Option Nat := v.map (Op.negFloat k)
theorem neg_eq (k : FloatKind) (b : Nat) (hb : b < 2 ^ k.format.width) : Op.negFloat k b % sgn k = b % sgn k ∧ Op.negFloat k b < 2 ^ k.format.width := by
  have hx : Op.negFloat k b = b ^^^ sgn k := by cases k <;> rfl
  rw [hx]
  have hw := width_eq k
  refine ⟨?_, ?_⟩
  · cases k
    · show (b ^^^ 2 ^ 31) % 2 ^ 31 = b % 2 ^ 31
      rw [Nat.xor_mod_two_pow]; simp
    · show (b ^^^ 2 ^ 63) % 2 ^ 63 = b % 2 ^ 63
      rw [Nat.xor_mod_two_pow]; simp
  · refine Nat.xor_lt_two_pow hb ?_
    rw [hw]; have := inf_lt k; omega
theorem Is_neg {k : FloatKind} {b : Nat} {v : Option Nat} (h : Is k b v) : Is k (Op.negFloat k b) (fneg k v) := by
  obtain ⟨rfl, hb⟩ := h
  obtain ⟨h1, h2⟩ := neg_eq k b hb
  have hn : nanw k (Op.negFloat k b) = nanw k b := by rw [nanw_eq, nanw_eq, h1]
  cases e : nanw k b
  · rw [cn_of k e]; exact Is_some (by rw [hn, e]) h2
  · rw [cn_nan k e]; exact Is_none (by rw [hn, e]) h2

/-! ## The walk's laws -/
section
variable {P : Program} {ops : Array Oper} {Q : Exit → Act → World → Prop} {a : Act} {w : World} {rest : List Oper} {o : Oper}

theorem wpList_val (hw : Region.wanted o (yielded ops a.tmps) = true) (v : Value) (n : Nat) (hr : (execOp a.eval o).run P w = .ok (.value v) (w.drewN n))
    (h : wpList P ops Q rest (a.put o.dst v) (w.drewN n)) : wpList P ops Q (o :: rest) a w :=
  wpList_step fun K hK => by
    rw [if_pos hw]
    unfold Oper.wp
    rw [hr]
    exact hK _ _ h

theorem wpList_fop (hw : Region.wanted o (yielded ops a.tmps) = true) (op : BinOp) (t s : TypeId) (x y : Operand) (ho : o.op = .binOp op t x y s) (k : FloatKind) (bx bz : Nat)
    (hx : a.eval x = .float k bx) (hy : a.eval y = .float k bz) (hop : isArith op = true) {vx vy : Option Nat} (ix : Is k bx vx) (iy : Is k bz vy)
    (h : ∀ r n, Is k r (fop op k vx vy) → wpList P ops Q rest (a.put o.dst (.float k r)) (w.drewN n)) : wpList P ops Q (o :: rest) a w := by
  obtain ⟨r, n, hr, hi⟩ := run_fop (P := P) w op (by cases op <;> simp [isArith] at hop <;> simp) t k bx bz
  rw [ix.1, iy.1] at hi
  refine wpList_val hw (.float k r) n ?_ (h r n hi)
  unfold execOp
  simp only [ho, hx, hy, Sem.run_bind, eqGuard_float, Result.andThen_ok, hr, Sem.run_pure]

theorem wpList_fcmp (hw : Region.wanted o (yielded ops a.tmps) = true) (op : BinOp) (t s : TypeId) (x y : Operand) (ho : o.op = .binOp op t x y s) (k : FloatKind) (bx bz : Nat)
    (hx : a.eval x = .float k bx) (hy : a.eval y = .float k bz) (hop : isCmp op = true) {vx vy : Option Nat} (ix : Is k bx vx) (iy : Is k bz vy)
    (h : wpList P ops Q rest (a.put o.dst (.bool (fcmp op k vx vy))) w) : wpList P ops Q (o :: rest) a w := by
  have hr := run_fcmp (P := P) w op hop t k bx bz ix iy
  refine wpList_val hw (.bool (fcmp op k vx vy)) 0 ?_ (by rw [World.drewN_zero]; exact h)
  unfold execOp
  simp only [ho, hx, hy, Sem.run_bind, eqGuard_float, Result.andThen_ok, hr, Sem.run_pure]
  rfl

theorem wpList_fconv (hw : Region.wanted o (yielded ops a.tmps) = true) (src dst : TypeId) (x : Operand) (ho : o.op = .convert src dst x) (s k : FloatKind) (bx : Nat)
    (hx : a.eval x = .float s bx) (hs : (P.underlying src).isSome = true) (hd : P.underlying dst = some (.float k)) {v : Option Nat} (ix : Is s bx v) (ok : Fits s k v)
    (h : ∀ r n, Is k r (fconv s k v) → wpList P ops Q rest (a.put o.dst (.float k r)) (w.drewN n)) : wpList P ops Q (o :: rest) a w := by
  obtain ⟨r, n, hr, hi⟩ := run_conv (P := P) w hs hd ix ok
  refine wpList_val hw (.float k r) n ?_ (h r n hi)
  unfold execOp
  simp only [ho, hx, Sem.run_bind, Result.andThen_ok, hr, Sem.run_pure]

theorem wpList_fneg (hw : Region.wanted o (yielded ops a.tmps) = true) (t : TypeId) (x : Operand) (ho : o.op = .unOp .neg t x) (k : FloatKind) (bx : Nat)
    (hx : a.eval x = .float k bx) {v : Option Nat} (ix : Is k bx v)
    (h : ∀ r, Is k r (fneg k v) → wpList P ops Q rest (a.put o.dst (.float k r)) w) : wpList P ops Q (o :: rest) a w := by
  refine wpList_val hw (.float k (Op.negFloat k bx)) 0 ?_ (by rw [World.drewN_zero]; exact h _ (Is_neg ix))
  unfold execOp
  simp only [ho, hx, Sem.run_bind]
  rfl
end
theorem order_self (k : FloatKind) (b : Nat) (h : nanw k b = false) : k.format.order b b = some .eq := by
  unfold nanw at h; unfold Ieee.Format.order
  cases e : k.format.read b with
  | number s m i => simp [Ieee.Datum.order]
  | infinity s => simp [Ieee.Datum.order]
  | nan s t => rw [e] at h; simp [Ieee.Datum.isNaN] at h
theorem neq_self_none (k : FloatKind) : fcmp .neq k none none = true := rfl
theorem neq_self {k : FloatKind} {b : Nat} (h : Is k b (some b)) : fcmp .neq k (some b) (some b) = false := by
  have hn : nanw k b = false := by
    cases e : nanw k b
    · rfl
    · have := h.1; rw [cn_nan k e] at this; cases this
  simp [fcmp, ford, order_self k b hn]
theorem Is_cases {k : FloatKind} {b : Nat} (hb : b < 2 ^ k.format.width) : Is k b none ∨ Is k b (some b) := by
  cases e : nanw k b
  · exact .inr (Is_some e hb)
  · exact .inl (Is_none e hb)
theorem wf_lt {k : FloatKind} {b : Nat} (h : (Lit.float k b).wf = true) : b < 2 ^ k.format.width := by
  cases k
  · have h2 : b < 2 ^ 32 := by simpa [Lit.wf] using h
    exact h2
  · have h2 : b < 2 ^ 64 := by simpa [Lit.wf] using h
    exact h2
theorem ret_int {k : IntKind} {a b : Int} (h : a = b) : Ending.returned (.int k a) = .returned (.int k b) := by rw [h]
theorem ret_bool {a b : Bool} (h : a = b) : Ending.returned (.bool a) = .returned (.bool b) := by rw [h]
/-- The bits of a number: one for all not-a-numbers. -/
def bitsF (v : Option Nat) : Int := match v with | none => 2143289344 | some b => b
end Go.Proofs.Ytffcaffhkleclaa.Fl
