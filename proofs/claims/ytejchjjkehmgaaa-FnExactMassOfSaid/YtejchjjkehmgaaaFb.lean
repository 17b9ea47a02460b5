/- The bits of floats: absolute values, zeros, subnormal numbers, infinities. -/
import Derived.Test.YtejchjjkehmgaaaFx
import Derived.Laws.BitsLemmas
namespace Go.Proofs.Ytejchjjkehmgaaa.Fl
open Go

/-! ## Bits -/
theorem and_shl (x y i : Nat) : x &&& (y <<< i) = ((x >>> i) &&& y) <<< i := by
  apply Nat.eq_of_testBit_eq
  intro j
  simp only [Nat.testBit_and, Nat.testBit_shiftLeft, Nat.testBit_shiftRight]
  by_cases h : i ≤ j
  · simp [h, Nat.add_sub_cancel' h]
  · simp [h]
theorem and_mask (x i j : Nat) : x &&& ((2 ^ j - 1) <<< i) = (x / 2 ^ i % 2 ^ j) * 2 ^ i := by
  rw [and_shl, Nat.and_two_pow_sub_one_eq_mod, Nat.shiftLeft_eq, Nat.shiftRight_eq_div_pow]

theorem wrap_u64 (n : Int) (h0 : 0 ≤ n) (h1 : n < 18446744073709551616) : IntKind.u64.wrap n = n := by
  have : IntKind.u64.wrap n = n % 18446744073709551616 := by simp [IntKind.wrap, IntKind.bits, IntKind.signed]
  rw [this]; omega
theorem wrap_i64 (n : Int) (h0 : 0 ≤ n) (h1 : n < 9223372036854775808) : IntKind.i64.wrap n = n := by
  rw [IntKind.wrap_i64]; omega

section
variable {P : Program} (w : World)
/-- 'x &^ (1 << 63)' -/
theorem run_abs (t : TypeId) (x : Nat) (hx : x < 2 ^ 64) : (binOp .andNot t (.int .u64 x) (.int .u64 9223372036854775808)).run P w = .ok (.int .u64 ((x % 9223372036854775808 : Nat) : Int)) w := by
  have h : (BitVec.ofInt 64 (x : Int) &&& ~~~(BitVec.ofInt 64 9223372036854775808)).toNat = x % 9223372036854775808 := by
    have e1 : (~~~(BitVec.ofInt 64 9223372036854775808)) = BitVec.ofNat 64 (2 ^ 63 - 1) := by decide
    rw [e1, BitVec.toNat_and]
    have e2 : (BitVec.ofInt 64 (x : Int)).toNat = x := by simp; omega
    have e3 : (BitVec.ofNat 64 (2 ^ 63 - 1)).toNat = 2 ^ 63 - 1 := by decide
    rw [e2, e3, Nat.and_two_pow_sub_one_eq_mod]
  have hr : (binOp .andNot t (.int .u64 x) (.int .u64 9223372036854775808)) = pure (.int .u64 (IntKind.u64.wrap ((BitVec.ofInt 64 (x : Int) &&& ~~~(BitVec.ofInt 64 9223372036854775808)).toNat : Int))) := rfl
  rw [hr, h, wrap_u64 _ (by omega) (by omega)]
  rfl
/-- 'x & (1 << 63)' -/
theorem run_sign (t : TypeId) (x : Nat) (hx : x < 2 ^ 64) : (binOp .and t (.int .u64 x) (.int .u64 9223372036854775808)).run P w = .ok (.int .u64 ((x / 9223372036854775808 * 9223372036854775808 : Nat) : Int)) w := by
  have h : (BitVec.ofInt 64 (x : Int) &&& (BitVec.ofInt 64 9223372036854775808)).toNat = x / 9223372036854775808 * 9223372036854775808 := by
    rw [BitVec.toNat_and]
    have e2 : (BitVec.ofInt 64 (x : Int)).toNat = x := by simp; omega
    have e3 : (BitVec.ofInt 64 9223372036854775808).toNat = (2 ^ 1 - 1) <<< 63 := by decide
    rw [e2, e3, and_mask]
    have : x / 2 ^ 63 % 2 ^ 1 = x / 9223372036854775808 := by omega
    rw [this]
  have hr : (binOp .and t (.int .u64 x) (.int .u64 9223372036854775808)) = pure (.int .u64 (IntKind.u64.wrap ((BitVec.ofInt 64 (x : Int) &&& (BitVec.ofInt 64 9223372036854775808)).toNat : Int))) := rfl
  rw [hr, h, wrap_u64 _ (by omega) (by omega)]
  rfl
theorem run_or0 (t : TypeId) (x : Nat) (hx : x < 2 ^ 64) : (binOp .or t (.int .u64 0) (.int .u64 x)).run P w = .ok (.int .u64 x) w := by
  have h : ((BitVec.ofInt 64 0) ||| (BitVec.ofInt 64 (x : Int))).toNat = x := by
    rw [BitVec.toNat_or]
    have e2 : (BitVec.ofInt 64 (x : Int)).toNat = x := by simp; omega
    rw [e2]; simp
  have hr : (binOp .or t (.int .u64 0) (.int .u64 x)) = pure (.int .u64 (IntKind.u64.wrap (((BitVec.ofInt 64 0) ||| (BitVec.ofInt 64 (x : Int))).toNat : Int))) := rfl
  rw [hr, h, wrap_u64 _ (by omega) (by omega)]
  rfl
/-- 'n & 0x7f800000' of a 32-bit word -/
theorem run_expo (t : TypeId) (x : Nat) (hx : x < 4294967296) : (binOp .and t (.int .i64 x) (.int .i64 2139095040)).run P w = .ok (.int .i64 ((x / 8388608 % 256 * 8388608 : Nat) : Int)) w := by
  have h : (BitVec.ofInt 64 (x : Int) &&& (BitVec.ofInt 64 2139095040)).toNat = x / 8388608 % 256 * 8388608 := by
    rw [BitVec.toNat_and]
    have e2 : (BitVec.ofInt 64 (x : Int)).toNat = x := by simp; omega
    have e3 : (BitVec.ofInt 64 2139095040).toNat = (2 ^ 8 - 1) <<< 23 := by decide
    rw [e2, e3, and_mask]
  have hr : (binOp .and t (.int .i64 x) (.int .i64 2139095040)) = pure (.int .i64 (IntKind.i64.wrap ((BitVec.ofInt 64 (x : Int) &&& (BitVec.ofInt 64 2139095040)).toNat : Int))) := rfl
  rw [hr, h, wrap_i64 _ (by omega) (by omega)]
  rfl
/-- 'n & (1 << 31)' of a 32-bit word -/
theorem run_sign32 (t : TypeId) (x : Nat) (hx : x < 4294967296) : (binOp .and t (.int .i64 x) (.int .i64 2147483648)).run P w = .ok (.int .i64 ((x / 2147483648 * 2147483648 : Nat) : Int)) w := by
  have h : (BitVec.ofInt 64 (x : Int) &&& (BitVec.ofInt 64 2147483648)).toNat = x / 2147483648 * 2147483648 := by
    rw [BitVec.toNat_and]
    have e2 : (BitVec.ofInt 64 (x : Int)).toNat = x := by simp; omega
    have e3 : (BitVec.ofInt 64 2147483648).toNat = (2 ^ 1 - 1) <<< 31 := by decide
    rw [e2, e3, and_mask]
    have : x / 2 ^ 31 % 2 ^ 1 = x / 2147483648 := by omega
    rw [this]
  have hr : (binOp .and t (.int .i64 x) (.int .i64 2147483648)) = pure (.int .i64 (IntKind.i64.wrap ((BitVec.ofInt 64 (x : Int) &&& (BitVec.ofInt 64 2147483648)).toNat : Int))) := rfl
  rw [hr, h, wrap_i64 _ (by omega) (by omega)]
  rfl
end

section
variable {P : Program} {ops : Array Oper} {Q : Exit → Act → World → Prop} {a : Act} {w : World} {rest : List Oper} {o : Oper}
theorem run_binInt {op : BinOp} {t : TypeId} {X Y : Operand} {k k' : IntKind} {m n : Int} : (eqGuard op t X Y (.int k m) (.int k' n)).run P w = .ok () w := by
  cases op <;> rfl
/-- An operation on two integers, whose outcome is known. -/
theorem wpList_ints (hw : Region.wanted o (yielded ops a.tmps) = true) (op : BinOp) (t s : TypeId) (x y : Operand) (ho : o.op = .binOp op t x y s) (k : IntKind) (m n r : Int)
    (hx : a.eval x = .int k m) (hy : a.eval y = .int k n) (hr : (binOp op t (.int k m) (.int k n)).run P w = .ok (.int k r) w)
    (h : wpList P ops Q rest (a.put o.dst (.int k r)) w) : wpList P ops Q (o :: rest) a w := by
  refine wpList_val hw (.int k r) 0 ?_ (by rw [World.drewN_zero]; exact h)
  unfold execOp
  simp only [ho, hx, hy, Sem.run_bind, run_binInt, Result.andThen_ok, hr, Sem.run_pure]
  rfl
end

/-! ## Absolute values -/
def fabs (v : Option Nat) : Option Nat := v.map (· % 9223372036854775808)
theorem Is_abs {x : Nat} {v : Option Nat} (h : Is .f64 x v) : Is .f64 (x % 9223372036854775808) (fabs v) := by
  obtain ⟨rfl, hb⟩ := h
  have e1 : nanw .f64 (x % 9223372036854775808) = nanw .f64 x := by
    rw [nanw_eq, nanw_eq]; exact congrArg (fun z => decide (inf .f64 < z)) (Nat.mod_mod _ _)
  have e2 : x % 9223372036854775808 < 2 ^ FloatKind.f64.format.width := by show _ < 2 ^ 64; omega
  cases e : nanw .f64 x
  · rw [cn_of _ e]; exact Is_some (by rw [e1, e]) e2
  · rw [cn_nan _ e]; exact Is_none (by rw [e1, e]) e2

/-! ## What a word stands for -/
def sg (k : FloatKind) (b : Nat) : Bool := b / sgn k % 2 == 1
theorem readk (k : FloatKind) (b : Nat) (h : nanw k b = false) : (b % sgn k = inf k ∧ k.format.read b = .infinity (sg k b)) ∨
    (b % sgn k < 2 ^ fb k ∧ k.format.read b = .number (sg k b) (b % sgn k) (lp k)) ∨
    (2 ^ fb k ≤ b % sgn k ∧ b % sgn k < inf k ∧ k.format.read b = .number (sg k b) (2 ^ fb k + b % sgn k % 2 ^ fb k) (lp k + (b % sgn k / 2 ^ fb k - 1 : Nat))) := by
  rw [nanw_eq] at h
  have h' : ¬ inf k < b % sgn k := by simpa using h
  unfold Ieee.Format.read
  dsimp only
  simp only [bin_eq, signWeight_eq, infRung_eq, lp_eq]
  by_cases h1 : b % sgn k < 2 ^ fb k
  · right; left; rw [if_pos h1]; exact ⟨h1, rfl⟩
  · rw [if_neg h1]
    by_cases h2 : b % sgn k < inf k
    · right; right; rw [if_pos h2]; exact ⟨by omega, h2, rfl⟩
    · left; rw [if_neg h2, if_pos (by omega)]; exact ⟨by omega, rfl⟩

theorem not_nan {k : FloatKind} {b : Nat} (h : Is k b (some b)) : nanw k b = false := by
  cases e : nanw k b
  · rfl
  · have := h.1; rw [cn_nan k e] at this; cases this

theorem signed_zero (s : Bool) (m u : Nat) : Ieee.signed s m u = 0 ↔ m = 0 := by
  unfold Ieee.signed
  rw [Nat.shiftLeft_eq]
  have : 0 < 2 ^ u := Nat.two_pow_pos u
  constructor
  · intro h
    have h2 : m * 2 ^ u = 0 := by
      cases s
      · exact Int.ofNat.inj h
      · exact Int.ofNat.inj (Int.neg_eq_zero.1 h)
    rcases Nat.mul_eq_zero.1 h2 with h3 | h3
    · exact h3
    · omega
  · rintro rfl; rw [Nat.zero_mul]; cases s <;> rfl
theorem order_number_zero (s : Bool) (m : Nat) (p q : Int) : (Ieee.Datum.order (.number s m p) (.number false 0 q) = some .eq) ↔ m = 0 := by
  simp only [Ieee.Datum.order]
  have hz : ∀ u, Ieee.signed false 0 u = 0 := fun u => (signed_zero false 0 u).2 rfl
  rw [hz]
  constructor
  · intro h
    have h2 : compare (Ieee.signed s m (p - min p q).toNat) 0 = .eq := by simpa using h
    rw [Int.compare_eq_eq] at h2
    exact (signed_zero _ _ _).1 h2
  · rintro rfl
    rw [(signed_zero _ _ _).2 rfl]; rfl
theorem read_zero_word (k : FloatKind) : k.format.read 0 = .number false 0 (lp k) := by cases k <;> rfl

/-- IS A NUMBER ZERO? -/
theorem eql_zero {k : FloatKind} {b : Nat} (h : nanw k b = false) : fcmp .eql k (some b) (some 0) = decide (b % sgn k = 0) := by
  have e : fcmp .eql k (some b) (some 0) = (k.format.order b 0 == some .eq) := rfl
  rw [e]
  unfold Ieee.Format.order
  rw [read_zero_word]
  have hfb : 0 < 2 ^ fb k := Nat.two_pow_pos _
  rcases readk k b h with ⟨h1, h2⟩ | ⟨h1, h2⟩ | ⟨h1, h3, h2⟩
  · rw [h2]
    have : b % sgn k ≠ 0 := by rw [h1]; cases k <;> decide
    rw [decide_eq_false this]
    cases sg k b <;> rfl
  · rw [h2]
    by_cases hz : b % sgn k = 0
    · rw [(order_number_zero _ _ _ _).2 hz, decide_eq_true hz]; rfl
    · rw [decide_eq_false hz]
      have := mt (order_number_zero (sg k b) (b % sgn k) (lp k) (lp k)).1 hz
      simpa using this
  · rw [h2]
    have hz : b % sgn k ≠ 0 := by omega
    rw [decide_eq_false hz]
    have := mt (order_number_zero (sg k b) (2 ^ fb k + b % sgn k % 2 ^ fb k) (lp k + (b % sgn k / 2 ^ fb k - 1 : Nat)) (lp k)).1 (by omega)
    simpa using this
theorem neq_not (k : FloatKind) (u v : Option Nat) : fcmp .neq k u v = !(fcmp .eql k u v) := rfl
end Go.Proofs.Ytejchjjkehmgaaa.Fl
