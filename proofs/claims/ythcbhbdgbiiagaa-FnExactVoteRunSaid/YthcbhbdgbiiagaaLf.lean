/- Neighbours of a cell: what a step of a life counts (the model's side). -/
import Derived.Test.YthcbhbdgbiiagaaGrow
import Derived.Test.YthcbhbdgbiiagaaRnd
namespace Go.Proofs.Ythcbhbdgbiiagaa.Lf
open Go.RowKit Go.Proofs.Ythcbhbdgbiiagaa.Rd Go.Proofs.Ythcbhbdgbiiagaa.Help Go.Proofs.Ythcbhbdgbiiagaa.Ring Go.Proofs.Ythcbhbdgbiiagaa.Small Go.Proofs.Ythcbhbdgbiiagaa.FVal Go.Proofs.Ythcbhbdgbiiagaa.Keep Go.Proofs.Ythcbhbdgbiiagaa.Rule Go.Proofs.Ythcbhbdgbiiagaa.Grow Go.Proofs.Ythcbhbdgbiiagaa.Rnd
set_option linter.unusedVariables false
set_option linter.unusedSimpArgs false

/-- What lies at a place: round and round, or 0 beyond the border. -/
def fr (zs : List Int) (R C : Nat) (rd : Bool) (i k : Int) : Int := if rd = true ∨ (0 ≤ i ∧ i < R ∧ 0 ≤ k ∧ k < C) then zs.getD ((i % (R : Int)).toNat * C + (k % (C : Int)).toNat) 0 else 0
/-- The neighbour with the number j, 4 being the cell itself. -/
def nb (zs : List Int) (R C : Nat) (rd : Bool) (i k : Int) (j : Nat) : Int := if j = 4 then 0 else fr zs R C rd (i - 1 + (j / 3 : Nat)) (k - 1 + (j % 3 : Nat))
/-- The sum of the first j neighbours. -/
def psum (zs : List Int) (R C : Nat) (rd : Bool) (i k : Int) : Nat → Int
  | 0 => 0
  | j + 1 => psum zs R C rd i k j + nb zs R C rd i k j
/-- How many neighbours are 1. -/
def aro (zs : List Int) (R C : Nat) (rd : Bool) (i k : Int) : Int := psum zs R C rd i k 9
/-- All cells are 0 or 1. -/
def plainB (zs : List Int) : Bool := zs.all fun x => decide (0 ≤ x ∧ x ≤ 1)
def nxt (xs ys zs : List Int) (R C : Nat) (rd : Bool) (i k : Nat) : Int :=
  if (zs.getD (i * C + k) 0 = 0 ∧ xs.contains (aro zs R C rd i k) = true) ∨ (zs.getD (i * C + k) 0 = 1 ∧ ys.contains (aro zs R C rd i k) = true) then 1 else 0
/-- The next field. -/
def lifeL (xs ys zs : List Int) (R C : Nat) (rd : Bool) : List Int := grid R C (nxt xs ys zs R C rd)
theorem plain_bd {zs : List Int} (h : plainB zs = true) (j : Nat) : 0 ≤ zs.getD j 0 ∧ zs.getD j 0 ≤ 1 := by
  by_cases hj : j < zs.length
  · have := List.all_eq_true.1 h (zs.getD j 0) (by rw [List.getD_eq_getElem?_getD, List.getElem?_eq_getElem hj]; exact List.getElem_mem hj)
    simpa using this
  · rw [List.getD_eq_getElem?_getD, List.getElem?_eq_none (by omega)]
    simp
theorem fr_bd {zs : List Int} (h : plainB zs = true) (R C : Nat) (rd : Bool) (i k : Int) : 0 ≤ fr zs R C rd i k ∧ fr zs R C rd i k ≤ 1 := by
  unfold fr
  split
  · exact plain_bd h _
  · omega
theorem nb_bd {zs : List Int} (h : plainB zs = true) (R C : Nat) (rd : Bool) (i k : Int) (j : Nat) : 0 ≤ nb zs R C rd i k j ∧ nb zs R C rd i k j ≤ 1 := by
  unfold nb
  split
  · omega
  · exact fr_bd h _ _ _ _ _
theorem psum_bd {zs : List Int} (h : plainB zs = true) (R C : Nat) (rd : Bool) (i k : Int) (j : Nat) : 0 ≤ psum zs R C rd i k j ∧ psum zs R C rd i k j ≤ j := by
  induction j with
  | zero => simp [psum]
  | succ j ih => have := nb_bd h R C rd i k j; simp only [psum]; omega
theorem aro_bd {zs : List Int} (h : plainB zs = true) (R C : Nat) (rd : Bool) (i k : Int) : 0 ≤ aro zs R C rd i k ∧ aro zs R C rd i k ≤ 8 := by
  have h8 : aro zs R C rd i k = psum zs R C rd i k 4 + (nb zs R C rd i k 5 + nb zs R C rd i k 6 + nb zs R C rd i k 7 + nb zs R C rd i k 8) := by
    simp [aro, psum, nb]; omega
  have a := psum_bd h R C rd i k 4
  have b5 := nb_bd h R C rd i k 5
  have b6 := nb_bd h R C rd i k 6
  have b7 := nb_bd h R C rd i k 7
  have b8 := nb_bd h R C rd i k 8
  omega
theorem aro_eq (zs : List Int) (R C : Nat) (rd : Bool) (i k : Int) : aro zs R C rd i k = fr zs R C rd (i - 1) (k - 1) + fr zs R C rd (i - 1) k + fr zs R C rd (i - 1) (k + 1) + fr zs R C rd i (k - 1) + fr zs R C rd i (k + 1) + fr zs R C rd (i + 1) (k - 1) + fr zs R C rd (i + 1) k + fr zs R C rd (i + 1) (k + 1) := by
  simp only [aro, psum, nb]
  simp [show i - 1 + 1 = i by omega, show k - 1 + 1 = k by omega, show i - 1 + 2 = i + 1 by omega, show k - 1 + 2 = k + 1 by omega]
theorem nb_at (zs : List Int) (R C : Nat) (rd : Bool) (i k : Int) {p q : Nat} (hq : q < 3) (h : ¬ (p = 1 ∧ q = 1)) : nb zs R C rd i k (3 * p + q) = fr zs R C rd (i - 1 + (p : Int)) (k - 1 + (q : Int)) := by
  unfold nb
  rw [if_neg (by omega), show (3 * p + q) / 3 = p by omega, show (3 * p + q) % 3 = q by omega]

theorem l04RoundX {w : World} {g R C S : Nat} {x y : Int} (c0 : w.cell? ⟨g, 0, none⟩ = some (.int .i64 R)) (c1 : w.cell? ⟨g, 1, none⟩ = some (.int .i64 C)) (hR : 1 ≤ R ∧ R ≤ 24) (hC : 1 ≤ C ∧ C ≤ 24) (hS : S = (x % (R : Int)).toNat * C + (y % (C : Int)).toNat) (hx : -1 ≤ x ∧ x ≤ 30) (hy : -1 ≤ y ∧ y ≤ 30) :
    Calls Try.prog 123 #[.pointer (some ⟨g, 0, none⟩), .int .i64 x, .int .i64 y] w fun e w' => e = .returned (.int .i64 (S : Int)) ∧ ∃ m, w' = w.drewN m := by
  rw [hS]
  exact Rnd.l04Round c0 c1 hR hC (by omega) (by omega)

set_option maxHeartbeats 32000000 in
theorem l04Around {w : World} {g R C n I J : Nat} {b : Nat} {v : Value} {zs : List Int} {rd : Bool} (c0 : w.cell? ⟨g, 0, none⟩ = some (.int .i64 R)) (c1 : w.cell? ⟨g, 1, none⟩ = some (.int .i64 C)) (c2 : w.cell? ⟨g, 2, none⟩ = some v) (h : Rd w b v zs) (hq : fieldB R C zs = true) (hn : n = R * C) (hpl : plainB zs = true) (hI : I < R) (hJ : J < C) :
    Calls Try.prog 98 #[.pointer (some ⟨g, 0, none⟩), .int .i64 I, .int .i64 J, .bool rd] w fun e w' => e = .returned (.int .i64 (aro zs R C rd I J)) ∧ ∃ m, w' = w.drewN m := by
  obtain ⟨hR, hC, hl, hle⟩ := field_nat hq
  obtain ⟨ao, cap, rfl, hc, hm, h4⟩ := h
  rw [← hn] at hle
  have hpos : 0 < zs.length := by rw [hl]; exact Nat.mul_pos hR.1 hC.1
  obtain ⟨off, rfl, hb, hcell⟩ := h4 hpos
  have hln : zs.length = n := by rw [hn]; exact hl
  rw [hln] at hc hcell c2
  have hsz : n ≤ cap ∧ cap ≤ 9223372036854775807 := by unfold maxLen at hm; omega
  have HN := hid hn
  have HR := hid hR
  have HC := hid hC
  have HCell := hid hcell
  have HP := hid hpl
  have HK := hid (And.intro c0 (And.intro c1 c2))
  have HIJ := hid (And.intro hI hJ)
  have hIi : (I : Int) < (R : Int) ∧ (R : Int) ≤ 24 := by omega
  have hJi : (J : Int) < (C : Int) ∧ (C : Int) ≤ 24 := by omega
  have hni : (n : Int) ≤ 576 := by omega
  obtain ⟨A, hA⟩ : ∃ A, A = aro zs R C rd I J := ⟨_, rfl⟩
  rw [← hA]
  have HA := hid hA
  have v1 : IntKind.i64.wrap ((I : Int) + 1) = (I : Int) + 1 := by rw [IntKind.wrap_i64]; omega
  have v2 : IntKind.i64.wrap ((J : Int) + 1) = (J : Int) + 1 := by rw [IntKind.wrap_i64]; omega
  have v3 : IntKind.i64.wrap ((I : Int) - 1) = (I : Int) - 1 := by rw [IntKind.wrap_i64]; omega
  have v4 : IntKind.i64.wrap ((J : Int) - 1) = (J : Int) - 1 := by rw [IntKind.wrap_i64]; omega
  have v5 : IntKind.i64.wrap ((R : Int) - 1) = (R : Int) - 1 := by rw [IntKind.wrap_i64]; omega
  have v6 : IntKind.i64.wrap ((C : Int) - 1) = (C : Int) - 1 := by rw [IntKind.wrap_i64]; omega
  clear hc hm h4 hq hn hl hpos hb hcell hln hA c0 c1 c2 hpl hI hJ hR hC hle
  go_enter Try.func98, Try.ntmps98
  go_wp2
  go_loopw [9, 10] (fun s i wr => ∃ p : Nat, p ≤ 3 ∧ i = .int .i64 ((I : Int) - 1 + (p : Int)) ∧ s = .int .i64 (psum zs R C rd I J (3 * p)) ∧ ∃ m, wr = w.drewN m) (fun _ i _ => ((I : Int) + 2 - intOf i).toNat)
  case atStart => exact ⟨0, by omega, by simp, rfl, 0, rfl⟩
  case round =>
    obtain ⟨p, hp, rfl, rfl, m, hwr⟩ := hrel
    have HWR := hid hwr
    clear hwr
    have u1 : IntKind.i64.wrap ((I : Int) - 1 + (p : Int) + 1) = (I : Int) - 1 + (p : Int) + 1 := by rw [IntKind.wrap_i64]; omega
    by_cases hlt : p < 3
    · have hd : decide ((I : Int) - 1 + (p : Int) ≤ (I : Int) + 1) = true := by simp; omega
      obtain ⟨s0, hs0⟩ : ∃ s0, s0 = psum zs R C rd I J (3 * p) := ⟨_, rfl⟩
      rw [← hs0]
      have Hs0 := hid hs0
      clear hs0
      by_cases hp1 : p = 1
      · rw [show (I : Int) - 1 + (p : Int) = (I : Int) by omega]
        have hdI : decide ((I : Int) ≤ (I : Int) + 1) = true := decide_eq_true (by omega)
        go_wp2
        go_loopw [9, 11] (fun s k wx => ∃ q : Nat, q ≤ 3 ∧ k = .int .i64 ((J : Int) - 1 + (q : Int)) ∧ s = .int .i64 (psum zs R C rd I J (3 * p + q)) ∧ ∃ m, wx = w.drewN m) (fun _ k _ => ((J : Int) + 2 - intOf k).toNat)
        case atStart => exact ⟨0, by omega, by simp, by rw [Hs0.out]; rfl, m, HWR.out⟩
        case round =>
          clear HWR Hs0
          obtain ⟨q, hq2, rfl, rfl, m, hwr⟩ := hrel
          have HWR := hid hwr
          clear hwr
          have u2 : IntKind.i64.wrap ((J : Int) - 1 + (q : Int) + 1) = (J : Int) - 1 + (q : Int) + 1 := by rw [IntKind.wrap_i64]; omega
          obtain ⟨s, hs⟩ : ∃ s, s = psum zs R C rd I J (3 * p + q) := ⟨_, rfl⟩
          rw [← hs]
          have hsb := psum_bd HP.out R C rd I J (3 * p + q)
          rw [← hs] at hsb
          have Hs := hid hs
          clear hs
          by_cases hlt2 : q < 3
          · have hd2 : decide ((J : Int) - 1 + (q : Int) ≤ (J : Int) + 1) = true := by simp; omega
            by_cases hcen : q = 1
            · have e2 : decide ((J : Int) - 1 + (q : Int) = (J : Int)) = true := by simp; omega
              go_wp2
              go_roundw
              case rel =>
                refine ⟨q + 1, by omega, by go_num, ?_, m, HWR.out⟩
                rw [show 3 * p + (q + 1) = (3 * p + q) + 1 by omega]
                simp only [psum]
                rw [← Hs.out, show 3 * p + q = 4 by omega]
                simp [nb]
              case measure => simp [intOf]; omega
            · obtain ⟨S, hS⟩ : ∃ S, S = (((I : Int)) % (R : Int)).toNat * C + (((J : Int) - 1 + q) % (C : Int)).toNat := ⟨_, rfl⟩
              have hSn : S < n := by rw [hS, HN.out]; exact pos_bd (rnd_lt _ HR.out.1).2 (rnd_lt _ HC.out.1).2
              have hSi : (S : Int) < (n : Int) := by omega
              have HSn := hid hSn
              have HS := hid hS
              obtain ⟨X, hX⟩ : ∃ X, X = zs.getD S 0 := ⟨_, rfl⟩
              have hxb := plain_bd HP.out S
              rw [← hX] at hxb
              have HX := hid hX
              have hwS : IntKind.i64.wrap (s + X) = s + X := by rw [IntKind.wrap_i64]; omega
              have HPQ := hid (And.intro hlt hlt2)
              have HNC : Hid (¬ (p = 1 ∧ q = 1)) := fun h => hcen h.2
              have HYB : Hid (-1 ≤ (J : Int) - 1 + (q : Int) ∧ (J : Int) - 1 + (q : Int) ≤ 30) := by simp only [Hid]; omega
              have HXB : Hid (-1 ≤ (I : Int) ∧ (I : Int) ≤ 30) := by simp only [Hid]; omega
              have HX1 : Hid ((I : Int) - 1 + (p : Int) = (I : Int)) := by show (_ : Int) = _; omega
              have e2 : ((J : Int) - 1 + (q : Int) == (J : Int)) = false := by simp; omega
              clear hS hX hSn hcen
              cases rd with
              | true =>
                have HIF : (true = true ∨ (0 ≤ (I : Int) ∧ (I : Int) < R ∧ 0 ≤ (J : Int) - 1 + (q : Int) ∧ (J : Int) - 1 + (q : Int) < C)) := .inl rfl
                have HFR : Hid (fr zs R C true ((I : Int)) ((J : Int) - 1 + (q : Int)) = X) := by show fr _ _ _ _ _ _ = _; unfold fr; rw [if_pos HIF, HX.out, HS.out]
                have hw0 : wr = w.drewN m := HWR.out
                have hcx : wr.cell? ⟨b, off + S, none⟩ = some (.int .i64 X) := by rw [hw0, HX.out]; exact HCell.out S HSn.out
                have hk0 : wr.cell? ⟨g, 0, none⟩ = some (.int .i64 R) := by rw [hw0]; exact HK.out.1
                have hk1 : wr.cell? ⟨g, 1, none⟩ = some (.int .i64 C) := by rw [hw0]; exact HK.out.2.1
                have hk2 : wr.cell? ⟨g, 2, none⟩ = some (.slice (some ⟨b, off, none⟩) n cap) := by rw [hw0]; exact HK.out.2.2
                clear hw0
                go_wp2_with fail
                
                go_quiet (first | (go_at_call 123; refine Calls.quiet_of (l04RoundX hk0 hk1 HR.out HC.out HS.out HXB.out HYB.out)))
                go_wp2
                go_roundw
                case rel =>
                  refine ⟨q + 1, by omega, by go_num, ?_, _, by rw [HWR.out]; exact (World.drewN_drewN _ _ _)⟩
                  rw [show 3 * p + (q + 1) = (3 * p + q) + 1 by omega]
                  simp only [psum]
                  rw [nb_at zs R C true I J HPQ.out.2 HNC.out, HX1.out, HFR.out, ← Hs.out]
                case measure => simp [intOf]; omega
              | false =>
                by_cases h1 : 0 ≤ (I : Int) ∧ (I : Int) ≤ (R : Int) - 1
                · have d1 : decide (0 ≤ (I : Int) ∧ (I : Int) ≤ (R : Int) - 1) = true := decide_eq_true h1
                  by_cases h2 : 0 ≤ (J : Int) - 1 + (q : Int) ∧ (J : Int) - 1 + (q : Int) ≤ (C : Int) - 1
                  · have d2 : decide (0 ≤ (J : Int) - 1 + (q : Int) ∧ (J : Int) - 1 + (q : Int) ≤ (C : Int) - 1) = true := decide_eq_true h2
                    have HIF : (false = true ∨ (0 ≤ (I : Int) ∧ (I : Int) < R ∧ 0 ≤ (J : Int) - 1 + (q : Int) ∧ (J : Int) - 1 + (q : Int) < C)) := .inr ⟨h1.1, by omega, h2.1, by omega⟩
                    have HFR : Hid (fr zs R C false ((I : Int)) ((J : Int) - 1 + (q : Int)) = X) := by show fr _ _ _ _ _ _ = _; unfold fr; rw [if_pos HIF, HX.out, HS.out]
                    have D1 := hid d1
                    have D2 := hid d2
                    clear d1 d2 h1 h2 HIF
                    have hk0 : wr.cell? ⟨g, 0, none⟩ = some (.int .i64 R) := by rw [HWR.out]; exact HK.out.1
                    have hk1 : wr.cell? ⟨g, 1, none⟩ = some (.int .i64 C) := by rw [HWR.out]; exact HK.out.2.1
                    go_wp2_with fail
                    go_at_call 55
                    refine inB.mono ?_
                    rw [D1.out]
                    rintro e w3 ⟨rfl, rfl⟩
                    go_wp2_with fail
                    go_at_call 55
                    refine inB.mono ?_
                    rw [D2.out]
                    rintro e w3 ⟨rfl, rfl⟩
                    clear hk0 hk1
                    have hw0 : wr = w.drewN m := HWR.out
                    have hcx : wr.cell? ⟨b, off + S, none⟩ = some (.int .i64 X) := by rw [hw0, HX.out]; exact HCell.out S HSn.out
                    have hk0 : wr.cell? ⟨g, 0, none⟩ = some (.int .i64 R) := by rw [hw0]; exact HK.out.1
                    have hk1 : wr.cell? ⟨g, 1, none⟩ = some (.int .i64 C) := by rw [hw0]; exact HK.out.2.1
                    have hk2 : wr.cell? ⟨g, 2, none⟩ = some (.slice (some ⟨b, off, none⟩) n cap) := by rw [hw0]; exact HK.out.2.2
                    clear hw0
                    go_wp2_with fail
                    
                    go_quiet (first | (go_at_call 123; refine Calls.quiet_of (l04RoundX hk0 hk1 HR.out HC.out HS.out HXB.out HYB.out)))
                    go_wp2
                    go_roundw
                    case rel =>
                      refine ⟨q + 1, by omega, by go_num, ?_, _, by rw [HWR.out]; exact (World.drewN_drewN _ _ _)⟩
                      rw [show 3 * p + (q + 1) = (3 * p + q) + 1 by omega]
                      simp only [psum]
                      rw [nb_at zs R C false I J HPQ.out.2 HNC.out, HX1.out, HFR.out, ← Hs.out]
                    case measure => simp [intOf]; omega
                  · have d2 : decide (0 ≤ (J : Int) - 1 + (q : Int) ∧ (J : Int) - 1 + (q : Int) ≤ (C : Int) - 1) = false := decide_eq_false h2
                    have HIF : ¬ (false = true ∨ (0 ≤ (I : Int) ∧ (I : Int) < R ∧ 0 ≤ (J : Int) - 1 + (q : Int) ∧ (J : Int) - 1 + (q : Int) < C)) := by
                      rintro (hh | ⟨_, _, h5, h6⟩)
                      · cases hh
                      · exact h2 ⟨h5, by omega⟩
                    have HFR : Hid (fr zs R C false ((I : Int)) ((J : Int) - 1 + (q : Int)) = 0) := by show fr _ _ _ _ _ _ = _; unfold fr; rw [if_neg HIF]
                    have D1 := hid d1
                    have D2 := hid d2
                    clear d1 d2 h1 h2 HIF
                    have hk0 : wr.cell? ⟨g, 0, none⟩ = some (.int .i64 R) := by rw [HWR.out]; exact HK.out.1
                    have hk1 : wr.cell? ⟨g, 1, none⟩ = some (.int .i64 C) := by rw [HWR.out]; exact HK.out.2.1
                    go_wp2_with fail
                    go_at_call 55
                    refine inB.mono ?_
                    rw [D1.out]
                    rintro e w3 ⟨rfl, rfl⟩
                    go_wp2_with fail
                    go_at_call 55
                    refine inB.mono ?_
                    rw [D2.out]
                    rintro e w3 ⟨rfl, rfl⟩
                    clear hk0 hk1
                    go_wp2
                    go_roundw
                    case rel =>
                      refine ⟨q + 1, by omega, by go_num, ?_, m, HWR.out⟩
                      rw [show 3 * p + (q + 1) = (3 * p + q) + 1 by omega]
                      simp only [psum]
                      rw [nb_at zs R C false I J HPQ.out.2 HNC.out, HX1.out, HFR.out, ← Hs.out]
                      simp
                    case measure => simp [intOf]; omega
                · have d1 : decide (0 ≤ (I : Int) ∧ (I : Int) ≤ (R : Int) - 1) = false := decide_eq_false h1
                  have HIF : ¬ (false = true ∨ (0 ≤ (I : Int) ∧ (I : Int) < R ∧ 0 ≤ (J : Int) - 1 + (q : Int) ∧ (J : Int) - 1 + (q : Int) < C)) := by
                    rintro (hh | ⟨h5, h6, _, _⟩)
                    · cases hh
                    · exact h1 ⟨h5, by omega⟩
                  have HFR : Hid (fr zs R C false ((I : Int)) ((J : Int) - 1 + (q : Int)) = 0) := by show fr _ _ _ _ _ _ = _; unfold fr; rw [if_neg HIF]
                  have D1 := hid d1
                  clear d1 h1 HIF
                  have hk0 : wr.cell? ⟨g, 0, none⟩ = some (.int .i64 R) := by rw [HWR.out]; exact HK.out.1
                  have hk1 : wr.cell? ⟨g, 1, none⟩ = some (.int .i64 C) := by rw [HWR.out]; exact HK.out.2.1
                  go_wp2_with fail
                  go_at_call 55
                  refine inB.mono ?_
                  rw [D1.out]
                  rintro e w3 ⟨rfl, rfl⟩
                  clear hk0 hk1
                  go_wp2
                  go_roundw
                  case rel =>
                    refine ⟨q + 1, by omega, by go_num, ?_, m, HWR.out⟩
                    rw [show 3 * p + (q + 1) = (3 * p + q) + 1 by omega]
                    simp only [psum]
                    rw [nb_at zs R C false I J HPQ.out.2 HNC.out, HX1.out, HFR.out, ← Hs.out]
                    simp
                  case measure => simp [intOf]; omega
          · have hq3 : q = 3 := by omega
            have hd2 : decide ((J : Int) - 1 + (q : Int) ≤ (J : Int) + 1) = false := by simp; omega
            go_wp2
            go_roundw
            case rel =>
              refine ⟨p + 1, by omega, by simp; omega, ?_, m, HWR.out⟩
              rw [Hs.out, show 3 * (p + 1) = 3 * p + q by omega]
            case measure => simp [intOf]; omega
      · have e1 : decide ((I : Int) - 1 + (p : Int) = (I : Int)) = false := by simp; omega
        go_wp2
        go_loopw [9, 11] (fun s k wx => ∃ q : Nat, q ≤ 3 ∧ k = .int .i64 ((J : Int) - 1 + (q : Int)) ∧ s = .int .i64 (psum zs R C rd I J (3 * p + q)) ∧ ∃ m, wx = w.drewN m) (fun _ k _ => ((J : Int) + 2 - intOf k).toNat)
        case atStart => exact ⟨0, by omega, by simp, by rw [Hs0.out]; rfl, m, HWR.out⟩
        case round =>
          clear HWR Hs0
          obtain ⟨q, hq2, rfl, rfl, m, hwr⟩ := hrel
          have HWR := hid hwr
          clear hwr
          have u2 : IntKind.i64.wrap ((J : Int) - 1 + (q : Int) + 1) = (J : Int) - 1 + (q : Int) + 1 := by rw [IntKind.wrap_i64]; omega
          obtain ⟨s, hs⟩ : ∃ s, s = psum zs R C rd I J (3 * p + q) := ⟨_, rfl⟩
          rw [← hs]
          have hsb := psum_bd HP.out R C rd I J (3 * p + q)
          rw [← hs] at hsb
          have Hs := hid hs
          clear hs
          by_cases hlt2 : q < 3
          · have hd2 : decide ((J : Int) - 1 + (q : Int) ≤ (J : Int) + 1) = true := by simp; omega
            have hcen : True := trivial
            obtain ⟨S, hS⟩ : ∃ S, S = (((I : Int) - 1 + (p : Int)) % (R : Int)).toNat * C + (((J : Int) - 1 + q) % (C : Int)).toNat := ⟨_, rfl⟩
            have hSn : S < n := by rw [hS, HN.out]; exact pos_bd (rnd_lt _ HR.out.1).2 (rnd_lt _ HC.out.1).2
            have hSi : (S : Int) < (n : Int) := by omega
            have HSn := hid hSn
            have HS := hid hS
            obtain ⟨X, hX⟩ : ∃ X, X = zs.getD S 0 := ⟨_, rfl⟩
            have hxb := plain_bd HP.out S
            rw [← hX] at hxb
            have HX := hid hX
            have hwS : IntKind.i64.wrap (s + X) = s + X := by rw [IntKind.wrap_i64]; omega
            have HPQ := hid (And.intro hlt hlt2)
            have HNC : Hid (¬ (p = 1 ∧ q = 1)) := fun h => hp1 h.1
            have HYB : Hid (-1 ≤ (J : Int) - 1 + (q : Int) ∧ (J : Int) - 1 + (q : Int) ≤ 30) := by simp only [Hid]; omega
            have HXB : Hid (-1 ≤ (I : Int) - 1 + (p : Int) ∧ (I : Int) - 1 + (p : Int) ≤ 30) := by simp only [Hid]; omega
            have HX1 : Hid ((I : Int) - 1 + (p : Int) = (I : Int) - 1 + (p : Int)) := by show (_ : Int) = _; omega
            skip
            clear hS hX hSn hcen
            cases rd with
            | true =>
              have HIF : (true = true ∨ (0 ≤ (I : Int) - 1 + (p : Int) ∧ (I : Int) - 1 + (p : Int) < R ∧ 0 ≤ (J : Int) - 1 + (q : Int) ∧ (J : Int) - 1 + (q : Int) < C)) := .inl rfl
              have HFR : Hid (fr zs R C true ((I : Int) - 1 + (p : Int)) ((J : Int) - 1 + (q : Int)) = X) := by show fr _ _ _ _ _ _ = _; unfold fr; rw [if_pos HIF, HX.out, HS.out]
              have hw0 : wr = w.drewN m := HWR.out
              have hcx : wr.cell? ⟨b, off + S, none⟩ = some (.int .i64 X) := by rw [hw0, HX.out]; exact HCell.out S HSn.out
              have hk0 : wr.cell? ⟨g, 0, none⟩ = some (.int .i64 R) := by rw [hw0]; exact HK.out.1
              have hk1 : wr.cell? ⟨g, 1, none⟩ = some (.int .i64 C) := by rw [hw0]; exact HK.out.2.1
              have hk2 : wr.cell? ⟨g, 2, none⟩ = some (.slice (some ⟨b, off, none⟩) n cap) := by rw [hw0]; exact HK.out.2.2
              clear hw0
              go_wp2_with fail
              
              go_quiet (first | (go_at_call 123; refine Calls.quiet_of (l04RoundX hk0 hk1 HR.out HC.out HS.out HXB.out HYB.out)))
              go_wp2
              go_roundw
              case rel =>
                refine ⟨q + 1, by omega, by go_num, ?_, _, by rw [HWR.out]; exact (World.drewN_drewN _ _ _)⟩
                rw [show 3 * p + (q + 1) = (3 * p + q) + 1 by omega]
                simp only [psum]
                rw [nb_at zs R C true I J HPQ.out.2 HNC.out, HFR.out, ← Hs.out]
              case measure => simp [intOf]; omega
            | false =>
              by_cases h1 : 0 ≤ (I : Int) - 1 + (p : Int) ∧ (I : Int) - 1 + (p : Int) ≤ (R : Int) - 1
              · have d1 : decide (0 ≤ (I : Int) - 1 + (p : Int) ∧ (I : Int) - 1 + (p : Int) ≤ (R : Int) - 1) = true := decide_eq_true h1
                by_cases h2 : 0 ≤ (J : Int) - 1 + (q : Int) ∧ (J : Int) - 1 + (q : Int) ≤ (C : Int) - 1
                · have d2 : decide (0 ≤ (J : Int) - 1 + (q : Int) ∧ (J : Int) - 1 + (q : Int) ≤ (C : Int) - 1) = true := decide_eq_true h2
                  have HIF : (false = true ∨ (0 ≤ (I : Int) - 1 + (p : Int) ∧ (I : Int) - 1 + (p : Int) < R ∧ 0 ≤ (J : Int) - 1 + (q : Int) ∧ (J : Int) - 1 + (q : Int) < C)) := .inr ⟨h1.1, by omega, h2.1, by omega⟩
                  have HFR : Hid (fr zs R C false ((I : Int) - 1 + (p : Int)) ((J : Int) - 1 + (q : Int)) = X) := by show fr _ _ _ _ _ _ = _; unfold fr; rw [if_pos HIF, HX.out, HS.out]
                  have D1 := hid d1
                  have D2 := hid d2
                  clear d1 d2 h1 h2 HIF
                  have hk0 : wr.cell? ⟨g, 0, none⟩ = some (.int .i64 R) := by rw [HWR.out]; exact HK.out.1
                  have hk1 : wr.cell? ⟨g, 1, none⟩ = some (.int .i64 C) := by rw [HWR.out]; exact HK.out.2.1
                  go_wp2_with fail
                  go_at_call 55
                  refine inB.mono ?_
                  rw [D1.out]
                  rintro e w3 ⟨rfl, rfl⟩
                  go_wp2_with fail
                  go_at_call 55
                  refine inB.mono ?_
                  rw [D2.out]
                  rintro e w3 ⟨rfl, rfl⟩
                  clear hk0 hk1
                  have hw0 : wr = w.drewN m := HWR.out
                  have hcx : wr.cell? ⟨b, off + S, none⟩ = some (.int .i64 X) := by rw [hw0, HX.out]; exact HCell.out S HSn.out
                  have hk0 : wr.cell? ⟨g, 0, none⟩ = some (.int .i64 R) := by rw [hw0]; exact HK.out.1
                  have hk1 : wr.cell? ⟨g, 1, none⟩ = some (.int .i64 C) := by rw [hw0]; exact HK.out.2.1
                  have hk2 : wr.cell? ⟨g, 2, none⟩ = some (.slice (some ⟨b, off, none⟩) n cap) := by rw [hw0]; exact HK.out.2.2
                  clear hw0
                  go_wp2_with fail
                  
                  go_quiet (first | (go_at_call 123; refine Calls.quiet_of (l04RoundX hk0 hk1 HR.out HC.out HS.out HXB.out HYB.out)))
                  go_wp2
                  go_roundw
                  case rel =>
                    refine ⟨q + 1, by omega, by go_num, ?_, _, by rw [HWR.out]; exact (World.drewN_drewN _ _ _)⟩
                    rw [show 3 * p + (q + 1) = (3 * p + q) + 1 by omega]
                    simp only [psum]
                    rw [nb_at zs R C false I J HPQ.out.2 HNC.out, HFR.out, ← Hs.out]
                  case measure => simp [intOf]; omega
                · have d2 : decide (0 ≤ (J : Int) - 1 + (q : Int) ∧ (J : Int) - 1 + (q : Int) ≤ (C : Int) - 1) = false := decide_eq_false h2
                  have HIF : ¬ (false = true ∨ (0 ≤ (I : Int) - 1 + (p : Int) ∧ (I : Int) - 1 + (p : Int) < R ∧ 0 ≤ (J : Int) - 1 + (q : Int) ∧ (J : Int) - 1 + (q : Int) < C)) := by
                    rintro (hh | ⟨_, _, h5, h6⟩)
                    · cases hh
                    · exact h2 ⟨h5, by omega⟩
                  have HFR : Hid (fr zs R C false ((I : Int) - 1 + (p : Int)) ((J : Int) - 1 + (q : Int)) = 0) := by show fr _ _ _ _ _ _ = _; unfold fr; rw [if_neg HIF]
                  have D1 := hid d1
                  have D2 := hid d2
                  clear d1 d2 h1 h2 HIF
                  have hk0 : wr.cell? ⟨g, 0, none⟩ = some (.int .i64 R) := by rw [HWR.out]; exact HK.out.1
                  have hk1 : wr.cell? ⟨g, 1, none⟩ = some (.int .i64 C) := by rw [HWR.out]; exact HK.out.2.1
                  go_wp2_with fail
                  go_at_call 55
                  refine inB.mono ?_
                  rw [D1.out]
                  rintro e w3 ⟨rfl, rfl⟩
                  go_wp2_with fail
                  go_at_call 55
                  refine inB.mono ?_
                  rw [D2.out]
                  rintro e w3 ⟨rfl, rfl⟩
                  clear hk0 hk1
                  go_wp2
                  go_roundw
                  case rel =>
                    refine ⟨q + 1, by omega, by go_num, ?_, m, HWR.out⟩
                    rw [show 3 * p + (q + 1) = (3 * p + q) + 1 by omega]
                    simp only [psum]
                    rw [nb_at zs R C false I J HPQ.out.2 HNC.out, HFR.out, ← Hs.out]
                    simp
                  case measure => simp [intOf]; omega
              · have d1 : decide (0 ≤ (I : Int) - 1 + (p : Int) ∧ (I : Int) - 1 + (p : Int) ≤ (R : Int) - 1) = false := decide_eq_false h1
                have HIF : ¬ (false = true ∨ (0 ≤ (I : Int) - 1 + (p : Int) ∧ (I : Int) - 1 + (p : Int) < R ∧ 0 ≤ (J : Int) - 1 + (q : Int) ∧ (J : Int) - 1 + (q : Int) < C)) := by
                  rintro (hh | ⟨h5, h6, _, _⟩)
                  · cases hh
                  · exact h1 ⟨h5, by omega⟩
                have HFR : Hid (fr zs R C false ((I : Int) - 1 + (p : Int)) ((J : Int) - 1 + (q : Int)) = 0) := by show fr _ _ _ _ _ _ = _; unfold fr; rw [if_neg HIF]
                have D1 := hid d1
                clear d1 h1 HIF
                have hk0 : wr.cell? ⟨g, 0, none⟩ = some (.int .i64 R) := by rw [HWR.out]; exact HK.out.1
                have hk1 : wr.cell? ⟨g, 1, none⟩ = some (.int .i64 C) := by rw [HWR.out]; exact HK.out.2.1
                go_wp2_with fail
                go_at_call 55
                refine inB.mono ?_
                rw [D1.out]
                rintro e w3 ⟨rfl, rfl⟩
                clear hk0 hk1
                go_wp2
                go_roundw
                case rel =>
                  refine ⟨q + 1, by omega, by go_num, ?_, m, HWR.out⟩
                  rw [show 3 * p + (q + 1) = (3 * p + q) + 1 by omega]
                  simp only [psum]
                  rw [nb_at zs R C false I J HPQ.out.2 HNC.out, HFR.out, ← Hs.out]
                  simp
                case measure => simp [intOf]; omega
          · have hq3 : q = 3 := by omega
            have hd2 : decide ((J : Int) - 1 + (q : Int) ≤ (J : Int) + 1) = false := by simp; omega
            go_wp2
            go_roundw
            case rel =>
              refine ⟨p + 1, by omega, by go_num, ?_, m, HWR.out⟩
              rw [Hs.out, show 3 * (p + 1) = 3 * p + q by omega]
            case measure => simp [intOf]; omega
    · have hp3 : p = 3 := by omega
      have hd : decide ((I : Int) - 1 + (p : Int) ≤ (I : Int) + 1) = false := by simp; omega
      obtain ⟨s, hs⟩ : ∃ s, s = psum zs R C rd I J (3 * p) := ⟨_, rfl⟩
      rw [← hs]
      have Hs : Hid (s = A) := by simp only [Hid]; rw [hs, hp3, HA.out]; rfl
      clear hs
      go_wp2
      go_ret
      exact ⟨by rw [← Hs.out]; rfl, m, HWR.out⟩

end Go.Proofs.Ythcbhbdgbiiagaa.Lf
