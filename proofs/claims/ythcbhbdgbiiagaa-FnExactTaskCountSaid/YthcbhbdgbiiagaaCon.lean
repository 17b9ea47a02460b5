/- slices.Index and slices.Contains over []int64. -/
import Derived.Test.YthcbhbdgbiiagaaRing
import Derived.Test.YthcbhbdgbiiagaaKit0
import Derived.Test.YthcbhbdgbiiagaaSmall
namespace Go.Proofs.Ythcbhbdgbiiagaa.Con
open Go.RowKit Go.Proofs.Ythcbhbdgbiiagaa.Rd Go.Proofs.Ythcbhbdgbiiagaa.Help Go.Proofs.Ythcbhbdgbiiagaa.Ring Go.Proofs.Ythcbhbdgbiiagaa.Small Go.Proofs.Ythcbhbdgbiiagaa.Keep Go.Proofs.Ythcbhbdgbiiagaa.Rule
set_option linter.unusedVariables false
set_option linter.unusedSimpArgs false

theorem index {w : World} {b : Nat} {v : Value} {zs : List Int} {x : Int} (h : Rd w b v zs) :
    Calls Try.prog 134 #[v, .int .i64 x] w fun e w' => ∃ r : Int, e = .returned (.int .i64 r) ∧ decide (0 ≤ r) = zs.contains x ∧ w = w' := by
  obtain ⟨ao, cap, rfl, hc, hm, h4⟩ := h
  have hsz : zs.length ≤ cap ∧ cap ≤ 9223372036854775807 := by unfold maxLen at hm; omega
  have H4 := hid h4
  obtain ⟨Q, hQ⟩ : ∃ Q, Q = zs.contains x := ⟨_, rfl⟩
  rw [← hQ]
  have HQ := hid hQ
  clear hc hm h4 hQ
  go_enter Try.func134, Try.ntmps134
  go_wp2
  go_loop [8] (fun i => ∃ p : Nat, p ≤ zs.length ∧ i = .int .i64 p ∧ (∀ j, j < p → zs.getD j 0 ≠ x)) (fun i => zs.length - (intOf i).toNat)
  case atStart => exact ⟨0, Nat.zero_le _, rfl, fun j hj => by omega⟩
  case round =>
    obtain ⟨p, hp, rfl, hall⟩ := hrel
    by_cases hlt : p < zs.length
    · obtain ⟨off, hao, hb, hcell⟩ := H4.out (by omega)
      subst hao
      obtain ⟨y, hy⟩ : ∃ y, y = zs.getD p 0 := ⟨_, rfl⟩
      have hcx : w.cell? ⟨b, off + p, none⟩ = some (.int .i64 y) := by rw [hy]; exact hcell p hlt
      have HA := hid hall
      have hpi : (p : Int) < (zs.length : Int) := by omega
      by_cases hyx : x = y
      · have hd : decide (x = y) = true := by simp [hyx]
        have HY := hid (And.intro hy hyx)
        have HC : Hid (zs.contains x = true) := by
          have hm' : zs.getD p 0 ∈ zs := by rw [List.getD_eq_getElem?_getD, List.getElem?_eq_getElem hlt]; exact List.getElem_mem hlt
          rw [← hy, ← hyx] at hm'
          show zs.contains x = true
          simpa using hm'
        clear hall hy hcell
        subst hyx
        go_wp2
        go_ret
        exact ⟨_, rfl, by rw [HQ.out, HC.out]; simp, rfl⟩
      · have hd : (x == y) = false := by simp [hyx]
        have HY := hid (And.intro hy hyx)
        clear hall hy hcell
        go_wp2
        go_round
        case rel =>
          refine ⟨p + 1, by omega, by go_num, fun j hj => ?_⟩
          by_cases hjp : j = p
          · rw [hjp, ← HY.out.1]; exact fun e => HY.out.2 e.symm
          · exact HA.out j (by omega)
        case measure => simp [intOf]; omega
    · have hpC : zs.length = p := by omega
      have HC : Hid (zs.contains x = false) := by
        simp only [Hid]
        rw [Bool.eq_false_iff]
        intro hc
        have hc2 : x ∈ zs := by simpa using hc
        obtain ⟨j, hj, hjx⟩ := List.mem_iff_getElem.1 hc2
        exact hall j (by omega) (by rw [List.getD_eq_getElem?_getD, List.getElem?_eq_getElem hj]; exact hjx)
      clear hall
      go_wp2
      go_ret
      exact ⟨_, rfl, by rw [HQ.out, HC.out]; rfl, rfl⟩
theorem contains {w : World} {b : Nat} {v : Value} {zs : List Int} {x : Int} (h : Rd w b v zs) :
    Calls Try.prog 116 #[v, .int .i64 x] w fun e w' => e = .returned (.bool (zs.contains x)) ∧ w = w' := by
  have HH := hid h
  obtain ⟨ao, cap, rfl, hc, hm, h4⟩ := h
  obtain ⟨Q, hQ⟩ : ∃ Q, Q = zs.contains x := ⟨_, rfl⟩
  rw [← hQ]
  have HQ := hid hQ
  clear hc hm h4 hQ
  go_enter Try.func116, Try.ntmps116
  go_wp2_with fail
  go_at_call 134
  refine (index HH.out).mono ?_
  rintro e w' ⟨r, rfl, hr, rfl⟩
  rw [← HQ.out] at hr
  have HR := hid hr
  clear hr
  go_wp2
  go_ret
  exact ⟨congrArg (fun q => Ending.returned (Value.bool q)) HR.out, rfl⟩

end Go.Proofs.Ythcbhbdgbiiagaa.Con
