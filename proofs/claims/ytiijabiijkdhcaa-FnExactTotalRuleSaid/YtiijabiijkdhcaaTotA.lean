/- TotalRule: both sides agree. -/
import Derived.Test.YtiijabiijkdhcaaTotS
namespace Go.Proofs.Ytiijabiijkdhcaa.TotA
open Go.RowKit Go.Proofs.Ytiijabiijkdhcaa.Rd Go.Proofs.Ytiijabiijkdhcaa.Help Go.Proofs.Ytiijabiijkdhcaa.App Go.Proofs.Ytiijabiijkdhcaa.Ring Go.Proofs.Ytiijabiijkdhcaa.Small Go.Proofs.Ytiijabiijkdhcaa.Num Go.Proofs.Ytiijabiijkdhcaa.Keep Go.Proofs.Ytiijabiijkdhcaa.Rule Go.Proofs.Ytiijabiijkdhcaa.Dig Go.Proofs.Ytiijabiijkdhcaa.DigP Go.Proofs.Ytiijabiijkdhcaa.Tell Go.Proofs.Ytiijabiijkdhcaa.Weigh Go.Proofs.Ytiijabiijkdhcaa.Give Go.Proofs.Ytiijabiijkdhcaa.Tot Go.Proofs.Ytiijabiijkdhcaa.TotS
set_option linter.unusedVariables false
set_option linter.unusedSimpArgs false
set_option maxRecDepth 4000

theorem all_of {s : Int} {zs : List Int} (h : ∀ k, k < zs.length → 0 ≤ zs.getD k 0 ∧ zs.getD k 0 ≤ s - 1) : allB zs s = true := by
  simp only [allB, List.all_eq_true]
  intro x hx
  obtain ⟨k, hk, rfl⟩ := List.getElem_of_mem hx
  have := h k hk
  simp only [List.getD, List.getElem?_eq_getElem hk, Option.getD_some] at this
  simp [okB]; exact this

theorem hit21 : ∀ i, i < 2 → ∃ k, k < 2 ∧ sumL (dig 2 (k : Nat) 1) = ((i : Nat) : Int) := by decide +kernel
theorem hit23 : ∀ i, i < 4 → ∃ k, k < 8 ∧ sumL (dig 2 (k : Nat) 3) = ((i : Nat) : Int) := by decide +kernel
theorem hit25 : ∀ i, i < 6 → ∃ k, k < 32 ∧ sumL (dig 2 (k : Nat) 5) = ((i : Nat) : Int) := by decide +kernel
theorem hit31 : ∀ i, i < 3 → ∃ k, k < 3 ∧ sumL (dig 3 (k : Nat) 1) = ((i : Nat) : Int) := by decide +kernel
theorem hit33 : ∀ i, i < 7 → ∃ k, k < 27 ∧ sumL (dig 3 (k : Nat) 3) = ((i : Nat) : Int) := by decide +kernel
theorem hit35 : ∀ i, i < 11 → ∃ k, k < 243 ∧ sumL (dig 3 (k : Nat) 5) = ((i : Nat) : Int) := by decide +kernel

theorem hit {s r : Int} {L M : Nat} (hs : 2 ≤ s ∧ s ≤ 3) (hr : 0 ≤ r ∧ r ≤ 2) (hL : (L : Int) = 2 * r + 1) (hM : (M : Int) = s ^ L) {i : Nat} (hi : (i : Int) < (2 * r + 1) * (s - 1) + 1) :
    ∃ k, k < M ∧ sumL (dig s (k : Nat) L) = (i : Int) := by
  rcases (show s = 2 ∨ s = 3 by omega) with rfl | rfl <;> rcases (show L = 1 ∨ L = 3 ∨ L = 5 by omega) with rfl | rfl | rfl
  · have : M = 2 := by have h : (M : Int) = 2 := by rw [hM]; rfl
                       omega
    subst this; exact hit21 i (by omega)
  · have : M = 8 := by have h : (M : Int) = 8 := by rw [hM]; rfl
                       omega
    subst this; exact hit23 i (by omega)
  · have : M = 32 := by have h : (M : Int) = 32 := by rw [hM]; rfl
                        omega
    subst this; exact hit25 i (by omega)
  · have : M = 3 := by have h : (M : Int) = 3 := by rw [hM]; rfl
                       omega
    subst this; exact hit31 i (by omega)
  · have : M = 27 := by have h : (M : Int) = 27 := by rw [hM]; rfl
                        omega
    subst this; exact hit33 i (by omega)
  · have : M = 243 := by have h : (M : Int) = 243 := by rw [hM]; rfl
                         omega
    subst this; exact hit35 i (by omega)

theorem tab_valid {s r : Int} {L M : Nat} {told : List Int} (hs : 2 ≤ s ∧ s ≤ 3) (hr : 0 ≤ r ∧ r ≤ 2) (hL : (L : Int) = 2 * r + 1) (hM : (M : Int) = s ^ L) (hl : (told.length : Int) = (2 * r + 1) * (s - 1) + 1) :
    validB s r (tab (totT s told L) M) = allB told s := by
  have hlen : ((tab (totT s told L) M).length : Int) = s ^ (2 * r + 1).toNat := by rw [tab_length, hM]; congr 1; omega
  have hsh : shapeB s r = true := by simp [shapeB]; omega
  have hv : validB s r (tab (totT s told L) M) = allB (tab (totT s told L) M) s := by
    unfold validB
    rw [hsh, decide_eq_true hlen]; rfl
  rw [hv, Bool.eq_iff_iff]
  constructor
  · intro h
    refine all_of fun i hi => ?_
    obtain ⟨k, hk, he⟩ := hit hs hr hL hM (i := i) (by omega)
    have h1 := all_get h (i := k) (by rw [tab_length]; exact hk)
    rw [tab_get _ _ _ hk] at h1
    unfold totT at h1
    rw [he] at h1
    simpa using h1
  · intro h
    refine all_of fun k hk => ?_
    rw [tab_length] at hk
    rw [tab_get _ _ _ hk]
    unfold totT
    have h1 := sumL_bd hs (dig_all hs (k : Int) L)
    rw [dig_length, hL] at h1
    exact all_get h (by omega)

theorem agree (s r : Int) (told : List Int) (hz : told.length ≤ 1048576) : ∃ (qs qr : Int) (rs : List Int) (ok : Bool), rs.length ≤ 1000000 ∧
    (∀ (w : World) (b : Nat) (v : Value), Rd w b v told → Calls Try.prog 23 #[.int .i64 s, .int .i64 r, v] w fun e w' => ∃ ao c b', e = .returned (.tuple #[ruleV qs qr (.slice ao rs.length c), .bool ok]) ∧ Own 2 w' b' (.slice ao rs.length c) rs ∧ w.heap.size ≤ b' ∧ Below w.heap.size w w') ∧
    (∀ (w : World) (b : Nat) (v : Value), Rd w b v told → Calls Try.prog 25 #[.int .i64 s, .int .i64 r, v] w fun e w' => ∃ ao c b', e = .returned (.tuple #[ruleV qs qr (.slice ao rs.length c), .bool ok]) ∧ Own 2 w' b' (.slice ao rs.length c) rs ∧ w.heap.size ≤ b' ∧ Below w.heap.size w w') := by
  have no : ∀ {f : FuncId} {w : World} {v : Value}, Calls Try.prog f #[.int .i64 s, .int .i64 r, v] w (fun e w' => e = .returned (.tuple #[ruleV 0 0 (.slice none 0 0), .bool false]) ∧ Below w.heap.size w w') →
      Calls Try.prog f #[.int .i64 s, .int .i64 r, v] w fun e w' => ∃ ao c b', e = .returned (.tuple #[ruleV 0 0 (.slice ao ([] : List Int).length c), .bool false]) ∧ Own 2 w' b' (.slice ao ([] : List Int).length c) [] ∧ w.heap.size ≤ b' ∧ Below w.heap.size w w' := by
    intro f w v hc
    refine hc.mono ?_
    rintro e w' ⟨rfl, bel⟩
    exact ⟨none, 0, w.heap.size, rfl, Own.nil _ _ _, Nat.le_refl _, bel⟩
  by_cases hs : 2 ≤ s ∧ s ≤ 3
  · by_cases hr : 0 ≤ r ∧ r ≤ 2
    · have hsh : shapeB s r = true := by simp [shapeB]; omega
      by_cases hl : (told.length : Int) = (2 * r + 1) * (s - 1) + 1
      · obtain ⟨L, hL⟩ : ∃ L : Nat, (L : Int) = 2 * r + 1 := ⟨(2 * r + 1).toNat, by omega⟩
        obtain ⟨M, hM⟩ : ∃ M : Nat, (M : Int) = s ^ L := ⟨(s ^ L).toNat, by have := pow_pos' hs L; omega⟩
        have hM2 : M ≤ 243 := by have := (pow_bd hs (show L ≤ 5 by omega)).2; omega
        have hLn : (2 * r + 1).toNat = L := by omega
        have hM' : (M : Int) = s ^ (2 * r + 1).toNat := by rw [hM, hLn]
        have hv := tab_valid hs hr hL hM hl
        cases hw : allB told s with
        | true =>
          rw [hw] at hv
          refine ⟨s, r, tab (totT s told L) M, true, by rw [tab_length]; omega, fun w b v h => ?_, fun w b v h => ?_⟩
          · refine (specOk rfl h hs hr hL hM hl hv).mono ?_
            rintro e w' ⟨v', b', rfl, own, lo, bel⟩
            rcases own.form with ⟨rfl, hz⟩ | ⟨c', rfl, _⟩
            · refine ⟨none, 0, b', ?_, ?_, lo, bel⟩
              · rw [hz]; rfl
              · rw [hz] at own ⊢; exact own
            · exact ⟨_, _, b', rfl, own, lo, bel⟩
          · refine (implTotOk h hs hr hl hM' hw).mono ?_
            rw [hLn]
            rintro e w' ⟨b', rfl, own, lo, bel⟩
            rw [tab_length]
            exact ⟨_, _, b', rfl, own, lo, bel⟩
        | false =>
          rw [hw] at hv
          exact ⟨0, 0, [], false, by simp, fun w b v h => no (specNoD rfl h hs hr hL hM hl hv), fun w b v h => no (implNoC h hsh hl hw)⟩
      · exact ⟨0, 0, [], false, by simp, fun w b v h => no (specNoC h hs hr hl), fun w b v h => no (implNoB h hsh hl)⟩
    · exact ⟨0, 0, [], false, by simp, fun w b v h => no (specNoB h hs hr), fun w b v h => no (implNoA h (by simp [shapeB]; omega))⟩
  · exact ⟨0, 0, [], false, by simp, fun w b v h => no (specNoA h hs), fun w b v h => no (implNoA h (by simp [shapeB]; omega))⟩

end Go.Proofs.Ytiijabiijkdhcaa.TotA
