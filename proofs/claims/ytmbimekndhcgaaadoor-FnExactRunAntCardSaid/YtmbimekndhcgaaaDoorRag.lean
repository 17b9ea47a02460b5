/- RunAnt: both sides agree. -/
import Derived.Test.YtmbimekndhcgaaaDoorRas
namespace Go.Proofs.YtmbimekndhcgaaaDoor.Rag
open Go.RowKit Go.Proofs.YtmbimekndhcgaaaDoor.Rd Go.Proofs.YtmbimekndhcgaaaDoor.Help Go.Proofs.YtmbimekndhcgaaaDoor.Ring Go.Proofs.YtmbimekndhcgaaaDoor.Small Go.Proofs.YtmbimekndhcgaaaDoor.FVal Go.Proofs.YtmbimekndhcgaaaDoor.Keep Go.Proofs.YtmbimekndhcgaaaDoor.Rule Go.Proofs.YtmbimekndhcgaaaDoor.Grow Go.Proofs.YtmbimekndhcgaaaDoor.Bes Go.Proofs.YtmbimekndhcgaaaDoor.Box Go.Proofs.YtmbimekndhcgaaaDoor.Ant Go.Proofs.YtmbimekndhcgaaaDoor.Wlk
set_option linter.unusedVariables false
set_option linter.unusedSimpArgs false

theorem agree (s r : Int) (zs : List Int) (row col way steps : Int) : ∃ (qs qr : Int) (rs : List Int) (i1 i2 i3 : Int) (ok : Bool), rs.length ≤ 1000000 ∧
    (∀ (w : World) (b : Nat) (v : Value), Rd w b v zs → Calls Tryd.prog 5 #[ruleV s r v, .int .i64 row, .int .i64 col, .int .i64 way, .int .i64 steps] w fun e w' => ∃ ao c b', e = .returned (.tuple #[ruleV qs qr (.slice ao rs.length c), .int .i64 i1, .int .i64 i2, .int .i64 i3, .bool ok]) ∧ Rd.Own 2 w' b' (.slice ao rs.length c) rs ∧ w.heap.size ≤ b' ∧ Below w.heap.size w w') ∧
    (∀ (w : World) (b : Nat) (v : Value), GW w → Rd w b v zs → Calls Tryd.prog 7 #[ruleV s r v, .int .i64 row, .int .i64 col, .int .i64 way, .int .i64 steps] w fun e w' => ∃ ao c b', e = .returned (.tuple #[ruleV qs qr (.slice ao rs.length c), .int .i64 i1, .int .i64 i2, .int .i64 i3, .bool ok]) ∧ Rd.Own 2 w' b' (.slice ao rs.length c) rs ∧ w.heap.size ≤ b' ∧ Below w.heap.size w w') := by
  have fail : ∀ {w w' : World} {e : Ending}, e = .returned (.tuple #[ruleV 0 0 (.slice none 0 0), .int .i64 0, .int .i64 0, .int .i64 0, .bool false]) ∧ Below w.heap.size w w' → ∃ ao c b', e = .returned (.tuple #[ruleV 0 0 (.slice ao ([] : List Int).length c), .int .i64 0, .int .i64 0, .int .i64 0, .bool false]) ∧ Rd.Own 2 w' b' (.slice ao ([] : List Int).length c) [] ∧ w.heap.size ≤ b' ∧ Below w.heap.size w w' := by
    rintro w w' e ⟨rfl, bel⟩
    exact ⟨none, 0, w.heap.size, rfl, Rd.Own.nil _ _ _, Nat.le_refl _, bel⟩
  cases q1 : (fieldB s r zs && allB zs 2) with
  | false => exact ⟨0, 0, [], 0, 0, 0, false, by simp, fun w b v h => (Ras.specNo1 h q1).mono fun _ _ => fail, fun w b v _ h => (Ran.implNo1 h q1).mono fun _ _ => fail⟩
  | true =>
    cases q2 : decide (0 ≤ row ∧ row ≤ s - 1) with
    | false => exact ⟨0, 0, [], 0, 0, 0, false, by simp, fun w b v h => (Ras.specNo2 h q1 q2).mono fun _ _ => fail, fun w b v _ h => (Ran.implNo23 h q1 (by rw [q2]; rfl)).mono fun _ _ => fail⟩
    | true =>
      cases q3 : decide (0 ≤ col ∧ col ≤ r - 1) with
      | false => exact ⟨0, 0, [], 0, 0, 0, false, by simp, fun w b v h => (Ras.specNo3 h q1 q2 q3).mono fun _ _ => fail, fun w b v _ h => (Ran.implNo23 h q1 (by rw [q2, q3]; rfl)).mono fun _ _ => fail⟩
      | true =>
        have q23 : (decide (0 ≤ row ∧ row ≤ s - 1) && decide (0 ≤ col ∧ col ≤ r - 1)) = true := by rw [q2, q3]; rfl
        cases q4 : decide (0 ≤ way ∧ way ≤ 3) with
        | false => exact ⟨0, 0, [], 0, 0, 0, false, by simp, fun w b v h => (Ras.specNo4 h q1 q2 q3 q4).mono fun _ _ => fail, fun w b v _ h => (Ran.implNo4 h q1 q23 q4).mono fun _ _ => fail⟩
        | true =>
          cases q5 : decide (0 ≤ steps ∧ steps ≤ 4096) with
          | false => exact ⟨0, 0, [], 0, 0, 0, false, by simp, fun w b v h => (Ras.specNo5 h q1 q2 q3 q4 q5).mono fun _ _ => fail, fun w b v _ h => (Ran.implNo5 h q1 q23 q4 q5).mono fun _ _ => fail⟩
          | true =>
            have hf : fieldB s r zs = true := by simp only [Bool.and_eq_true] at q1; exact q1.1
            have ha : allB zs 2 = true := by simp only [Bool.and_eq_true] at q1; exact q1.2
            have hb : (1 ≤ s ∧ s ≤ 24) ∧ 1 ≤ r ∧ r ≤ 24 := by
              have hq2 := hf
              simp only [fieldB, Bool.and_eq_true] at hq2
              have := hq2.1
              simp [sidesB] at this; omega
            have d2 := q2
            simp only [decide_eq_true_eq] at d2
            have d3 := q3
            simp only [decide_eq_true_eq] at d3
            have d4 := q4
            simp only [decide_eq_true_eq] at d4
            have d5 := q5
            simp only [decide_eq_true_eq] at d5
            obtain ⟨R, rfl⟩ := Int.eq_ofNat_of_zero_le (show 0 ≤ s by omega)
            obtain ⟨C, rfl⟩ := Int.eq_ofNat_of_zero_le (show 0 ≤ r by omega)
            obtain ⟨r0, rfl⟩ := Int.eq_ofNat_of_zero_le (show 0 ≤ row by omega)
            obtain ⟨k0, rfl⟩ := Int.eq_ofNat_of_zero_le (show 0 ≤ col by omega)
            obtain ⟨S, rfl⟩ := Int.eq_ofNat_of_zero_le (show 0 ≤ steps by omega)
            obtain ⟨hR, hC, hl, hle⟩ := field_nat hf
            have hok : okS R C (R * C) ⟨zs, r0, k0, way⟩ := by
              refine ⟨hl, fun i => ?_, by show r0 < R; omega, by show k0 < C; omega, d4.1, d4.2⟩
              have h1 := Lf.plain_bd (zs := zs) (by rw [Can.plain_eq]; exact ha) i
              show zs.getD i 0 = 0 ∨ zs.getD i 0 = 1
              omega
            have hlen : (run R C ⟨zs, r0, k0, way⟩ S).z.length = R * C := (ok_run rfl hok S).1
            refine ⟨R, C, (run R C ⟨zs, r0, k0, way⟩ S).z, ((run R C ⟨zs, r0, k0, way⟩ S).r : Int), ((run R C ⟨zs, r0, k0, way⟩ S).c : Int), (run R C ⟨zs, r0, k0, way⟩ S).y, true, by rw [hlen]; omega, fun w b v h => (Ras.specOk h q1 rfl (by omega) (by omega) d4 (by omega) hok).mono ?_, fun w b v hg h => (Ran.implOk h q1 rfl (by omega) (by omega) d4 (by omega) hok hg).mono ?_⟩
            · rintro e w' ⟨b', k, rfl, ow, lo, bel⟩
              exact ⟨some ⟨b', 0, none⟩, k, b', by rw [hlen], by rw [hlen]; exact ow, lo, bel⟩
            · rintro e w' ⟨b', k, rfl, ow, lo, bel⟩
              exact ⟨some ⟨b', 0, none⟩, k, b', by rw [hlen], by rw [hlen]; exact ow, lo, bel⟩

end Go.Proofs.YtmbimekndhcgaaaDoor.Rag
