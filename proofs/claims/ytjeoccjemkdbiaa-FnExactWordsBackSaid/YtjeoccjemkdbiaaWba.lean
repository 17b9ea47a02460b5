/- How many words lead to a word: both sides. -/
import Derived.Test.YtjeoccjemkdbiaaWbs
namespace Go.Proofs.Ytjeoccjemkdbiaa.Wba
open Go.RowKit Go.Proofs.Ytjeoccjemkdbiaa.Rd Go.Proofs.Ytjeoccjemkdbiaa.Help Go.Proofs.Ytjeoccjemkdbiaa.Ring Go.Proofs.Ytjeoccjemkdbiaa.Small Go.Proofs.Ytjeoccjemkdbiaa.Num Go.Proofs.Ytjeoccjemkdbiaa.Keep Go.Proofs.Ytjeoccjemkdbiaa.Rule Go.Proofs.Ytjeoccjemkdbiaa.Lnk Go.Proofs.Ytjeoccjemkdbiaa.LnkP Go.Proofs.Ytjeoccjemkdbiaa.Wbi Go.Proofs.Ytjeoccjemkdbiaa.Wbs
set_option linter.unusedVariables false

theorem same {T : List Int} {S n : Nat} (hn : 0 < n) (zs : List Int) : (fwds T S n zs (List.replicate n 1)).sum = (bwds T S n zs (List.replicate n 1)).sum := by
  have h1 := adjs T S n hn (after := List.replicate n 1) (by simp) zs (List.replicate n 1) (by simp)
  rw [dot_ones _ n (fwds_len T S n _ _ (by simp)), dot_comm, dot_ones _ n (bwds_len T S n _ _ (by simp))] at h1
  exact h1

theorem agree (s r : Int) (tbl zs : List Int) : ∃ (q0 : Int) (q1 : Bool),
    (∀ (w : World) (b : Nat) (v : Value), Rd w b v tbl → ∀ (bw : Nat) (vw : Value), Rd w bw vw zs → Calls Try.prog 15 #[ruleV s r v, vw] w fun e w' => e = .returned (.tuple #[.int .i64 q0, .bool q1]) ∧ Below w.heap.size w w') ∧
    (∀ (w : World) (b : Nat) (v : Value), Rd w b v tbl → ∀ (bw : Nat) (vw : Value), Rd w bw vw zs → Calls Try.prog 16 #[ruleV s r v, vw] w fun e w' => e = .returned (.tuple #[.int .i64 q0, .bool q1]) ∧ Below w.heap.size w w') := by
  by_cases hv : validB s r tbl = true ∧ wordB zs s = true
  · obtain ⟨S, n, rfl, hk, _⟩ := lk_of hv.1
    refine ⟨(fwds tbl S n zs (List.replicate n 1)).sum, true, fun w b v h bw vw hw => specOk hk hv.1 h hw hv.2, fun w b v h bw vw hw => ?_⟩
    rw [same (by obtain ⟨_, _, _, _, h5⟩ := hk; omega)]
    exact implOk hk hv.1 h hw hv.2
  · exact ⟨0, false, fun w b v h bw vw hw => specNo h hw hv, fun w b v h bw vw hw => implNo h hw hv⟩
end Go.Proofs.Ytjeoccjemkdbiaa.Wba
