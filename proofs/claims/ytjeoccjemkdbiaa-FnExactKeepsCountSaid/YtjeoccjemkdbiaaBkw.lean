/- Going backwards through a list; sums. -/
import Derived.Test.YtjeoccjemkdbiaaWbf
namespace Go.Proofs.Ytjeoccjemkdbiaa.Bkw
open Go.RowKit Go.Shelf Go.Proofs.Ytjeoccjemkdbiaa.Rd Go.Proofs.Ytjeoccjemkdbiaa.Help Go.Proofs.Ytjeoccjemkdbiaa.Ring Go.Proofs.Ytjeoccjemkdbiaa.Small Go.Proofs.Ytjeoccjemkdbiaa.Num Go.Proofs.Ytjeoccjemkdbiaa.Keep Go.Proofs.Ytjeoccjemkdbiaa.Rule Go.Proofs.Ytjeoccjemkdbiaa.Lnk Go.Proofs.Ytjeoccjemkdbiaa.LnkP Go.Proofs.Ytjeoccjemkdbiaa.LnkI Go.Proofs.Ytjeoccjemkdbiaa.Box
set_option linter.unusedVariables false
set_option linter.unusedSimpArgs false
attribute [local go_sem] Oper.semAt_some

def encB (zs : List Int) (N : Nat) (x : Li N) : Array Value := #[.int .i64 (x.1 : Int), .int .i64 (zs.getD x.1 0)]
/-- The places from the last one on. -/
def bkL (N k : Nat) : List Nat := (List.range k).map (fun j => N - 1 - j)
theorem bk_succ (N k : Nat) : bkL N (k + 1) = bkL N k ++ [N - 1 - k] := by unfold bkL; rw [List.range_succ]; simp
theorem bk_pre {N j m : Nat} (h : j ≤ m) : bkL N j <+: bkL N m := by
  induction m with
  | zero => rw [show j = 0 by omega]; exact List.prefix_refl _
  | succ m ih =>
    by_cases hj : j = m + 1
    · rw [hj]; exact List.prefix_refl _
    · exact (ih (by omega)).trans (by rw [bk_succ]; exact ⟨_, rfl⟩)
def CapB (W : World) (NS b off N cap : Nat) (zs : List Int) : Prop := W.heap[NS]? = some (Obj.cells #[(.slice (some ⟨b, off, none⟩) N cap)] 22) ∧ (b < W.heap.size ∧ ∀ i, i < N → W.cell? ⟨b, off + i, none⟩ = some (.int .i64 (zs.getD i 0)))
theorem CapB.kp {W W' : World} {NS b off N cap : Nat} {zs : List Int} (h : CapB W NS b off N cap zs) (k : KpL NS NS NS b W W') : CapB W' NS b off N cap zs := by
  obtain ⟨h1, h4, h5⟩ := h
  have kb := k.2 b (.inr (.inr (.inr rfl)))
  exact ⟨(k.2 NS (.inl rfl)).trans h1, LnkI.heap_lt kb h4, fun i hi => (cell_heap (p := ⟨b, off + i, none⟩) kb).trans (h5 i hi)⟩
theorem CapB.bel {W W' : World} {NS b off N cap : Nat} {zs : List Int} (h : CapB W NS b off N cap zs) (bel : Below W.heap.size W W') : CapB W' NS b off N cap zs :=
  h.kp ⟨bel.size, fun k hk => bel.block k (by have h1 := (Array.getElem?_eq_some_iff.1 h.1).1; have h2 := h.2.1; rcases hk with rfl | rfl | rfl | rfl <;> omega)⟩

set_option maxHeartbeats 4000000 in
theorem stopsB {m NS b off N cap : Nat} {zs : List Int} {w : World} (hN : N ≤ 1000000) (hcap : CapB w NS b off N cap zs) :
    SeqStopsK Fence.wide m Try.prog 67 #[.pointer (some ⟨NS, 0, none⟩)] (encB zs N) (KpL NS NS NS b) (fun xs => xs.map (·.1) = bkL N N) (fun _ => True) N w := by
  intro l J Jx W hW hJ hJx hY h0
  refine callsIn_wide.2 ?_
  have HC0 := hid (hcap.bel hW)
  have HJ := hid hJ
  have HJx := hid hJx
  have HY := hid hY
  have H0 := hid h0
  have hNb : (N : Int) ≤ 1000000 := by omega
  clear hcap hJ hJx hY h0
  have c2 := Go.Joins.cell_of_block HC0.out.1 0
  simp only [List.getElem?_toArray, List.getElem?_cons_zero, List.getElem?_cons_succ] at c2
  go_enter Try.func67, Try.ntmps67
  go_wp2
  clear c2
  go_loopw [3] (fun i wr => ∃ k : Nat, k ≤ N ∧ i = .int .i64 ((N : Int) - 1 - (k : Int)) ∧ ∃ pre, pre.map (·.1) = bkL N k ∧ J pre wr ∧ CapB wr NS b off N cap zs) (fun i _ => (intOf i + 1).toNat)
  case atStart => exact ⟨0, by omega, by simp, [], rfl, H0.out, HC0.out⟩
  case round =>
    obtain ⟨k, hk, rfl, pre, hpre, hj, hcap⟩ := hrel
    have HP := hid hpre
    have HJ0 := hid hj
    have HC1 := hid hcap
    clear hpre hj
    by_cases hlt : k < N
    · obtain ⟨j, hjk⟩ : ∃ j : Nat, j = N - 1 - k := ⟨_, rfl⟩
      have hji : (N : Int) - 1 - (k : Int) = (j : Int) := by omega
      have hjN : j < N := by omega
      rw [hji]
      have hct := hcap.2.2 j hjN
      have c0 := Go.Joins.cell_of_block hcap.1 0
      simp only [List.getElem?_toArray, List.getElem?_cons_zero, List.getElem?_cons_succ] at c0
      obtain ⟨y, hy⟩ : ∃ y, y = zs.getD j 0 := ⟨_, rfl⟩
      rw [← hy] at hct
      have hlen : pre.length < N := by
        have h2 := congrArg List.length HP.out
        simp [bkL] at h2; omega
      obtain ⟨x, hx⟩ : ∃ x : Li N, x = ⟨j, hjN⟩ := ⟨_, rfl⟩
      have HX := hid hx
      obtain ⟨fn, tmps, assign, body, hyl, hRr⟩ := HY.out pre x wr HJ0.out hlen
      simp only [encB, hx, ← hy] at hyl
      have HHY := hid hRr
      have hjNi : (j : Int) < (N : Int) := by omega
      have HKK : Hid (k < N ∧ j = N - 1 - k) := ⟨hlt, hjk⟩
      clear hRr hx hcap hy hlen hjk hji hlt hk
      go_upto_region 3 with fail
      refine (wpIn_wide (n := m)).1 ?_
      gi_wp2_with fail
      refine ⟨(fun h => by cases h), ?_⟩
      refine HHY.out.mono ?_
      clear hyl HHY
      have hjw : wrap64 ((j : Int) - 1) = (j : Int) - 1 := wrap_id (by omega) (by omega)
      rintro e W' (⟨rfl, hJ', hk⟩ | ⟨rfl, hJx'⟩)
      · have HJ5 := hid hJ'
        have HC5 := hid (HC1.out.kp hk)
        have HPX : Hid ((pre ++ [x]).map (·.1) = bkL N (k + 1)) := by
          simp only [Hid]; rw [bk_succ, List.map_append, HP.out, HX.out, ← HKK.out.2]; rfl
        clear hJ' hk hct c0
        gi_wp2_with fail
        go_wp2
        go_roundw
        case rel => exact ⟨k + 1, HKK.out.1, by have := HKK.out; (try congr 1); (try omega), pre ++ [x], HPX.out, HJ5.out, HC5.out⟩
        case measure => have := HKK.out; simp [intOf]; (try omega)
      · have HJ5 := hid hJx'
        clear hJx' hct c0
        gi_wp2_with fail
        go_wp2
        refine bodyPost_ret (results_none rfl _ _ _) rfl ?_
        exact ⟨⟨_, rfl⟩, .inr ⟨pre ++ [x], trivial, HJ5.out⟩⟩
    · have hkN : k = N := by omega
      subst hkN
      clear hcap
      have hneg : (k : Int) - 1 - (k : Int) = -1 := by omega
      rw [hneg]
      go_wp2
      go_end0
      exact ⟨⟨_, rfl⟩, .inl ⟨pre, HP.out, HJ0.out⟩⟩

theorem backward {w : World} {b off N cap : Nat} {zs : List Int} (hb : b < w.heap.size) (hc : ∀ i, i < N → w.cell? ⟨b, off + i, none⟩ = some (.int .i64 (zs.getD i 0))) :
    Calls Try.prog 43 #[(.slice (some ⟨b, off, none⟩) N cap)] w fun e w' => ∃ NS, e = .returned (.func (.func 67) #[] #[.pointer (some ⟨NS, 0, none⟩)]) ∧ CapB w' NS b off N cap zs ∧ w.heap.size ≤ NS ∧ Below w.heap.size w w' := by
  have HC : Hid (b < w.heap.size ∧ ∀ i, i < N → w.cell? ⟨b, off + i, none⟩ = some (.int .i64 (zs.getD i 0))) := ⟨hb, hc⟩
  clear hb hc
  go_enter Try.func43, Try.ntmps43
  go_wp2
  go_ret
  have bel := below1 w (Obj.cells #[(.slice (some ⟨b, off, none⟩) N cap)] 22)
  exact ⟨w.heap.size, rfl, ⟨FNew.heap_top rfl, Nat.lt_of_lt_of_le HC.out.1 bel.size, fun i hi => (bel.cell (p := ⟨b, off + i, none⟩) HC.out.1).trans (HC.out.2 i hi)⟩, Nat.le_refl _, bel⟩

theorem take_le : ∀ (l : List Int) (k : Nat), (∀ i, 0 ≤ l.getD i 0) → 0 ≤ (l.take k).sum ∧ (l.take k).sum ≤ l.sum
  | [], k, _ => by simp
  | x :: l, 0, h => by
    have h1 := (nn_sum (x :: l) h 0).2
    simp only [List.take_zero, List.sum_nil]; omega
  | x :: l, k + 1, h => by
    have h0 := h 0
    have ih := take_le l k (fun i => h (i + 1))
    simp only [List.take_succ_cons, List.sum_cons, List.getD_cons_zero] at *; omega

set_option maxHeartbeats 1000000 in
theorem sumNN {w : World} {b : Nat} {v : Value} {zs : List Int} (h : Rd w b v zs) (hnn : ∀ i, 0 ≤ zs.getD i 0) (hsm : zs.sum ≤ 1000000000000) :
    Calls Try.prog 45 #[v] w fun e w' => e = .returned (.int .i64 zs.sum) ∧ w = w' := by
  have HNB : Hid (∀ k, 0 ≤ (zs.take k).sum ∧ (zs.take k).sum ≤ 1000000000000) := fun k => ⟨(take_le zs k hnn).1, Int.le_trans (take_le zs k hnn).2 hsm⟩
  have HCB : Hid (∀ k, 0 ≤ zs.getD k 0 ∧ zs.getD k 0 ≤ 1000000000000) := fun k => ⟨hnn k, Int.le_trans (nn_sum zs hnn k).1 hsm⟩
  obtain ⟨ao, cap, rfl, hc, hm, h4⟩ := h
  obtain ⟨n, hn⟩ : ∃ n, n = zs.length := ⟨_, rfl⟩
  rw [← hn] at hc h4 ⊢
  have Hn := hid hn
  have hsz : n ≤ 9223372036854775807 := by unfold maxLen at hm; omega
  clear hn hc hm hnn hsm
  go_enter Try.func45, Try.ntmps45
  go_wp2
  go_loop [3, 5, 8] (fun x y i => ∃ k : Nat, k ≤ n ∧ i = .int .i64 k ∧ x = .int .i64 (zs.take k).sum) (fun x y i => n - (intOf i).toNat)
  case atStart => exact ⟨0, Nat.zero_le _, rfl, by simp⟩
  case round =>
    obtain ⟨k, hk, rfl, rfl⟩ := hrel
    by_cases hlt : k < n
    · obtain ⟨off, rfl, hb, hcell⟩ := h4 (by omega)
      have hnx := take_sum zs k
      obtain ⟨x1, x2⟩ := HNB.out k
      obtain ⟨c1, c2⟩ := HCB.out k
      have hcx := hcell k hlt
      obtain ⟨X, hX⟩ : ∃ X, X = (zs.take k).sum := ⟨_, rfl⟩
      obtain ⟨Y, hY⟩ : ∃ Y, Y = zs.getD k 0 := ⟨_, rfl⟩
      rw [← hX] at x1 x2 hnx ⊢
      rw [← hY] at c1 c2 hcx hnx
      have HNX := hid hnx
      clear hX hY hnx hcell
      go_wp2
      go_round
      case rel => exact ⟨k + 1, by omega, by go_num, by rw [HNX.out]⟩
      case measure => simp [intOf]; omega
    · have hkn : k = n := by omega
      subst hkn
      have e : zs.take k = zs := by rw [Hn.out]; exact List.take_length
      rw [e]
      obtain ⟨X, hX⟩ : ∃ X, X = zs.sum := ⟨_, rfl⟩
      have HX := hid hX
      rw [← hX]
      clear hX
      go_wp2
      go_ret
      exact ⟨by rw [← HX.out]; rfl, rfl⟩

end Go.Proofs.Ytjeoccjemkdbiaa.Bkw
