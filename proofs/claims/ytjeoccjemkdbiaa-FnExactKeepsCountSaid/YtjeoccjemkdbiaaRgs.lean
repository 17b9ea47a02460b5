/- All rings of so many cells, in order: impl.ringsOf. -/
import Derived.Test.YtjeoccjemkdbiaaFrs
import Derived.Test.YtjeoccjemkdbiaaCwP
import Derived.Test.YtjeoccjemkdbiaaPwN
import Derived.Test.YtjeoccjemkdbiaaLnkI
namespace Go.Proofs.Ytjeoccjemkdbiaa.Rgs
open Go.RowKit Go.Shelf Go.Proofs.Ytjeoccjemkdbiaa.Rd Go.Proofs.Ytjeoccjemkdbiaa.Help Go.Proofs.Ytjeoccjemkdbiaa.Ring Go.Proofs.Ytjeoccjemkdbiaa.Small Go.Proofs.Ytjeoccjemkdbiaa.Num Go.Proofs.Ytjeoccjemkdbiaa.Keep Go.Proofs.Ytjeoccjemkdbiaa.Rule Go.Proofs.Ytjeoccjemkdbiaa.LnkI Go.Proofs.Ytjeoccjemkdbiaa.Dig Go.Proofs.Ytjeoccjemkdbiaa.DigP Go.Proofs.Ytjeoccjemkdbiaa.CwP Go.Proofs.Ytjeoccjemkdbiaa.PwN
set_option linter.unusedVariables false
set_option linter.unusedSimpArgs false
attribute [local go_sem] Oper.semAt_some

/-- A ring is handed on by its number and its block. -/
def encR (L : Nat) (x : Nat × Nat) : Array Value := #[.slice (some ⟨x.2, 0, none⟩) L L]
/-- What lies there. -/
def isR (s : Int) (P L B : Nat) (x : Nat × Nat) (W : World) : Prop := x.1 < P ∧ B ≤ x.2 ∧ Rd.Own 2 W x.2 (.slice (some ⟨x.2, 0, none⟩) L L) (dig s (x.1 : Int) L)
def CapR (W : World) (NS NN : Nat) (s : Int) (L : Nat) : Prop := W.heap[NS]? = some (Obj.cells #[.int .i64 s] 2) ∧ W.heap[NN]? = some (Obj.cells #[.int .i64 (L : Int)] 2)
theorem CapR.kp {W W' : World} {NS NN L : Nat} {s : Int} (h : CapR W NS NN s L) (k : KpL NS NN NN NN W W') : CapR W' NS NN s L :=
  ⟨(k.2 NS (.inl rfl)).trans h.1, (k.2 NN (.inr (.inl rfl))).trans h.2⟩
theorem CapR.bel {W W' : World} {NS NN L : Nat} {s : Int} (h : CapR W NS NN s L) (bel : Below W.heap.size W W') : CapR W' NS NN s L :=
  h.kp ⟨bel.size, fun k hk => bel.block k (by have h1 := (Array.getElem?_eq_some_iff.1 h.1).1; have h2 := (Array.getElem?_eq_some_iff.1 h.2).1; rcases hk with rfl | rfl | rfl | rfl <;> omega)⟩

set_option maxHeartbeats 4000000 in
theorem stopsR {m NS NN L : Nat} {s : Int} {w : World} (hs : 2 ≤ s ∧ s ≤ 3) (hL : L ≤ 16) (hcap : CapR w NS NN s L) :
    Frs.Seq m Try.prog 60 #[.pointer (some ⟨NS, 0, none⟩), .pointer (some ⟨NN, 0, none⟩)] (encR L) (isR s (pw s L) L w.heap.size) (KpL NS NN NN NN) (fun xs => xs.map (·.1) = List.range (pw s L)) (fun pre => ∀ x, x ∈ pre → x.1 < pw s L) (pw s L) w := by
  intro l J Jx W hW hJ hJx hY h0
  refine callsIn_wide.2 ?_
  have HC0 := hid (hcap.bel hW)
  have HWs := hid hW.size
  have HS := hid hs
  have HJ := hid hJ
  have HJx := hid hJx
  have HY := hid hY
  have H0 := hid h0
  obtain ⟨P, hP⟩ : ∃ P, P = pw s L := ⟨_, rfl⟩
  have hPb : P ≤ 43046721 := by have h1 := pow_in hs L hL; have h2 := pw_cast hs L; omega
  have HPd := hid hP
  rw [← hP] at HY ⊢
  clear hcap hJ hJx hY h0 hP
  have c2 := Go.Joins.cell_of_block HC0.out.1 0
  have c3 := Go.Joins.cell_of_block HC0.out.2 0
  simp only [List.getElem?_toArray, List.getElem?_cons_zero, List.getElem?_cons_succ] at c2 c3
  go_enter Try.func60, Try.ntmps60
  go_wp2_with fail
  go_at_call 61
  refine (powN HS.out hL).mono ?_
  rw [← pw_cast HS.out L, ← HPd.out]
  rintro e w1 ⟨rfl, rfl⟩
  go_wp2
  clear c2 c3
  go_loopw [8] (fun i wr => ∃ k : Nat, k ≤ P ∧ i = .int .i64 (k : Int) ∧ ∃ pre : List (Nat × Nat), pre.map (·.1) = List.range k ∧ J pre wr ∧ CapR wr NS NN s L ∧ W.heap.size ≤ wr.heap.size) (fun i _ => P - (intOf i).toNat)
  case atStart => exact ⟨0, by omega, rfl, [], rfl, H0.out, HC0.out, Nat.le_refl _⟩
  case round =>
    obtain ⟨k, hk, rfl, pre, hpre, hj, hcap, hsz⟩ := hrel
    have HP := hid hpre
    have HJ0 := hid hj
    have HC1 := hid hcap
    have HSz := hid hsz
    clear hpre hj hsz
    by_cases hlt : k < P
    · have c0 := Go.Joins.cell_of_block hcap.1 0
      have c1 := Go.Joins.cell_of_block hcap.2 0
      simp only [List.getElem?_toArray, List.getElem?_cons_zero, List.getElem?_cons_succ] at c0 c1
      have HKb : Hid (0 ≤ (k : Int) ∧ (k : Int) ≤ 1000000000) := by simp only [Hid]; omega
      have hki : (k : Int) < (P : Int) := by omega
      have HI : Hid (k < P ∧ P ≤ 43046721) := ⟨hlt, hPb⟩
      clear hcap hk
      go_upto_region 3 with fail
      refine (wpIn_wide (n := m)).1 ?_
      gi_wp2_with fail
      refine ⟨trivial, (fun h => by cases h), (callsIn_wide.2 (implDigits HS.out HKb.out (by omega))).mono ?_⟩
      rintro e w2 ⟨b, rfl, oD, lo, bel⟩
      rw [show ((L : Int)).toNat = L by simp, dig_length] at oD ⊢
      have HC2 := hid (HC1.out.bel bel)
      have HJ2 := hid (abides_bel HJ.out HJ0.out bel)
      have HLo : Hid (w.heap.size ≤ b) := Nat.le_trans HWs.out (Nat.le_trans HSz.out lo)
      have HSz2 := hid (Nat.le_trans HSz.out bel.size)
      have hlen : pre.length < P := by
        have h2 := congrArg List.length HP.out
        simp at h2; have := HI.out; omega
      obtain ⟨x, hx⟩ : ∃ x : Nat × Nat, x = (k, b) := ⟨_, rfl⟩
      have hGx : isR s P L w.heap.size x w2 := by rw [hx]; exact ⟨HI.out.1, HLo.out, oD⟩
      have HX := hid hx
      obtain ⟨fn, tmps, assign, body, hyl, hRr⟩ := HY.out pre x w2 HJ2.out hGx hlen
      simp only [encR, hx] at hyl
      have HHY := hid hRr
      clear hRr hx oD lo bel hlen hGx c0 c1
      gi_wp2_with fail
      refine ⟨(fun h => by cases h), ?_⟩
      refine HHY.out.mono ?_
      clear hyl HHY
      have hPb2 := HI.out.2
      rintro e W' (⟨rfl, hJ', hk⟩ | ⟨rfl, hJx'⟩)
      · have HJ5 := hid hJ'
        have HC5 := hid (HC2.out.kp hk)
        have HSz5 := hid (Nat.le_trans HSz2.out hk.1)
        have HPX : Hid ((pre ++ [x]).map (·.1) = List.range (k + 1)) := by
          simp only [Hid]; rw [List.range_succ, List.map_append, HP.out, HX.out]; rfl
        clear hJ' hk
        gi_wp2_with fail
        go_wp2
        go_roundw
        case rel => exact ⟨k + 1, HI.out.1, by go_num, pre ++ [x], HPX.out, HJ5.out, HC5.out, HSz5.out⟩
        case measure => have := HI.out; simp [intOf]; (try omega)
      · have HJ5 := hid hJx'
        clear hJx'
        gi_wp2_with fail
        go_wp2
        refine bodyPost_ret (results_none rfl _ _ _) rfl ?_
        refine ⟨⟨_, rfl⟩, .inr ⟨pre ++ [x], fun y hy => ?_, HJ5.out⟩⟩
        rcases List.mem_append.1 hy with h5 | h5
        · have h6 : y.1 ∈ pre.map (·.1) := List.mem_map_of_mem h5
          rw [HP.out] at h6
          have := List.mem_range.1 h6
          have := HI.out
          omega
        · have h6 : y = x := by simpa using h5
          rw [h6, HX.out]; exact HI.out.1
    · have hkP : P = k := by omega
      subst hkP
      clear hcap
      go_wp2
      go_end0
      exact ⟨⟨_, rfl⟩, .inl ⟨pre, HP.out, HJ0.out⟩⟩

theorem ringsOf {w : World} {s : Int} {L : Nat} :
    Calls Try.prog 36 #[.int .i64 s, .int .i64 (L : Int)] w fun e w' => ∃ NS NN, e = .returned (.func (.func 60) #[] #[.pointer (some ⟨NS, 0, none⟩), .pointer (some ⟨NN, 0, none⟩)]) ∧ CapR w' NS NN s L ∧ w.heap.size ≤ NS ∧ w.heap.size ≤ NN ∧ Below w.heap.size w w' := by
  go_enter Try.func36, Try.ntmps36
  go_wp2
  go_ret
  have bel := Go.Joins.below_alloc2 w (Obj.cells #[.int .i64 s] 2) (Obj.cells #[.int .i64 (L : Int)] 2)
  exact ⟨w.heap.size, w.heap.size + 1, rfl, ⟨FNew.heap_old (FNew.heap_top rfl), FNew.heap_top (by simp)⟩, Nat.le_refl _, by omega, bel⟩
end Go.Proofs.Ytjeoccjemkdbiaa.Rgs
