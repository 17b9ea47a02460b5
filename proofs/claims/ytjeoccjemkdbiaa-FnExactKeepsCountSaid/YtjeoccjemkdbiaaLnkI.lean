/- The iterator over the neighbourhoods that have a next state. -/
import Derived.Test.YtjeoccjemkdbiaaLnk
import Derived.Test.YtjeoccjemkdbiaaFNew
import Derived.RangeFuncNested
import Derived.RangeFuncBound
import Derived.RangeFuncCalls
import Derived.RangeFuncLeaves
import Derived.Shelf.Abstract
import Derived.Shelf.RegionOpen
import Derived.WalkKit
import Derived.OwnWalkIn
import Derived.TacticsInMore
import Derived.LoopNIn
import Derived.LoopIn
import Derived.Laws.Rows
import Derived.Deep.Cut
namespace Go.Proofs.Ytjeoccjemkdbiaa.LnkI
open Go.RowKit Go.Shelf Go.Proofs.Ytjeoccjemkdbiaa.Rd Go.Proofs.Ytjeoccjemkdbiaa.Help Go.Proofs.Ytjeoccjemkdbiaa.Ring Go.Proofs.Ytjeoccjemkdbiaa.Small Go.Proofs.Ytjeoccjemkdbiaa.Keep Go.Proofs.Ytjeoccjemkdbiaa.Rule Go.Proofs.Ytjeoccjemkdbiaa.Lnk Go.Proofs.Ytjeoccjemkdbiaa.LnkP
set_option linter.unusedVariables false
set_option linter.unusedSimpArgs false
attribute [local go_sem] Oper.semAt_some

/-- The first m neighbourhoods: those that have a next state. -/
def lkL (tbl : List Int) (to : Int) (m : Nat) : List Nat := (List.range m).filter (fun i => decide (tbl.getD i 0 = to))
theorem lk_yes {tbl : List Int} {to : Int} {m : Nat} (h : tbl.getD m 0 = to) : lkL tbl to (m + 1) = lkL tbl to m ++ [m] := by
  unfold lkL; rw [List.range_succ, List.filter_append]; congr 1; simp only [List.filter_cons, List.filter_nil]; rw [if_pos (decide_eq_true h)]
theorem lk_no {tbl : List Int} {to : Int} {m : Nat} (h : ¬ tbl.getD m 0 = to) : lkL tbl to (m + 1) = lkL tbl to m := by
  unfold lkL; rw [List.range_succ, List.filter_append]; simp only [List.filter_cons, List.filter_nil]; rw [if_neg (by rw [decide_eq_false h]; decide), List.append_nil]
theorem lk_len (tbl : List Int) (to : Int) (m : Nat) : (lkL tbl to m).length ≤ m := by
  unfold lkL; exact Nat.le_trans (List.length_filter_le _ _) (by simp)
theorem lk_pre {tbl : List Int} {to : Int} {j m : Nat} (h : j ≤ m) : lkL tbl to j <+: lkL tbl to m := by
  induction m with
  | zero => rw [show j = 0 by omega]; exact List.prefix_refl _
  | succ m ih =>
    by_cases hj : j = m + 1
    · rw [hj]; exact List.prefix_refl _
    · refine (ih (by omega)).trans ?_
      by_cases e : tbl.getD m 0 = to
      · rw [lk_yes e]; exact ⟨_, rfl⟩
      · rw [lk_no e]; exact List.prefix_refl _
abbrev Li (m : Nat) := { x : Nat // x < m }
def encL (S n m : Nat) (x : Li m) : Array Value := #[.int .i64 ((x.1 / S : Nat) : Int), .int .i64 ((x.1 % n : Nat) : Int)]
theorem heap_keep {w w' : World} {n : Nat} {o : Obj} (bel : Below w.heap.size w w') (h : w.heap[n]? = some o) : w'.heap[n]? = some o :=
  (bel.block n (Array.getElem?_eq_some_iff.1 h).1).trans h
/-- What a round keeps: the captured variables, and the table. -/
def KpL (NR NS NE bt : Nat) (W W' : World) : Prop := W.heap.size ≤ W'.heap.size ∧ ∀ k, (k = NR ∨ k = NS ∨ k = NE ∨ k = bt) → W'.heap[k]? = W.heap[k]?
theorem KpL.t {NR NS NE bt : Nat} {A B C : World} (h : KpL NR NS NE bt A B) (k : KpL NR NS NE bt B C) : KpL NR NS NE bt A C := ⟨Nat.le_trans h.1 k.1, fun j hj => (k.2 j hj).trans (h.2 j hj)⟩
theorem KpL.set {NR NS NE bt b : Nat} (h : NR ≠ b ∧ NS ≠ b ∧ NE ≠ b ∧ bt ≠ b) (W : World) (i : Nat) (v : Value) : KpL NR NS NE bt W (W.setCell ⟨b, i, none⟩ v) := by
  refine ⟨by simp [World.setCell], fun j hj => Below.heap_setCell W ⟨b, i, none⟩ v j ?_⟩
  rcases hj with rfl | rfl | rfl | rfl
  · exact h.1
  · exact h.2.1
  · exact h.2.2.1
  · exact h.2.2.2
theorem KpL.b {NR NS NE bt : Nat} {w : World} (h1 : NR < w.heap.size) (h2 : NS < w.heap.size) (h3 : NE < w.heap.size) (h4 : bt < w.heap.size) (W : World) (l : Nat) (o o' : Obj) (hl : w.heap.size ≤ l) (h : W.heap[l]? = some o) (_ : o.isCells = false) (_ : o.isWalk = false) : KpL NR NS NE bt W (W.putObj l o') :=
  ⟨by simp, fun j hj => World.putObj_heap_other (by omega)⟩
theorem abides_bel {β : Type} {B : Nat} {J : β → World → Prop} (hJ : AbidesFrom B J) {s : β} {W W' : World} (h : J s W) (bel : Below W.heap.size W W') : J s W' :=
  hJ s W W' none h (below_grown bel) (fun r e => by cases e)
theorem abides_drew {β : Type} {B : Nat} {J : β → World → Prop} (hJ : AbidesFrom B J) {s : β} {W : World} (h : J s W) : J s W.drew :=
  hJ s W W.drew none h ⟨rfl, rfl, rfl, Nat.le_refl _, fun _ _ _ => rfl⟩ (fun r e => by cases e)
/-- The captured variables of the iterator. -/
def Cap (W : World) (NR NS NE bt off N cap S n : Nat) (r to : Int) (tbl : List Int) : Prop := W.heap[NR]? = some (Obj.cells #[.int .i64 (S : Int), .int .i64 r, .slice (some ⟨bt, off, none⟩) N cap] 28) ∧ W.heap[NS]? = some (Obj.cells #[.int .i64 to] 2) ∧ W.heap[NE]? = some (Obj.cells #[.int .i64 (n : Int)] 2) ∧ (bt < W.heap.size ∧ ∀ i, i < N → W.cell? ⟨bt, off + i, none⟩ = some (.int .i64 (tbl.getD i 0)))
theorem cell_heap {W W' : World} {p : Addr} (h : W'.heap[p.block]? = W.heap[p.block]?) : W'.cell? p = W.cell? p := World.cell?_of_block h
theorem heap_lt {W W' : World} {k : Nat} (h : W'.heap[k]? = W.heap[k]?) (hk : k < W.heap.size) : k < W'.heap.size := by
  rcases Nat.lt_or_ge k W'.heap.size with h' | h'
  · exact h'
  · rw [Array.getElem?_eq_none h', Array.getElem?_eq_getElem hk] at h; cases h
theorem Cap.kp {W W' : World} {NR NS NE bt off N cap S n : Nat} {r to : Int} {tbl : List Int} (h : Cap W NR NS NE bt off N cap S n r to tbl) (k : KpL NR NS NE bt W W') : Cap W' NR NS NE bt off N cap S n r to tbl := by
  obtain ⟨h1, h2, h3, h4, h5⟩ := h
  have kb := k.2 bt (.inr (.inr (.inr rfl)))
  exact ⟨(k.2 NR (.inl rfl)).trans h1, (k.2 NS (.inr (.inl rfl))).trans h2, (k.2 NE (.inr (.inr (.inl rfl)))).trans h3, heap_lt kb h4, fun i hi => (cell_heap (p := ⟨bt, off + i, none⟩) kb).trans (h5 i hi)⟩
theorem Cap.lt {W : World} {NR NS NE bt off N cap S n : Nat} {r to : Int} {tbl : List Int} (h : Cap W NR NS NE bt off N cap S n r to tbl) : NR < W.heap.size ∧ NS < W.heap.size ∧ NE < W.heap.size ∧ bt < W.heap.size :=
  ⟨(Array.getElem?_eq_some_iff.1 h.1).1, (Array.getElem?_eq_some_iff.1 h.2.1).1, (Array.getElem?_eq_some_iff.1 h.2.2.1).1, h.2.2.2.1⟩
theorem Cap.bel {W W' : World} {NR NS NE bt off N cap S n : Nat} {r to : Int} {tbl : List Int} (h : Cap W NR NS NE bt off N cap S n r to tbl) (bel : Below W.heap.size W W') : Cap W' NR NS NE bt off N cap S n r to tbl :=
  h.kp ⟨bel.size, fun k hk => bel.block k (by have := h.lt; rcases hk with rfl | rfl | rfl | rfl <;> omega)⟩
theorem Cap.drew {W : World} {NR NS NE bt off N cap S n : Nat} {r to : Int} {tbl : List Int} (h : Cap W NR NS NE bt off N cap S n r to tbl) : Cap W.drew NR NS NE bt off N cap S n r to tbl := h

set_option maxHeartbeats 4000000 in
set_option maxRecDepth 100000 in
theorem stops {m NR NS NE bt off N cap S n : Nat} {r to : Int} {tbl : List Int} {w : World} (hS : 2 ≤ S ∧ S ≤ 3) (hn : 1 ≤ n ∧ n ≤ 81) (hN : N ≤ 243) (hcap : Cap w NR NS NE bt off N cap S n r to tbl) :
    SeqStopsK Fence.wide m Try.prog 82 #[.pointer (some ⟨NR, 0, none⟩), .pointer (some ⟨NS, 0, none⟩), .pointer (some ⟨NE, 0, none⟩)] (encL S n N) (KpL NR NS NE bt) (fun xs => xs.map (·.1) = lkL tbl to N) (fun pre => pre.map (·.1) <+: lkL tbl to N) N w := by
  intro l J Jx W hW hJ hJx hY h0
  refine callsIn_wide.2 ?_
  have HC0 := hid (hcap.bel hW)
  have HJ := hid hJ
  have HJx := hid hJx
  have HY := hid hY
  have H0 := hid h0
  have hS0 : ¬ (S : Int) = 0 := nz (by omega)
  have hn0 : ¬ (n : Int) = 0 := nz hn.1
  have hNb : N ≤ 9223372036854775807 := by omega
  clear hcap hJ hJx hY h0
  have c2 := Go.Joins.cell_of_block HC0.out.1 2
  simp only [List.getElem?_toArray, List.getElem?_cons_zero, List.getElem?_cons_succ] at c2
  go_enter Try.func82, Try.ntmps82
  go_wp2
  clear c2
  go_loopw [10] (fun i wr => ∃ k : Nat, k ≤ N ∧ i = .int .i64 (k : Int) ∧ ∃ pre, pre.map (·.1) = lkL tbl to k ∧ J pre wr ∧ Cap wr NR NS NE bt off N cap S n r to tbl) (fun i _ => N - (intOf i).toNat)
  case atStart => exact ⟨0, by omega, rfl, [], rfl, H0.out, HC0.out⟩
  case round =>
    obtain ⟨k, hk, rfl, pre, hpre, hj, hcap⟩ := hrel
    have HP := hid hpre
    have HJ0 := hid hj
    have HC1 := hid hcap
    clear hpre hj
    by_cases hlt : k < N
    · have hct := hcap.2.2.2.2 k hlt
      have c0 := Go.Joins.cell_of_block hcap.1 0
      have d0 := Go.Joins.cell_of_block hcap.2.1 0
      have e0 := Go.Joins.cell_of_block hcap.2.2.1 0
      simp only [List.getElem?_toArray, List.getElem?_cons_zero, List.getElem?_cons_succ] at c0 d0 e0
      obtain ⟨y, hy⟩ : ∃ y, y = tbl.getD k 0 := ⟨_, rfl⟩
      rw [← hy] at hct
      clear hcap
      by_cases he : y = to
      · subst he
        have HEQ : Hid (tbl.getD k 0 = y) := hy.symm
        clear hy
        obtain ⟨x, hx⟩ : ∃ x : Li N, x = ⟨k, hlt⟩ := ⟨_, rfl⟩
        have HX := hid hx
        have hlen : pre.length < N := by
          have h1 := lk_len tbl y k
          have h2 := HP.out
          have h3 : (pre.map (·.1)).length = pre.length := by simp
          rw [h2] at h3
          omega
        obtain ⟨fn, tmps, assign, body, hyl, hRr⟩ := HY.out pre x wr.drew (abides_drew HJ.out HJ0.out) hlen
        simp only [encL, hx, Int.natCast_ediv, Int.natCast_emod] at hyl
        have hq : IntKind.i64.wrap ((k : Int) / (S : Int)) = (k : Int) / (S : Int) := by
          rw [IntKind.wrap_i64]
          have h1 : (0 : Int) ≤ (k : Int) / (S : Int) := Int.ediv_nonneg (by omega) (by omega)
          have h2 : (k : Int) / (S : Int) ≤ k := Int.ediv_le_self _ (by omega)
          have := wrap_id (x := (k : Int) / (S : Int)) (by omega) (by omega)
          unfold wrap64 at this; exact this
        have hm2 : (k : Int).tmod (n : Int) = (k : Int) % (n : Int) := Int.tmod_eq_emod_of_nonneg (by omega)
        have hs00 : ¬ S = 0 := by omega
        have hn00 : ¬ n = 0 := by omega
        have HHY := hid hRr
        clear hRr hx
        go_upto_region 3 with fail
        refine (wpIn_wide (n := m)).1 ?_
        refine wpIn_region_any (by kernel_rfl) ?_
        (try (change wpAnyIn _ _ _ _ _ _ _ _ _ (World.drew _)))
        (refine wpAnyIn_take (i := 0) (v := ?_) rfl rfl ?_ ?_ ?_ (fun _ _ _ h => h) ⟨Or.inl ⟨?_, ?_⟩, fun _ => rfl⟩ ?_; rotate_left 1; (focus kernel_rfl); (focus kernel_rfl); (focus kernel_rfl); (focus rfl); (focus (intro w; go_simp; (try (with_reducible rfl)); done)); (try simp only [Act.put, List.setIfInBounds_toArray, List.set_cons_zero, List.set_cons_succ, List.getElem_toArray, List.getElem_cons_succ, List.getElem_cons_zero]))
        refine wpAnyIn_ready (rs := [1]) (by kernel_rfl) (by simp) (AllReadyIn.cons rfl (fun K hK => ?_) AllReadyIn.nil)
        go_simp
        refine hK _ _ ?_
        clear hK K
        (try simp only [Act.put, List.setIfInBounds_toArray, List.set_cons_zero, List.set_cons_succ, List.getElem_toArray, List.getElem_cons_succ, List.getElem_cons_zero])
        (refine wpAnyIn_take (i := 2) (v := ?_) rfl rfl ?_ ?_ ?_ (fun _ _ _ h => h) ⟨Or.inl ⟨?_, ?_⟩, fun _ => rfl⟩ ?_; rotate_left 1; (focus kernel_rfl); (focus kernel_rfl); (focus kernel_rfl); (focus rfl); (focus (intro w; go_simp; (try (with_reducible rfl)); done)); (try simp only [Act.put, List.setIfInBounds_toArray, List.set_cons_zero, List.set_cons_succ, List.getElem_toArray, List.getElem_cons_succ, List.getElem_cons_zero]))
        (refine wpAnyIn_take (i := 3) (v := ?_) rfl rfl ?_ ?_ ?_ (fun _ _ _ h => h) ⟨Or.inl ⟨?_, ?_⟩, fun _ => rfl⟩ ?_; rotate_left 1; (focus kernel_rfl); (focus kernel_rfl); (focus kernel_rfl); (focus rfl); (focus (intro w; go_simp; (try (with_reducible rfl)); done)); (try simp only [Act.put, List.setIfInBounds_toArray, List.set_cons_zero, List.set_cons_succ, List.getElem_toArray, List.getElem_cons_succ, List.getElem_cons_zero]))
        (refine wpAnyIn_take (i := 4) (v := ?_) rfl rfl ?_ ?_ ?_ (fun _ _ _ h => h) ⟨Or.inl ⟨?_, ?_⟩, fun _ => rfl⟩ ?_; rotate_left 1; (focus kernel_rfl); (focus kernel_rfl); (focus kernel_rfl); (focus rfl); (focus (intro w; go_simp; (try (with_reducible rfl)); done)); (try simp only [Act.put, List.setIfInBounds_toArray, List.set_cons_zero, List.set_cons_succ, List.getElem_toArray, List.getElem_cons_succ, List.getElem_cons_zero]))
        (refine wpAnyIn_take (i := 5) (v := ?_) rfl rfl ?_ ?_ ?_ (fun _ _ _ h => h) ⟨Or.inl ⟨?_, ?_⟩, fun _ => rfl⟩ ?_; rotate_left 1; (focus kernel_rfl); (focus kernel_rfl); (focus kernel_rfl); (focus rfl); (focus (intro w; go_simp; (try (with_reducible rfl)); done)); (try simp only [Act.put, List.setIfInBounds_toArray, List.set_cons_zero, List.set_cons_succ, List.getElem_toArray, List.getElem_cons_succ, List.getElem_cons_zero]))
        (refine wpAnyIn_take (i := 6) (v := ?_) rfl rfl ?_ ?_ ?_ (fun _ _ _ h => h) ⟨Or.inl ⟨?_, ?_⟩, fun _ => rfl⟩ ?_; rotate_left 1; (focus kernel_rfl); (focus kernel_rfl); (focus kernel_rfl); (focus rfl); (focus (intro w; go_simp; (try (with_reducible rfl)); done)); (try simp only [Act.put, List.setIfInBounds_toArray, List.set_cons_zero, List.set_cons_succ, List.getElem_toArray, List.getElem_cons_succ, List.getElem_cons_zero]))
        (refine wpAnyIn_take (i := 9) (v := ?_) rfl rfl ?_ ?_ ?_ (fun _ _ _ h => h) ⟨Or.inl ⟨?_, ?_⟩, fun _ => rfl⟩ ?_; rotate_left 1; (focus kernel_rfl); (focus kernel_rfl); (focus kernel_rfl); (focus rfl); (focus (intro w; go_simp; (try (with_reducible rfl)); done)); (try simp only [Act.put, List.setIfInBounds_toArray, List.set_cons_zero, List.set_cons_succ, List.getElem_toArray, List.getElem_cons_succ, List.getElem_cons_zero]))
        refine wpAnyIn_ready (rs := [7, 10]) (by kernel_rfl) (by simp) (AllReadyIn.cons rfl (fun K hK => ?_) (AllReadyIn.cons rfl (fun K hK => ?_) AllReadyIn.nil))
        · go_simp
          refine hK _ _ ?_
          clear hK K
          (try simp only [Act.put, List.setIfInBounds_toArray, List.set_cons_zero, List.set_cons_succ, List.getElem_toArray, List.getElem_cons_succ, List.getElem_cons_zero])
          (refine wpAnyIn_take (i := 8) (v := ?_) rfl rfl ?_ ?_ ?_ (fun _ _ _ h => h) ⟨Or.inl ⟨?_, ?_⟩, fun _ => rfl⟩ ?_; rotate_left 1; (focus kernel_rfl); (focus kernel_rfl); (focus kernel_rfl); (focus rfl); (focus (intro w; go_simp; (try (with_reducible rfl)); done)); (try simp only [Act.put, List.setIfInBounds_toArray, List.set_cons_zero, List.set_cons_succ, List.getElem_toArray, List.getElem_cons_succ, List.getElem_cons_zero]))
          refine wpAnyIn_ready (rs := [10]) (by kernel_rfl) (by simp) (AllReadyIn.cons rfl (fun K hK => ?_) AllReadyIn.nil)
          go_simp
          refine hK _ _ ?_
          clear hK K
          (try simp only [Act.put, List.setIfInBounds_toArray, List.set_cons_zero, List.set_cons_succ, List.getElem_toArray, List.getElem_cons_succ, List.getElem_cons_zero])
          (refine wpAnyIn_take (i := 11) (v := ?_) rfl rfl ?_ ?_ ?_ (fun _ _ _ h => h) ⟨Or.inl ⟨?_, ?_⟩, fun _ => rfl⟩ ?_; rotate_left 1; (focus kernel_rfl); (focus kernel_rfl); (focus kernel_rfl); (focus rfl); (focus (intro w; go_simp; (try (with_reducible rfl)); done)); (try simp only [Act.put, List.setIfInBounds_toArray, List.set_cons_zero, List.set_cons_succ, List.getElem_toArray, List.getElem_cons_succ, List.getElem_cons_zero]))
          refine wpAnyIn_ready (rs := [12]) (by kernel_rfl) (by simp) (AllReadyIn.cons rfl (fun K hK => ?_) AllReadyIn.nil)
          go_simp
          refine ⟨(fun h => by cases h), ?_⟩
          have HK := hid hK
          clear hK
          refine HHY.out.mono ?_
          clear hyl HHY
          rintro e W' (⟨rfl, hJ', hk'⟩ | ⟨rfl, hJx'⟩)
          · have HJ5 := hid hJ'
            have HC5 := hid (HC1.out.drew.kp hk')
            clear hJ' hk'
            simp only []
            refine HK.out _ _ ?_
            clear HK
            (try simp only [Act.put, List.setIfInBounds_toArray, List.set_cons_zero, List.set_cons_succ, List.getElem_toArray, List.getElem_cons_succ, List.getElem_cons_zero])
            (refine wpAnyIn_take (i := 13) (v := ?_) rfl rfl ?_ ?_ ?_ (fun _ _ _ h => h) ⟨Or.inl ⟨?_, ?_⟩, fun _ => rfl⟩ ?_; rotate_left 1; (focus kernel_rfl); (focus kernel_rfl); (focus kernel_rfl); (focus rfl); (focus (intro w; go_simp; (try (with_reducible rfl)); done)); (try simp only [Act.put, List.setIfInBounds_toArray, List.set_cons_zero, List.set_cons_succ, List.getElem_toArray, List.getElem_cons_succ, List.getElem_cons_zero]))
            (refine wpAnyIn_take (i := 14) (v := ?_) rfl rfl ?_ ?_ ?_ (fun _ _ _ h => h) ⟨Or.inl ⟨?_, ?_⟩, fun _ => rfl⟩ ?_; rotate_left 1; (focus kernel_rfl); (focus kernel_rfl); (focus kernel_rfl); (focus rfl); (focus (intro w; go_simp; (try (with_reducible rfl)); done)); (try simp only [Act.put, List.setIfInBounds_toArray, List.set_cons_zero, List.set_cons_succ, List.getElem_toArray, List.getElem_cons_succ, List.getElem_cons_zero]))
            refine wpAnyIn_done (by kernel_rfl) ?_ _
            have HPX : Hid ((pre ++ [x]).map (·.1) = lkL tbl y (k + 1)) := by
              simp only [Hid]; rw [lk_yes HEQ.out, List.map_append, HP.out, HX.out]; rfl
            clear hq hm2 hs00 hn00 hct c0 d0 e0
            go_wp2
            go_roundw
            case rel => exact ⟨k + 1, by omega, by go_num, pre ++ [x], HPX.out, HJ5.out, HC5.out⟩
            case measure => simp [intOf]; omega
          · have HJ5 := hid hJx'
            clear hJx'
            simp only []
            refine HK.out _ _ ?_
            clear HK
            (try simp only [Act.put, List.setIfInBounds_toArray, List.set_cons_zero, List.set_cons_succ, List.getElem_toArray, List.getElem_cons_succ, List.getElem_cons_zero])
            (refine wpAnyIn_take (i := 13) (v := ?_) rfl rfl ?_ ?_ ?_ (fun _ _ _ h => h) ⟨Or.inl ⟨?_, ?_⟩, fun _ => rfl⟩ ?_; rotate_left 1; (focus kernel_rfl); (focus kernel_rfl); (focus kernel_rfl); (focus rfl); (focus (intro w; go_simp; (try (with_reducible rfl)); done)); (try simp only [Act.put, List.setIfInBounds_toArray, List.set_cons_zero, List.set_cons_succ, List.getElem_toArray, List.getElem_cons_succ, List.getElem_cons_zero]))
            (refine wpAnyIn_take (i := 14) (v := ?_) rfl rfl ?_ ?_ ?_ (fun _ _ _ h => h) ⟨Or.inl ⟨?_, ?_⟩, fun _ => rfl⟩ ?_; rotate_left 1; (focus kernel_rfl); (focus kernel_rfl); (focus kernel_rfl); (focus rfl); (focus (intro w; go_simp; (try (with_reducible rfl)); done)); (try simp only [Act.put, List.setIfInBounds_toArray, List.set_cons_zero, List.set_cons_succ, List.getElem_toArray, List.getElem_cons_succ, List.getElem_cons_zero]))
            refine wpAnyIn_done (by kernel_rfl) ?_ _
            clear hq hm2 hs00 hn00 hct c0 d0 e0
            go_wp2
            refine bodyPost_ret (results_none rfl _ _ _) rfl ?_
            exact ⟨⟨_, rfl⟩, .inr ⟨pre ++ [x], by rw [List.map_append, HP.out, HX.out]; exact (lk_yes HEQ.out ▸ lk_pre (by omega : k + 1 ≤ N)), HJ5.out⟩⟩
        · go_simp
          refine hK _ _ ?_
          clear hK K
          (try simp only [Act.put, List.setIfInBounds_toArray, List.set_cons_zero, List.set_cons_succ, List.getElem_toArray, List.getElem_cons_succ, List.getElem_cons_zero])
          (refine wpAnyIn_take (i := 11) (v := ?_) rfl rfl ?_ ?_ ?_ (fun _ _ _ h => h) ⟨Or.inl ⟨?_, ?_⟩, fun _ => rfl⟩ ?_; rotate_left 1; (focus kernel_rfl); (focus kernel_rfl); (focus kernel_rfl); (focus rfl); (focus (intro w; go_simp; (try (with_reducible rfl)); done)); (try simp only [Act.put, List.setIfInBounds_toArray, List.set_cons_zero, List.set_cons_succ, List.getElem_toArray, List.getElem_cons_succ, List.getElem_cons_zero]))
          refine wpAnyIn_ready (rs := [7]) (by kernel_rfl) (by simp) (AllReadyIn.cons rfl (fun K hK => ?_) AllReadyIn.nil)
          go_simp
          refine hK _ _ ?_
          clear hK K
          (try simp only [Act.put, List.setIfInBounds_toArray, List.set_cons_zero, List.set_cons_succ, List.getElem_toArray, List.getElem_cons_succ, List.getElem_cons_zero])
          (refine wpAnyIn_take (i := 8) (v := ?_) rfl rfl ?_ ?_ ?_ (fun _ _ _ h => h) ⟨Or.inl ⟨?_, ?_⟩, fun _ => rfl⟩ ?_; rotate_left 1; (focus kernel_rfl); (focus kernel_rfl); (focus kernel_rfl); (focus rfl); (focus (intro w; go_simp; (try (with_reducible rfl)); done)); (try simp only [Act.put, List.setIfInBounds_toArray, List.set_cons_zero, List.set_cons_succ, List.getElem_toArray, List.getElem_cons_succ, List.getElem_cons_zero]))
          refine wpAnyIn_ready (rs := [12]) (by kernel_rfl) (by simp) (AllReadyIn.cons rfl (fun K hK => ?_) AllReadyIn.nil)
          go_simp
          refine ⟨(fun h => by cases h), ?_⟩
          have HK := hid hK
          clear hK
          refine HHY.out.mono ?_
          clear hyl HHY
          rintro e W' (⟨rfl, hJ', hk'⟩ | ⟨rfl, hJx'⟩)
          · have HJ5 := hid hJ'
            have HC5 := hid (HC1.out.drew.kp hk')
            clear hJ' hk'
            simp only []
            refine HK.out _ _ ?_
            clear HK
            (try simp only [Act.put, List.setIfInBounds_toArray, List.set_cons_zero, List.set_cons_succ, List.getElem_toArray, List.getElem_cons_succ, List.getElem_cons_zero])
            (refine wpAnyIn_take (i := 13) (v := ?_) rfl rfl ?_ ?_ ?_ (fun _ _ _ h => h) ⟨Or.inl ⟨?_, ?_⟩, fun _ => rfl⟩ ?_; rotate_left 1; (focus kernel_rfl); (focus kernel_rfl); (focus kernel_rfl); (focus rfl); (focus (intro w; go_simp; (try (with_reducible rfl)); done)); (try simp only [Act.put, List.setIfInBounds_toArray, List.set_cons_zero, List.set_cons_succ, List.getElem_toArray, List.getElem_cons_succ, List.getElem_cons_zero]))
            (refine wpAnyIn_take (i := 14) (v := ?_) rfl rfl ?_ ?_ ?_ (fun _ _ _ h => h) ⟨Or.inl ⟨?_, ?_⟩, fun _ => rfl⟩ ?_; rotate_left 1; (focus kernel_rfl); (focus kernel_rfl); (focus kernel_rfl); (focus rfl); (focus (intro w; go_simp; (try (with_reducible rfl)); done)); (try simp only [Act.put, List.setIfInBounds_toArray, List.set_cons_zero, List.set_cons_succ, List.getElem_toArray, List.getElem_cons_succ, List.getElem_cons_zero]))
            refine wpAnyIn_done (by kernel_rfl) ?_ _
            have HPX : Hid ((pre ++ [x]).map (·.1) = lkL tbl y (k + 1)) := by
              simp only [Hid]; rw [lk_yes HEQ.out, List.map_append, HP.out, HX.out]; rfl
            clear hq hm2 hs00 hn00 hct c0 d0 e0
            go_wp2
            go_roundw
            case rel => exact ⟨k + 1, by omega, by go_num, pre ++ [x], HPX.out, HJ5.out, HC5.out⟩
            case measure => simp [intOf]; omega
          · have HJ5 := hid hJx'
            clear hJx'
            simp only []
            refine HK.out _ _ ?_
            clear HK
            (try simp only [Act.put, List.setIfInBounds_toArray, List.set_cons_zero, List.set_cons_succ, List.getElem_toArray, List.getElem_cons_succ, List.getElem_cons_zero])
            (refine wpAnyIn_take (i := 13) (v := ?_) rfl rfl ?_ ?_ ?_ (fun _ _ _ h => h) ⟨Or.inl ⟨?_, ?_⟩, fun _ => rfl⟩ ?_; rotate_left 1; (focus kernel_rfl); (focus kernel_rfl); (focus kernel_rfl); (focus rfl); (focus (intro w; go_simp; (try (with_reducible rfl)); done)); (try simp only [Act.put, List.setIfInBounds_toArray, List.set_cons_zero, List.set_cons_succ, List.getElem_toArray, List.getElem_cons_succ, List.getElem_cons_zero]))
            (refine wpAnyIn_take (i := 14) (v := ?_) rfl rfl ?_ ?_ ?_ (fun _ _ _ h => h) ⟨Or.inl ⟨?_, ?_⟩, fun _ => rfl⟩ ?_; rotate_left 1; (focus kernel_rfl); (focus kernel_rfl); (focus kernel_rfl); (focus rfl); (focus (intro w; go_simp; (try (with_reducible rfl)); done)); (try simp only [Act.put, List.setIfInBounds_toArray, List.set_cons_zero, List.set_cons_succ, List.getElem_toArray, List.getElem_cons_succ, List.getElem_cons_zero]))
            refine wpAnyIn_done (by kernel_rfl) ?_ _
            clear hq hm2 hs00 hn00 hct c0 d0 e0
            go_wp2
            refine bodyPost_ret (results_none rfl _ _ _) rfl ?_
            exact ⟨⟨_, rfl⟩, .inr ⟨pre ++ [x], by rw [List.map_append, HP.out, HX.out]; exact (lk_yes HEQ.out ▸ lk_pre (by omega : k + 1 ≤ N)), HJ5.out⟩⟩
      · have HNE : Hid (¬ tbl.getD k 0 = to) := by simp only [Hid]; rw [← hy]; exact he
        have hne : (y == to) = false := by simpa using he
        clear hy he
        go_upto_region 3 with fail
        refine (wpIn_wide (n := m)).1 ?_
        refine wpIn_region_any (by kernel_rfl) ?_
        (try (change wpAnyIn _ _ _ _ _ _ _ _ _ (World.drew _)))
        (refine wpAnyIn_take (i := 0) (v := ?_) rfl rfl ?_ ?_ ?_ (fun _ _ _ h => h) ⟨Or.inl ⟨?_, ?_⟩, fun _ => rfl⟩ ?_; rotate_left 1; (focus kernel_rfl); (focus kernel_rfl); (focus kernel_rfl); (focus rfl); (focus (intro w; go_simp; (try (with_reducible rfl)); done)); (try simp only [Act.put, List.setIfInBounds_toArray, List.set_cons_zero, List.set_cons_succ, List.getElem_toArray, List.getElem_cons_succ, List.getElem_cons_zero]))
        refine wpAnyIn_ready (rs := [1]) (by kernel_rfl) (by simp) (AllReadyIn.cons rfl (fun K hK => ?_) AllReadyIn.nil)
        go_simp
        refine hK _ _ ?_
        clear hK K
        (try simp only [Act.put, List.setIfInBounds_toArray, List.set_cons_zero, List.set_cons_succ, List.getElem_toArray, List.getElem_cons_succ, List.getElem_cons_zero])
        (refine wpAnyIn_take (i := 2) (v := ?_) rfl rfl ?_ ?_ ?_ (fun _ _ _ h => h) ⟨Or.inl ⟨?_, ?_⟩, fun _ => rfl⟩ ?_; rotate_left 1; (focus kernel_rfl); (focus kernel_rfl); (focus kernel_rfl); (focus rfl); (focus (intro w; go_simp; (try (with_reducible rfl)); done)); (try simp only [Act.put, List.setIfInBounds_toArray, List.set_cons_zero, List.set_cons_succ, List.getElem_toArray, List.getElem_cons_succ, List.getElem_cons_zero]))
        (refine wpAnyIn_take (i := 3) (v := ?_) rfl rfl ?_ ?_ ?_ (fun _ _ _ h => h) ⟨Or.inl ⟨?_, ?_⟩, fun _ => rfl⟩ ?_; rotate_left 1; (focus kernel_rfl); (focus kernel_rfl); (focus kernel_rfl); (focus rfl); (focus (intro w; go_simp; (try (with_reducible rfl)); done)); (try simp only [Act.put, List.setIfInBounds_toArray, List.set_cons_zero, List.set_cons_succ, List.getElem_toArray, List.getElem_cons_succ, List.getElem_cons_zero]))
        (refine wpAnyIn_take (i := 4) (v := undef) rfl rfl ?_ ?_ ?_ (fun _ _ _ h => h) ⟨Or.inr ⟨?_, rfl⟩, fun _ => rfl⟩ ?_; (focus kernel_rfl); (focus kernel_rfl); (focus kernel_rfl); (focus rfl); (try simp only [Act.put, List.setIfInBounds_toArray, List.set_cons_zero, List.set_cons_succ, List.getElem_toArray, List.getElem_cons_succ, List.getElem_cons_zero]))
        (refine wpAnyIn_take (i := 5) (v := undef) rfl rfl ?_ ?_ ?_ (fun _ _ _ h => h) ⟨Or.inr ⟨?_, rfl⟩, fun _ => rfl⟩ ?_; (focus kernel_rfl); (focus kernel_rfl); (focus kernel_rfl); (focus rfl); (try simp only [Act.put, List.setIfInBounds_toArray, List.set_cons_zero, List.set_cons_succ, List.getElem_toArray, List.getElem_cons_succ, List.getElem_cons_zero]))
        (refine wpAnyIn_take (i := 6) (v := undef) rfl rfl ?_ ?_ ?_ (fun _ _ _ h => h) ⟨Or.inr ⟨?_, rfl⟩, fun _ => rfl⟩ ?_; (focus kernel_rfl); (focus kernel_rfl); (focus kernel_rfl); (focus rfl); (try simp only [Act.put, List.setIfInBounds_toArray, List.set_cons_zero, List.set_cons_succ, List.getElem_toArray, List.getElem_cons_succ, List.getElem_cons_zero]))
        (refine wpAnyIn_take (i := 7) (v := undef) rfl rfl ?_ ?_ ?_ (fun _ _ _ h => h) ⟨Or.inr ⟨?_, rfl⟩, fun _ => rfl⟩ ?_; (focus kernel_rfl); (focus kernel_rfl); (focus kernel_rfl); (focus rfl); (try simp only [Act.put, List.setIfInBounds_toArray, List.set_cons_zero, List.set_cons_succ, List.getElem_toArray, List.getElem_cons_succ, List.getElem_cons_zero]))
        (refine wpAnyIn_take (i := 8) (v := undef) rfl rfl ?_ ?_ ?_ (fun _ _ _ h => h) ⟨Or.inr ⟨?_, rfl⟩, fun _ => rfl⟩ ?_; (focus kernel_rfl); (focus kernel_rfl); (focus kernel_rfl); (focus rfl); (try simp only [Act.put, List.setIfInBounds_toArray, List.set_cons_zero, List.set_cons_succ, List.getElem_toArray, List.getElem_cons_succ, List.getElem_cons_zero]))
        (refine wpAnyIn_take (i := 9) (v := undef) rfl rfl ?_ ?_ ?_ (fun _ _ _ h => h) ⟨Or.inr ⟨?_, rfl⟩, fun _ => rfl⟩ ?_; (focus kernel_rfl); (focus kernel_rfl); (focus kernel_rfl); (focus rfl); (try simp only [Act.put, List.setIfInBounds_toArray, List.set_cons_zero, List.set_cons_succ, List.getElem_toArray, List.getElem_cons_succ, List.getElem_cons_zero]))
        (refine wpAnyIn_take (i := 10) (v := undef) rfl rfl ?_ ?_ ?_ (fun _ _ _ h => h) ⟨Or.inr ⟨?_, rfl⟩, fun _ => rfl⟩ ?_; (focus kernel_rfl); (focus kernel_rfl); (focus kernel_rfl); (focus rfl); (try simp only [Act.put, List.setIfInBounds_toArray, List.set_cons_zero, List.set_cons_succ, List.getElem_toArray, List.getElem_cons_succ, List.getElem_cons_zero]))
        (refine wpAnyIn_take (i := 11) (v := undef) rfl rfl ?_ ?_ ?_ (fun _ _ _ h => h) ⟨Or.inr ⟨?_, rfl⟩, fun _ => rfl⟩ ?_; (focus kernel_rfl); (focus kernel_rfl); (focus kernel_rfl); (focus rfl); (try simp only [Act.put, List.setIfInBounds_toArray, List.set_cons_zero, List.set_cons_succ, List.getElem_toArray, List.getElem_cons_succ, List.getElem_cons_zero]))
        (refine wpAnyIn_take (i := 12) (v := undef) rfl rfl ?_ ?_ ?_ (fun _ _ _ h => h) ⟨Or.inr ⟨?_, rfl⟩, fun _ => rfl⟩ ?_; (focus kernel_rfl); (focus kernel_rfl); (focus kernel_rfl); (focus rfl); (try simp only [Act.put, List.setIfInBounds_toArray, List.set_cons_zero, List.set_cons_succ, List.getElem_toArray, List.getElem_cons_succ, List.getElem_cons_zero]))
        (refine wpAnyIn_take (i := 13) (v := undef) rfl rfl ?_ ?_ ?_ (fun _ _ _ h => h) ⟨Or.inr ⟨?_, rfl⟩, fun _ => rfl⟩ ?_; (focus kernel_rfl); (focus kernel_rfl); (focus kernel_rfl); (focus rfl); (try simp only [Act.put, List.setIfInBounds_toArray, List.set_cons_zero, List.set_cons_succ, List.getElem_toArray, List.getElem_cons_succ, List.getElem_cons_zero]))
        (refine wpAnyIn_take (i := 14) (v := ?_) rfl rfl ?_ ?_ ?_ (fun _ _ _ h => h) ⟨Or.inl ⟨?_, ?_⟩, fun _ => rfl⟩ ?_; rotate_left 1; (focus kernel_rfl); (focus kernel_rfl); (focus kernel_rfl); (focus rfl); (focus (intro w; go_simp; (try (with_reducible rfl)); done)); (try simp only [Act.put, List.setIfInBounds_toArray, List.set_cons_zero, List.set_cons_succ, List.getElem_toArray, List.getElem_cons_succ, List.getElem_cons_zero]))
        refine wpAnyIn_done (by kernel_rfl) ?_ _
        clear hct c0 d0 e0 hne
        have HJ5 := hid (abides_drew HJ.out HJ0.out)
        have HPX : Hid (pre.map (·.1) = lkL tbl to (k + 1)) := by simp only [Hid]; rw [lk_no HNE.out, HP.out]
        go_wp2
        go_roundw
        case rel => exact ⟨k + 1, by omega, by go_num, pre, HPX.out, HJ5.out, HC1.out.drew⟩
        case measure => simp [intOf]; omega
    · have hkN : k = N := by omega
      subst hkN
      clear hcap
      go_wp2
      go_end0
      exact ⟨⟨_, rfl⟩, .inl ⟨pre, HP.out, HJ0.out⟩⟩

theorem linksTo {w : World} {S n N bt off cap : Nat} {r to : Int} {tbl : List Int} (hk : Lk S n r tbl) (hN : N = tbl.length) (hb : bt < w.heap.size) (hc : ∀ i, i < N → w.cell? ⟨bt, off + i, none⟩ = some (.int .i64 (tbl.getD i 0))) :
    Calls Try.prog 68 #[ruleV (S : Int) r (.slice (some ⟨bt, off, none⟩) N cap), .int .i64 to] w fun e w' => ∃ NR NS NE, e = .returned (.func (.func 82) #[] #[.pointer (some ⟨NR, 0, none⟩), .pointer (some ⟨NS, 0, none⟩), .pointer (some ⟨NE, 0, none⟩)]) ∧
      Cap w' NR NS NE bt off N cap S n r to tbl ∧ w.heap.size ≤ NR ∧ w.heap.size ≤ NS ∧ w.heap.size ≤ NE ∧ Below w.heap.size w w' := by
  obtain ⟨hS, hr, hn, _, _⟩ := hk
  have HS : Hid ((2 ≤ (S : Int) ∧ (S : Int) ≤ 3) ∧ (0 ≤ r ∧ r ≤ 2)) := ⟨⟨Int.ofNat_le.2 hS.1, Int.ofNat_le.2 hS.2⟩, hr⟩
  have HN := hid hn
  have HC : Hid (bt < w.heap.size ∧ ∀ i, i < N → w.cell? ⟨bt, off + i, none⟩ = some (.int .i64 (tbl.getD i 0))) := ⟨hb, hc⟩
  clear hS hr hn hb hc hN
  go_enter Try.func68, Try.ntmps68
  go_wp2_with fail
  obtain ⟨w1, hW⟩ : ∃ x, x = (w.alloc (Obj.cells #[.int .i64 (S : Int), .int .i64 r, .slice (some ⟨bt, off, none⟩) N cap] 28)).alloc (Obj.cells #[.int .i64 to] 2) := ⟨_, rfl⟩
  obtain ⟨NR, hR⟩ : ∃ x, x = w.heap.size := ⟨_, rfl⟩
  obtain ⟨NS, hNS⟩ : ∃ x, x = NR + 1 := ⟨_, rfl⟩
  have HB1 : Hid (Below w.heap.size w w1) := by simp only [Hid]; rw [hW]; exact Go.Joins.below_alloc2 _ _ _
  have kR : w1.heap[NR]? = some (Obj.cells #[.int .i64 (S : Int), .int .i64 r, .slice (some ⟨bt, off, none⟩) N cap] 28) := by rw [hW]; exact FNew.heap_old (FNew.heap_top hR)
  have kS : w1.heap[NS]? = some (Obj.cells #[.int .i64 to] 2) := by rw [hW]; exact FNew.heap_top (by rw [hNS, hR]; simp)
  have HNR : Hid (w.heap.size ≤ NR ∧ w.heap.size ≤ NS) := by simp only [Hid]; omega
  simp only [← hW, ← hR, ← hNS]
  clear hW hR hNS
  go_at_call 32
  refine shapeOf.mono ?_
  rintro e w2 ⟨rfl, bel⟩
  replace kR := heap_keep bel kR
  replace kS := heap_keep bel kS
  have HB2 := hid (HB1.out.trans (bel.mono HB1.out.size))
  have KR := hid kR
  have KS := hid kS
  clear bel kR kS
  go_wp2_with fail
  go_at_call 42
  refine (ends HS.out.1 HS.out.2).mono ?_
  rw [← HN.out]
  rintro e w3 ⟨rfl, bel⟩
  have KR3 := hid (heap_keep bel KR.out)
  have KS3 := hid (heap_keep bel KS.out)
  have HB3 := hid (HB2.out.trans (bel.mono HB2.out.size))
  clear bel
  go_wp2
  go_ret
  have bel := below1 w3 (Obj.cells #[.int .i64 (n : Int)] 2)
  have HB4 := HB3.out.trans (bel.mono HB3.out.size)
  refine ⟨NR, NS, w3.heap.size, rfl, ⟨heap_keep bel KR3.out, heap_keep bel KS3.out, FNew.heap_top rfl, Nat.lt_of_lt_of_le HC.out.1 HB4.size, fun i hi => (HB4.cell (p := ⟨bt, off + i, none⟩) HC.out.1).trans (HC.out.2 i hi)⟩, HNR.out.1, HNR.out.2, HB3.out.size, HB4⟩


end Go.Proofs.Ytjeoccjemkdbiaa.LnkI
