/- The helpers of the laws over lists of 32-bit floats. -/
import Derived.Test.YtejchjjkehmgaaaRdf
import Derived.Test.YtejchjjkehmgaaaSame
import Derived.Test.YtejchjjkehmgaaaKeep
import Derived.Test.YtejchjjkehmgaaaRule
namespace Go.Proofs.Ytejchjjkehmgaaa.Help
open Go.RowKit Go.Proofs.Ytejchjjkehmgaaa.Rd Go.Proofs.Ytejchjjkehmgaaa.Rdf Go.Proofs.Ytejchjjkehmgaaa.Fl Go.Proofs.Ytejchjjkehmgaaa.Keep
set_option linter.unusedVariables false
set_option linter.unusedSimpArgs false

theorem infoF : (Try.prog.info? 23).map (fun i => (i.zero, i.size, i.bytes)) = some (some (.float .f32 0), 1, 4) := by kernel_rfl

theorem set_partF (zs : List Nat) (k : Nat) (h : k < zs.length) :
    (zs.take k ++ List.replicate (zs.length - k) 0).set k (zs.getD k 0) = zs.take (k + 1) ++ List.replicate (zs.length - (k + 1)) 0 := by
  apply List.ext_getElem?
  intro j
  rw [List.getElem?_set]
  by_cases hj : k = j
  · subst hj
    have e1 : (zs.take k).length = k := by simp; omega
    have e2 : (zs.take (k + 1)).length = k + 1 := by simp; omega
    rw [if_pos rfl, if_pos (by simp; omega), List.getElem?_append_left (by omega), List.getElem?_take, if_pos (by omega)]
    simp [List.getD, h]
  · rw [if_neg hj]
    simp only [List.getElem?_append, List.length_take]
    by_cases hj1 : j < k
    · rw [if_pos (by omega), if_pos (by omega), List.getElem?_take, List.getElem?_take, if_pos (by omega), if_pos (by omega)]
    · rw [if_neg (by omega), if_neg (by omega)]
      simp only [List.getElem?_replicate]
      by_cases hj2 : j < zs.length
      · rw [if_pos (by omega), if_pos (by omega)]
      · rw [if_neg (by omega), if_neg (by omega)]

set_option maxHeartbeats 400000 in
theorem toSF {w : World} {b : Nat} {v : Value} {zs : List Nat} (h : RdF w b v zs) (hl : zs.length ≤ 1048576) :
    Calls Try.prog 16 #[v] w fun e w' => e = .returned (.slice (some ⟨w.heap.size, 0, none⟩) zs.length zs.length) ∧
      OwnF 23 w' w.heap.size (.slice (some ⟨w.heap.size, 0, none⟩) zs.length zs.length) zs ∧ Below w.heap.size w w' := by
  obtain ⟨ao, cap, rfl, h2, h3, h4⟩ := h
  have hmk := run_make_row' (P := Try.prog) 22 23 (.float .f32 0) 4 Try.underlying22 infoF rfl .i64 .i64 zs.length (by omega) (by omega)
  obtain ⟨n, hn⟩ : ∃ n, n = zs.length := ⟨_, rfl⟩
  obtain ⟨N, hN⟩ : ∃ N, N = w.heap.size := ⟨_, rfl⟩
  have HN : Hid (N = w.heap.size) := hN
  rw [← hn] at hmk hl h2 h4 ⊢
  have Hn : Hid (n = zs.length) := hn
  clear hn hN
  go_enter Try.func16, Try.ntmps16
  go_wp2
  go_loopw [4] (fun i wr => ∃ k : Nat, k ≤ n ∧ i = .int .i64 k ∧ OwnF 23 wr w.heap.size (.slice (some ⟨w.heap.size, 0, none⟩) n n) (zs.take k ++ List.replicate (n - k) 0) ∧ Below w.heap.size w wr) (fun i _ => n - (intOf i).toNat)
  case atStart => exact ⟨0, Nat.zero_le _, rfl, by simpa using OwnF.made 23 w n (by unfold maxLen; omega), (Below.refl _ _).alloc (Nat.le_refl _) _⟩
  case round =>
    obtain ⟨k, hk, rfl, hown, hbel⟩ := hrel
    by_cases hlt : k < n
    · obtain ⟨off, rfl, hb, hc⟩ := h4 (by omega)
      obtain ⟨x, hx⟩ : ∃ x, x = zs.getD k 0 := ⟨_, rfl⟩
      have hcx : wr.cell? ⟨b, off + k, none⟩ = some (.float .f32 x) := by rw [hx]; exact (hbel.cell hb).trans (hc k hlt)
      have hlen : (zs.take k ++ List.replicate (n - k) 0).length = n := by have := Hn.out; simp; omega
      have hox := hown.cell (i := k) (by omega)
      have hof := hown.free k
      have HX : Hid (x = zs.getD k 0) := hx
      have HWX : Hid (x < 2 ^ 32) := by rw [hx]; exact h3.2 k
      have hst : ∀ (a : Addr) (x : Nat) (m : Mode) (w : World), (store a (.float .f32 x) m).run Try.prog w = stored Try.prog w a (.float .f32 x) m := fun a x m w => run_store _ w a _ m rfl
      have HO : Hid (OwnF 23 wr w.heap.size (.slice (some ⟨w.heap.size, 0, none⟩) n n) (zs.take k ++ List.replicate (n - k) 0)) := hown
      have HB : Hid (Below w.heap.size w wr) := hbel
      clear hx hc hown hbel hlen
      go_wp2
      go_roundw
      case rel =>
        have hs := set_partF zs k (by have := Hn.out; omega)
        rw [← Hn.out, ← HX.out] at hs
        refine ⟨k + 1, by omega, by go_num, ?_, HB.out.setCell (Nat.le_refl _) _⟩
        rw [← hs]
        exact HO.out.set k x HWX.out
      case measure => simp [intOf]; omega
    · have hkn : k = n := by omega
      subst hkn
      go_wp2
      go_ret
      refine ⟨rfl, ?_, hbel⟩
      have := Hn.out
      rw [this] at hown ⊢
      simpa using hown

theorem szSF {w : World} {ao : Option Addr} {n cap : Nat} {q : Int} (hn : n ≤ 9223372036854775807) (h0 : 0 ≤ q) (hq : q ≤ 1048576) :
    Calls Try.prog 65 #[.slice ao n cap, .int .i64 q] w fun e w' => e = .returned (.int .i64 (if (n : Int) ≤ q then q - n else -1)) ∧ w = w' := by
  by_cases h : (n : Int) ≤ q
  · rw [if_pos h]
    have h1 : decide (q - (n : Int) < 0) = false := by simp; omega
    go_enter Try.func65, Try.ntmps65
    go_wp2
    go_ret
    exact ⟨rfl, rfl⟩
  · rw [if_neg h]
    have h1 : decide (q - (n : Int) < 0) = true := by simp; omega
    go_enter Try.func65, Try.ntmps65
    go_wp2
    go_ret
    exact ⟨rfl, rfl⟩
theorem nextn {N : Nat} {w0 w : World} {p1 p2 : Addr} {c1 c2 : Value} (n : Nat) (h : Below N w0 w ∧ w.cell? p1 = some c1 ∧ w.cell? p2 = some c2 ∧ N ≤ w.heap.size) : Below N w0 (w.drewN n) ∧ (w.drewN n).cell? p1 = some c1 ∧ (w.drewN n).cell? p2 = some c2 ∧ N ≤ (w.drewN n).heap.size :=
  ⟨h.1.trans ⟨rfl, rfl, rfl, Nat.le_refl _, fun _ _ => rfl⟩, h.2.1, h.2.2.1, h.2.2.2⟩
set_option maxHeartbeats 2000000 in
set_option maxRecDepth 100000 in
theorem eqFF {w : World} {b1 b2 : Nat} {v1 v2 : Value} {zs : List Nat} (h1 : RdF w b1 v1 zs) (h2 : RdF w b2 v2 zs) :
    Calls Try.prog 19 #[v1, v2] w fun e w' => e = .returned (.bool true) ∧ Below w.heap.size w w' := by
  obtain ⟨ao, cap, rfl, hc, hm, h4⟩ := h1
  obtain ⟨ao2, cap2, rfl, hc2, hm2, h42⟩ := h2
  obtain ⟨n, hn⟩ : ∃ n, n = zs.length := ⟨_, rfl⟩
  rw [← hn] at hc hc2 h4 h42 ⊢
  have Hn : Hid (n = zs.length) := hn
  have HW := hid hm.2
  clear hn
  have hm1 := hm.1
  have hsz : n ≤ 9223372036854775807 := by unfold maxLen at hm1; omega
  clear hc hc2 hm hm2 hm1
  go_enter Try.func19, Try.ntmps19
  go_wp2
  go_loopw [5] (fun i wr => ∃ k : Nat, k ≤ n ∧ i = .int .i64 k ∧ Below w.heap.size w wr) (fun i _ => n - (intOf i).toNat)
  case atStart => exact ⟨0, Nat.zero_le _, rfl, Below.refl _ _⟩
  case round =>
    obtain ⟨k, hk, rfl, bel⟩ := hrel
    by_cases hlt : k < n
    · obtain ⟨off, rfl, hb, hc⟩ := h4 (by omega)
      obtain ⟨off2, rfl, hb2, hc2⟩ := h42 (by omega)
      obtain ⟨x, hx⟩ : ∃ x, x = zs.getD k 0 := ⟨_, rfl⟩
      have hs0 : Below w.heap.size w wr ∧ wr.cell? ⟨b1, off + k, none⟩ = some (.float .f32 x) ∧ wr.cell? ⟨b2, off2 + k, none⟩ = some (.float .f32 x) ∧ w.heap.size ≤ wr.heap.size := ⟨bel, by rw [hx]; exact (bel.cell hb).trans (hc k hlt), by rw [hx]; exact (bel.cell hb2).trans (hc2 k hlt), bel.size⟩
      have HX : Is .f32 x (cn .f32 x) := ⟨rfl, by rw [hx]; exact HW.out k⟩
      have hki : (k : Int) < (n : Int) := by omega
      clear hx hc hc2 bel
      go_wp2_with fail
      refine wp_region_held_drew (S := (fun ww => Below w.heap.size w ww ∧ ww.cell? ⟨b1, off + k, none⟩ = some (.float .f32 x) ∧ ww.cell? ⟨b2, off2 + k, none⟩ = some (.float .f32 x) ∧ w.heap.size ≤ ww.heap.size)) (by kernel_rfl) ?_ (fun hHeld => ?_)
      · ((try dsimp only); exact drew2_0 hs0)
      (refine wpAnyH_take (i := 0) (v := ?_) rfl ?_ ?_ ?_ (fun _ _ _ h => h) (Or.inl ⟨?_, ?_⟩) ?_ ?_; rotate_left 1; (focus decide +kernel); (focus decide +kernel); (focus decide +kernel); (focus rfl); (focus (intro w hSw; (try dsimp only at hSw); go_simp; (try (with_reducible rfl)); done)); (focus assumption); (try simp only [Act.put, List.setIfInBounds_toArray, List.set_cons_zero, List.set_cons_succ, List.getElem_toArray, List.getElem_cons_succ, List.getElem_cons_zero]))
      (refine wpAnyH_take (i := 1) (v := ?_) rfl ?_ ?_ ?_ (fun _ _ _ h => h) (Or.inl ⟨?_, ?_⟩) ?_ ?_; rotate_left 1; (focus decide +kernel); (focus decide +kernel); (focus decide +kernel); (focus rfl); (focus (intro w hSw; (try dsimp only at hSw); go_simp; (try (with_reducible rfl)); done)); (focus assumption); (try simp only [Act.put, List.setIfInBounds_toArray, List.set_cons_zero, List.set_cons_succ, List.getElem_toArray, List.getElem_cons_succ, List.getElem_cons_zero]))
      (refine wpAnyH_take (i := 2) (v := ?_) rfl ?_ ?_ ?_ (fun _ _ _ h => h) (Or.inl ⟨?_, ?_⟩) ?_ ?_; rotate_left 1; (focus decide +kernel); (focus decide +kernel); (focus decide +kernel); (focus rfl); (focus (intro w hSw; (try dsimp only at hSw); go_simp; (try (with_reducible rfl)); done)); (focus assumption); (try simp only [Act.put, List.setIfInBounds_toArray, List.set_cons_zero, List.set_cons_succ, List.getElem_toArray, List.getElem_cons_succ, List.getElem_cons_zero]))
      (refine wpAnyH_take (i := 3) (v := ?_) rfl ?_ ?_ ?_ (fun _ _ _ h => h) (Or.inl ⟨?_, ?_⟩) ?_ ?_; rotate_left 1; (focus decide +kernel); (focus decide +kernel); (focus decide +kernel); (focus rfl); (focus (intro w hSw; (try dsimp only at hSw); go_simp; (try (with_reducible rfl)); done)); (focus assumption); (try simp only [Act.put, List.setIfInBounds_toArray, List.set_cons_zero, List.set_cons_succ, List.getElem_toArray, List.getElem_cons_succ, List.getElem_cons_zero]))
      (refine wpAnyH_take (i := 5) (v := ?_) rfl ?_ ?_ ?_ (fun _ _ _ h => h) (Or.inl ⟨?_, ?_⟩) ?_ ?_; rotate_left 1; (focus decide +kernel); (focus decide +kernel); (focus decide +kernel); (focus rfl); (focus (intro w hSw; (try dsimp only at hSw); go_simp; (try (with_reducible rfl)); done)); (focus assumption); (try simp only [Act.put, List.setIfInBounds_toArray, List.set_cons_zero, List.set_cons_succ, List.getElem_toArray, List.getElem_cons_succ, List.getElem_cons_zero]))
      (refine wpAnyH_take (i := 6) (v := ?_) rfl ?_ ?_ ?_ (fun _ _ _ h => h) (Or.inl ⟨?_, ?_⟩) ?_ ?_; rotate_left 1; (focus decide +kernel); (focus decide +kernel); (focus decide +kernel); (focus rfl); (focus (intro w hSw; (try dsimp only at hSw); go_simp; (try (with_reducible rfl)); done)); (focus assumption); (try simp only [Act.put, List.setIfInBounds_toArray, List.set_cons_zero, List.set_cons_succ, List.getElem_toArray, List.getElem_cons_succ, List.getElem_cons_zero]))
      (refine wpAnyH_take (i := 7) (v := ?_) rfl ?_ ?_ ?_ (fun _ _ _ h => h) (Or.inl ⟨?_, ?_⟩) ?_ ?_; rotate_left 1; (focus decide +kernel); (focus decide +kernel); (focus decide +kernel); (focus rfl); (focus (intro w hSw; (try dsimp only at hSw); go_simp; (try (with_reducible rfl)); done)); (focus assumption); (try simp only [Act.put, List.setIfInBounds_toArray, List.set_cons_zero, List.set_cons_succ, List.getElem_toArray, List.getElem_cons_succ, List.getElem_cons_zero]))
      (refine wpAnyH_take (i := 8) (v := ?_) rfl ?_ ?_ ?_ (fun _ _ _ h => h) (Or.inl ⟨?_, ?_⟩) ?_ ?_; rotate_left 1; (focus decide +kernel); (focus decide +kernel); (focus decide +kernel); (focus rfl); (focus (intro w hSw; (try dsimp only at hSw); go_simp; (try (with_reducible rfl)); done)); (focus assumption); (try simp only [Act.put, List.setIfInBounds_toArray, List.set_cons_zero, List.set_cons_succ, List.getElem_toArray, List.getElem_cons_succ, List.getElem_cons_zero]))
      refine wpAnyH_ready (rs := [4, 9]) ?_ (by simp) ?_
      · decide +kernel
      refine AllReadyH.cons rfl (fun K hK => ?_) (AllReadyH.cons rfl (fun K hK => ?_) AllReadyH.nil)
      · go_simp
        obtain ⟨rA, mA, hA, iA⟩ := run_conv (P := Try.prog) (wr.drew) (src := 23) (dst := 28) (by rw [Try.underlying23]; rfl) Try.underlying28 HX (fits_widen_is HX)
        rw [hA]
        simp only [Result.andThen]
        rw [Oper.upon_value]
        obtain ⟨wA, hW⟩ : ∃ x, x = (wr.drew).drewN mA := ⟨_, rfl⟩
        have hN := nextn mA hHeld
        rw [← hW] at hN ⊢
        clear hW hHeld
        refine hK.out _ _ ?_ (fun hHeld => ?_)
        · (try dsimp only); exact hN
        clear hK K hN
        (try simp only [Act.put, List.setIfInBounds_toArray, List.set_cons_zero, List.set_cons_succ, List.getElem_toArray, List.getElem_cons_succ, List.getElem_cons_zero])
        refine wpAnyH_ready (rs := [9]) ?_ (by simp) ?_
        · decide +kernel
        refine AllReadyH.cons rfl (fun K hK => ?_) AllReadyH.nil
        go_simp
        obtain ⟨rB, mB, hB, iB⟩ := run_conv (P := Try.prog) (wA) (src := 23) (dst := 28) (by rw [Try.underlying23]; rfl) Try.underlying28 HX (fits_widen_is HX)
        rw [hB]
        simp only [Result.andThen]
        rw [Oper.upon_value]
        obtain ⟨wB, hW⟩ : ∃ x, x = (wA).drewN mB := ⟨_, rfl⟩
        have hN := nextn mB hHeld
        rw [← hW] at hN ⊢
        clear hW hHeld
        refine hK.out _ _ ?_ (fun hHeld => ?_)
        · (try dsimp only); exact hN
        clear hK K hN
        (try simp only [Act.put, List.setIfInBounds_toArray, List.set_cons_zero, List.set_cons_succ, List.getElem_toArray, List.getElem_cons_succ, List.getElem_cons_zero])
        refine wpAnyH_ready (rs := [10]) ?_ (by simp) ?_
        · decide +kernel
        refine AllReadyH.cons rfl (fun K hK => ?_) AllReadyH.nil
        go_simp
        go_at_call 18
        refine (sameFloat _ iA iB).mono ?_
        rintro e w' ⟨rfl, mm, rfl⟩
        refine hK.out _ _ ?_ (fun hHeld => ?_)
        · (try dsimp only); exact nextn _ hHeld
        clear hK K
        (try simp only [Act.put, List.setIfInBounds_toArray, List.set_cons_zero, List.set_cons_succ, List.getElem_toArray, List.getElem_cons_succ, List.getElem_cons_zero])
        (refine wpAnyH_take (i := 11) (v := ?_) rfl ?_ ?_ ?_ (fun _ _ _ h => h) (Or.inl ⟨?_, ?_⟩) ?_ ?_; rotate_left 1; (focus decide +kernel); (focus decide +kernel); (focus decide +kernel); (focus rfl); (focus (intro w hSw; (try dsimp only at hSw); go_simp; (try (with_reducible rfl)); done)); (focus assumption); (try simp only [Act.put, List.setIfInBounds_toArray, List.set_cons_zero, List.set_cons_succ, List.getElem_toArray, List.getElem_cons_succ, List.getElem_cons_zero]))
        refine wpAnyH_done (by kernel_rfl) ?_ _
        go_wp2
        go_roundw
        case rel => exact ⟨k + 1, by omega, by go_num, hHeld.1⟩
        case measure => simp [intOf]; omega
      · go_simp
        obtain ⟨rB, mB, hB, iB⟩ := run_conv (P := Try.prog) (wr.drew) (src := 23) (dst := 28) (by rw [Try.underlying23]; rfl) Try.underlying28 HX (fits_widen_is HX)
        rw [hB]
        simp only [Result.andThen]
        rw [Oper.upon_value]
        obtain ⟨wB, hW⟩ : ∃ x, x = (wr.drew).drewN mB := ⟨_, rfl⟩
        have hN := nextn mB hHeld
        rw [← hW] at hN ⊢
        clear hW hHeld
        refine hK.out _ _ ?_ (fun hHeld => ?_)
        · (try dsimp only); exact hN
        clear hK K hN
        (try simp only [Act.put, List.setIfInBounds_toArray, List.set_cons_zero, List.set_cons_succ, List.getElem_toArray, List.getElem_cons_succ, List.getElem_cons_zero])
        refine wpAnyH_ready (rs := [4]) ?_ (by simp) ?_
        · decide +kernel
        refine AllReadyH.cons rfl (fun K hK => ?_) AllReadyH.nil
        go_simp
        obtain ⟨rA, mA, hA, iA⟩ := run_conv (P := Try.prog) (wB) (src := 23) (dst := 28) (by rw [Try.underlying23]; rfl) Try.underlying28 HX (fits_widen_is HX)
        rw [hA]
        simp only [Result.andThen]
        rw [Oper.upon_value]
        obtain ⟨wA, hW⟩ : ∃ x, x = (wB).drewN mA := ⟨_, rfl⟩
        have hN := nextn mA hHeld
        rw [← hW] at hN ⊢
        clear hW hHeld
        refine hK.out _ _ ?_ (fun hHeld => ?_)
        · (try dsimp only); exact hN
        clear hK K hN
        (try simp only [Act.put, List.setIfInBounds_toArray, List.set_cons_zero, List.set_cons_succ, List.getElem_toArray, List.getElem_cons_succ, List.getElem_cons_zero])
        refine wpAnyH_ready (rs := [10]) ?_ (by simp) ?_
        · decide +kernel
        refine AllReadyH.cons rfl (fun K hK => ?_) AllReadyH.nil
        go_simp
        go_at_call 18
        refine (sameFloat _ iA iB).mono ?_
        rintro e w' ⟨rfl, mm, rfl⟩
        refine hK.out _ _ ?_ (fun hHeld => ?_)
        · (try dsimp only); exact nextn _ hHeld
        clear hK K
        (try simp only [Act.put, List.setIfInBounds_toArray, List.set_cons_zero, List.set_cons_succ, List.getElem_toArray, List.getElem_cons_succ, List.getElem_cons_zero])
        (refine wpAnyH_take (i := 11) (v := ?_) rfl ?_ ?_ ?_ (fun _ _ _ h => h) (Or.inl ⟨?_, ?_⟩) ?_ ?_; rotate_left 1; (focus decide +kernel); (focus decide +kernel); (focus decide +kernel); (focus rfl); (focus (intro w hSw; (try dsimp only at hSw); go_simp; (try (with_reducible rfl)); done)); (focus assumption); (try simp only [Act.put, List.setIfInBounds_toArray, List.set_cons_zero, List.set_cons_succ, List.getElem_toArray, List.getElem_cons_succ, List.getElem_cons_zero]))
        refine wpAnyH_done (by kernel_rfl) ?_ _
        go_wp2
        go_roundw
        case rel => exact ⟨k + 1, by omega, by go_num, hHeld.1⟩
        case measure => simp [intOf]; omega
    · have hkn : k = n := by omega
      subst hkn
      go_wp2
      go_ret
      exact ⟨rfl, bel⟩

theorem toSEF {w : World} {b : Nat} {v : Value} {zs : List Nat} (h : RdF w b v zs) (hl : zs.length ≤ 1048576) :
    Calls Try.prog 16 #[v] w fun e w' => ∃ b', e = .returned (.slice (some ⟨b', 0, none⟩) zs.length zs.length) ∧ OwnF 23 w' b' (.slice (some ⟨b', 0, none⟩) zs.length zs.length) zs ∧ w.heap.size ≤ b' ∧ Below w.heap.size w w' := by
  refine (toSF h hl).mono ?_
  rintro e w' ⟨rfl, o, bel⟩
  exact ⟨_, rfl, o, Nat.le_refl _, bel⟩

end Go.Proofs.Ytejchjjkehmgaaa.Help
