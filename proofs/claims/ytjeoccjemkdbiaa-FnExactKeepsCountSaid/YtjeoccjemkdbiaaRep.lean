/- A list of ones: slices.Repeat. -/
import Derived.Test.YtjeoccjemkdbiaaCopy
import Derived.Test.YtjeoccjemkdbiaaLnkI
namespace Go.Proofs.Ytjeoccjemkdbiaa.Rep
open Go.RowKit Go.Proofs.Ytjeoccjemkdbiaa.Rd Go.Proofs.Ytjeoccjemkdbiaa.Help Go.Proofs.Ytjeoccjemkdbiaa.FVal Go.Proofs.Ytjeoccjemkdbiaa.Keep Go.Proofs.Ytjeoccjemkdbiaa.Rule Go.Proofs.Ytjeoccjemkdbiaa.Grow Go.Proofs.Ytjeoccjemkdbiaa.Copy Go.Proofs.Ytjeoccjemkdbiaa.Small
set_option linter.unusedVariables false
set_option linter.unusedSimpArgs false

theorem copy_run {W : World} (ty : TypeId) {b n cap : Nat} {zs xs : List Int} (ow : Rd.Own 2 W b (.slice (some ⟨b, 0, none⟩) n cap) zs) (hz : zs.length = n)
    (off dLen dCap b2 o2 sLen sCap : Nat) (hn : xs.length = Nat.min sLen dLen) (hsrc : ∀ i, i < xs.length → W.cell? ⟨b2, o2 + i, none⟩ = some (.int .i64 (xs.getD i 0))) (hfit : off + xs.length ≤ n) :
    ∃ w', (Builtin.copy_ #[22, 22] ty #[.slice (some ⟨b, off, none⟩) dLen dCap, .slice (some ⟨b2, o2, none⟩) sLen sCap]).run Try.prog W = .ok (goInt xs.length) w' ∧ Rd.Own 2 w' b (.slice (some ⟨b, 0, none⟩) n cap) (splice zs off xs) ∧ W.grownBy w' (some b) := by
  obtain ⟨⟨e1, h2⟩, e3⟩ := ow
  rcases h2 with ⟨h', _⟩ | ⟨g, cap', cur, hv, hb, hg, hnc, hcm, hcs, htake⟩
  · simp at h'
  simp only [Value.slice.injEq, Option.some.injEq, Addr.mk.injEq, and_true, true_and] at hv
  obtain ⟨rfl, hl, rfl⟩ := hv
  have hcl : cur.toList.length = cap := by simpa using hcs
  have htk : cur.toList.take n = zs.map (Value.int .i64) := by rw [hz] at htake; simpa using htake
  have hrun := run_copy_row (P := Try.prog) W 22 22 ty 2 b off dLen dCap ⟨b2, o2, none⟩ sLen sCap cur 2 (xs.map (Value.int .i64)) Try.underlying22 (by kernel_rfl) hg (by simpa using hn)
    (by
      intro j v hj
      have hjl : j < xs.length := by have := (List.getElem?_eq_some_iff.1 hj).1; simpa using this
      rw [Go.WideShapes.add_plain, hsrc j hjl]
      simp [hjl] at hj
      simp [List.getD, hjl, hj])
    (by simp only [List.length_map]; omega)
    (by intro u hu; simp at hu; obtain ⟨x, _, rfl⟩ := hu; rfl)
  refine ⟨W.setRow b (splice cur.toList off (xs.map (Value.int .i64))).toArray, by rw [hrun]; simp [splice], ?_, ⟨rfl, rfl, rfl, by simp [World.setRow], fun k _ hne => setRow_other W b k _ (fun e => hne (by rw [e]))⟩⟩
  have hsl : (splice cur.toList off (xs.map (Value.int .i64))).length = cap := by rw [length_splice _ _ _ (by simp only [List.length_map]; omega)]; exact hcl
  have hsz : (splice zs off xs).length = n := by rw [length_splice _ _ _ (by omega)]; exact hz
  refine ⟨⟨by simp [hsz, hz], .inr ⟨b, cap, (splice cur.toList off (xs.map (Value.int .i64))).toArray, by rw [hsz], hb, setRow_heap W b cur _ 2 (0, 0) hg, by rw [hsz]; omega, hcm, by simp [hsl], ?_⟩⟩, e3⟩
  rw [hsz, Nat.mul_one]
  exact splice_map _ _ _ _ _ htk hz (by omega)

theorem mul64 {w : World} {k : Int} (h : k = 1 ∨ k = 4 ∨ k = 9 ∨ k = 16 ∨ k = 81) :
    Calls Try.prog 81 #[.int .u64 1, .int .u64 k] w fun e w' => e = .returned (.tuple #[.int .u64 0, .int .u64 k]) ∧ w = w' := by
  rcases h with rfl | rfl | rfl | rfl | rfl
  all_goals
    go_enter Try.func81, Try.ntmps81
    go_wp2
    go_ret2
    exact ⟨rfl, rfl⟩

theorem mul {w : World} {k : Int} (h : k = 1 ∨ k = 4 ∨ k = 9 ∨ k = 16 ∨ k = 81) :
    Calls Try.prog 66 #[.int .u64 1, .int .u64 k] w fun e w' => e = .returned (.tuple #[.int .u64 0, .int .u64 k]) ∧ w = w' := by
  have HH := hid h
  go_enter Try.func66, Try.ntmps66
  go_wp2_with fail
  go_at_call 81
  refine (mul64 HH.out).mono ?_
  rintro e w' ⟨rfl, rfl⟩
  go_wp2
  go_ret2
  exact ⟨rfl, rfl⟩

/-- The first k of n are 1, the others 0. -/
def oneL (k n : Nat) : List Int := List.replicate k 1 ++ List.replicate (n - k) 0
theorem one_len {k n : Nat} (h : k ≤ n) : (oneL k n).length = n := by simp [oneL]; omega
theorem one_get {k n i : Nat} (h : i < k) : (oneL k n).getD i 0 = 1 := by
  unfold oneL
  rw [List.getD_eq_getElem?_getD, List.getElem?_append_left (by simpa using h)]; simp [h]
theorem one_splice {k m n : Nat} (h : k + m ≤ n) : splice (oneL k n) k (List.replicate m 1) = oneL (k + m) n := by
  apply List.ext_getElem?
  intro i
  have hg : ∀ (a b : List Int), (∀ i, a.getD i 0 = b.getD i 0) → a.length = b.length → a = b := fun a b h1 h2 => by
    apply List.ext_getElem h2
    intro j h3 h4
    have := h1 j
    simpa [List.getD_eq_getElem?_getD, h3, h4] using this
  have hL : (splice (oneL k n) k (List.replicate m 1)).length = n := by rw [length_splice _ _ _ (by simp [one_len (show k ≤ n by omega)]; exact h), one_len (by omega)]
  refine congrArg (fun l => l[i]?) (hg _ _ (fun j => ?_) (by rw [hL, one_len h]))
  rw [splice_get (by simp [one_len (show k ≤ n by omega)]; exact h)]
  simp only [List.length_replicate]
  have hz : ∀ (p q j : Nat), (oneL p q).getD j 0 = if j < p then 1 else 0 := fun p q j => by
    unfold oneL
    by_cases e : j < p
    · rw [if_pos e]; exact one_get e
    · rw [if_neg e, List.getD_eq_getElem?_getD, List.getElem?_append_right (by simpa using e), List.getElem?_replicate]; split <;> simp
  rw [hz, hz]
  by_cases c1 : k ≤ j ∧ j < k + m
  · rw [if_pos c1, if_pos c1.2, List.getD_eq_getElem?_getD, List.getElem?_replicate, if_pos (by omega)]; rfl
  · rw [if_neg c1]
    by_cases c2 : j < k
    · rw [if_pos c2, if_pos (by omega)]
    · rw [if_neg c2, if_neg (by omega)]

set_option maxHeartbeats 4000000 in
set_option maxRecDepth 100000 in
theorem repeat1 {w : World} {b n : Nat} {v : Value} (h : Rd w b v [1]) (hn : n = 1 ∨ n = 4 ∨ n = 9 ∨ n = 16 ∨ n = 81) :
    Calls Try.prog 41 #[v, .int .i64 (n : Int)] w fun e w' => ∃ b', e = .returned (.slice (some ⟨b', 0, none⟩) n n) ∧ Rd.Own 2 w' b' (.slice (some ⟨b', 0, none⟩) n n) (List.replicate n 1) ∧ w.heap.size ≤ b' ∧ Below w.heap.size w w' := by
  have HMu : Hid ((n : Int) = 1 ∨ (n : Int) = 4 ∨ (n : Int) = 9 ∨ (n : Int) = 16 ∨ (n : Int) = 81) := by simp only [Hid]; omega
  have hn1 : 1 ≤ n ∧ n ≤ 81 := by omega
  obtain ⟨n1, n2⟩ := hn1
  obtain ⟨ao, cap, rfl, hc, hm, h4⟩ := h
  obtain ⟨off, rfl, hb, hcell⟩ := h4 (by simp)
  have HC : Hid (b < w.heap.size ∧ w.cell? ⟨b, off, none⟩ = some (.int .i64 1)) := ⟨hb, by have := hcell 0 (by simp); simpa using this⟩
  have hmk := run_make_row' (P := Try.prog) 22 2 (.int .i64 0) 8 Try.underlying22 infoI rfl .i64 .i64 n (by omega) (by omega)
  have hcw : ((n : Int) % 18446744073709551616) = (n : Int) := by omega
  simp only [List.length_cons, List.length_nil, Nat.zero_add] at hc ⊢
  clear h4 hcell hb hn hm
  go_enter Try.func41, Try.ntmps41
  go_wp2_with fail
  go_at_call 66
  refine (mul HMu.out).mono ?_
  rintro e w' ⟨rfl, rfl⟩
  go_wp2_with fail
  obtain ⟨w1, hW⟩ : ∃ x, x = w.alloc (Obj.cells (madeCells #[.int .i64 0] n) 2) := ⟨_, rfl⟩
  obtain ⟨b', hb'⟩ : ∃ x, x = w.heap.size := ⟨_, rfl⟩
  have o1 : Rd.Own 2 w1 b' (.slice (some ⟨b', 0, none⟩) n n) (oneL 0 n) := by
    have := Own.made 2 w n (by unfold maxLen; omega)
    rw [hW, hb']; simpa [oneL] using this
  have bel1 : Below w.heap.size w w1 := by rw [hW]; exact below1 _ _
  obtain ⟨w2, hrun, o2, g2⟩ := copy_run (xs := [1]) 3 o1 (one_len (by omega)) 0 n n b off 1 cap (by show 1 = min 1 n; omega) (fun i hi => by
    have : i = 0 := by simp at hi; omega
    subst this
    rw [Nat.add_zero]; exact (bel1.cell (p := ⟨b, off, none⟩) HC.out.1).trans HC.out.2) (by simp; omega)
  simp only [← hW, ← hb']
  rw [hrun]
  simp only [Result.andThen]
  rw [Oper.upon_value]
  have HLO : Hid (w.heap.size ≤ b') := by simp only [Hid]; omega
  have o2' : Rd.Own 2 w2 b' (.slice (some ⟨b', 0, none⟩) n n) (oneL 1 n) := by
    have e := one_splice (k := 0) (m := 1) (n := n) (by omega)
    rw [← e]; exact o2
  have O2 := hid o2'
  have G2 := hid (g_below bel1 g2 HLO.out)
  clear hW hb' o1 bel1 hrun o2 g2 o2' hmk
  go_wp2
  go_loopw [8] (fun x wr => ∃ k : Nat, k ≤ n ∧ 1 ≤ k ∧ x = .int .i64 k ∧ Below w.heap.size w wr ∧ Rd.Own 2 wr b' (.slice (some ⟨b', 0, none⟩) n n) (oneL k n)) (fun x _ => n - (intOf x).toNat)
  case atStart => exact ⟨1, by omega, by omega, rfl, G2.out, O2.out⟩
  case round =>
    clear G2 O2
    obtain ⟨k, hk, hk1, rfl, hB, hO⟩ := hrel
    have KB := hid hB
    have HO := hid hO
    clear hB hO
    by_cases hlt : k < n
    · obtain ⟨m, hm⟩ : ∃ m, m = Nat.min k (n - k) := ⟨_, rfl⟩
      have HK : Hid (k < n ∧ 1 ≤ k ∧ n ≤ 81 ∧ m ≤ k ∧ m ≤ n - k ∧ 1 ≤ m) := ⟨hlt, hk1, n2, by rw [hm]; exact Nat.min_le_left _ _, by rw [hm]; exact Nat.min_le_right _ _, by rw [hm]; exact Nat.le_min.2 ⟨hk1, by omega⟩⟩
      have HM := hid hm
      have hnk : ¬ n = k := by omega
      have hw8 : IntKind.i64.wrap ((k : Int) + (m : Int)) = ((k + m : Nat) : Int) := by
        have := HK.out
        rw [IntKind.wrap_i64]
        have h5 := wrap_id (x := (k : Int) + (m : Int)) (by omega) (by omega)
        unfold wrap64 at h5; rw [h5]; simp
      clear hm
      go_upto_region 9 with fail
      refine wp_region_held_drew (S := (fun _ => True)) (by kernel_rfl) ?_ (fun hHeld => ?_)
      · ((try dsimp only); (try trivial))
      (refine wpAnyH_take (i := 0) (v := ?_) rfl ?_ ?_ ?_ (fun _ _ _ h => h) (Or.inl ⟨?_, ?_⟩) ?_ ?_; rotate_left 1; (focus decide +kernel); (focus decide +kernel); (focus decide +kernel); (focus rfl); (focus (intro w hSw; (try dsimp only at hSw); go_simp; (try (with_reducible rfl)); done)); (focus assumption); (try simp only [Act.put, List.setIfInBounds_toArray, List.set_cons_zero, List.set_cons_succ, List.getElem_toArray, List.getElem_cons_succ, List.getElem_cons_zero]))
      (refine wpAnyH_take (i := 1) (v := ?_) rfl ?_ ?_ ?_ (fun _ _ _ h => h) (Or.inl ⟨?_, ?_⟩) ?_ ?_; rotate_left 1; (focus decide +kernel); (focus decide +kernel); (focus decide +kernel); (focus rfl); (focus (intro w hSw; (try dsimp only at hSw); go_simp; (try (with_reducible rfl)); done)); (focus assumption); (try simp only [Act.put, List.setIfInBounds_toArray, List.set_cons_zero, List.set_cons_succ, List.getElem_toArray, List.getElem_cons_succ, List.getElem_cons_zero]))
      (refine wpAnyH_take (i := 2) (v := ?_) rfl ?_ ?_ ?_ (fun _ _ _ h => h) (Or.inl ⟨?_, ?_⟩) ?_ ?_; rotate_left 1; (focus decide +kernel); (focus decide +kernel); (focus decide +kernel); (focus rfl); (focus (intro w hSw; (try dsimp only at hSw); go_simp; (try (with_reducible rfl)); done)); (focus assumption); (try simp only [Act.put, List.setIfInBounds_toArray, List.set_cons_zero, List.set_cons_succ, List.getElem_toArray, List.getElem_cons_succ, List.getElem_cons_zero]))
      (refine wpAnyH_take (i := 3) (v := ?_) rfl ?_ ?_ ?_ (fun _ _ _ h => h) (Or.inl ⟨?_, ?_⟩) ?_ ?_; rotate_left 1; (focus decide +kernel); (focus decide +kernel); (focus decide +kernel); (focus rfl); (focus (intro w hSw; (try dsimp only at hSw); go_simp; (try (with_reducible rfl)); done)); (focus assumption); (try simp only [Act.put, List.setIfInBounds_toArray, List.set_cons_zero, List.set_cons_succ, List.getElem_toArray, List.getElem_cons_succ, List.getElem_cons_zero]))
      (refine wpAnyH_take (i := 4) (v := ?_) rfl ?_ ?_ ?_ (fun _ _ _ h => h) (Or.inl ⟨?_, ?_⟩) ?_ ?_; rotate_left 1; (focus decide +kernel); (focus decide +kernel); (focus decide +kernel); (focus rfl); (focus (intro w hSw; (try dsimp only at hSw); go_simp; (try (with_reducible rfl)); done)); (focus assumption); (try simp only [Act.put, List.setIfInBounds_toArray, List.set_cons_zero, List.set_cons_succ, List.getElem_toArray, List.getElem_cons_succ, List.getElem_cons_zero]))
      (refine wpAnyH_take (i := 5) (v := ?_) rfl ?_ ?_ ?_ (fun _ _ _ h => h) (Or.inl ⟨?_, ?_⟩) ?_ ?_; rotate_left 1; (focus decide +kernel); (focus decide +kernel); (focus decide +kernel); (focus rfl); (focus (intro w hSw; (try dsimp only at hSw); go_simp; (try (with_reducible rfl)); done)); (focus assumption); (try simp only [Act.put, List.setIfInBounds_toArray, List.set_cons_zero, List.set_cons_succ, List.getElem_toArray, List.getElem_cons_succ, List.getElem_cons_zero]))
      (refine wpAnyH_take (i := 6) (v := ?_) rfl ?_ ?_ ?_ (fun _ _ _ h => h) (Or.inl ⟨?_, ?_⟩) ?_ ?_; rotate_left 1; (focus decide +kernel); (focus decide +kernel); (focus decide +kernel); (focus rfl); (focus (intro w hSw; (try dsimp only at hSw); go_simp; (try (with_reducible rfl)); done)); (focus assumption); (try simp only [Act.put, List.setIfInBounds_toArray, List.set_cons_zero, List.set_cons_succ, List.getElem_toArray, List.getElem_cons_succ, List.getElem_cons_zero]))
      refine wpAnyH_ready (rs := [7]) ?_ (by simp) ?_
      · decide +kernel
      refine AllReadyH.cons rfl (fun K hK => ?_) AllReadyH.nil
      refine step_copy (xs := List.replicate m 1) rfl _ _ rfl HO.out (one_len (by have := HK.out; omega)) k (n - k) (n - k) b' 0 k n rfl rfl ?c1 ?c2 ?c3 ?_
      case c1 => (try rw [List.length_replicate]); exact HM.out
      case c2 => intro i hi; (try rw [List.length_replicate] at hi); have := HK.out; have h5 := HO.out.cell (i := i) (by rw [one_len (by omega)]; omega); rw [one_get (by omega)] at h5; rw [Nat.zero_add]; simp [List.getD_eq_getElem?_getD, hi]; exact h5
      case c3 => (try rw [List.length_replicate]); have := HK.out; omega
      intro w9 ow9 g9
      refine hK.out _ _ trivial (fun hHeld5 => ?_)
      clear hK K hHeld
      (try simp only [Act.put, List.setIfInBounds_toArray, List.set_cons_zero, List.set_cons_succ, List.getElem_toArray, List.getElem_cons_succ, List.getElem_cons_zero])
      (refine wpAnyH_take (i := 8) (v := ?_) rfl ?_ ?_ ?_ (fun _ _ _ h => h) (Or.inl ⟨?_, ?_⟩) ?_ ?_; rotate_left 1; (focus decide +kernel); (focus decide +kernel); (focus decide +kernel); (focus rfl); (focus (intro w hSw; (try dsimp only at hSw); go_simp; (try (with_reducible rfl)); done)); (focus assumption); (try simp only [Act.put, List.setIfInBounds_toArray, List.set_cons_zero, List.set_cons_succ, List.getElem_toArray, List.getElem_cons_succ, List.getElem_cons_zero]))
      (refine wpAnyH_take (i := 9) (v := ?_) rfl ?_ ?_ ?_ (fun _ _ _ h => h) (Or.inl ⟨?_, ?_⟩) ?_ ?_; rotate_left 1; (focus decide +kernel); (focus decide +kernel); (focus decide +kernel); (focus rfl); (focus (intro w hSw; (try dsimp only at hSw); go_simp; (try (with_reducible rfl)); done)); (focus assumption); (try simp only [Act.put, List.setIfInBounds_toArray, List.set_cons_zero, List.set_cons_succ, List.getElem_toArray, List.getElem_cons_succ, List.getElem_cons_zero]))
      refine wpAnyH_done (by kernel_rfl) ?_ _
      have HO3 := hid ow9
      have HG3 := hid g9
      clear ow9 g9
      go_wp2
      go_roundw
      case rel => exact ⟨k + m, by have := HK.out; omega, by have := HK.out; omega, by go_num, g_below KB.out.drew HG3.out HLO.out, by rw [← one_splice (show k + m ≤ n by have := HK.out; omega)]; exact HO3.out⟩
      case measure => have := HK.out; simp [intOf]; omega
    · have hkn : k = n := by omega
      subst hkn
      have HF : Hid (Rd.Own 2 wr b' (.slice (some ⟨b', 0, none⟩) k k) (List.replicate k 1)) := by have h5 := HO.out; unfold oneL at h5; simp only [Hid]; simpa using h5
      clear HO
      go_wp2
      go_ret
      exact ⟨b', rfl, HF.out, HLO.out, KB.out⟩
end Go.Proofs.Ytjeoccjemkdbiaa.Rep
