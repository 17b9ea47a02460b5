/- The first turn of a ring: spec.l02Before and the loops of impl.LeastTurn. -/
import Derived.Test.YtacggnbaoegcfaaTurn
import Derived.BigFrame
import Derived.WalkMore
import Derived.Deep.LoopGhost
namespace Go.Proofs.Ytacggnbaoegcfaa.Least
open Go.RowKit Go.Proofs.Ytacggnbaoegcfaa.Rd Go.Proofs.Ytacggnbaoegcfaa.Help Go.Proofs.Ytacggnbaoegcfaa.Ring Go.Proofs.Ytacggnbaoegcfaa.Small Go.Proofs.Ytacggnbaoegcfaa.Num Go.Proofs.Ytacggnbaoegcfaa.App Go.Proofs.Ytacggnbaoegcfaa.Turn
set_option linter.unusedVariables false
set_option linter.unusedSimpArgs false

/-- Whether x comes before y: what is left of the cells, and the cell at which they are read. -/
def bef (x y : Nat → Int) : Nat → Nat → Bool
  | 0, _ => false
  | f + 1, i => if x i = y i then bef x y f (i + 1) else decide (x i < y i)
theorem bef_congr {x y x' y' : Nat → Int} : ∀ (f i : Nat), (∀ j, i ≤ j → j < i + f → x j = x' j ∧ y j = y' j) → bef x y f i = bef x' y' f i
  | 0, _, _ => rfl
  | f + 1, i, h => by
    have h0 := h i (Nat.le_refl _) (by omega)
    simp only [bef]
    rw [h0.1, h0.2, bef_congr f (i + 1) fun j h1 h2 => h j (by omega) (by omega)]
theorem bef_same {x y : Nat → Int} {n k : Nat} (hk : k < n) (h : x k = y k) : bef x y (n - k) k = bef x y (n - (k + 1)) (k + 1) := by
  have : n - k = (n - (k + 1)) + 1 := by omega
  rw [this]
  simp only [bef, if_pos h]
theorem bef_other {x y : Nat → Int} {n k : Nat} (hk : k < n) (h : ¬ x k = y k) : bef x y (n - k) k = decide (x k < y k) := by
  have : n - k = (n - (k + 1)) + 1 := by omega
  rw [this]
  simp only [bef, if_neg h]

/-- The cells of a turned ring. -/
def cel (zs : List Int) (k i : Nat) : Int := zs.getD ((i + k) % zs.length) 0
/-- The least of the turns by 0 .. j. -/
def lst (zs : List Int) : Nat → Nat
  | 0 => 0
  | j + 1 => if bef (cel zs (j + 1)) (cel zs (lst zs j)) zs.length 0 = true then j + 1 else lst zs j
theorem lst_le (zs : List Int) (j : Nat) : lst zs j ≤ j := by
  induction j with
  | zero => exact Nat.le_refl _
  | succ j ih => simp only [lst]; split <;> omega
theorem lst_yes {zs : List Int} {j : Nat} (h : bef (cel zs (j + 1)) (cel zs (lst zs j)) zs.length 0 = true) : lst zs (j + 1) = j + 1 := by simp only [lst, if_pos h]
theorem lst_no {zs : List Int} {j : Nat} (h : bef (cel zs (j + 1)) (cel zs (lst zs j)) zs.length 0 = false) : lst zs (j + 1) = lst zs j := by simp [lst, h]

set_option maxHeartbeats 1000000 in
theorem specBefore {w : World} {b1 b2 : Nat} {v1 v2 : Value} {xs ys : List Int} (h1 : Rd w b1 v1 xs) (h2 : Rd w b2 v2 ys) (hl : xs.length = ys.length) :
    Calls Try.prog 78 #[v1, v2] w fun e w' => e = .returned (.bool (bef (fun i => xs.getD i 0) (fun i => ys.getD i 0) xs.length 0)) ∧ ∃ m, w' = w.drewN m := by
  obtain ⟨ao, cap, rfl, hc, hm, h4⟩ := h1
  obtain ⟨ao2, cap2, rfl, hc2, hm2, h42⟩ := h2
  rw [← hl] at hc2 h42 ⊢
  obtain ⟨X, hX⟩ : ∃ X : Nat → Int, X = fun i => xs.getD i 0 := ⟨_, rfl⟩
  obtain ⟨Y, hY⟩ : ∃ Y : Nat → Int, Y = fun i => ys.getD i 0 := ⟨_, rfl⟩
  have hX' : ∀ i, xs.getD i 0 = X i := fun i => by rw [hX]
  have hY' : ∀ i, ys.getD i 0 = Y i := fun i => by rw [hY]
  simp only [hX', hY'] at h4 h42 ⊢
  obtain ⟨n, hn⟩ : ∃ n, n = xs.length := ⟨_, rfl⟩
  rw [← hn] at hc hc2 h4 h42 ⊢
  have hsz : n ≤ 9223372036854775807 := by unfold maxLen at hm; omega
  obtain ⟨Bq, hBq⟩ : ∃ B, B = bef (fun i => X i) (fun i => Y i) n 0 := ⟨_, rfl⟩
  rw [← hBq]
  have HQ := hid hBq
  clear hc hc2 hm hm2 hn hX hY hX' hY' hl hBq
  go_enter Try.func78, Try.ntmps78
  go_wp2
  go_loopw [5] (fun i wr => ∃ k : Nat, k ≤ n ∧ i = .int .i64 k ∧ Hid (Bq = bef X Y (n - k) k) ∧ ∃ m, wr = w.drewN m) (fun i _ => n - (intOf i).toNat)
  case atStart => exact ⟨0, Nat.zero_le _, rfl, HQ, 0, rfl⟩
  case round =>
    obtain ⟨k, hk, rfl, ha, m, hw⟩ := hrel
    have HW := hid hw
    by_cases hlt : k < n
    · obtain ⟨off, rfl, hb, hcc⟩ := h4 (by omega)
      obtain ⟨off2, rfl, hb2, hcc2⟩ := h42 (by omega)
      obtain ⟨x, hx⟩ : ∃ x, x = X k := ⟨_, rfl⟩
      obtain ⟨y, hy⟩ : ∃ y, y = Y k := ⟨_, rfl⟩
      have hcx : wr.cell? ⟨b1, off + k, none⟩ = some (.int .i64 x) := by rw [hw, hx]; exact hcc k hlt
      have hcy : wr.cell? ⟨b2, off2 + k, none⟩ = some (.int .i64 y) := by rw [hw, hy]; exact hcc2 k hlt
      have hki : (k : Int) < (n : Int) := by omega
      have HX := hid hx
      have HY := hid hy
      clear hx hy hw hcc hcc2
      by_cases he : x = y
      · have HNX : Hid (Bq = bef X Y (n - (k + 1)) (k + 1)) := ha.out.trans (bef_same hlt (by rw [← HX.out, ← HY.out]; exact he))
        subst he
        go_wp2_with fail
        go_quiet (fail)
        go_wp2
        go_roundw
        case rel => exact ⟨k + 1, by omega, by go_num, HNX, m + nq, by rw [HW.out, World.drewN_drewN]⟩
        case measure => simp [intOf]; omega
      · have hf : Bq = decide (x < y) := ha.out.trans ((bef_other hlt (by rw [← HX.out, ← HY.out]; exact he)).trans (by rw [← HX.out, ← HY.out]))
        have HF := hid hf
        have he2 : (x != y) = true := by simpa using he
        clear hf he
        go_wp2_with fail
        go_quiet (fail)
        go_wp2_with fail
        go_quiet (fail)
        go_wp2
        go_ret
        refine ⟨by rw [HF.out]; rfl, ?_⟩
        rw [HW.out, World.drewN_drewN, World.drewN_drewN]
        exact ⟨_, rfl⟩
    · have hkn : k = n := by omega
      subst hkn
      have HF : Hid (Bq = false) := by have := ha.out; rw [Nat.sub_self] at this; exact this
      clear hw
      go_wp2
      go_ret
      exact ⟨by rw [HF.out]; rfl, m, HW.out⟩

set_option maxHeartbeats 2000000 in
theorem implOk {w : World} {b : Nat} {v : Value} {zs : List Int} (h : Rd w b v zs) (hr : isRingB zs 3 = true) :
    Calls Try.prog 46 #[v] w fun e w' => ∃ v' b', e = .returned (.tuple #[v', .bool true]) ∧
      Own 2 w' b' v' (rot zs (lst zs (zs.length - 1)) zs.length) ∧ w.heap.size ≤ b' ∧ Below w.heap.size w w' := by
  obtain ⟨_, _, _, hn⟩ := Words.good_parts hr
  have HR := hid hr
  have HH := hid h
  have HN := hid hn
  obtain ⟨ao, cap, rfl, hc, hm, _⟩ := h
  obtain ⟨n, hnn⟩ : ∃ n, n = zs.length := ⟨_, rfl⟩
  rw [← hnn] at hn HN HH hc ⊢
  have Hn := hid hnn
  obtain ⟨n1, n2⟩ := hn
  have hnz : ((n : Int) == 0) = false := by simp; omega
  clear hr hnn hm
  go_enter Try.func46, Try.ntmps46
  go_wp2_with fail
  go_step3
  go_wp2_with fail
  go_at_call 26
  refine (implIsRing HH.out).mono ?_
  rw [HR.out]
  rintro e w1 ⟨rfl, bel1⟩
  have HB1 := hid bel1
  have H1 := hid (HH.out.keep bel1 (Nat.le_refl _))
  obtain ⟨ao', cap', he, _, _, h4⟩ := HH.out.keep bel1 (Nat.le_refl _)
  obtain ⟨off, ha, _, hcell⟩ := h4 (by rw [← Hn.out]; omega)
  rw [ha] at he
  injection he with he1 he2 he3
  subst he1
  rw [← Hn.out] at hcell
  have HC := hid hcell
  clear bel1 h4 hcell he2 he3 ha
  go_wp2
  go_step3
  go_wp2
  go_loopg [5, 6] n (fun g s t wr => ∃ J L : Nat, g + J = n + 1 ∧ 1 ≤ J ∧ J ≤ n ∧ L < n ∧ Hid (L = lst zs (J - 1)) ∧ s = .int .i64 L ∧ t = .int .i64 J ∧ ∃ m, wr = w1.drewN m)
  case atStart => exact ⟨1, 0, rfl, Nat.le_refl _, n1, by omega, hid rfl, rfl, rfl, 0, rfl⟩
  case round =>
    obtain ⟨J, L, hg, j1, j2, hL, HL, rfl, rfl, m, hw⟩ := hrel
    have HW := hid hw
    clear hw
    by_cases hlt : J < n
    · obtain ⟨Bq, hBq⟩ : ∃ B, B = bef (cel zs J) (cel zs L) n 0 := ⟨_, rfl⟩
      have HQ := hid hBq
      have Hnext : Hid (lst zs (J + 1 - 1) = if Bq = true then J else L) := by
        have e1 : J = (J - 1) + 1 := by omega
        refine hid ?_
        rw [Nat.add_sub_cancel, hBq, HL.out, Hn.out]
        conv => lhs; rw [e1]
        simp only [lst, ← e1]
      clear hBq
      go_wp2
      go_loopg [5, 21] n (fun g s i wr' => s = .int .i64 L ∧ ∃ k : Nat, g + k = n ∧ k ≤ n ∧ i = .int .i64 k ∧ Hid (Bq = bef (cel zs J) (cel zs L) (n - k) k) ∧ ∃ m, wr' = w1.drewN m)
      case atStart => exact ⟨rfl, 0, by omega, Nat.zero_le _, rfl, HQ, m, HW.out⟩
      case round =>
        obtain ⟨rfl, k, hgk, hk, rfl, hbq, m', hw'⟩ := hrel
        have HW' := hid hw'
        by_cases hlk : k < n
        · have hm1 : ((J : Int) + k).tmod n = ((k + J) % n : Nat) := by rw [Int.tmod_eq_emod_of_nonneg (by omega), Int.add_comm]; simp
          have hm2 : ((L : Int) + k).tmod n = ((k + L) % n : Nat) := by rw [Int.tmod_eq_emod_of_nonneg (by omega), Int.add_comm]; simp
          have hl1 : (k + J) % n < n := Nat.mod_lt _ (by omega)
          have hl2 : (k + L) % n < n := Nat.mod_lt _ (by omega)
          obtain ⟨p1, hp1⟩ : ∃ p, p = (k + J) % n := ⟨_, rfl⟩
          obtain ⟨p2, hp2⟩ : ∃ p, p = (k + L) % n := ⟨_, rfl⟩
          rw [← hp1] at hm1 hl1
          rw [← hp2] at hm2 hl2
          obtain ⟨x, hx⟩ : ∃ x, x = cel zs J k := ⟨_, rfl⟩
          obtain ⟨y, hy⟩ : ∃ y, y = cel zs L k := ⟨_, rfl⟩
          have hcx : wr.cell? ⟨b, off + p1, none⟩ = some (.int .i64 x) := by rw [hw', hx, cel, ← Hn.out, ← hp1]; exact HC.out _ hl1
          have hcy : wr.cell? ⟨b, off + p2, none⟩ = some (.int .i64 y) := by rw [hw', hy, cel, ← Hn.out, ← hp2]; exact HC.out _ hl2
          have HX := hid hx
          have HY := hid hy
          have hki : (k : Int) < (n : Int) := by omega
          clear hx hy hp1 hp2 hw'
          by_cases he : x = y
          · have HNX : Hid (Bq = bef (cel zs J) (cel zs L) (n - (k + 1)) (k + 1)) := hid (hbq.out.trans (bef_same hlk (by rw [← HX.out, ← HY.out]; exact he)))
            subst he
            go_wp2_with fail
            go_quiet (fail)
            go_wp2
            go_roundg (n - (k + 1))
            case rel => exact ⟨rfl, k + 1, by omega, by omega, by go_num, HNX, m' + nq, by rw [HW'.out, World.drewN_drewN]⟩
            case measure => omega
          · have HF : Hid (Bq = decide (x < y)) := hid (hbq.out.trans ((bef_other hlk (by rw [← HX.out, ← HY.out]; exact he)).trans (by rw [← HX.out, ← HY.out])))
            have he2 : (x != y) = true := by simpa using he
            clear he
            by_cases hxy : x < y
            · have HT : Hid (J = lst zs (J + 1 - 1)) := hid (by rw [Hnext.out, HF.out]; simp [hxy])
              go_wp2_with fail
              go_quiet (fail)
              go_wp2
              go_roundg (n + 1 - (J + 1))
              case rel => exact ⟨J + 1, J, by omega, by omega, by omega, hlt, HT, rfl, by go_num, m' + nq, by rw [HW'.out, World.drewN_drewN]⟩
              case measure => omega
            · have HT : Hid (L = lst zs (J + 1 - 1)) := hid (by rw [Hnext.out, HF.out]; simp [hxy])
              go_wp2_with fail
              go_quiet (fail)
              go_wp2
              go_roundg (n + 1 - (J + 1))
              case rel => exact ⟨J + 1, L, by omega, by omega, by omega, hL, HT, rfl, by go_num, m' + nq, by rw [HW'.out, World.drewN_drewN]⟩
              case measure => omega
        · have hkn : n = k := by omega
          have HF : Hid (Bq = false) := hid (by have := hbq.out; rw [← hkn, Nat.sub_self] at this; exact this)
          have HT : Hid (L = lst zs (J + 1 - 1)) := hid (by rw [Hnext.out, HF.out]; simp)
          subst hkn
          clear hw'
          go_wp2
          go_roundg (n + 1 - (J + 1))
          case rel => exact ⟨J + 1, L, by omega, by omega, by omega, hL, HT, rfl, by go_num, m', HW'.out⟩
          case measure => omega
    · have hjn : n = J := by omega
      have HE : Hid (L = lst zs (n - 1)) := hid (by rw [hjn]; exact HL.out)
      have hB : Below w.heap.size w wr := by rw [HW.out]; exact HB1.out.trans (Help.below_drewN _ _ _)
      have H2 : Hid (Rd wr b (.slice (some ⟨b, off, none⟩) n cap) zs) := hid (by rw [HW.out]; exact H1.out.keep (Help.below_drewN _ _ _) (Nat.le_refl _))
      have HB2 := hid hB
      subst hjn
      clear hB
      go_wp2_with fail
      go_at_call 77
      refine (implTurned H2.out (by rw [← Hn.out]; exact HN.out) (by rw [← Hn.out]; exact hL)).mono ?_
      rintro e w3 ⟨v', b', rfl, ho, hb', bel⟩
      have R := hid (show Own 2 w3 b' v' (rot zs L zs.length) ∧ w.heap.size ≤ b' ∧ Below w.heap.size w w3 from ⟨ho, Nat.le_trans HB2.out.size hb', HB2.out.trans (bel.mono HB2.out.size)⟩)
      clear ho hb' bel
      go_wp2
      try rw [Exit.noGoto_ret]
      go_ret2
      exact ⟨_, b', rfl, by rw [← HE.out, Hn.out]; exact R.out.1, R.out.2.1, R.out.2.2⟩

set_option maxHeartbeats 1000000 in
theorem implNo {w : World} {b : Nat} {v : Value} {zs : List Int} (h : Rd w b v zs) (hr : isRingB zs 3 = false) :
    Calls Try.prog 46 #[v] w fun e w' => e = .returned (.tuple #[.slice none 0 0, .bool false]) ∧ Below w.heap.size w w' := by
  have HH := hid h
  have HR := hid hr
  clear hr h
  go_enter Try.func46, Try.ntmps46
  go_wp2_with fail
  go_step3
  go_wp2_with fail
  go_at_call 26
  refine (implIsRing HH.out).mono ?_
  rw [HR.out]
  rintro e w1 ⟨rfl, bel1⟩
  go_wp2
  try rw [Exit.noGoto_ret]
  go_ret2
  exact ⟨rfl, bel1⟩

theorem rot_zero (zs : List Int) (h : 0 < zs.length) : rot zs 0 zs.length = zs := by rw [rot_cut zs 0 h]; simp

theorem bef_rot (zs : List Int) (J L : Nat) : bef (fun i => (rot zs J zs.length).getD i 0) (fun i => (rot zs L zs.length).getD i 0) (rot zs J zs.length).length 0 = bef (cel zs J) (cel zs L) zs.length 0 := by
  rw [rot_length]
  refine bef_congr _ _ fun j _ hj => ⟨?_, ?_⟩
  · exact rot_getD zs J zs.length j (by omega)
  · exact rot_getD zs L zs.length j (by omega)

set_option maxHeartbeats 2000000 in
theorem specOk {w : World} {b : Nat} {v : Value} {zs : List Int} (h : Rd w b v zs) (hr : isRingB zs 3 = true) :
    Calls Try.prog 45 #[v] w fun e w' => ∃ v' b', e = .returned (.tuple #[v', .bool true]) ∧
      Own 2 w' b' v' (rot zs (lst zs (zs.length - 1)) zs.length) ∧ w.heap.size ≤ b' ∧ Below w.heap.size w w' := by
  obtain ⟨_, _, _, hn⟩ := Words.good_parts hr
  rw [ring3] at hr
  have HR := hid hr
  have HH := hid h
  have HN := hid hn
  obtain ⟨ao, cap, rfl, hc, hm, h4⟩ := h
  obtain ⟨off, rfl, hb, hcell⟩ := h4 (by omega)
  obtain ⟨n, hnn⟩ : ∃ n, n = zs.length := ⟨_, rfl⟩
  rw [← hnn] at hn HN HH hc hcell ⊢
  have Hn := hid hnn
  have HC := hid hcell
  have HLb := hid hb
  obtain ⟨n1, n2⟩ := hn
  clear hr hnn hm h4 hcell hb
  go_enter Try.func45, Try.ntmps45
  go_wp2_with fail
  go_at_call 63
  refine (specL02Ring HH.out (by decide)).mono ?_
  rw [HR.out]
  rintro e w1 ⟨rfl, rfl⟩
  have own0 : (w.alloc (.cells #[] 2)).ownsRow w.heap.size 2 1 (.slice (some ⟨w.heap.size, 0, none⟩) 0 0) ([] : List Int).length (([] : List Int).map (Value.int .i64)) := by
    simpa using World.ownsRow_lit (base := w.heap.size) (e := 2) (size := 1) w #[] 0 (Nat.le_refl _) (by simp) (by simp)
  have bel0 : Below w.heap.size w (w.alloc (.cells #[] 2)) := (Below.refl _ _).alloc (Nat.le_refl _) _
  have HO0 := hid own0
  have HB0 := hid bel0
  have HCA := hid (fun i hi => (bel0.cell (p := ⟨b, off + i, none⟩) HLb.out).trans (HC.out i hi))
  clear own0 bel0
  go_wp2_with (first | (at_builtin; refine appendN rfl _ _ rfl w.heap.size _ [] rfl HO0.out zs b off n cap Hn.out rfl HCA.out ?c1 ?c2 ?_) | go_in)
  case c1 => simp; omega
  case c2 => exact HB0.out.size
  · intro v1 w1 hown1 hbel1
    obtain ⟨bb, hbb, oo⟩ := Own.of hown1
    have O1 : Hid (Own 2 w1 bb v1 (rot zs 0 zs.length)) := by rw [rot_zero zs (by rw [← Hn.out]; omega)]; exact oo
    have B1 := hid (HB0.out.trans hbel1)
    have C1 := hid hbb
    clear hown1 hbel1 hbb oo
    go_wp2
    go_loopw [4, 5] (fun o t wr => ∃ J L bo : Nat, 1 ≤ J ∧ J ≤ n ∧ L < n ∧ Hid (L = lst zs (J - 1)) ∧ t = .int .i64 J ∧ Own 2 wr bo o (rot zs L zs.length) ∧ w.heap.size ≤ bo ∧ Below w.heap.size w wr) (fun _ t _ => n - (intOf t).toNat)
    case atStart => exact ⟨1, 0, bb, Nat.le_refl _, n1, by omega, hid rfl, rfl, O1.out, C1.out, B1.out⟩
    case round =>
      obtain ⟨J, L, bo, j1, j2, hL, HL, rfl, own, hbo, bel⟩ := hrel
      have HO := hid own
      have HBo := hid hbo
      have HB := hid bel
      clear own hbo bel
      by_cases hlt : J < n
      · obtain ⟨Bq, hBq⟩ : ∃ B, B = bef (cel zs J) (cel zs L) n 0 := ⟨_, rfl⟩
        have HQ := hid hBq
        have Hnext : Hid (lst zs (J + 1 - 1) = if Bq = true then J else L) := by
          have e1 : J = (J - 1) + 1 := by omega
          refine hid ?_
          rw [Nat.add_sub_cancel, hBq, HL.out, Hn.out]
          conv => lhs; rw [e1]
          simp only [lst, ← e1]
        clear hBq
        go_wp2_with fail
        go_at_call 76
        refine (specTurned (HH.out.keep HB.out (Nat.le_refl _)) (by rw [← Hn.out]; exact HN.out) (by omega)).mono ?_
        rintro e w3 ⟨vx, bx, rfl, ox, hbx, bel3⟩
        have HOX := hid ox
        have HBX := hid (Nat.le_trans HB.out.size hbx)
        have HB3 := hid (HB.out.trans (bel3.mono HB.out.size))
        have HO3 := hid (HO.out.keep bel3)
        clear ox hbx bel3
        go_wp2_with fail
        go_at_call 78
        refine (specBefore HOX.out.rd HO3.out.rd (by rw [rot_length, rot_length])).mono ?_
        rw [bef_rot, ← Hn.out, ← HQ.out]
        rintro e w4 ⟨rfl, m, hw4⟩
        have B34 : Below w3.heap.size w3 w4 := by rw [hw4]; exact Help.below_drewN _ _ _
        have HOX4 := hid (HOX.out.keep B34)
        have HO4 := hid (HO3.out.keep B34)
        have HB4 := hid (HB3.out.trans (B34.mono HB3.out.size))
        clear hw4 B34
        cases Bq with
        | true =>
          have HT : Hid (J = lst zs (J + 1 - 1)) := hid (by rw [Hnext.out]; rfl)
          go_wp2
          go_roundw
          case rel => exact ⟨J + 1, J, bx, by omega, by omega, hlt, HT, by go_num, HOX4.out, HBX.out, HB4.out⟩
          case measure => simp [intOf]; omega
        | false =>
          have HT : Hid (L = lst zs (J + 1 - 1)) := hid (by rw [Hnext.out]; rfl)
          go_wp2
          go_roundw
          case rel => exact ⟨J + 1, L, bo, by omega, by omega, hL, HT, by go_num, HO4.out, HBo.out, HB4.out⟩
          case measure => simp [intOf]; omega
      · have hjn : n = J := by omega
        have HE : Hid (L = lst zs (n - 1)) := hid (by rw [hjn]; exact HL.out)
        subst hjn
        go_wp2
        go_ret2
        exact ⟨_, bo, rfl, by rw [← HE.out, Hn.out]; exact HO.out, HBo.out, HB.out⟩

set_option maxHeartbeats 1000000 in
theorem specNo {w : World} {b : Nat} {v : Value} {zs : List Int} (h : Rd w b v zs) (hr : isRingB zs 3 = false) :
    Calls Try.prog 45 #[v] w fun e w' => e = .returned (.tuple #[.slice none 0 0, .bool false]) ∧ Below w.heap.size w w' := by
  rw [ring3] at hr
  have HH := hid h
  have HR := hid hr
  clear hr h
  go_enter Try.func45, Try.ntmps45
  go_wp2_with fail
  go_at_call 63
  refine (specL02Ring HH.out (by decide)).mono ?_
  rw [HR.out]
  rintro e w1 ⟨rfl, rfl⟩
  go_wp2
  go_ret2
  exact ⟨rfl, Below.refl _ _⟩

end Go.Proofs.Ytacggnbaoegcfaa.Least
