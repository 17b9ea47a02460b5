/- ActiveShare of both sides. -/
import Derived.Test.YtejchjjkehmgaaaRuleKit
import Derived.Test.YtejchjjkehmgaaaSpec
import Derived.Test.YtejchjjkehmgaaaHelpF
namespace Go.Proofs.Ytejchjjkehmgaaa.Act
open Go.RowKit Go.Proofs.Ytejchjjkehmgaaa.Rd Go.Proofs.Ytejchjjkehmgaaa.Help Go.Proofs.Ytejchjjkehmgaaa.Ring Go.Proofs.Ytejchjjkehmgaaa.Small Go.Proofs.Ytejchjjkehmgaaa.Num Go.Proofs.Ytejchjjkehmgaaa.Keep Go.Proofs.Ytejchjjkehmgaaa.Rule Go.Proofs.Ytejchjjkehmgaaa.Fl
set_option linter.unusedVariables false
set_option linter.unusedSimpArgs false

theorem valid_parts {s r : Int} {zs : List Int} (h : validB s r zs = true) : (2 ≤ s ∧ s ≤ 3) ∧ (0 ≤ r ∧ r ≤ 2) ∧ (zs.length : Int) = s ^ (2 * r + 1).toNat ∧ allB zs s = true := by
  simp only [validB, shapeB, Bool.and_eq_true, decide_eq_true_eq] at h
  exact ⟨⟨h.1.1, h.1.2.1⟩, ⟨h.1.2.2.1, h.1.2.2.2⟩, h.2.1, h.2.2⟩

theorem valid_len {s r : Int} {zs : List Int} (h : validB s r zs = true) : 1 ≤ zs.length ∧ zs.length ≤ 243 := by
  obtain ⟨h1, h2, h3, _⟩ := valid_parts h
  have := pow_bd h1 (show (2 * r + 1).toNat ≤ 5 by omega)
  omega
/-- How many of the first k cells are not 0. -/
def nz (zs : List Int) : Nat → Nat
  | 0 => 0
  | k + 1 => if zs.getD k 0 = 0 then nz zs k else nz zs k + 1
theorem nz_le (zs : List Int) (k : Nat) : nz zs k ≤ k := by
  induction k with
  | zero => simp [nz]
  | succ k ih => simp only [nz]; split <;> omega
def fi (k : Nat) : Nat := floatOfInt .f32 (k : Int)
set_option maxRecDepth 100000 in
theorem fi_add : ∀ k, k < 244 → fop .add .f32 (some (fi k)) (some 1065353216) = some (fi (k + 1)) := by decide +kernel
set_option maxRecDepth 100000 in
theorem fi_is' : ∀ k, k < 245 → (nanw .f32 (fi k) = false ∧ fi k < 2 ^ 32) := by decide +kernel
theorem fi_is {k : Nat} (h : k < 245) : Is .f32 (fi k) (some (fi k)) := Is_some (fi_is' k h).1 (fi_is' k h).2
theorem fi_zero : fi 0 = 0 := by decide +kernel
theorem one_is : Is .f32 1065353216 (some 1065353216) := ⟨by decide, by decide⟩
theorem zero_is : Is .f32 0 (some 0) := ⟨by decide, by decide⟩
theorem is_eq {x y : Nat} (h : Is .f32 x (some y)) : x = y := by
  have h1 := h.1
  unfold cn at h1
  split at h1
  · cases h1
  · exact Option.some.inj h1
def shareV (s r : Int) (zs : List Int) : Option Nat := if validB s r zs = true then fop .quo .f32 (some (fi (nz zs zs.length))) (some (fi zs.length)) else some 0

set_option maxHeartbeats 1000000 in
theorem specNo {w : World} {s r : Int} {b : Nat} {v : Value} {zs : List Int} (h : Rd w b v zs) (hv : validB s r zs = false) :
    Calls Try.prog 43 #[ruleV s r v] w fun e w' => ∃ q, e = .returned (.tuple #[.float .f32 q, .bool (validB s r zs)]) ∧ Is .f32 q (shareV s r zs) ∧ Below w.heap.size w w' := by
  have HV := hid hv
  have HH := hid h
  obtain ⟨ao, cap, rfl, hc, hm, h4⟩ := h
  clear hc hm h4
  rw [hv, show shareV s r zs = some 0 by rw [shareV, hv]; rfl]
  clear hv
  go_enter Try.func43, Try.ntmps43
  go_wp2_with fail
  obtain ⟨w1, hW⟩ : ∃ w1, w1 = w.alloc (Obj.cells #[.int .i64 s, .int .i64 r, .slice ao zs.length cap] 50) := ⟨_, rfl⟩
  obtain ⟨N, hN⟩ : ∃ N, N = w.heap.size := ⟨_, rfl⟩
  have st1 : Below w.heap.size w w1 ∧ w1.cell? ⟨N, 0, none⟩ = some (.int .i64 s) ∧ w1.cell? ⟨N, 1, none⟩ = some (.int .i64 r) ∧ w1.cell? ⟨N, 2, none⟩ = some (.slice ao zs.length cap) ∧ w.heap.size ≤ w1.heap.size := by
    rw [hW, hN]
    exact ⟨below1 _ _, by simp, by simp, by simp, (below1 _ _).size⟩
  simp only [← hW, ← hN]
  clear hW hN
  go_at_call 90
  refine (Spec.is (HH.out.keep st1.1 (Nat.le_refl _)) st1.2.1 st1.2.2.1 st1.2.2.2.1).mono ?_
  rw [HV.out]
  rintro e w2 ⟨rfl, m0, hw2⟩
  have bel : Below w1.heap.size w1 w2 := by rw [hw2]; exact Spec.below_drewN' _ _ _
  have B2 := st1.1.trans (bel.mono st1.1.size)
  have c2 := (bel.cell (World.block_lt_of_cell? _ _ st1.2.2.2.1)).trans st1.2.2.2.1
  have HB2 := hid B2
  clear st1 B2 bel
  subst hw2
  go_wp2
  go_ret2
  exact ⟨_, rfl, zero_is, HB2.out⟩

set_option maxHeartbeats 2000000 in
theorem specOk {w : World} {s r : Int} {b : Nat} {v : Value} {zs : List Int} (h : Rd w b v zs) (hv : validB s r zs = true) :
    Calls Try.prog 43 #[ruleV s r v] w fun e w' => ∃ q, e = .returned (.tuple #[.float .f32 q, .bool (validB s r zs)]) ∧ Is .f32 q (shareV s r zs) ∧ Below w.heap.size w w' := by
  obtain ⟨g1, g2⟩ := valid_len hv
  have HV := hid hv
  have HH := hid h
  obtain ⟨ao, cap, rfl, hc, hm, h4⟩ := h
  rw [hv, show shareV s r zs = fop .quo .f32 (some (fi (nz zs zs.length))) (some (fi zs.length)) by rw [shareV, if_pos hv]]
  obtain ⟨n, hn⟩ : ∃ n, n = zs.length := ⟨_, rfl⟩
  clear hv
  go_enter Try.func43, Try.ntmps43
  go_wp2_with fail
  obtain ⟨w1, hW⟩ : ∃ w1, w1 = w.alloc (Obj.cells #[.int .i64 s, .int .i64 r, .slice ao zs.length cap] 50) := ⟨_, rfl⟩
  obtain ⟨N, hN⟩ : ∃ N, N = w.heap.size := ⟨_, rfl⟩
  have st1 : Below w.heap.size w w1 ∧ w1.cell? ⟨N, 0, none⟩ = some (.int .i64 s) ∧ w1.cell? ⟨N, 1, none⟩ = some (.int .i64 r) ∧ w1.cell? ⟨N, 2, none⟩ = some (.slice ao zs.length cap) ∧ w.heap.size ≤ w1.heap.size := by
    rw [hW, hN]
    exact ⟨below1 _ _, by simp, by simp, by simp, (below1 _ _).size⟩
  simp only [← hW, ← hN]
  clear hW hN
  go_at_call 90
  refine (Spec.is (HH.out.keep st1.1 (Nat.le_refl _)) st1.2.1 st1.2.2.1 st1.2.2.2.1).mono ?_
  rw [HV.out]
  rintro e w2 ⟨rfl, m0, hw2⟩
  have bel : Below w1.heap.size w1 w2 := by rw [hw2]; exact Spec.below_drewN' _ _ _
  have B2 := st1.1.trans (bel.mono st1.1.size)
  have c2 := (bel.cell (World.block_lt_of_cell? _ _ st1.2.2.2.1)).trans st1.2.2.2.1
  rw [← hn] at h4 g1 g2 c2 ⊢
  have Hn := hid hn
  have hcells : 0 < n → ∃ off, ao = some ⟨b, off, none⟩ ∧ b < w2.heap.size ∧ ∀ i, i < n → w2.cell? ⟨b, off + i, none⟩ = some (.int .i64 (zs.getD i 0)) := by
    intro h0
    obtain ⟨off, e1, e2, e3⟩ := h4 h0
    exact ⟨off, e1, Nat.lt_of_lt_of_le e2 B2.size, fun i hi => (B2.cell e2).trans (e3 i hi)⟩
  have HB2 := hid B2
  have HH2 := hid hcells
  clear hw2
  clear h4 hc hm hn st1 bel B2 hcells HV HH
  go_wp2_with fail
  go_loopw [4, 5] (fun x i wr => ∃ k : Nat, k ≤ n ∧ i = .int .i64 k ∧ (∃ X : Nat, x = .float .f32 X ∧ X = fi (nz zs k)) ∧ ∃ m, wr = w2.drewN m) (fun _ i _ => n - (intOf i).toNat)
  case atStart => exact ⟨0, Nat.zero_le _, rfl, ⟨0, rfl, fi_zero.symm⟩, 0, rfl⟩
  case round =>
    obtain ⟨k, hk, rfl, ⟨X, rfl, hX⟩, mm, rfl⟩ := hrel
    have c2' : (w2.drewN mm).cell? ⟨N, 2, none⟩ = some (.slice ao n cap) := c2
    have hnl := nz_le zs k
    have HA : Is .f32 X (some (fi (nz zs k))) := by rw [hX]; exact fi_is (by omega)
    have HX := hid hX
    clear hX
    by_cases hlt : k < n
    · obtain ⟨off, rfl, hb, hcell⟩ := HH2.out (by omega)
      obtain ⟨z, hz⟩ : ∃ z, z = zs.getD k 0 := ⟨_, rfl⟩
      have hcx : (w2.drewN mm).cell? ⟨b, off + k, none⟩ = some (.int .i64 z) := by rw [hz]; exact hcell k hlt
      have hadd := fi_add (nz zs k) (by omega)
      have HN1 : Hid (nz zs (k + 1) = if z = 0 then nz zs k else nz zs k + 1) := by rw [hz]; rfl
      have hki : (k : Int) < (n : Int) := by omega
      have H1 := one_is
      have HAD := hid hadd
      clear hz hcell hadd
      by_cases he : z = 0
      · subst he
        rw [if_pos rfl] at HN1
        go_wp2_with fail
        go_roundw
        case rel => exact ⟨k + 1, by omega, by go_num, ⟨_, rfl, by rw [HN1.out]; exact HX.out⟩, _, rfl⟩
        case measure => simp [intOf]; omega
      · have hne : (z != 0) = true := by simpa using he
        rw [if_neg he] at HN1
        clear he
        go_wp2_with (refine wpList_fop rfl .add _ _ _ _ rfl _ _ _ rfl rfl rfl HA H1 ?_; intro r2 m2 hr2; rw [HAD.out] at hr2)
        go_roundw
        case rel => exact ⟨k + 1, by omega, by go_num, ⟨_, rfl, by rw [HN1.out]; exact is_eq hr2⟩, _, rfl⟩
        case measure => simp [intOf]; omega
    · have hkn : k = n := by omega
      subst hkn
      have HF : Is .f32 (floatOfInt .f32 (k : Int)) (some (fi k)) := fi_is (by omega)
      go_wp2_with (refine wpList_fop rfl .quo _ _ _ _ rfl _ _ _ rfl rfl rfl HA HF ?_; intro r2 m2 hr2)
      go_ret2
      exact ⟨_, rfl, by rw [← Hn.out]; exact hr2, HB2.out.trans (Spec.below_drewN' _ _ _)⟩

set_option maxHeartbeats 1000000 in
theorem implNo {w : World} {s r : Int} {b : Nat} {v : Value} {zs : List Int} (h : Rd w b v zs) (hv : validB s r zs = false) :
    Calls Try.prog 44 #[ruleV s r v] w fun e w' => ∃ q, e = .returned (.tuple #[.float .f32 q, .bool (validB s r zs)]) ∧ Is .f32 q (shareV s r zs) ∧ Below w.heap.size w w' := by
  have HV := hid hv
  have HH := hid h
  obtain ⟨ao, cap, rfl, hc, hm, h4⟩ := h
  clear hc hm h4
  rw [hv, show shareV s r zs = some 0 by rw [shareV, hv]; rfl]
  clear hv
  go_enter Try.func44, Try.ntmps44
  go_wp2_with fail
  obtain ⟨w1, hW⟩ : ∃ w1, w1 = w.alloc (Obj.cells #[.int .i64 s, .int .i64 r, .slice ao zs.length cap] 50) := ⟨_, rfl⟩
  obtain ⟨N, hN⟩ : ∃ N, N = w.heap.size := ⟨_, rfl⟩
  have st1 : Below w.heap.size w w1 ∧ w1.cell? ⟨N, 0, none⟩ = some (.int .i64 s) ∧ w1.cell? ⟨N, 1, none⟩ = some (.int .i64 r) ∧ w1.cell? ⟨N, 2, none⟩ = some (.slice ao zs.length cap) ∧ w.heap.size ≤ w1.heap.size := by
    rw [hW, hN]
    exact ⟨below1 _ _, by simp, by simp, by simp, (below1 _ _).size⟩
  simp only [← hW, ← hN]
  clear hW hN
  have k0 := st1.2.1
  have k1 := st1.2.2.1
  have k2 := st1.2.2.2.1
  go_wp2_with fail
  go_at_call 91
  refine (implValid (HH.out.keep st1.1 (Nat.le_refl _))).mono ?_
  rw [HV.out]
  rintro e w2 ⟨rfl, bel⟩
  have B2 := st1.1.trans (bel.mono st1.1.size)
  have c2 := (bel.cell (World.block_lt_of_cell? _ _ st1.2.2.2.1)).trans st1.2.2.2.1
  have HB2 := hid B2
  clear st1 B2 bel
  skip
  go_wp2
  go_ret2
  exact ⟨_, rfl, zero_is, HB2.out⟩

set_option maxHeartbeats 2000000 in
theorem implOk {w : World} {s r : Int} {b : Nat} {v : Value} {zs : List Int} (h : Rd w b v zs) (hv : validB s r zs = true) :
    Calls Try.prog 44 #[ruleV s r v] w fun e w' => ∃ q, e = .returned (.tuple #[.float .f32 q, .bool (validB s r zs)]) ∧ Is .f32 q (shareV s r zs) ∧ Below w.heap.size w w' := by
  obtain ⟨g1, g2⟩ := valid_len hv
  have HV := hid hv
  have HH := hid h
  obtain ⟨ao, cap, rfl, hc, hm, h4⟩ := h
  rw [hv, show shareV s r zs = fop .quo .f32 (some (fi (nz zs zs.length))) (some (fi zs.length)) by rw [shareV, if_pos hv]]
  obtain ⟨n, hn⟩ : ∃ n, n = zs.length := ⟨_, rfl⟩
  clear hv
  go_enter Try.func44, Try.ntmps44
  go_wp2_with fail
  obtain ⟨w1, hW⟩ : ∃ w1, w1 = w.alloc (Obj.cells #[.int .i64 s, .int .i64 r, .slice ao zs.length cap] 50) := ⟨_, rfl⟩
  obtain ⟨N, hN⟩ : ∃ N, N = w.heap.size := ⟨_, rfl⟩
  have st1 : Below w.heap.size w w1 ∧ w1.cell? ⟨N, 0, none⟩ = some (.int .i64 s) ∧ w1.cell? ⟨N, 1, none⟩ = some (.int .i64 r) ∧ w1.cell? ⟨N, 2, none⟩ = some (.slice ao zs.length cap) ∧ w.heap.size ≤ w1.heap.size := by
    rw [hW, hN]
    exact ⟨below1 _ _, by simp, by simp, by simp, (below1 _ _).size⟩
  simp only [← hW, ← hN]
  clear hW hN
  have k0 := st1.2.1
  have k1 := st1.2.2.1
  have k2 := st1.2.2.2.1
  go_wp2_with fail
  go_at_call 91
  refine (implValid (HH.out.keep st1.1 (Nat.le_refl _))).mono ?_
  rw [HV.out]
  rintro e w2 ⟨rfl, bel⟩
  have B2 := st1.1.trans (bel.mono st1.1.size)
  have c2 := (bel.cell (World.block_lt_of_cell? _ _ st1.2.2.2.1)).trans st1.2.2.2.1
  rw [← hn] at h4 g1 g2 c2 ⊢
  have Hn := hid hn
  have hcells : 0 < n → ∃ off, ao = some ⟨b, off, none⟩ ∧ b < w2.heap.size ∧ ∀ i, i < n → w2.cell? ⟨b, off + i, none⟩ = some (.int .i64 (zs.getD i 0)) := by
    intro h0
    obtain ⟨off, e1, e2, e3⟩ := h4 h0
    exact ⟨off, e1, Nat.lt_of_lt_of_le e2 B2.size, fun i hi => (B2.cell e2).trans (e3 i hi)⟩
  have HB2 := hid B2
  have HH2 := hid hcells
  skip
  clear h4 hc hm hn st1 bel B2 hcells HV HH
  go_wp2_with fail
  go_loopw [4, 6, 13] (fun x y i wr => ∃ k : Nat, k ≤ n ∧ i = .int .i64 k ∧ x = .int .i64 (nz zs k : Nat) ∧ wr = w2) (fun _ _ i _ => n - (intOf i).toNat)
  case atStart => exact ⟨0, Nat.zero_le _, rfl, by simp [nz], rfl⟩
  case round =>
    obtain ⟨k, hk, rfl, rfl, rfl⟩ := hrel
    have hnl := nz_le zs k
    by_cases hlt : k < n
    · obtain ⟨off, rfl, hb, hcell⟩ := HH2.out (by omega)
      obtain ⟨z, hz⟩ : ∃ z, z = zs.getD k 0 := ⟨_, rfl⟩
      have hcx := hcell k hlt
      rw [← hz] at hcx
      have HN1 : Hid (nz zs (k + 1) = if z = 0 then nz zs k else nz zs k + 1) := by rw [hz]; rfl
      have hki : (k : Int) < (n : Int) := by omega
      obtain ⟨Y, hY⟩ : ∃ Y, Y = nz zs k := ⟨_, rfl⟩
      rw [← hY] at hnl HN1 ⊢
      have hY2 : (Y : Int) ≤ 243 := by omega
      clear hz hcell hY
      by_cases he : z = 0
      · subst he
        rw [if_pos rfl] at HN1
        go_wp2_with fail
        go_roundw
        case rel => exact ⟨k + 1, by omega, by go_num, by rw [HN1.out], trivial⟩
        case measure => simp [intOf]; omega
      · have hne : (z != 0) = true := by simpa using he
        rw [if_neg he] at HN1
        clear he
        go_wp2_with fail
        go_roundw
        case rel => exact ⟨k + 1, by omega, by go_num, by rw [HN1.out]; go_num, trivial⟩
        case measure => simp [intOf]; omega
    · have hkn : k = n := by omega
      subst hkn
      have HF : Is .f32 (floatOfInt .f32 (k : Int)) (some (fi k)) := fi_is (by omega)
      have HG : Is .f32 (floatOfInt .f32 (nz zs k : Nat)) (some (fi (nz zs k))) := fi_is (by omega)
      have hs3 : (Try.prog.underlying 3).isSome = true := by kernel_rfl
      have hd3 := Try.underlying23
      go_wp2_with (first | (refine wpList_fop rfl .quo _ _ _ _ rfl _ _ _ rfl rfl rfl HG HF ?_; intro r2 m2 hr2))
      go_ret2
      exact ⟨_, rfl, by rw [← Hn.out]; exact hr2, HB2.out.trans (Spec.below_drewN' _ _ _)⟩

theorem spec {w : World} {s r : Int} {b : Nat} {v : Value} {zs : List Int} (h : Rd w b v zs) :
    Calls Try.prog 43 #[ruleV s r v] w fun e w' => ∃ q, e = .returned (.tuple #[.float .f32 q, .bool (validB s r zs)]) ∧ Is .f32 q (shareV s r zs) ∧ Below w.heap.size w w' := by
  cases hv : validB s r zs with
  | false => rw [← hv]; exact specNo h hv
  | true => rw [← hv]; exact specOk h hv

theorem impl {w : World} {s r : Int} {b : Nat} {v : Value} {zs : List Int} (h : Rd w b v zs) :
    Calls Try.prog 44 #[ruleV s r v] w fun e w' => ∃ q, e = .returned (.tuple #[.float .f32 q, .bool (validB s r zs)]) ∧ Is .f32 q (shareV s r zs) ∧ Below w.heap.size w w' := by
  cases hv : validB s r zs with
  | false => rw [← hv]; exact implNo h hv
  | true => rw [← hv]; exact implOk h hv

end Go.Proofs.Ytejchjjkehmgaaa.Act
