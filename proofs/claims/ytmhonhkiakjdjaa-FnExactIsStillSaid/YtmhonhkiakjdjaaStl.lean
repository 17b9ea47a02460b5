/- IsStill of both sides. -/
import Derived.Test.YtmhonhkiakjdjaaLs
import Derived.Test.YtmhonhkiakjdjaaNf
import Derived.Test.YtmhonhkiakjdjaaCan
import Derived.Test.YtmhonhkiakjdjaaStp
import Derived.Test.YtmhonhkiakjdjaaFSame
namespace Go.Proofs.Ytmhonhkiakjdjaa.Stl
open Go.RowKit Go.Proofs.Ytmhonhkiakjdjaa.Rd Go.Proofs.Ytmhonhkiakjdjaa.Help Go.Proofs.Ytmhonhkiakjdjaa.Ring Go.Proofs.Ytmhonhkiakjdjaa.Small Go.Proofs.Ytmhonhkiakjdjaa.FVal Go.Proofs.Ytmhonhkiakjdjaa.Keep Go.Proofs.Ytmhonhkiakjdjaa.Rule Go.Proofs.Ytmhonhkiakjdjaa.Grow Go.Proofs.Ytmhonhkiakjdjaa.Arr Go.Proofs.Ytmhonhkiakjdjaa.Lf Go.Proofs.Ytmhonhkiakjdjaa.Can
set_option linter.unusedVariables false
set_option linter.unusedSimpArgs false

set_option maxHeartbeats 4000000 in
theorem specNo {w : World} {s r : Int} {rd : Bool} {b1 b2 b : Nat} {v1 v2 v : Value} {xs ys zs : List Int} (h1 : Rd w b1 v1 xs) (h2 : Rd w b2 v2 ys) (h : Rd w b v zs) (hq : canB xs ys s r zs = false) :
    Calls Try.prog 25 #[lifeV v1 v2, ruleV s r v, .bool rd] w fun e w' => e = .returned (.tuple #[.bool false, .bool false]) ∧ Below w.heap.size w w' := by
  have H1 := hid h1
  have H2 := hid h2
  have HH := hid h
  have HQ := hid hq
  obtain ⟨ao, cap, rfl, hc, hm, _⟩ := h
  obtain ⟨ao1, cap1, rfl, hc1, hm1, _⟩ := h1
  obtain ⟨ao2, cap2, rfl, hc2, hm2, _⟩ := h2
  clear hc hm hc1 hm1 hc2 hm2 hq
  go_enter Try.func25, Try.ntmps25
  go_wp2_with fail
  obtain ⟨w1, hW⟩ : ∃ w1, w1 = ((w.alloc (Obj.cells #[.slice ao1 xs.length cap1, .slice ao2 ys.length cap2] 37)).alloc (Obj.cells #[.int .i64 s, .int .i64 r, .slice ao zs.length cap] 26)) := ⟨_, rfl⟩
  obtain ⟨LB, hL⟩ : ∃ LB, LB = w.heap.size := ⟨_, rfl⟩
  obtain ⟨N, hN⟩ : ∃ N, N = LB + 1 := ⟨_, rfl⟩
  have st : Below w.heap.size w w1 ∧ w1.cell? ⟨LB, 0, none⟩ = some (.slice ao1 xs.length cap1) ∧ w1.cell? ⟨LB, 1, none⟩ = some (.slice ao2 ys.length cap2) ∧ w1.cell? ⟨N, 0, none⟩ = some (.int .i64 s) ∧ w1.cell? ⟨N, 1, none⟩ = some (.int .i64 r) ∧ w1.cell? ⟨N, 2, none⟩ = some (.slice ao zs.length cap) ∧ w.heap.size ≤ w1.heap.size := by
    rw [hW, hN, hL]
    exact ⟨Go.Joins.below_alloc2 _ _ _, cell_keep (below1 _ _) (by simp), cell_keep (below1 _ _) (by simp), by simp, by simp, by simp, by simp <;> omega⟩
  simp only [← hW, ← hL, ← hN]
  clear hW hL hN
  go_at_call 46
  refine (l04Can st.2.1 st.2.2.1 (H1.out.keep st.1 (Nat.le_refl _)) (H2.out.keep st.1 (Nat.le_refl _)) (HH.out.keep st.1 (Nat.le_refl _)) st.2.2.2.1 st.2.2.2.2.1 st.2.2.2.2.2.1).mono ?_
  rw [HQ.out]
  rintro e w2 ⟨rfl, hm2⟩
  have bel := Can.below_m hm2
  clear hm2
  replace st := next5_0 bel st
  clear bel
  go_wp2
  go_ret2
  exact ⟨rfl, st.1⟩

set_option maxHeartbeats 4000000 in
theorem specOk {w : World} {R C n : Nat} {rd : Bool} {b1 b2 b : Nat} {v1 v2 v : Value} {xs ys zs : List Int} (h1 : Rd w b1 v1 xs) (h2 : Rd w b2 v2 ys) (h : Rd w b v zs) (hq : canB xs ys R C zs = true) (hn : n = R * C) :
    Calls Try.prog 25 #[lifeV v1 v2, ruleV R C v, .bool rd] w fun e w' => e = .returned (.tuple #[.bool (Same.sameB R C (lifeL xs ys zs R C rd) R C zs), .bool true]) ∧ Below w.heap.size w w' := by
  obtain ⟨Q, hQ⟩ : ∃ Q, Q = Same.sameB R C (lifeL xs ys zs R C rd) R C zs := ⟨_, rfl⟩
  have HQ2 := hid hQ
  rw [← hQ]
  obtain ⟨hx, hy, hf, hpl⟩ := can_parts hq
  have HX := hid hx
  have HY := hid hy
  have HF := hid hf
  have HPL := hid hpl
  have HN := hid hn
  have HLN : Hid ((lifeL xs ys zs R C rd).length = n) := by show (lifeL xs ys zs R C rd).length = n; unfold lifeL; rw [grid_len, hn]
  clear hx hy hf hpl hn hQ
  have H1 := hid h1
  have H2 := hid h2
  have HH := hid h
  have HQ := hid hq
  obtain ⟨ao, cap, rfl, hc, hm, _⟩ := h
  obtain ⟨ao1, cap1, rfl, hc1, hm1, _⟩ := h1
  obtain ⟨ao2, cap2, rfl, hc2, hm2, _⟩ := h2
  clear hc hm hc1 hm1 hc2 hm2 hq
  go_enter Try.func25, Try.ntmps25
  go_wp2_with fail
  obtain ⟨w1, hW⟩ : ∃ w1, w1 = ((w.alloc (Obj.cells #[.slice ao1 xs.length cap1, .slice ao2 ys.length cap2] 37)).alloc (Obj.cells #[.int .i64 R, .int .i64 C, .slice ao zs.length cap] 26)) := ⟨_, rfl⟩
  obtain ⟨LB, hL⟩ : ∃ LB, LB = w.heap.size := ⟨_, rfl⟩
  obtain ⟨N, hN⟩ : ∃ N, N = LB + 1 := ⟨_, rfl⟩
  have st : Below w.heap.size w w1 ∧ w1.cell? ⟨LB, 0, none⟩ = some (.slice ao1 xs.length cap1) ∧ w1.cell? ⟨LB, 1, none⟩ = some (.slice ao2 ys.length cap2) ∧ w1.cell? ⟨N, 0, none⟩ = some (.int .i64 R) ∧ w1.cell? ⟨N, 1, none⟩ = some (.int .i64 C) ∧ w1.cell? ⟨N, 2, none⟩ = some (.slice ao zs.length cap) ∧ w.heap.size ≤ w1.heap.size := by
    rw [hW, hN, hL]
    exact ⟨Go.Joins.below_alloc2 _ _ _, cell_keep (below1 _ _) (by simp), cell_keep (below1 _ _) (by simp), by simp, by simp, by simp, by simp <;> omega⟩
  simp only [← hW, ← hL, ← hN]
  clear hW hL hN
  go_at_call 46
  refine (l04Can st.2.1 st.2.2.1 (H1.out.keep st.1 (Nat.le_refl _)) (H2.out.keep st.1 (Nat.le_refl _)) (HH.out.keep st.1 (Nat.le_refl _)) st.2.2.2.1 st.2.2.2.2.1 st.2.2.2.2.2.1).mono ?_
  rw [HQ.out]
  rintro e w2 ⟨rfl, hm2⟩
  have bel := Can.below_m hm2
  clear hm2
  replace st := next5_0 bel st
  clear bel
  go_wp2_with fail
  go_at_call 47
  refine (Ls.specNext st.2.1 st.2.2.1 (H1.out.keep st.1 (Nat.le_refl _)) (H2.out.keep st.1 (Nat.le_refl _)) st.2.2.2.1 st.2.2.2.2.1 st.2.2.2.2.2.1 (HH.out.keep st.1 (Nat.le_refl _)) HF.out HN.out HPL.out).mono ?_
  rintro e w3 ⟨b', rfl, ow, lo, bel⟩
  replace st := next5_0 bel st
  clear bel lo
  obtain ⟨w4, hW⟩ : ∃ w4, w4 = w3.alloc (Obj.cells #[.int .i64 R, .int .i64 C, .slice (some ⟨b', 0, none⟩) n n] 26) := ⟨_, rfl⟩
  obtain ⟨NX, hN⟩ : ∃ NX, NX = w3.heap.size := ⟨_, rfl⟩
  have bel : Below w3.heap.size w3 w4 := by rw [hW]; exact below1 _ _
  have x0 : w4.cell? ⟨NX, 0, none⟩ = some (.int .i64 R) := by rw [hW, hN]; simp
  have x1 : w4.cell? ⟨NX, 1, none⟩ = some (.int .i64 C) := by rw [hW, hN]; simp
  have x2 : w4.cell? ⟨NX, 2, none⟩ = some (.slice (some ⟨b', 0, none⟩) n n) := by rw [hW, hN]; simp
  replace st := next5_0 bel st
  replace ow := ow.keep bel
  clear bel
  have stp := st
  rw [hW] at stp x0 x1 x2
  go_wp2_with fail
  clear stp
  rw [← hW] at x0 x1 x2
  simp only [← hW, ← hN]
  clear hW hN
  go_at_call 54
  refine (Same.l02Same x0 x1 x2 st.2.2.2.1 st.2.2.2.2.1 st.2.2.2.2.2.1 ow.rd (HH.out.keep st.1 (Nat.le_refl _))).mono ?_
  rw [← HQ2.out]
  rintro e w5 ⟨rfl, hm⟩
  have bel := Can.below_m hm
  clear hm
  replace st := next5_0 bel st
  have HB := hid st.1
  clear bel x0 x1 x2 ow
  go_wp2
  go_ret2
  exact ⟨rfl, HB.out⟩

set_option maxHeartbeats 4000000 in
theorem implNo {w : World} {s r : Int} {rd : Bool} {b1 b2 b : Nat} {v1 v2 v : Value} {xs ys zs : List Int} (h1 : Rd w b1 v1 xs) (h2 : Rd w b2 v2 ys) (h : Rd w b v zs) (hq : canB xs ys s r zs = false) :
    Calls Try.prog 26 #[lifeV v1 v2, ruleV s r v, .bool rd] w fun e w' => e = .returned (.tuple #[.bool false, .bool false]) ∧ Below w.heap.size w w' := by
  have H1 := hid h1
  have H2 := hid h2
  have HH := hid h
  have HQ := hid hq
  obtain ⟨ao, cap, rfl, hc, hm, _⟩ := h
  obtain ⟨ao1, cap1, rfl, hc1, hm1, _⟩ := h1
  obtain ⟨ao2, cap2, rfl, hc2, hm2, _⟩ := h2
  clear hc hm hc1 hm1 hc2 hm2 hq
  go_enter Try.func26, Try.ntmps26
  go_wp2_with fail
  obtain ⟨w1, hW⟩ : ∃ w1, w1 = ((w.alloc (Obj.cells #[.slice ao1 xs.length cap1, .slice ao2 ys.length cap2] 37)).alloc (Obj.cells #[.int .i64 s, .int .i64 r, .slice ao zs.length cap] 26)) := ⟨_, rfl⟩
  obtain ⟨LB, hL⟩ : ∃ LB, LB = w.heap.size := ⟨_, rfl⟩
  obtain ⟨N, hN⟩ : ∃ N, N = LB + 1 := ⟨_, rfl⟩
  have st : Below w.heap.size w w1 ∧ w1.cell? ⟨LB, 0, none⟩ = some (.slice ao1 xs.length cap1) ∧ w1.cell? ⟨LB, 1, none⟩ = some (.slice ao2 ys.length cap2) ∧ w1.cell? ⟨N, 0, none⟩ = some (.int .i64 s) ∧ w1.cell? ⟨N, 1, none⟩ = some (.int .i64 r) ∧ w1.cell? ⟨N, 2, none⟩ = some (.slice ao zs.length cap) ∧ w.heap.size ≤ w1.heap.size := by
    rw [hW, hN, hL]
    exact ⟨Go.Joins.below_alloc2 _ _ _, cell_keep (below1 _ _) (by simp), cell_keep (below1 _ _) (by simp), by simp, by simp, by simp, by simp <;> omega⟩
  simp only [← hW, ← hL, ← hN]
  clear hW hL hN
  go_at_call 20
  refine (Stp.implNo (H1.out.keep st.1 (Nat.le_refl _)) (H2.out.keep st.1 (Nat.le_refl _)) (HH.out.keep st.1 (Nat.le_refl _)) HQ.out).mono ?_
  rintro e w2 ⟨rfl, bel⟩
  replace st := next5_0 bel st
  clear bel
  have HB := hid (st.1.trans ((below1 w2 (Obj.cells #[.int .i64 0, .int .i64 0, .slice none 0 0] 26)).mono st.1.size))
  clear st
  go_wp2
  go_ret2
  exact ⟨rfl, HB.out⟩

set_option maxHeartbeats 4000000 in
theorem implOk {w : World} {R C n : Nat} {rd : Bool} {b1 b2 b : Nat} {v1 v2 v : Value} {xs ys zs : List Int} (h1 : Rd w b1 v1 xs) (h2 : Rd w b2 v2 ys) (h : Rd w b v zs) (hq : canB xs ys R C zs = true) (hn : n = R * C) :
    Calls Try.prog 26 #[lifeV v1 v2, ruleV R C v, .bool rd] w fun e w' => e = .returned (.tuple #[.bool (Same.sameB R C (lifeL xs ys zs R C rd) R C zs), .bool true]) ∧ Below w.heap.size w w' := by
  obtain ⟨Q, hQ⟩ : ∃ Q, Q = Same.sameB R C (lifeL xs ys zs R C rd) R C zs := ⟨_, rfl⟩
  have HQ2 := hid hQ
  rw [← hQ]
  have HN := hid hn
  have HLN : Hid ((lifeL xs ys zs R C rd).length = n) := by show (lifeL xs ys zs R C rd).length = n; unfold lifeL; rw [grid_len, hn]
  clear hn hQ
  have H1 := hid h1
  have H2 := hid h2
  have HH := hid h
  have HQ := hid hq
  obtain ⟨ao, cap, rfl, hc, hm, _⟩ := h
  obtain ⟨ao1, cap1, rfl, hc1, hm1, _⟩ := h1
  obtain ⟨ao2, cap2, rfl, hc2, hm2, _⟩ := h2
  clear hc hm hc1 hm1 hc2 hm2 hq
  go_enter Try.func26, Try.ntmps26
  go_wp2_with fail
  obtain ⟨w1, hW⟩ : ∃ w1, w1 = ((w.alloc (Obj.cells #[.slice ao1 xs.length cap1, .slice ao2 ys.length cap2] 37)).alloc (Obj.cells #[.int .i64 R, .int .i64 C, .slice ao zs.length cap] 26)) := ⟨_, rfl⟩
  obtain ⟨LB, hL⟩ : ∃ LB, LB = w.heap.size := ⟨_, rfl⟩
  obtain ⟨N, hN⟩ : ∃ N, N = LB + 1 := ⟨_, rfl⟩
  have st : Below w.heap.size w w1 ∧ w1.cell? ⟨LB, 0, none⟩ = some (.slice ao1 xs.length cap1) ∧ w1.cell? ⟨LB, 1, none⟩ = some (.slice ao2 ys.length cap2) ∧ w1.cell? ⟨N, 0, none⟩ = some (.int .i64 R) ∧ w1.cell? ⟨N, 1, none⟩ = some (.int .i64 C) ∧ w1.cell? ⟨N, 2, none⟩ = some (.slice ao zs.length cap) ∧ w.heap.size ≤ w1.heap.size := by
    rw [hW, hN, hL]
    exact ⟨Go.Joins.below_alloc2 _ _ _, cell_keep (below1 _ _) (by simp), cell_keep (below1 _ _) (by simp), by simp, by simp, by simp, by simp <;> omega⟩
  simp only [← hW, ← hL, ← hN]
  clear hW hL hN
  go_at_call 20
  refine (Stp.implOk (H1.out.keep st.1 (Nat.le_refl _)) (H2.out.keep st.1 (Nat.le_refl _)) (HH.out.keep st.1 (Nat.le_refl _)) HQ.out HN.out).mono ?_
  rintro e w3 ⟨b', rfl, ow, lo, bel⟩
  replace st := next5_0 bel st
  clear bel lo
  obtain ⟨w4, hW⟩ : ∃ w4, w4 = w3.alloc (Obj.cells #[.int .i64 R, .int .i64 C, .slice (some ⟨b', 0, none⟩) n n] 26) := ⟨_, rfl⟩
  obtain ⟨NX, hN⟩ : ∃ NX, NX = w3.heap.size := ⟨_, rfl⟩
  have bel : Below w3.heap.size w3 w4 := by rw [hW]; exact below1 _ _
  have x0 : w4.cell? ⟨NX, 0, none⟩ = some (.int .i64 R) := by rw [hW, hN]; simp
  have x1 : w4.cell? ⟨NX, 1, none⟩ = some (.int .i64 C) := by rw [hW, hN]; simp
  have x2 : w4.cell? ⟨NX, 2, none⟩ = some (.slice (some ⟨b', 0, none⟩) n n) := by rw [hW, hN]; simp
  replace st := next5_0 bel st
  replace ow := ow.keep bel
  clear bel
  have stp := st
  rw [hW] at stp x0 x1 x2
  go_wp2_with fail
  clear stp
  rw [← hW] at x0 x1 x2
  simp only [← hW, ← hN]
  clear hW hN
  go_at_call 55
  refine (Same.impl_two ow.rd (HH.out.keep st.1 (Nat.le_refl _))).mono ?_
  rw [← HQ2.out]
  rintro e w5 ⟨rfl, bel⟩
  replace st := next5_0 bel st
  have HB := hid st.1
  clear bel x0 x1 x2 ow
  go_wp2
  go_ret2
  exact ⟨rfl, HB.out⟩

theorem agree (xs ys : List Int) (s r : Int) (zs : List Int) (rd : Bool) : ∃ (q0 q1 : Bool),
    (∀ (w : World) (b1 : Nat) (v1 : Value), Rd w b1 v1 xs → ∀ (b2 : Nat) (v2 : Value), Rd w b2 v2 ys → ∀ (b : Nat) (v : Value), Rd w b v zs → Calls Try.prog 25 #[lifeV v1 v2, ruleV s r v, .bool rd] w fun e w' => e = .returned (.tuple #[.bool q0, .bool q1]) ∧ Below w.heap.size w w') ∧
    (∀ (w : World) (b1 : Nat) (v1 : Value), Rd w b1 v1 xs → ∀ (b2 : Nat) (v2 : Value), Rd w b2 v2 ys → ∀ (b : Nat) (v : Value), Rd w b v zs → Calls Try.prog 26 #[lifeV v1 v2, ruleV s r v, .bool rd] w fun e w' => e = .returned (.tuple #[.bool q0, .bool q1]) ∧ Below w.heap.size w w') := by
  cases hq : canB xs ys s r zs with
  | false => exact ⟨false, false, fun w b1 v1 k1 b2 v2 k2 b v k => specNo k1 k2 k hq, fun w b1 v1 k1 b2 v2 k2 b v k => implNo k1 k2 k hq⟩
  | true =>
    obtain ⟨_, _, hf, _⟩ := can_parts hq
    have hb : (1 ≤ s ∧ s ≤ 24) ∧ 1 ≤ r ∧ r ≤ 24 := by
      simp only [fieldB, Bool.and_eq_true] at hf
      have := hf.1
      simp [sidesB] at this; omega
    obtain ⟨R, rfl⟩ := Int.eq_ofNat_of_zero_le (show 0 ≤ s by omega)
    obtain ⟨C, rfl⟩ := Int.eq_ofNat_of_zero_le (show 0 ≤ r by omega)
    exact ⟨_, _, fun w b1 v1 k1 b2 v2 k2 b v k => specOk k1 k2 k hq rfl, fun w b1 v1 k1 b2 v2 k2 b v k => implOk k1 k2 k hq rfl⟩


end Go.Proofs.Ytmhonhkiakjdjaa.Stl
