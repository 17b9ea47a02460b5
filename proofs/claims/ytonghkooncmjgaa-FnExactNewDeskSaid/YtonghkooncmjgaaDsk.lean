/- A desk: both sides of ValidDesk, and the law's helpers. -/
import Derived.Test.YtonghkooncmjgaaQKit
import Derived.Test.YtonghkooncmjgaaFldKit
import Derived.Test.YtonghkooncmjgaaSpO
import Derived.Test.YtonghkooncmjgaaFsO
import Derived.Test.YtonghkooncmjgaaDsO
import Derived.Test.YtonghkooncmjgaaFVal
import Derived.Test.YtonghkooncmjgaaFNew
import Derived.Deep.Cut
namespace Go.Proofs.Ytonghkooncmjgaa.Dsk
open Go.RowKit Go.Proofs.Ytonghkooncmjgaa.Rd Go.Proofs.Ytonghkooncmjgaa.Help Go.Proofs.Ytonghkooncmjgaa.Keep Go.Proofs.Ytonghkooncmjgaa.Rule
set_option linter.unusedVariables false
set_option linter.unusedSimpArgs false

/-- A value of a desk. -/
abbrev deskV (s r : Int) (v1 v2 : Value) (s2 r2 : Int) (v3 v4 v5 : Value) : Value := .agg #[.int .i64 s, .int .i64 r, v1, v2, .int .i64 s2, .int .i64 r2, v3, v4, v5]
def deskB (s r : Int) (z1 z2 : List Int) (s2 r2 : Int) (z3 z4 z5 : List Int) : Bool := validB s r z1 && (Ring.ringB z2 3 && (FVal.fieldB s2 r2 z3 && LVal.lifeB z4 z5))
theorem heap_keep {w w' : World} {n : Nat} {o : Obj} (bel : Below w.heap.size w w') (h : w.heap[n]? = some o) : w'.heap[n]? = some o :=
  (bel.block n (Array.getElem?_eq_some_iff.1 h).1).trans h
theorem below_d (B : Nat) (w : World) (m : Nat) : Below B w (w.drewN m) := Spec.below_drewN' B w m
set_option maxHeartbeats 4000000 in
theorem l08Is {w : World} {g : Nat} {s r s2 r2 : Int} {b1 b2 b3 b4 b5 : Nat} {ao1 : Option Addr} {cap1 : Nat} {ao2 : Option Addr} {cap2 : Nat} {ao3 : Option Addr} {cap3 : Nat} {ao4 : Option Addr} {cap4 : Nat} {ao5 : Option Addr} {cap5 : Nat} {z1 z2 z3 z4 z5 : List Int} (h1 : Rd w b1 (.slice ao1 z1.length cap1) z1) (h2 : Rd w b2 (.slice ao2 z2.length cap2) z2) (h3 : Rd w b3 (.slice ao3 z3.length cap3) z3) (h4 : Rd w b4 (.slice ao4 z4.length cap4) z4) (h5 : Rd w b5 (.slice ao5 z5.length cap5) z5) (hk : w.heap[g]? = some (Obj.cells #[.int .i64 s, .int .i64 r, .slice ao1 z1.length cap1, .slice ao2 z2.length cap2, .int .i64 s2, .int .i64 r2, .slice ao3 z3.length cap3, .slice ao4 z4.length cap4, .slice ao5 z5.length cap5] 37)) :
    Calls Try.prog 72 #[.pointer (some ⟨g, 0, none⟩)] w fun e w' => e = .returned (.bool (deskB s r z1 z2 s2 r2 z3 z4 z5)) ∧ Below w.heap.size w w' := by
  obtain ⟨p1, hp1⟩ : ∃ p, p = validB s r z1 := ⟨_, rfl⟩
  obtain ⟨p2, hp2⟩ : ∃ p, p = Ring.ringB z2 3 := ⟨_, rfl⟩
  obtain ⟨p3, hp3⟩ : ∃ p, p = FVal.fieldB s2 r2 z3 := ⟨_, rfl⟩
  obtain ⟨p4, hp4⟩ : ∃ p, p = LVal.lifeB z4 z5 := ⟨_, rfl⟩
  have HV : Hid (deskB s r z1 z2 s2 r2 z3 z4 z5 = (p1 && (p2 && (p3 && p4)))) := by simp only [Hid, deskB, hp1, hp2, hp3, hp4]
  have HP1 := hid hp1
  have HP2 := hid hp2
  have HP3 := hid hp3
  have HP4 := hid hp4
  rw [HV.out]
  clear hp1 hp2 hp3 hp4 HV
  have HH1 := hid h1
  have HH2 := hid h2
  have HH3 := hid h3
  have HH4 := hid h4
  have HH5 := hid h5
  clear h1 h2 h3 h4 h5
  obtain ⟨w1, hw1⟩ : ∃ x, x = w := ⟨_, rfl⟩
  obtain ⟨NA, hNA⟩ : ∃ x, x = g := ⟨_, rfl⟩
  have kA := hk
  have HB1 : Hid (Below w.heap.size w w1) := by simp only [Hid]; rw [hw1]; exact Below.refl _ _
  rw [← hw1, ← hNA] at kA
  rw [← hNA]
  rw [show (Calls Try.prog 72 #[Value.pointer (some ⟨NA, 0, none⟩)] w) = Calls Try.prog 72 #[Value.pointer (some ⟨NA, 0, none⟩)] w1 from by rw [hw1]]
  clear hk hw1 hNA
  go_enter Try.func72, Try.ntmps72
  go_wp2_with fail
  have a0 : w1.cell? ⟨NA, 0, none⟩ = some (.int .i64 s) := Go.Joins.cell_of_block kA 0
  have a1 : w1.cell? ⟨NA, 1, none⟩ = some (.int .i64 r) := Go.Joins.cell_of_block kA 1
  have a2 : w1.cell? ⟨NA, 2, none⟩ = some (.slice ao1 z1.length cap1) := Go.Joins.cell_of_block kA 2
  go_at_call 99
  refine (SpO.is (o := 0) (HH1.out.keep HB1.out (Nat.le_refl _)) a0 a1 a2).mono ?_
  rw [← HP1.out]
  rintro e w2 ⟨rfl, m, hm⟩
  have bel : Below w1.heap.size w1 w2 := by rw [hm]; exact below_d _ _ _
  clear hm
  have HB2 := hid (HB1.out.trans (bel.mono HB1.out.size))
  replace kA := heap_keep bel kA
  clear bel a0 a1 a2
  cases p1 with
  | false =>
    clear kA
    go_wp2
    go_ret
    exact ⟨rfl, HB2.out⟩
  | true =>
    skip
    have a3 : w2.cell? ⟨NA, 3, none⟩ = some (.slice ao2 z2.length cap2) := Go.Joins.cell_of_block kA 3
    try (go_wp2_with fail)
    go_at_call 88
    refine (Ring.specL02Ring (HH2.out.keep HB2.out (Nat.le_refl _)) (by decide)).mono ?_
    rw [← HP2.out]
    rintro e w3 ⟨rfl, hE⟩
    have bel : Below w2.heap.size w2 w3 := hE ▸ Below.refl _ _
    clear hE
    have HB3 := hid (HB2.out.trans (bel.mono HB2.out.size))
    replace kA := heap_keep bel kA
    clear bel a3
    cases p2 with
    | false =>
      clear kA
      go_wp2
      go_ret
      exact ⟨rfl, HB3.out⟩
    | true =>
      skip
      have a4 : w3.cell? ⟨NA, 4, none⟩ = some (.int .i64 s2) := Go.Joins.cell_of_block kA 4
      have a5 : w3.cell? ⟨NA, 5, none⟩ = some (.int .i64 r2) := Go.Joins.cell_of_block kA 5
      have a6 : w3.cell? ⟨NA, 6, none⟩ = some (.slice ao3 z3.length cap3) := Go.Joins.cell_of_block kA 6
      try (go_wp2_with fail)
      go_at_call 152
      refine (FsO.is (o := 4) (HH3.out.keep HB3.out (Nat.le_refl _)) a4 a5 a6).mono ?_
      rw [← HP3.out]
      rintro e w4 ⟨rfl, m, hm⟩
      have bel : Below w3.heap.size w3 w4 := by rw [hm]; exact below_d _ _ _
      clear hm
      have HB4 := hid (HB3.out.trans (bel.mono HB3.out.size))
      replace kA := heap_keep bel kA
      clear bel a4 a5 a6
      cases p3 with
      | false =>
        clear kA
        go_wp2
        go_ret
        exact ⟨rfl, HB4.out⟩
      | true =>
        skip
        have a7 : w4.cell? ⟨NA, 7, none⟩ = some (.slice ao4 z4.length cap4) := Go.Joins.cell_of_block kA 7
        have a8 : w4.cell? ⟨NA, 8, none⟩ = some (.slice ao5 z5.length cap5) := Go.Joins.cell_of_block kA 8
        try (go_wp2_with fail)
        go_at_call 91
        refine (DsO.life (o := 7) a7 a8 (HH4.out.keep HB4.out (Nat.le_refl _)) (HH5.out.keep HB4.out (Nat.le_refl _))).mono ?_
        rw [← HP4.out]
        rintro e w5 ⟨rfl, m, hm⟩
        have bel : Below w4.heap.size w4 w5 := by rw [hm]; exact below_d _ _ _
        clear hm
        have HB5 := hid (HB4.out.trans (bel.mono HB4.out.size))
        replace kA := heap_keep bel kA
        clear bel a7 a8
        clear kA
        go_wp2
        go_ret
        exact ⟨rfl, HB5.out⟩

set_option maxHeartbeats 2000000 in
theorem spec {w : World} {s r s2 r2 : Int} {b1 b2 b3 b4 b5 : Nat} {v1 v2 v3 v4 v5 : Value} {z1 z2 z3 z4 z5 : List Int} (h1 : Rd w b1 v1 z1) (h2 : Rd w b2 v2 z2) (h3 : Rd w b3 v3 z3) (h4 : Rd w b4 v4 z4) (h5 : Rd w b5 v5 z5) :
    Calls Try.prog 18 #[deskV s r v1 v2 s2 r2 v3 v4 v5] w fun e w' => e = .returned (.bool (deskB s r z1 z2 s2 r2 z3 z4 z5)) ∧ Below w.heap.size w w' := by
  have HH1 := hid h1
  have HH2 := hid h2
  have HH3 := hid h3
  have HH4 := hid h4
  have HH5 := hid h5
  obtain ⟨ao1, cap1, rfl, hc1, hm1, _⟩ := h1
  obtain ⟨ao2, cap2, rfl, hc2, hm2, _⟩ := h2
  obtain ⟨ao3, cap3, rfl, hc3, hm3, _⟩ := h3
  obtain ⟨ao4, cap4, rfl, hc4, hm4, _⟩ := h4
  obtain ⟨ao5, cap5, rfl, hc5, hm5, _⟩ := h5
  clear hc1 hm1 hc2 hm2 hc3 hm3 hc4 hm4 hc5 hm5
  go_enter Try.func18, Try.ntmps18
  go_wp2_with fail
  obtain ⟨w1, hW⟩ : ∃ x, x = w.alloc (Obj.cells #[.int .i64 s, .int .i64 r, .slice ao1 z1.length cap1, .slice ao2 z2.length cap2, .int .i64 s2, .int .i64 r2, .slice ao3 z3.length cap3, .slice ao4 z4.length cap4, .slice ao5 z5.length cap5] 37) := ⟨_, rfl⟩
  obtain ⟨NA, hN⟩ : ∃ x, x = w.heap.size := ⟨_, rfl⟩
  have HB1 : Hid (Below w.heap.size w w1) := by simp only [Hid]; rw [hW]; exact below1 _ _
  have kA : w1.heap[NA]? = some (Obj.cells #[.int .i64 s, .int .i64 r, .slice ao1 z1.length cap1, .slice ao2 z2.length cap2, .int .i64 s2, .int .i64 r2, .slice ao3 z3.length cap3, .slice ao4 z4.length cap4, .slice ao5 z5.length cap5] 37) := by rw [hW]; exact FNew.heap_top hN
  simp only [← hW, ← hN]
  clear hW hN
  go_at_call 72
  refine (l08Is (HH1.out.keep HB1.out (Nat.le_refl _)) (HH2.out.keep HB1.out (Nat.le_refl _)) (HH3.out.keep HB1.out (Nat.le_refl _)) (HH4.out.keep HB1.out (Nat.le_refl _)) (HH5.out.keep HB1.out (Nat.le_refl _)) kA).mono ?_
  rintro e w2 ⟨rfl, bel⟩
  have HB2 := hid (HB1.out.trans (bel.mono HB1.out.size))
  clear kA bel
  go_wp2
  go_ret
  exact ⟨rfl, HB2.out⟩

theorem ring3 {w : World} {b : Nat} {v : Value} {zs : List Int} (h : Rd w b v zs) :
    Calls Try.prog 74 #[v] w fun e w' => e = .returned (.bool (Ring.ringB zs 3)) ∧ Below w.heap.size w w' := by
  have e : Ring.isRingB zs 3 = Ring.ringB zs 3 := by simp [Ring.isRingB]
  rw [← e]
  have HH := hid h
  obtain ⟨ao, cap, rfl, hc, hm, _⟩ := h
  clear hc hm e
  go_enter Try.func74, Try.ntmps74
  go_wp2_with fail
  go_at_call 118
  refine (Ring.implIsRing HH.out).mono ?_
  rintro e w2 ⟨rfl, bel⟩
  have HB := hid bel
  clear bel
  go_wp2
  go_ret
  exact ⟨rfl, HB.out⟩

set_option maxHeartbeats 4000000 in
theorem impl {w : World} {s r s2 r2 : Int} {b1 b2 b3 b4 b5 : Nat} {v1 v2 v3 v4 v5 : Value} {z1 z2 z3 z4 z5 : List Int} (h1 : Rd w b1 v1 z1) (h2 : Rd w b2 v2 z2) (h3 : Rd w b3 v3 z3) (h4 : Rd w b4 v4 z4) (h5 : Rd w b5 v5 z5) :
    Calls Try.prog 20 #[deskV s r v1 v2 s2 r2 v3 v4 v5] w fun e w' => e = .returned (.bool (deskB s r z1 z2 s2 r2 z3 z4 z5)) ∧ Below w.heap.size w w' := by
  obtain ⟨p1, hp1⟩ : ∃ p, p = validB s r z1 := ⟨_, rfl⟩
  obtain ⟨p2, hp2⟩ : ∃ p, p = Ring.ringB z2 3 := ⟨_, rfl⟩
  obtain ⟨p3, hp3⟩ : ∃ p, p = FVal.fieldB s2 r2 z3 := ⟨_, rfl⟩
  obtain ⟨p4, hp4⟩ : ∃ p, p = LVal.lifeB z4 z5 := ⟨_, rfl⟩
  have HV : Hid (deskB s r z1 z2 s2 r2 z3 z4 z5 = (p1 && (p2 && (p3 && p4)))) := by simp only [Hid, deskB, hp1, hp2, hp3, hp4]
  have HP1 := hid hp1
  have HP2 := hid hp2
  have HP3 := hid hp3
  have HP4 := hid hp4
  rw [HV.out]
  clear hp1 hp2 hp3 hp4 HV
  have HH1 := hid h1
  have HH2 := hid h2
  have HH3 := hid h3
  have HH4 := hid h4
  have HH5 := hid h5
  obtain ⟨ao1, cap1, rfl, hc1, hm1, _⟩ := h1
  obtain ⟨ao2, cap2, rfl, hc2, hm2, _⟩ := h2
  obtain ⟨ao3, cap3, rfl, hc3, hm3, _⟩ := h3
  obtain ⟨ao4, cap4, rfl, hc4, hm4, _⟩ := h4
  obtain ⟨ao5, cap5, rfl, hc5, hm5, _⟩ := h5
  clear hc1 hm1 hc2 hm2 hc3 hm3 hc4 hm4 hc5 hm5
  go_enter Try.func20, Try.ntmps20
  go_wp2_with fail
  obtain ⟨w1, hW⟩ : ∃ x, x = w.alloc (Obj.cells #[.int .i64 s, .int .i64 r, .slice ao1 z1.length cap1, .slice ao2 z2.length cap2, .int .i64 s2, .int .i64 r2, .slice ao3 z3.length cap3, .slice ao4 z4.length cap4, .slice ao5 z5.length cap5] 37) := ⟨_, rfl⟩
  obtain ⟨NA, hN⟩ : ∃ x, x = w.heap.size := ⟨_, rfl⟩
  have HB1 : Hid (Below w.heap.size w w1) := by simp only [Hid]; rw [hW]; exact below1 _ _
  have kA : w1.heap[NA]? = some (Obj.cells #[.int .i64 s, .int .i64 r, .slice ao1 z1.length cap1, .slice ao2 z2.length cap2, .int .i64 s2, .int .i64 r2, .slice ao3 z3.length cap3, .slice ao4 z4.length cap4, .slice ao5 z5.length cap5] 37) := by rw [hW]; exact FNew.heap_top hN
  simp only [← hW, ← hN]
  clear hW hN
  have a0 : w1.cell? ⟨NA, 0, none⟩ = some (.int .i64 s) := Go.Joins.cell_of_block kA 0
  have a1 : w1.cell? ⟨NA, 1, none⟩ = some (.int .i64 r) := Go.Joins.cell_of_block kA 1
  have a2 : w1.cell? ⟨NA, 2, none⟩ = some (.slice ao1 z1.length cap1) := Go.Joins.cell_of_block kA 2
  go_at_call 73
  refine (Rule.implValid (HH1.out.keep HB1.out (Nat.le_refl _))).mono ?_
  rw [← HP1.out]
  rintro e w2 ⟨rfl, bel⟩
  have HB2 := hid (HB1.out.trans (bel.mono HB1.out.size))
  replace kA := heap_keep bel kA
  clear bel a0 a1 a2
  cases p1 with
  | false =>
    clear kA
    go_wp2
    go_ret
    exact ⟨rfl, HB2.out⟩
  | true =>
    skip
    have a3 : w2.cell? ⟨NA, 3, none⟩ = some (.slice ao2 z2.length cap2) := Go.Joins.cell_of_block kA 3
    try (go_wp2_with fail)
    go_at_call 74
    refine (ring3 (HH2.out.keep HB2.out (Nat.le_refl _))).mono ?_
    rw [← HP2.out]
    rintro e w3 ⟨rfl, bel⟩
    have HB3 := hid (HB2.out.trans (bel.mono HB2.out.size))
    replace kA := heap_keep bel kA
    clear bel a3
    cases p2 with
    | false =>
      clear kA
      go_wp2
      go_ret
      exact ⟨rfl, HB3.out⟩
    | true =>
      skip
      have a4 : w3.cell? ⟨NA, 4, none⟩ = some (.int .i64 s2) := Go.Joins.cell_of_block kA 4
      have a5 : w3.cell? ⟨NA, 5, none⟩ = some (.int .i64 r2) := Go.Joins.cell_of_block kA 5
      have a6 : w3.cell? ⟨NA, 6, none⟩ = some (.slice ao3 z3.length cap3) := Go.Joins.cell_of_block kA 6
      try (go_wp2_with fail)
      go_at_call 75
      refine (FVal.implValid (HH3.out.keep HB3.out (Nat.le_refl _))).mono ?_
      rw [← HP3.out]
      rintro e w4 ⟨rfl, bel⟩
      have HB4 := hid (HB3.out.trans (bel.mono HB3.out.size))
      replace kA := heap_keep bel kA
      clear bel a4 a5 a6
      cases p3 with
      | false =>
        clear kA
        go_wp2
        go_ret
        exact ⟨rfl, HB4.out⟩
      | true =>
        skip
        have a7 : w4.cell? ⟨NA, 7, none⟩ = some (.slice ao4 z4.length cap4) := Go.Joins.cell_of_block kA 7
        have a8 : w4.cell? ⟨NA, 8, none⟩ = some (.slice ao5 z5.length cap5) := Go.Joins.cell_of_block kA 8
        try (go_wp2_with fail)
        go_at_call 76
        refine (LVal.implValid (HH4.out.keep HB4.out (Nat.le_refl _)) (HH5.out.keep HB4.out (Nat.le_refl _))).mono ?_
        rw [← HP4.out]
        rintro e w5 ⟨rfl, bel⟩
        have HB5 := hid (HB4.out.trans (bel.mono HB4.out.size))
        replace kA := heap_keep bel kA
        clear bel a7 a8
        clear kA
        go_wp2
        go_ret
        exact ⟨rfl, HB5.out⟩

end Go.Proofs.Ytonghkooncmjgaa.Dsk
