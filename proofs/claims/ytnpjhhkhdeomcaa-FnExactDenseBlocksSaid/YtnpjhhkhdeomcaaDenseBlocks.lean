/- For every gas and every size of a block, impl.DenseBlocks answers as the model of the document does, owns its answer, and changes nothing that it is given. No condition. -/
import Derived.Test.YtnpjhhkhdeomcaaRows
import Derived.Test.YtnpjhhkhdeomcaaFldKit
import Derived.Test.YtnpjhhkhdeomcaaGas
import Derived.Test.YtnpjhhkhdeomcaaGasM
import Derived.Test.YtnpjhhkhdeomcaaDenA
import Derived.WalkKit
import Derived.WalkLawsBesides
import Derived.ProofKit
import Derived.OpenShut
import Derived.ShutString
import Derived.ChangeOld
import Derived.Below
import Derived.IntWalk
import Derived.Lib.SmallJoins
import Derived.Deep.Cut
namespace Go.Proofs.Ytnpjhhkhdeomcaa.lawDenseBlocks
open Go.ChangeShapes Go.WideShapes Go.ChangeAt Go.RowKit Go.Joins Go.Proofs.Ytnpjhhkhdeomcaa.Rd Go.Proofs.Ytnpjhhkhdeomcaa.Help Go.Proofs.Ytnpjhhkhdeomcaa.Rdb Go.Proofs.Ytnpjhhkhdeomcaa.Keep
set_option linter.unusedVariables false
set_option linter.unusedSimpArgs false
theorem own : ownKnob Try.prog.godebug = none := by kernel_rfl
theorem laidOut : laidOutB Try.prog = true := by kernel_rfl
theorem agree (g s r : Int) (xs : List Int) (ys : List Bool) (A B : Int) (hx : xs.length ≤ 1048576) (hy : ys.length ≤ 1048576) : ∃ (rs : List Int) (ok : Bool), rs.length ≤ 1000000 ∧ (∀ (w : World) (b1 : Nat) (v1 : Value) (b2 : Nat) (v2 : Value), Rd w b1 v1 xs → RdB w b2 v2 ys → Calls Try.prog 29 #[gasV g s r v1 v2, .int .i64 A, .int .i64 B] w fun e w' => ∃ ao c b, e = .returned (.tuple #[.slice ao rs.length c, .bool ok]) ∧ Own 2 w' b (.slice ao rs.length c) rs ∧ w.heap.size ≤ b ∧ Below w.heap.size w w') ∧ (∀ (w : World) (b1 : Nat) (v1 : Value) (b2 : Nat) (v2 : Value), Rd w b1 v1 xs → RdB w b2 v2 ys → Calls Try.prog 30 #[gasV g s r v1 v2, .int .i64 A, .int .i64 B] w fun e w' => ∃ ao c b, e = .returned (.tuple #[.slice ao rs.length c, .bool ok]) ∧ Own 2 w' b (.slice ao rs.length c) rs ∧ w.heap.size ≤ b ∧ Below w.heap.size w w') := Den.agree g s r xs ys A B

theorem heap_top0 (w : World) (o : Obj) : (w.alloc o).heap[w.heap.size]? = some o := by
  show (w.heap.push o)[w.heap.size]? = some o
  simp
theorem own_setB {E : TypeId} {w : World} {b : Nat} {v : Value} {zs : List Int} (h : Own E w b v zs) (a : Addr) (u : Value) (hne : v = .slice none 0 0 ∨ a.block ≠ b) : Own E (w.setCell a u) b v zs := by
  rcases hne with hv | hne
  · rcases h.form with ⟨_, he⟩ | ⟨cap, hv2, _⟩
    · subst hv; rw [he]; exact Own.nil _ _ _
    · rw [hv] at hv2; cases hv2
  · exact own_set h a u hne
theorem heap_keep {w w' : World} {n : Nat} {o : Obj} (bel : Below w.heap.size w w') (h : w.heap[n]? = some o) : w'.heap[n]? = some o :=
  (bel.block n (Array.getElem?_eq_some_iff.1 h).1).trans h
theorem mcellB {w w' : World} {c n i : Nat} {u v : Value} (g : w.grownBy w' (some c)) (gn : v = .slice none 0 0 → Below w.heap.size w w') (h : w.cell? ⟨n, i, none⟩ = some u) (hne : v = .slice none 0 0 ∨ n ≠ c) : w'.cell? ⟨n, i, none⟩ = some u := by
  rcases hne with hv | hne
  · exact cell_keep (gn hv) h
  · exact mcell g h hne
theorem heldSB {w : World} {b : Nat} {v : Value} {n : Nat} {q : Int} (h : Rd w b v (marks q n)) (h0 : 0 ≤ q) (hq : q + n ≤ 4611686018427387904) : Calls Try.prog 32 #[v, .int .i64 q] w fun e w' => e = .returned (.int .i64 (q + n)) ∧ Below w.heap.size w w' := by
  refine (heldS h h0 hq).mono ?_
  rintro e w' ⟨rfl, rfl⟩
  exact ⟨rfl, Below.refl _ _⟩
theorem nx5_IB {N : Nat} {w0 w w' : World} {p0 p1 p2 p3 p4 : Addr} {c0 c1 c2 c3 c4 : Value} {b0 : Nat} {v0 : Value} {z0 : List Int} {b1 : Nat} {v1 : Value} {z1 : List Bool} (bel : Below w.heap.size w w') (h : Below N w0 w ∧ w.cell? p0 = some c0 ∧ w.cell? p1 = some c1 ∧ w.cell? p2 = some c2 ∧ w.cell? p3 = some c3 ∧ w.cell? p4 = some c4 ∧ Rd w b0 v0 z0 ∧ RdB w b1 v1 z1 ∧ N ≤ w.heap.size) : Below N w0 w' ∧ w'.cell? p0 = some c0 ∧ w'.cell? p1 = some c1 ∧ w'.cell? p2 = some c2 ∧ w'.cell? p3 = some c3 ∧ w'.cell? p4 = some c4 ∧ Rd w' b0 v0 z0 ∧ RdB w' b1 v1 z1 ∧ N ≤ w'.heap.size := by obtain ⟨h0, x0, x1, x2, x3, x4, y0, y1, h5⟩ := h; exact ⟨h0.trans (bel.mono h5), cell_keep bel x0, cell_keep bel x1, cell_keep bel x2, cell_keep bel x3, cell_keep bel x4, y0.keep bel (Nat.le_refl _), y1.keep bel (Nat.le_refl _), Nat.le_trans h5 bel.size⟩
theorem drw5_IB {N : Nat} {w0 w : World} {p0 p1 p2 p3 p4 : Addr} {c0 c1 c2 c3 c4 : Value} {b0 : Nat} {v0 : Value} {z0 : List Int} {b1 : Nat} {v1 : Value} {z1 : List Bool} (h : Below N w0 w ∧ w.cell? p0 = some c0 ∧ w.cell? p1 = some c1 ∧ w.cell? p2 = some c2 ∧ w.cell? p3 = some c3 ∧ w.cell? p4 = some c4 ∧ Rd w b0 v0 z0 ∧ RdB w b1 v1 z1 ∧ N ≤ w.heap.size) : Below N w0 w.drew ∧ w.drew.cell? p0 = some c0 ∧ w.drew.cell? p1 = some c1 ∧ w.drew.cell? p2 = some c2 ∧ w.drew.cell? p3 = some c3 ∧ w.drew.cell? p4 = some c4 ∧ Rd w.drew b0 v0 z0 ∧ RdB w.drew b1 v1 z1 ∧ N ≤ w.drew.heap.size := by obtain ⟨h0, x0, x1, x2, x3, x4, y0, y1, h5⟩ := h; exact ⟨h0.drew, x0, x1, x2, x3, x4, y0, y1, h5⟩
theorem rdx5_IB_0 {N : Nat} {w0 w : World} {p0 p1 p2 p3 p4 : Addr} {c0 c1 c2 c3 c4 : Value} {b0 : Nat} {v0 : Value} {z0 : List Int} {b1 : Nat} {v1 : Value} {z1 : List Bool} (h : Below N w0 w ∧ w.cell? p0 = some c0 ∧ w.cell? p1 = some c1 ∧ w.cell? p2 = some c2 ∧ w.cell? p3 = some c3 ∧ w.cell? p4 = some c4 ∧ Rd w b0 v0 z0 ∧ RdB w b1 v1 z1 ∧ N ≤ w.heap.size) : Rd w b0 v0 z0 := by obtain ⟨h0, x0, x1, x2, x3, x4, y0, y1, h5⟩ := h; exact y0
theorem rdx5_IB_1 {N : Nat} {w0 w : World} {p0 p1 p2 p3 p4 : Addr} {c0 c1 c2 c3 c4 : Value} {b0 : Nat} {v0 : Value} {z0 : List Int} {b1 : Nat} {v1 : Value} {z1 : List Bool} (h : Below N w0 w ∧ w.cell? p0 = some c0 ∧ w.cell? p1 = some c1 ∧ w.cell? p2 = some c2 ∧ w.cell? p3 = some c3 ∧ w.cell? p4 = some c4 ∧ Rd w b0 v0 z0 ∧ RdB w b1 v1 z1 ∧ N ≤ w.heap.size) : RdB w b1 v1 z1 := by obtain ⟨h0, x0, x1, x2, x3, x4, y0, y1, h5⟩ := h; exact y1
theorem nx10_IB {N : Nat} {w0 w w' : World} {p0 p1 p2 p3 p4 p5 p6 p7 p8 p9 : Addr} {c0 c1 c2 c3 c4 c5 c6 c7 c8 c9 : Value} {b0 : Nat} {v0 : Value} {z0 : List Int} {b1 : Nat} {v1 : Value} {z1 : List Bool} (bel : Below w.heap.size w w') (h : Below N w0 w ∧ w.cell? p0 = some c0 ∧ w.cell? p1 = some c1 ∧ w.cell? p2 = some c2 ∧ w.cell? p3 = some c3 ∧ w.cell? p4 = some c4 ∧ w.cell? p5 = some c5 ∧ w.cell? p6 = some c6 ∧ w.cell? p7 = some c7 ∧ w.cell? p8 = some c8 ∧ w.cell? p9 = some c9 ∧ Rd w b0 v0 z0 ∧ RdB w b1 v1 z1 ∧ N ≤ w.heap.size) : Below N w0 w' ∧ w'.cell? p0 = some c0 ∧ w'.cell? p1 = some c1 ∧ w'.cell? p2 = some c2 ∧ w'.cell? p3 = some c3 ∧ w'.cell? p4 = some c4 ∧ w'.cell? p5 = some c5 ∧ w'.cell? p6 = some c6 ∧ w'.cell? p7 = some c7 ∧ w'.cell? p8 = some c8 ∧ w'.cell? p9 = some c9 ∧ Rd w' b0 v0 z0 ∧ RdB w' b1 v1 z1 ∧ N ≤ w'.heap.size := by obtain ⟨h0, x0, x1, x2, x3, x4, x5, x6, x7, x8, x9, y0, y1, h5⟩ := h; exact ⟨h0.trans (bel.mono h5), cell_keep bel x0, cell_keep bel x1, cell_keep bel x2, cell_keep bel x3, cell_keep bel x4, cell_keep bel x5, cell_keep bel x6, cell_keep bel x7, cell_keep bel x8, cell_keep bel x9, y0.keep bel (Nat.le_refl _), y1.keep bel (Nat.le_refl _), Nat.le_trans h5 bel.size⟩
theorem drw10_IB {N : Nat} {w0 w : World} {p0 p1 p2 p3 p4 p5 p6 p7 p8 p9 : Addr} {c0 c1 c2 c3 c4 c5 c6 c7 c8 c9 : Value} {b0 : Nat} {v0 : Value} {z0 : List Int} {b1 : Nat} {v1 : Value} {z1 : List Bool} (h : Below N w0 w ∧ w.cell? p0 = some c0 ∧ w.cell? p1 = some c1 ∧ w.cell? p2 = some c2 ∧ w.cell? p3 = some c3 ∧ w.cell? p4 = some c4 ∧ w.cell? p5 = some c5 ∧ w.cell? p6 = some c6 ∧ w.cell? p7 = some c7 ∧ w.cell? p8 = some c8 ∧ w.cell? p9 = some c9 ∧ Rd w b0 v0 z0 ∧ RdB w b1 v1 z1 ∧ N ≤ w.heap.size) : Below N w0 w.drew ∧ w.drew.cell? p0 = some c0 ∧ w.drew.cell? p1 = some c1 ∧ w.drew.cell? p2 = some c2 ∧ w.drew.cell? p3 = some c3 ∧ w.drew.cell? p4 = some c4 ∧ w.drew.cell? p5 = some c5 ∧ w.drew.cell? p6 = some c6 ∧ w.drew.cell? p7 = some c7 ∧ w.drew.cell? p8 = some c8 ∧ w.drew.cell? p9 = some c9 ∧ Rd w.drew b0 v0 z0 ∧ RdB w.drew b1 v1 z1 ∧ N ≤ w.drew.heap.size := by obtain ⟨h0, x0, x1, x2, x3, x4, x5, x6, x7, x8, x9, y0, y1, h5⟩ := h; exact ⟨h0.drew, x0, x1, x2, x3, x4, x5, x6, x7, x8, x9, y0, y1, h5⟩
theorem rdx10_IB_0 {N : Nat} {w0 w : World} {p0 p1 p2 p3 p4 p5 p6 p7 p8 p9 : Addr} {c0 c1 c2 c3 c4 c5 c6 c7 c8 c9 : Value} {b0 : Nat} {v0 : Value} {z0 : List Int} {b1 : Nat} {v1 : Value} {z1 : List Bool} (h : Below N w0 w ∧ w.cell? p0 = some c0 ∧ w.cell? p1 = some c1 ∧ w.cell? p2 = some c2 ∧ w.cell? p3 = some c3 ∧ w.cell? p4 = some c4 ∧ w.cell? p5 = some c5 ∧ w.cell? p6 = some c6 ∧ w.cell? p7 = some c7 ∧ w.cell? p8 = some c8 ∧ w.cell? p9 = some c9 ∧ Rd w b0 v0 z0 ∧ RdB w b1 v1 z1 ∧ N ≤ w.heap.size) : Rd w b0 v0 z0 := by obtain ⟨h0, x0, x1, x2, x3, x4, x5, x6, x7, x8, x9, y0, y1, h5⟩ := h; exact y0
theorem rdx10_IB_1 {N : Nat} {w0 w : World} {p0 p1 p2 p3 p4 p5 p6 p7 p8 p9 : Addr} {c0 c1 c2 c3 c4 c5 c6 c7 c8 c9 : Value} {b0 : Nat} {v0 : Value} {z0 : List Int} {b1 : Nat} {v1 : Value} {z1 : List Bool} (h : Below N w0 w ∧ w.cell? p0 = some c0 ∧ w.cell? p1 = some c1 ∧ w.cell? p2 = some c2 ∧ w.cell? p3 = some c3 ∧ w.cell? p4 = some c4 ∧ w.cell? p5 = some c5 ∧ w.cell? p6 = some c6 ∧ w.cell? p7 = some c7 ∧ w.cell? p8 = some c8 ∧ w.cell? p9 = some c9 ∧ Rd w b0 v0 z0 ∧ RdB w b1 v1 z1 ∧ N ≤ w.heap.size) : RdB w b1 v1 z1 := by obtain ⟨h0, x0, x1, x2, x3, x4, x5, x6, x7, x8, x9, y0, y1, h5⟩ := h; exact y1

set_option maxHeartbeats 64000000 in
set_option maxRecDepth 4000 in
theorem walk {w : World} {s0 r0 k0 : Int} (fs0 : (Lit.int .i64 s0).wf = true) (fr0 : (Lit.int .i64 r0).wf = true) (fk0 : (Lit.int .i64 k0).wf = true) {b0x : Nat} {v0x : Value} {z0x : List Int} (h0x : Rd w b0x v0x z0x) {b0y : Nat} {v0y : Value} {z0y : List Bool} (h0y : RdB w b0y v0y z0y) {a1 : Int} (f1 : (Lit.int .i64 a1).wf = true) {a2 : Int} (f2 : (Lit.int .i64 a2).wf = true) :
    Calls Try.prog 9 #[gasV s0 r0 k0 v0x v0y, .int .i64 a1, .int .i64 a2] w fun e w' => e = .returned (.bool true) ∧ Below w.heap.size w w' := by
  obtain ⟨ao0x, cap0x, e0x, kc0x, mc0x, _⟩ := id h0x
  have H0x : Hid (Rd w b0x v0x z0x) := h0x
  subst e0x; clear h0x
  have nb0x : z0x.length ≤ 9223372036854775807 := by unfold maxLen at mc0x; omega
  clear kc0x mc0x
  obtain ⟨ao0y, cap0y, e0y, kc0y, mc0y, _⟩ := id h0y
  have H0y : Hid (RdB w b0y v0y z0y) := h0y
  subst e0y; clear h0y
  have nb0y : z0y.length ≤ 9223372036854775807 := by unfold maxLen at mc0y; omega
  clear kc0y mc0y
  by_cases hs0 : (z0x.length : Int) + (z0y.length : Int) ≤ 1048576
  rotate_left 1
  · go_enter Try.func9, Try.ntmps9
    go_wp2_with fail
    obtain ⟨w1, hW⟩ : ∃ w1, w1 = (w.alloc (Obj.cells #[.int .i64 s0, .int .i64 r0, .int .i64 k0, (Value.slice ao0x z0x.length cap0x), (Value.slice ao0y z0y.length cap0y)] 28)) := ⟨_, rfl⟩
    obtain ⟨N0, hN0⟩ : ∃ N0, N0 = w.heap.size := ⟨_, rfl⟩
    have st : Below w.heap.size w w1 ∧ w1.cell? ⟨N0, 0, none⟩ = some (.int .i64 s0) ∧ w1.cell? ⟨N0, 1, none⟩ = some (.int .i64 r0) ∧ w1.cell? ⟨N0, 2, none⟩ = some (.int .i64 k0) ∧ w1.cell? ⟨N0, 3, none⟩ = some ((Value.slice ao0x z0x.length cap0x)) ∧ w1.cell? ⟨N0, 4, none⟩ = some ((Value.slice ao0y z0y.length cap0y)) ∧ Rd w1 b0x (Value.slice ao0x z0x.length cap0x) z0x ∧ RdB w1 b0y (Value.slice ao0y z0y.length cap0y) z0y ∧ w.heap.size ≤ w1.heap.size := by
      rw [hW, hN0]
      exact ⟨Rule.below1 _ _, by simp, by simp, by simp, by simp, by simp, H0x.out.keep (Rule.below1 _ _) (Nat.le_refl _), H0y.out.keep (Rule.below1 _ _) (Nat.le_refl _), by simp <;> omega⟩
    simp only [← hW, ← hN0]
    clear hW hN0
    go_at_call 14
    refine (szG_no nb0x nb0y (q := 1048576) (by omega) (by omega) (by omega)).mono ?_
    rintro e w2 ⟨rfl, bel⟩
    replace st := nx5_IB bel st
    clear bel
    go_wp2
    go_ret
    exact ⟨rfl, st.1⟩
  have hl0x : z0x.length ≤ 1048576 := by omega
  have HL0x : Hid (z0x.length ≤ 1048576) := hl0x
  have hl0y : z0y.length ≤ 1048576 := by omega
  have HL0y : Hid (z0y.length ≤ 1048576) := hl0y
  obtain ⟨rs, q1, hlen, hspec, himpl⟩ := agree s0 r0 k0 z0x z0y a1 a2 hl0x hl0y
  have HN : Hid (rs.length ≤ 1000000) := hlen
  have hlen' : (rs.length : Int) ≤ 1000000 := by omega
  clear hlen
  have HSp := hid @hspec
  have HIm := hid @himpl
  clear hspec himpl hl0x hl0y
  go_enter Try.func9, Try.ntmps9
  go_wp2_with fail
  obtain ⟨w1, hW⟩ : ∃ w1, w1 = (w.alloc (Obj.cells #[.int .i64 s0, .int .i64 r0, .int .i64 k0, (Value.slice ao0x z0x.length cap0x), (Value.slice ao0y z0y.length cap0y)] 28)) := ⟨_, rfl⟩
  obtain ⟨N0, hN0⟩ : ∃ N0, N0 = w.heap.size := ⟨_, rfl⟩
  have st : Below w.heap.size w w1 ∧ w1.cell? ⟨N0, 0, none⟩ = some (.int .i64 s0) ∧ w1.cell? ⟨N0, 1, none⟩ = some (.int .i64 r0) ∧ w1.cell? ⟨N0, 2, none⟩ = some (.int .i64 k0) ∧ w1.cell? ⟨N0, 3, none⟩ = some ((Value.slice ao0x z0x.length cap0x)) ∧ w1.cell? ⟨N0, 4, none⟩ = some ((Value.slice ao0y z0y.length cap0y)) ∧ Rd w1 b0x (Value.slice ao0x z0x.length cap0x) z0x ∧ RdB w1 b0y (Value.slice ao0y z0y.length cap0y) z0y ∧ w.heap.size ≤ w1.heap.size := by
    rw [hW, hN0]
    exact ⟨Rule.below1 _ _, by simp, by simp, by simp, by simp, by simp, H0x.out.keep (Rule.below1 _ _) (Nat.le_refl _), H0y.out.keep (Rule.below1 _ _) (Nat.le_refl _), by simp <;> omega⟩
  simp only [← hW, ← hN0]
  clear hW hN0
  go_at_call 14
  refine (szG_ok nb0x nb0y (q := 1048576) (by omega) (by omega) (by omega)).mono ?_
  rintro e w2 ⟨rfl, bel⟩
  replace st := nx5_IB bel st
  clear bel
  go_wp2_with fail
  go_at_call 16
  refine (toG (rdx5_IB_0 st) (rdx5_IB_1 st) HL0x.out HL0y.out).mono ?_
  rintro e w3 ⟨bp0x, bp0y, rfl, op0x, op0y, lo, lt, bel⟩
  have cbp0x : w.heap.size ≤ bp0x := Nat.le_trans (And.left st).size lo
  have nbN0_p0x : (Value.slice (some ⟨bp0x, 0, none⟩) z0x.length z0x.length) = Value.slice none 0 0 ∨ N0 ≠ bp0x := .inr (Nat.ne_of_lt (Nat.lt_of_lt_of_le (World.block_lt_of_cell? _ _ st.2.1) lo))
  have cbp0y : w.heap.size ≤ bp0y := Nat.le_trans (And.left st).size (Nat.le_trans lo (Nat.le_of_lt lt))
  have nbN0_p0y : (Value.slice (some ⟨bp0y, 0, none⟩) z0y.length z0y.length) = Value.slice none 0 0 ∨ N0 ≠ bp0y := .inr (Nat.ne_of_lt (Nat.lt_of_lt_of_le (World.block_lt_of_cell? _ _ st.2.1) (Nat.le_trans lo (Nat.le_of_lt lt))))
  have nep0x_p0y : (Value.slice (some ⟨bp0x, 0, none⟩) z0x.length z0x.length) = Value.slice none 0 0 ∨ bp0x ≠ bp0y := .inr (Nat.ne_of_lt lt)
  replace st := nx5_IB bel st
  clear bel
  clear lo lt
  go_wp2_with fail
  go_at_call 29
  refine (HSp.out _ _ _ _ _ op0x.rd op0y.rd).mono ?_
  rintro e w4 ⟨aoW, cW, bW, rfl, oW, lo, bel⟩
  have nep0x_W := (lim op0x).imp id (fun hx => (Nat.ne_of_lt (Nat.lt_of_lt_of_le hx lo) : bp0x ≠ bW))
  have nep0y_W := (limB op0y).imp id (fun hx => (Nat.ne_of_lt (Nat.lt_of_lt_of_le hx lo) : bp0y ≠ bW))
  have cbW : w.heap.size ≤ bW := Nat.le_trans (And.left st).size lo
  have nbN0_W : (Value.slice aoW rs.length cW) = Value.slice none 0 0 ∨ N0 ≠ bW := .inr (Nat.ne_of_lt (Nat.lt_of_lt_of_le (World.block_lt_of_cell? _ _ st.2.1) lo))
  replace st := nx5_IB bel st
  replace op0x := op0x.keep bel
  replace op0y := op0y.keep bel
  clear bel
  clear lo
  clear op0x
  clear op0y
  go_wp2_with fail
  go_at_call 16
  refine (toG (rdx5_IB_0 st) (rdx5_IB_1 st) HL0x.out HL0y.out).mono ?_
  rintro e w5 ⟨bx0x, bx0y, rfl, ox0x, ox0y, lo, lt, bel⟩
  have neW_x0x := (lim oW).imp id (fun hx => (Nat.ne_of_lt (Nat.lt_of_lt_of_le hx lo) : bW ≠ bx0x))
  have cbx0x : w.heap.size ≤ bx0x := Nat.le_trans (And.left st).size lo
  have nbN0_x0x : (Value.slice (some ⟨bx0x, 0, none⟩) z0x.length z0x.length) = Value.slice none 0 0 ∨ N0 ≠ bx0x := .inr (Nat.ne_of_lt (Nat.lt_of_lt_of_le (World.block_lt_of_cell? _ _ st.2.1) lo))
  have neW_x0y := (lim oW).imp id (fun hx => (Nat.ne_of_lt (Nat.lt_of_lt_of_le hx (Nat.le_trans lo (Nat.le_of_lt lt))) : bW ≠ bx0y))
  have cbx0y : w.heap.size ≤ bx0y := Nat.le_trans (And.left st).size (Nat.le_trans lo (Nat.le_of_lt lt))
  have nbN0_x0y : (Value.slice (some ⟨bx0y, 0, none⟩) z0y.length z0y.length) = Value.slice none 0 0 ∨ N0 ≠ bx0y := .inr (Nat.ne_of_lt (Nat.lt_of_lt_of_le (World.block_lt_of_cell? _ _ st.2.1) (Nat.le_trans lo (Nat.le_of_lt lt))))
  have nex0x_x0y : (Value.slice (some ⟨bx0x, 0, none⟩) z0x.length z0x.length) = Value.slice none 0 0 ∨ bx0x ≠ bx0y := .inr (Nat.ne_of_lt lt)
  replace st := nx5_IB bel st
  replace oW := oW.keep bel
  clear bel
  clear lo lt
  obtain ⟨w7, hW⟩ : ∃ w7, w7 = w5.alloc (Obj.cells #[.int .i64 s0, .int .i64 r0, .int .i64 k0, (Value.slice (some ⟨bx0x, 0, none⟩) z0x.length z0x.length), (Value.slice (some ⟨bx0y, 0, none⟩) z0y.length z0y.length)] 31) := ⟨_, rfl⟩
  obtain ⟨NX0, hN⟩ : ∃ NX0, NX0 = w5.heap.size := ⟨_, rfl⟩
  have nbNX0_W : (Value.slice aoW rs.length cW) = Value.slice none 0 0 ∨ NX0 ≠ bW := (lim oW).imp id (fun hx => by rw [hN]; exact Nat.ne_of_gt hx)
  have nbNX0_x0x : (Value.slice (some ⟨bx0x, 0, none⟩) z0x.length z0x.length) = Value.slice none 0 0 ∨ NX0 ≠ bx0x := (lim ox0x).imp id (fun hx => by rw [hN]; exact Nat.ne_of_gt hx)
  have nbNX0_x0y : (Value.slice (some ⟨bx0y, 0, none⟩) z0y.length z0y.length) = Value.slice none 0 0 ∨ NX0 ≠ bx0y := (limB ox0y).imp id (fun hx => by rw [hN]; exact Nat.ne_of_gt hx)
  have bel : Below w5.heap.size w5 w7 := by rw [hW]; exact Rule.below1 _ _
  have st' : Below w.heap.size w w7 ∧ w7.cell? ⟨N0, 0, none⟩ = some (.int .i64 s0) ∧ w7.cell? ⟨N0, 1, none⟩ = some (.int .i64 r0) ∧ w7.cell? ⟨N0, 2, none⟩ = some (.int .i64 k0) ∧ w7.cell? ⟨N0, 3, none⟩ = some ((Value.slice ao0x z0x.length cap0x)) ∧ w7.cell? ⟨N0, 4, none⟩ = some ((Value.slice ao0y z0y.length cap0y)) ∧ w7.cell? ⟨NX0, 0, none⟩ = some (.int .i64 s0) ∧ w7.cell? ⟨NX0, 1, none⟩ = some (.int .i64 r0) ∧ w7.cell? ⟨NX0, 2, none⟩ = some (.int .i64 k0) ∧ w7.cell? ⟨NX0, 3, none⟩ = some ((Value.slice (some ⟨bx0x, 0, none⟩) z0x.length z0x.length)) ∧ w7.cell? ⟨NX0, 4, none⟩ = some ((Value.slice (some ⟨bx0y, 0, none⟩) z0y.length z0y.length)) ∧ Rd w7 b0x (Value.slice ao0x z0x.length cap0x) z0x ∧ RdB w7 b0y (Value.slice ao0y z0y.length cap0y) z0y ∧ w.heap.size ≤ w7.heap.size := by
    obtain ⟨t0, c0, c1, c2, c3, c4, d0, d1, tz⟩ := nx5_IB bel st
    exact ⟨t0, c0, c1, c2, c3, c4, by rw [hW, hN]; simp, by rw [hW, hN]; simp, by rw [hW, hN]; simp, by rw [hW, hN]; simp, by rw [hW, hN]; simp, d0, d1, tz⟩
  replace oW := oW.keep bel
  replace ox0x := ox0x.keep bel
  replace ox0y := ox0y.keep bel
  clear st bel; have st := st'; clear st'
  have stp := st
  rw [hW, hN] at stp
  go_wp2_with fail
  clear stp
  simp only [← hW, ← hN]
  clear hW hN
  go_at_call 30
  refine (HIm.out _ _ _ _ _ ox0x.rd ox0y.rd).mono ?_
  rintro e w6 ⟨aoG, cG, bG, rfl, oG, lo, bel⟩
  have neW_G := (lim oW).imp id (fun hx => (Nat.ne_of_lt (Nat.lt_of_lt_of_le hx lo) : bW ≠ bG))
  have nex0x_G := (lim ox0x).imp id (fun hx => (Nat.ne_of_lt (Nat.lt_of_lt_of_le hx lo) : bx0x ≠ bG))
  have nex0y_G := (limB ox0y).imp id (fun hx => (Nat.ne_of_lt (Nat.lt_of_lt_of_le hx lo) : bx0y ≠ bG))
  have cbG : w.heap.size ≤ bG := Nat.le_trans (And.left st).size lo
  have nbN0_G : (Value.slice aoG rs.length cG) = Value.slice none 0 0 ∨ N0 ≠ bG := .inr (Nat.ne_of_lt (Nat.lt_of_lt_of_le (World.block_lt_of_cell? _ _ st.2.1) lo))
  have nbNX0_G : (Value.slice aoG rs.length cG) = Value.slice none 0 0 ∨ NX0 ≠ bG := .inr (Nat.ne_of_lt (Nat.lt_of_lt_of_le (World.block_lt_of_cell? _ _ st.2.2.2.2.2.2.1) lo))
  replace st := nx10_IB bel st
  replace oW := oW.keep bel
  replace ox0x := ox0x.keep bel
  replace ox0y := ox0y.keep bel
  clear bel
  clear lo
  go_wp2_with fail
  go_at_call 13
  refine (eqB oG.rd oW.rd).mono ?_
  rintro e w8 ⟨rfl, bel⟩
  replace st := nx10_IB bel st
  replace oW := oW.keep bel
  replace ox0x := ox0x.keep bel
  replace ox0y := ox0y.keep bel
  replace oG := oG.keep bel
  clear bel
  go_wp2_with fail
  refine wp_region_held_drew (S := (fun ww => Below w.heap.size w ww ∧ ww.cell? ⟨N0, 0, none⟩ = some (.int .i64 s0) ∧ ww.cell? ⟨N0, 1, none⟩ = some (.int .i64 r0) ∧ ww.cell? ⟨N0, 2, none⟩ = some (.int .i64 k0) ∧ ww.cell? ⟨N0, 3, none⟩ = some ((Value.slice ao0x z0x.length cap0x)) ∧ ww.cell? ⟨N0, 4, none⟩ = some ((Value.slice ao0y z0y.length cap0y)) ∧ ww.cell? ⟨NX0, 0, none⟩ = some (.int .i64 s0) ∧ ww.cell? ⟨NX0, 1, none⟩ = some (.int .i64 r0) ∧ ww.cell? ⟨NX0, 2, none⟩ = some (.int .i64 k0) ∧ ww.cell? ⟨NX0, 3, none⟩ = some ((Value.slice (some ⟨bx0x, 0, none⟩) z0x.length z0x.length)) ∧ ww.cell? ⟨NX0, 4, none⟩ = some ((Value.slice (some ⟨bx0y, 0, none⟩) z0y.length z0y.length)) ∧ Rd ww b0x (Value.slice ao0x z0x.length cap0x) z0x ∧ RdB ww b0y (Value.slice ao0y z0y.length cap0y) z0y ∧ w.heap.size ≤ ww.heap.size)) (by kernel_rfl) ?_ (fun hHeld => ?_)
  · ((try dsimp only); exact drw10_IB st)
  first | (refine wpAnyH_take (i := 0) (v := ?_) rfl ?_ ?_ ?_ (fun _ _ _ h => h) (Or.inl ⟨?_, ?_⟩) ?_ ?_; rotate_left 1; (focus decide +kernel); (focus decide +kernel); (focus decide +kernel); (focus rfl); (focus (intro w hSw; (try dsimp only at hSw); go_simp; (try (with_reducible rfl)); done)); (focus assumption); (try simp only [Act.put, List.setIfInBounds_toArray, List.set_cons_zero, List.set_cons_succ, List.getElem_toArray, List.getElem_cons_succ, List.getElem_cons_zero])) | (refine wpAnyH_take (i := 0) (v := undef) rfl ?_ ?_ ?_ (fun _ _ _ h => h) (Or.inr ⟨?_, rfl⟩) ?_ ?_; (focus decide +kernel); (focus decide +kernel); (focus decide +kernel); (focus rfl); (focus assumption); (try simp only [Act.put, List.setIfInBounds_toArray, List.set_cons_zero, List.set_cons_succ, List.getElem_toArray, List.getElem_cons_succ, List.getElem_cons_zero])) | skip
  first | (refine wpAnyH_take (i := 1) (v := ?_) rfl ?_ ?_ ?_ (fun _ _ _ h => h) (Or.inl ⟨?_, ?_⟩) ?_ ?_; rotate_left 1; (focus decide +kernel); (focus decide +kernel); (focus decide +kernel); (focus rfl); (focus (intro w hSw; (try dsimp only at hSw); go_simp; (try (with_reducible rfl)); done)); (focus assumption); (try simp only [Act.put, List.setIfInBounds_toArray, List.set_cons_zero, List.set_cons_succ, List.getElem_toArray, List.getElem_cons_succ, List.getElem_cons_zero])) | (refine wpAnyH_take (i := 1) (v := undef) rfl ?_ ?_ ?_ (fun _ _ _ h => h) (Or.inr ⟨?_, rfl⟩) ?_ ?_; (focus decide +kernel); (focus decide +kernel); (focus decide +kernel); (focus rfl); (focus assumption); (try simp only [Act.put, List.setIfInBounds_toArray, List.set_cons_zero, List.set_cons_succ, List.getElem_toArray, List.getElem_cons_succ, List.getElem_cons_zero])) | skip
  first | (refine wpAnyH_take (i := 4) (v := ?_) rfl ?_ ?_ ?_ (fun _ _ _ h => h) (Or.inl ⟨?_, ?_⟩) ?_ ?_; rotate_left 1; (focus decide +kernel); (focus decide +kernel); (focus decide +kernel); (focus rfl); (focus (intro w hSw; (try dsimp only at hSw); go_simp; (try (with_reducible rfl)); done)); (focus assumption); (try simp only [Act.put, List.setIfInBounds_toArray, List.set_cons_zero, List.set_cons_succ, List.getElem_toArray, List.getElem_cons_succ, List.getElem_cons_zero])) | (refine wpAnyH_take (i := 4) (v := undef) rfl ?_ ?_ ?_ (fun _ _ _ h => h) (Or.inr ⟨?_, rfl⟩) ?_ ?_; (focus decide +kernel); (focus decide +kernel); (focus decide +kernel); (focus rfl); (focus assumption); (try simp only [Act.put, List.setIfInBounds_toArray, List.set_cons_zero, List.set_cons_succ, List.getElem_toArray, List.getElem_cons_succ, List.getElem_cons_zero])) | skip
  first | (refine wpAnyH_take (i := 2) (v := undef) rfl ?_ ?_ ?_ (fun _ _ _ h => h) (Or.inr ⟨?_, rfl⟩) ?_ ?_; (focus decide +kernel); (focus decide +kernel); (focus decide +kernel); (focus rfl); (focus assumption); (try simp only [Act.put, List.setIfInBounds_toArray, List.set_cons_zero, List.set_cons_succ, List.getElem_toArray, List.getElem_cons_succ, List.getElem_cons_zero])) | (refine wpAnyH_ready (rs := [2]) ?_ (by simp) ?_; (focus decide +kernel); refine AllReadyH.cons rfl (fun K hK => ?_) AllReadyH.nil; go_simp; (go_at_call 16; refine (toG (rdx10_IB_0 hHeld) (rdx10_IB_1 hHeld) HL0x.out HL0y.out).mono ?_; rintro e w9 ⟨by0x, by0y, rfl, oy0x, oy0y, lo, lt, bel⟩; replace oW : Own 2 w8.drew bW (Value.slice aoW rs.length cW) rs := oW; replace ox0x : Own 2 w8.drew bx0x (Value.slice (some ⟨bx0x, 0, none⟩) z0x.length z0x.length) z0x := ox0x; replace ox0y : OwnB 4 w8.drew bx0y (Value.slice (some ⟨bx0y, 0, none⟩) z0y.length z0y.length) z0y := ox0y; replace oG : Own 2 w8.drew bG (Value.slice aoG rs.length cG) rs := oG; replace oW := oW.keep bel; replace ox0x := ox0x.keep bel; replace ox0y := ox0y.keep bel; replace oG := oG.keep bel; clear lo lt); refine hK.out _ _ ?_ (fun hHeld => ?_); ((try dsimp only); exact nx10_IB bel hHeld); clear hK K; (try simp only [Act.put, List.setIfInBounds_toArray, List.set_cons_zero, List.set_cons_succ, List.getElem_toArray, List.getElem_cons_succ, List.getElem_cons_zero]))
  first | (refine wpAnyH_take (i := 4) (v := ?_) rfl ?_ ?_ ?_ (fun _ _ _ h => h) (Or.inl ⟨?_, ?_⟩) ?_ ?_; rotate_left 1; (focus decide +kernel); (focus decide +kernel); (focus decide +kernel); (focus rfl); (focus (intro w hSw; (try dsimp only at hSw); go_simp; (try (with_reducible rfl)); done)); (focus assumption); (try simp only [Act.put, List.setIfInBounds_toArray, List.set_cons_zero, List.set_cons_succ, List.getElem_toArray, List.getElem_cons_succ, List.getElem_cons_zero])) | (refine wpAnyH_take (i := 4) (v := undef) rfl ?_ ?_ ?_ (fun _ _ _ h => h) (Or.inr ⟨?_, rfl⟩) ?_ ?_; (focus decide +kernel); (focus decide +kernel); (focus decide +kernel); (focus rfl); (focus assumption); (try simp only [Act.put, List.setIfInBounds_toArray, List.set_cons_zero, List.set_cons_succ, List.getElem_toArray, List.getElem_cons_succ, List.getElem_cons_zero])) | skip
  first | (refine wpAnyH_take (i := 3) (v := undef) rfl ?_ ?_ ?_ (fun _ _ _ h => h) (Or.inr ⟨?_, rfl⟩) ?_ ?_; (focus decide +kernel); (focus decide +kernel); (focus decide +kernel); (focus rfl); (focus assumption); (try simp only [Act.put, List.setIfInBounds_toArray, List.set_cons_zero, List.set_cons_succ, List.getElem_toArray, List.getElem_cons_succ, List.getElem_cons_zero])) | (refine wpAnyH_ready (rs := [3]) ?_ (by simp) ?_; (focus decide +kernel); refine AllReadyH.cons rfl (fun K hK => ?_) AllReadyH.nil; go_simp; (go_at_call 18; refine (eqG ox0x.rd ox0y.rd oy0x.rd oy0y.rd).mono ?_; rintro e w10 ⟨rfl, bel⟩; replace oW := oW.keep bel; replace ox0x := ox0x.keep bel; replace ox0y := ox0y.keep bel; replace oG := oG.keep bel; clear oy0x oy0y); refine hK.out _ _ ?_ (fun hHeld => ?_); ((try dsimp only); exact nx10_IB bel hHeld); clear hK K; (try simp only [Act.put, List.setIfInBounds_toArray, List.set_cons_zero, List.set_cons_succ, List.getElem_toArray, List.getElem_cons_succ, List.getElem_cons_zero]))
  first | (refine wpAnyH_take (i := 4) (v := ?_) rfl ?_ ?_ ?_ (fun _ _ _ h => h) (Or.inl ⟨?_, ?_⟩) ?_ ?_; rotate_left 1; (focus decide +kernel); (focus decide +kernel); (focus decide +kernel); (focus rfl); (focus (intro w hSw; (try dsimp only at hSw); go_simp; (try (with_reducible rfl)); done)); (focus assumption); (try simp only [Act.put, List.setIfInBounds_toArray, List.set_cons_zero, List.set_cons_succ, List.getElem_toArray, List.getElem_cons_succ, List.getElem_cons_zero])) | (refine wpAnyH_take (i := 4) (v := undef) rfl ?_ ?_ ?_ (fun _ _ _ h => h) (Or.inr ⟨?_, rfl⟩) ?_ ?_; (focus decide +kernel); (focus decide +kernel); (focus decide +kernel); (focus rfl); (focus assumption); (try simp only [Act.put, List.setIfInBounds_toArray, List.set_cons_zero, List.set_cons_succ, List.getElem_toArray, List.getElem_cons_succ, List.getElem_cons_zero])) | skip
  refine wpAnyH_done (by kernel_rfl) ?_ _
  clear st; have st := hHeld; clear hHeld
  go_wp2_with fail
  go_at_call 25
  refine (markG ox0x ox0y (nex0x_x0y.elim (fun h => by cases h) id) (by omega) (by have := HL0x.out; omega) (by have := HL0y.out; omega) (by have := HL0x.out; have := HL0y.out; have := HL0x.out; have := HL0y.out; omega)).mono ?_
  rintro e w11 ⟨rfl, wm, ma, mb, g, gn, g2, gn2⟩
  replace oW := beside oW g neW_x0x
  replace oG := besideB oG g gn nex0x_G
  replace oW := beside oW g2 neW_x0y
  replace oG := besideB oG g2 gn2 nex0y_G
  replace ox0x := ma; replace ox0y := mb; clear ma mb
  have gB := below_mark (And.left st) g (And.left st).size cbx0x
  have st' : Below w.heap.size w wm ∧ wm.cell? ⟨N0, 0, none⟩ = some (.int .i64 s0) ∧ wm.cell? ⟨N0, 1, none⟩ = some (.int .i64 r0) ∧ wm.cell? ⟨N0, 2, none⟩ = some (.int .i64 k0) ∧ wm.cell? ⟨N0, 3, none⟩ = some ((Value.slice ao0x z0x.length cap0x)) ∧ wm.cell? ⟨N0, 4, none⟩ = some ((Value.slice ao0y z0y.length cap0y)) ∧ wm.cell? ⟨NX0, 0, none⟩ = some (.int .i64 s0) ∧ wm.cell? ⟨NX0, 1, none⟩ = some (.int .i64 r0) ∧ wm.cell? ⟨NX0, 2, none⟩ = some (.int .i64 k0) ∧ wm.cell? ⟨NX0, 3, none⟩ = some ((Value.slice (some ⟨bx0x, 0, none⟩) z0x.length z0x.length)) ∧ wm.cell? ⟨NX0, 4, none⟩ = some ((Value.slice (some ⟨bx0y, 0, none⟩) z0y.length z0y.length)) ∧ Rd wm b0x (Value.slice ao0x z0x.length cap0x) z0x ∧ RdB wm b0y (Value.slice ao0y z0y.length cap0y) z0y ∧ w.heap.size ≤ wm.heap.size := ⟨gB, mcellB g gn st.2.1 nbN0_x0x, mcellB g gn st.2.2.1 nbN0_x0x, mcellB g gn st.2.2.2.1 nbN0_x0x, mcellB g gn st.2.2.2.2.1 nbN0_x0x, mcellB g gn st.2.2.2.2.2.1 nbN0_x0x, mcellB g gn st.2.2.2.2.2.2.1 nbNX0_x0x, mcellB g gn st.2.2.2.2.2.2.2.1 nbNX0_x0x, mcellB g gn st.2.2.2.2.2.2.2.2.1 nbNX0_x0x, mcellB g gn st.2.2.2.2.2.2.2.2.2.1 nbNX0_x0x, mcellB g gn st.2.2.2.2.2.2.2.2.2.2.1 nbNX0_x0x, H0x.out.keep gB (Nat.le_refl _), H0y.out.keep gB (Nat.le_refl _), gB.size⟩
  clear st g gn gB; have st := st'; clear st'
  have gB := below_mark (And.left st) g2 (And.left st).size cbx0y
  have st' : Below w.heap.size w w11 ∧ w11.cell? ⟨N0, 0, none⟩ = some (.int .i64 s0) ∧ w11.cell? ⟨N0, 1, none⟩ = some (.int .i64 r0) ∧ w11.cell? ⟨N0, 2, none⟩ = some (.int .i64 k0) ∧ w11.cell? ⟨N0, 3, none⟩ = some ((Value.slice ao0x z0x.length cap0x)) ∧ w11.cell? ⟨N0, 4, none⟩ = some ((Value.slice ao0y z0y.length cap0y)) ∧ w11.cell? ⟨NX0, 0, none⟩ = some (.int .i64 s0) ∧ w11.cell? ⟨NX0, 1, none⟩ = some (.int .i64 r0) ∧ w11.cell? ⟨NX0, 2, none⟩ = some (.int .i64 k0) ∧ w11.cell? ⟨NX0, 3, none⟩ = some ((Value.slice (some ⟨bx0x, 0, none⟩) z0x.length z0x.length)) ∧ w11.cell? ⟨NX0, 4, none⟩ = some ((Value.slice (some ⟨bx0y, 0, none⟩) z0y.length z0y.length)) ∧ Rd w11 b0x (Value.slice ao0x z0x.length cap0x) z0x ∧ RdB w11 b0y (Value.slice ao0y z0y.length cap0y) z0y ∧ w.heap.size ≤ w11.heap.size := ⟨gB, mcellB g2 gn2 st.2.1 nbN0_x0y, mcellB g2 gn2 st.2.2.1 nbN0_x0y, mcellB g2 gn2 st.2.2.2.1 nbN0_x0y, mcellB g2 gn2 st.2.2.2.2.1 nbN0_x0y, mcellB g2 gn2 st.2.2.2.2.2.1 nbN0_x0y, mcellB g2 gn2 st.2.2.2.2.2.2.1 nbNX0_x0y, mcellB g2 gn2 st.2.2.2.2.2.2.2.1 nbNX0_x0y, mcellB g2 gn2 st.2.2.2.2.2.2.2.2.1 nbNX0_x0y, mcellB g2 gn2 st.2.2.2.2.2.2.2.2.2.1 nbNX0_x0y, mcellB g2 gn2 st.2.2.2.2.2.2.2.2.2.2.1 nbNX0_x0y, H0x.out.keep gB (Nat.le_refl _), H0y.out.keep gB (Nat.le_refl _), gB.size⟩
  clear st g2 gn2 gB; have st := st'; clear st'
  have hk0 : decide (((1 + (z0x.length : Int)) + (z0y.length : Int)) < 0) = false := by simp; omega
  go_wp2_with fail
  go_at_call 13
  refine (eqB oG.rd oW.rd).mono ?_
  rintro e w12 ⟨rfl, bel⟩
  replace st := nx10_IB bel st
  replace oW := oW.keep bel
  replace ox0x := ox0x.keep bel
  replace ox0y := ox0y.keep bel
  replace oG := oG.keep bel
  clear bel
  go_wp2_with fail
  go_at_call 31
  refine (markSB oG (by omega) (by have := HN.out; omega)).mono ?_
  rintro e w13 ⟨rfl, mG, g, gn⟩
  replace oW := beside oW g neW_G
  replace ox0x := beside ox0x g nex0x_G
  replace ox0y := besideO ox0y g nex0y_G
  replace oG := mG; clear mG
  have gB := below_mark (And.left st) g (And.left st).size cbG
  have st' : Below w.heap.size w w13 ∧ w13.cell? ⟨N0, 0, none⟩ = some (.int .i64 s0) ∧ w13.cell? ⟨N0, 1, none⟩ = some (.int .i64 r0) ∧ w13.cell? ⟨N0, 2, none⟩ = some (.int .i64 k0) ∧ w13.cell? ⟨N0, 3, none⟩ = some ((Value.slice ao0x z0x.length cap0x)) ∧ w13.cell? ⟨N0, 4, none⟩ = some ((Value.slice ao0y z0y.length cap0y)) ∧ w13.cell? ⟨NX0, 0, none⟩ = some (.int .i64 s0) ∧ w13.cell? ⟨NX0, 1, none⟩ = some (.int .i64 r0) ∧ w13.cell? ⟨NX0, 2, none⟩ = some (.int .i64 k0) ∧ w13.cell? ⟨NX0, 3, none⟩ = some ((Value.slice (some ⟨bx0x, 0, none⟩) z0x.length z0x.length)) ∧ w13.cell? ⟨NX0, 4, none⟩ = some ((Value.slice (some ⟨bx0y, 0, none⟩) z0y.length z0y.length)) ∧ Rd w13 b0x (Value.slice ao0x z0x.length cap0x) z0x ∧ RdB w13 b0y (Value.slice ao0y z0y.length cap0y) z0y ∧ w.heap.size ≤ w13.heap.size := ⟨gB, mcellB g gn st.2.1 nbN0_G, mcellB g gn st.2.2.1 nbN0_G, mcellB g gn st.2.2.2.1 nbN0_G, mcellB g gn st.2.2.2.2.1 nbN0_G, mcellB g gn st.2.2.2.2.2.1 nbN0_G, mcellB g gn st.2.2.2.2.2.2.1 nbNX0_G, mcellB g gn st.2.2.2.2.2.2.2.1 nbNX0_G, mcellB g gn st.2.2.2.2.2.2.2.2.1 nbNX0_G, mcellB g gn st.2.2.2.2.2.2.2.2.2.1 nbNX0_G, mcellB g gn st.2.2.2.2.2.2.2.2.2.2.1 nbNX0_G, H0x.out.keep gB (Nat.le_refl _), H0y.out.keep gB (Nat.le_refl _), gB.size⟩
  clear st g gn gB; have st := st'; clear st'
  go_wp2_with fail
  go_at_call 32
  refine (heldSB oG.rd (by omega) (by have := HN.out; omega)).mono ?_
  rintro e w14 ⟨rfl, bel⟩
  replace st := nx10_IB bel st
  replace oW := oW.keep bel
  replace ox0x := ox0x.keep bel
  replace ox0y := ox0y.keep bel
  replace oG := oG.keep bel
  clear bel
  clear ox0x
  clear ox0y
  go_wp2_with fail
  go_at_call 16
  refine (toG (rdx10_IB_0 st) (rdx10_IB_1 st) HL0x.out HL0y.out).mono ?_
  rintro e w15 ⟨bz0x, bz0y, rfl, oz0x, oz0y, lo, lt, bel⟩
  have neW_z0x := (lim oW).imp id (fun hx => (Nat.ne_of_lt (Nat.lt_of_lt_of_le hx lo) : bW ≠ bz0x))
  have neG_z0x := (lim oG).imp id (fun hx => (Nat.ne_of_lt (Nat.lt_of_lt_of_le hx lo) : bG ≠ bz0x))
  have cbz0x : w.heap.size ≤ bz0x := Nat.le_trans (And.left st).size lo
  have nbN0_z0x : (Value.slice (some ⟨bz0x, 0, none⟩) z0x.length z0x.length) = Value.slice none 0 0 ∨ N0 ≠ bz0x := .inr (Nat.ne_of_lt (Nat.lt_of_lt_of_le (World.block_lt_of_cell? _ _ st.2.1) lo))
  have nbNX0_z0x : (Value.slice (some ⟨bz0x, 0, none⟩) z0x.length z0x.length) = Value.slice none 0 0 ∨ NX0 ≠ bz0x := .inr (Nat.ne_of_lt (Nat.lt_of_lt_of_le (World.block_lt_of_cell? _ _ st.2.2.2.2.2.2.1) lo))
  have neW_z0y := (lim oW).imp id (fun hx => (Nat.ne_of_lt (Nat.lt_of_lt_of_le hx (Nat.le_trans lo (Nat.le_of_lt lt))) : bW ≠ bz0y))
  have neG_z0y := (lim oG).imp id (fun hx => (Nat.ne_of_lt (Nat.lt_of_lt_of_le hx (Nat.le_trans lo (Nat.le_of_lt lt))) : bG ≠ bz0y))
  have cbz0y : w.heap.size ≤ bz0y := Nat.le_trans (And.left st).size (Nat.le_trans lo (Nat.le_of_lt lt))
  have nbN0_z0y : (Value.slice (some ⟨bz0y, 0, none⟩) z0y.length z0y.length) = Value.slice none 0 0 ∨ N0 ≠ bz0y := .inr (Nat.ne_of_lt (Nat.lt_of_lt_of_le (World.block_lt_of_cell? _ _ st.2.1) (Nat.le_trans lo (Nat.le_of_lt lt))))
  have nbNX0_z0y : (Value.slice (some ⟨bz0y, 0, none⟩) z0y.length z0y.length) = Value.slice none 0 0 ∨ NX0 ≠ bz0y := .inr (Nat.ne_of_lt (Nat.lt_of_lt_of_le (World.block_lt_of_cell? _ _ st.2.2.2.2.2.2.1) (Nat.le_trans lo (Nat.le_of_lt lt))))
  have nez0x_z0y : (Value.slice (some ⟨bz0x, 0, none⟩) z0x.length z0x.length) = Value.slice none 0 0 ∨ bz0x ≠ bz0y := .inr (Nat.ne_of_lt lt)
  replace st := nx10_IB bel st
  replace oW := oW.keep bel
  replace oG := oG.keep bel
  clear bel
  clear lo lt
  go_wp2_with fail
  go_at_call 30
  refine (HIm.out _ _ _ _ _ oz0x.rd oz0y.rd).mono ?_
  rintro e w16 ⟨aoK, cK, bK, rfl, oK, lo, bel⟩
  have neW_K := (lim oW).imp id (fun hx => (Nat.ne_of_lt (Nat.lt_of_lt_of_le hx lo) : bW ≠ bK))
  have neG_K := (lim oG).imp id (fun hx => (Nat.ne_of_lt (Nat.lt_of_lt_of_le hx lo) : bG ≠ bK))
  have nez0x_K := (lim oz0x).imp id (fun hx => (Nat.ne_of_lt (Nat.lt_of_lt_of_le hx lo) : bz0x ≠ bK))
  have nez0y_K := (limB oz0y).imp id (fun hx => (Nat.ne_of_lt (Nat.lt_of_lt_of_le hx lo) : bz0y ≠ bK))
  have cbK : w.heap.size ≤ bK := Nat.le_trans (And.left st).size lo
  have nbN0_K : (Value.slice aoK rs.length cK) = Value.slice none 0 0 ∨ N0 ≠ bK := .inr (Nat.ne_of_lt (Nat.lt_of_lt_of_le (World.block_lt_of_cell? _ _ st.2.1) lo))
  have nbNX0_K : (Value.slice aoK rs.length cK) = Value.slice none 0 0 ∨ NX0 ≠ bK := .inr (Nat.ne_of_lt (Nat.lt_of_lt_of_le (World.block_lt_of_cell? _ _ st.2.2.2.2.2.2.1) lo))
  replace st := nx10_IB bel st
  replace oW := oW.keep bel
  replace oG := oG.keep bel
  replace oz0x := oz0x.keep bel
  replace oz0y := oz0y.keep bel
  clear bel
  clear lo
  clear oz0x
  clear oz0y
  go_wp2_with fail
  go_at_call 13
  refine (eqB oK.rd oW.rd).mono ?_
  rintro e w17 ⟨rfl, bel⟩
  replace st := nx10_IB bel st
  replace oW := oW.keep bel
  replace oG := oG.keep bel
  replace oK := oK.keep bel
  clear bel
  go_wp2_with fail
  go_at_call 32
  refine (heldSB oG.rd (by omega) (by have := HN.out; omega)).mono ?_
  rintro e w18 ⟨rfl, bel⟩
  replace st := nx10_IB bel st
  replace oW := oW.keep bel
  replace oG := oG.keep bel
  replace oK := oK.keep bel
  clear bel
  go_wp2
  go_ret
  exact ⟨rfl, And.left st⟩

set_option maxRecDepth 100000 in
theorem lifted (os : Os) (started : os.Started) (H : Type) (enc : TypeId × Value → H) :
    ReturnsInHanded {} Try.checked os 9 .any (Rows.fnExactDenseBlocksSpec.pre6 enc Try.prog Try.f9 Rows.fnExactDenseBlocksRow.domain false) (Rows.fnExactDenseBlocksSpec.post enc Try.prog Try.f9 false true false false) := by
  refine returnsInHanded_of_change (C := Try.checked) own started (by kernel_rfl) Try.func9
    (ChangeSpec.witness6 (enc := enc) (C := Try.checked) false ⟨#[], #[.agg #[.int .i64 0, .int .i64 0, .int .i64 0, .slice none 0 0, .slice none 0 0], .int .i64 0, .int .i64 0], []⟩ 8 (by kernel_rfl) (by kernel_rfl) (by kernel_rfl) (by kernel_rfl)) ?_
  intro W base args ds gs before hval0 hW hcnd hreach
  have hval : ∀ (j : Nat) t v, Try.f9.params[j]? = some t → args[j]? = some v → Value.okWide Try.prog W .any base t v := hval0
  have hW' := hW
  obtain ⟨p, q, hA0, hV, rfl, hfz, hnd⟩ := hW
  have hA : DataW.TrodAll enc Try.prog W 0 (fun _ => true) true Try.f9.params.toList args.toList ds p := hA0
  rw [Try.params9] at hA hval
  obtain ⟨v0, vs0, d0, ds0, p0, q0, hargs, rfl, rfl, h0, r0⟩ := trodAll_cons hA
  obtain ⟨v1, vs1, d1, ds1, p1, q1, rfl, rfl, rfl, h1, r1⟩ := trodAll_cons r0
  obtain ⟨v2, vs2, d2, ds2, p2, q2, rfl, rfl, rfl, h2, r2⟩ := trodAll_cons r1
  obtain ⟨rfl, rfl, rfl⟩ := trodAll_nil r2
  obtain rfl : args = #[v0, v1, v2] := by cases args; simp_all
  obtain ⟨rfl, rfl⟩ := trodVars_none hV
  have k0 := h0
  have lt0 : ∀ x ∈ p0, x.block < W.heap.size := by obtain ⟨m, hm⟩ := k0; exact DataW.trod_lt m _ _ _ hm
  obtain ⟨c00, c01, c02, c03, c04, m0, rfl, ⟨y00, t00⟩, ⟨y01, t01⟩, ⟨y02, t02⟩, ⟨y03, t03⟩, ⟨y04, t04⟩⟩ := open_five Try.underlying28 (by kernel_rfl) (by kernel_rfl) (hval 0 28 v0 rfl rfl) h0
  obtain ⟨a00, e00, _, w00⟩ := DataW.trod_int Try.underlying2 t00
  simp at e00
  subst e00
  obtain ⟨a01, e01, _, w01⟩ := DataW.trod_int Try.underlying2 t01
  simp at e01
  subst e01
  obtain ⟨a02, e02, _, w02⟩ := DataW.trod_int Try.underlying2 t02
  simp at e02
  subst e02
  obtain ⟨a03, len03, cap03, e03⟩ := slice_form Try.underlying22 t03
  simp at e03
  subst e03
  obtain ⟨b03, z03, _, w03⟩ : ∃ b zs, zs.length = len03 ∧ Rd W b (.slice a03 len03 cap03) zs := rd_open Try.underlying22 Try.underlying2 (by kernel_rfl) t03
  obtain ⟨a04, len04, cap04, e04⟩ := slice_form Try.underlying26 t04
  simp at e04
  subst e04
  obtain ⟨b04, z04, _, w04⟩ : ∃ b zs, zs.length = len04 ∧ RdB W b (.slice a04 len04 cap04) zs := rdB_open Try.underlying26 Try.underlying4 (by kernel_rfl) t04
  obtain ⟨a1, rfl, rfl, rfl, w1⟩ := open_int Try.underlying2 (hval 1 2 v1 rfl rfl) h1
  obtain ⟨a2, rfl, rfl, rfl, w2⟩ := open_int Try.underlying2 (hval 2 2 v2 rfl rfl) h2
  clear hA0 hval0
  refine (walk w00 w01 w02 w03 w04 w1 w2).mono fun e W' ⟨he, bel⟩ => ?_
  subst he
  exact ⟨_, rfl, _, _, _, [], _, [], hW', trodAll_mk1 (shut_bool Try.underlying4 _), (trodAll_cons_mk (Below.trod laidOut (by kernel_rfl) (of_decide_eq_true (by kernel_rfl)) k0 bel lt0) (trodAll_cons_mk (shut_int Try.underlying2 w1) (trodAll_cons_mk (shut_int Try.underlying2 w2) (trodAll_mk0)))), rfl, bel.frame _, fun h => by cases h⟩

theorem over : Rows.fnExactDenseBlocksRow.holds Try.pinned (OpenSpec.ofChange Rows.fnExactDenseBlocksSpec) :=
  OpenClaim.holds_of_wide 9 Try.f9 rfl rfl rfl rfl rfl rfl rfl ⟨rfl, rfl, rfl, rfl, rfl⟩ rfl rfl rfl rfl rfl (by kernel_rfl) Try.func9 (by kernel_rfl)
    (of_decide_eq_true (by kernel_rfl)) (by unfold Func.isWrapper; rw [if_neg (of_decide_eq_false (by kernel_rfl))]; exact ⟨rfl, rfl⟩)
    (fun os started H enc _ => lifted os started H enc)

theorem proved : Rows.FnExactDenseBlocksSaid := over
end Go.Proofs.Ytnpjhhkhdeomcaa.lawDenseBlocks
