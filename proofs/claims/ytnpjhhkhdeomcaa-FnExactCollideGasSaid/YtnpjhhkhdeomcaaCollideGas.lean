/- For every gas and either turn, impl.CollideGas answers as the model of the document does, owns its answer, and changes nothing that it is given. No condition. -/
import Derived.Test.YtnpjhhkhdeomcaaRows
import Derived.Test.YtnpjhhkhdeomcaaFldKit
import Derived.Test.YtnpjhhkhdeomcaaGas
import Derived.Test.YtnpjhhkhdeomcaaGasM
import Derived.Test.YtnpjhhkhdeomcaaCld
import Derived.WalkKit
import Derived.WalkLawsBesides
import Derived.ProofKit
import Derived.OpenShut
import Derived.ShutString
import Derived.ChangeOld
import Derived.Below
import Derived.IntWalk
import Derived.Lib.SmallJoins
import Derived.Deep.Cut
namespace Go.Proofs.Ytnpjhhkhdeomcaa.lawCollideGas
open Go.ChangeShapes Go.WideShapes Go.ChangeAt Go.RowKit Go.Joins Go.Proofs.Ytnpjhhkhdeomcaa.Rd Go.Proofs.Ytnpjhhkhdeomcaa.Help Go.Proofs.Ytnpjhhkhdeomcaa.Rdb Go.Proofs.Ytnpjhhkhdeomcaa.Keep
set_option linter.unusedVariables false
set_option linter.unusedSimpArgs false
theorem own : ownKnob Try.prog.godebug = none := by kernel_rfl
theorem laidOut : laidOutB Try.prog = true := by kernel_rfl
theorem agree (gw gr gc : Int) (xs : List Int) (ys : List Bool) (left : Bool) (hx : xs.length ≤ 1048576) (hy : ys.length ≤ 1048576) : ∃ (qg qs qr : Int) (rs : List Int) (ts : List Bool) (ok : Bool), rs.length ≤ 1000000 ∧ ts.length ≤ 1000000 ∧ (∀ (w : World) (b1 : Nat) (v1 : Value) (b2 : Nat) (v2 : Value), Rd w b1 v1 xs → RdB w b2 v2 ys → Calls Try.prog 27 #[gasV gw gr gc v1 v2, .bool left] w fun e w' => ∃ ao c b ao2 c2 b2, e = .returned (.tuple #[gasV qg qs qr (.slice ao rs.length c) (.slice ao2 ts.length c2), .bool ok]) ∧ Own 2 w' b (.slice ao rs.length c) rs ∧ OwnB 4 w' b2 (.slice ao2 ts.length c2) ts ∧ w.heap.size ≤ b ∧ b < b2 ∧ Below w.heap.size w w') ∧ (∀ (w : World) (b1 : Nat) (v1 : Value) (b2 : Nat) (v2 : Value), Rd w b1 v1 xs → RdB w b2 v2 ys → Calls Try.prog 28 #[gasV gw gr gc v1 v2, .bool left] w fun e w' => ∃ ao c b ao2 c2 b2, e = .returned (.tuple #[gasV qg qs qr (.slice ao rs.length c) (.slice ao2 ts.length c2), .bool ok]) ∧ Own 2 w' b (.slice ao rs.length c) rs ∧ OwnB 4 w' b2 (.slice ao2 ts.length c2) ts ∧ w.heap.size ≤ b ∧ b < b2 ∧ Below w.heap.size w w') := by
  cases hq : GVal.gasB gw gr gc xs ys with
  | false =>
    refine ⟨0, 0, 0, [], [], false, by simp, by simp, fun w b1 v1 b2 v2 h1 h2 => (Cld.specNo h1 h2 hq).mono ?_, fun w b1 v1 b2 v2 h1 h2 => (Cld.implNo h1 h2 hq).mono ?_⟩
    all_goals
      rintro e w' ⟨rfl, bel⟩
      exact ⟨none, 0, w.heap.size, none, 0, w.heap.size + 1, rfl, Own.nil _ _ _, OwnB.nil _ _ _, Nat.le_refl _, Nat.lt_succ_self _, bel⟩
  | true =>
    obtain ⟨hg, hn, hn2, hym, _⟩ := Rev.gas_parts hq
    rcases hg with rfl | rfl
    · have hT : (Cld.colL 4 left xs ys).length = xs.length := by simp [Cld.colL]
      refine ⟨4, gr, gc, Cld.colL 4 left xs ys, ys, true, by omega, by omega, fun w b1 v1 b2 v2 h1 h2 => (Cld.specOk4 h1 h2 hq).mono ?_, fun w b1 v1 b2 v2 h1 h2 => (Cld.implOk4 h1 h2 hq).mono ?_⟩
      all_goals
        rintro e w' ⟨p, kp, q, kq, rfl, o1, o2, lo, lt, bel⟩
        rw [← hT] at o1 ⊢
        exact ⟨_, kp, p, _, kq, q, rfl, o1, o2, lo, lt, bel⟩
    · cases left
      · have hT : (Cld.colL 6 false xs ys).length = xs.length := by simp [Cld.colL]
        refine ⟨6, gr, gc, Cld.colL 6 false xs ys, ys, true, by omega, by omega, fun w b1 v1 b2 v2 h1 h2 => (Cld.specOk6 h1 h2 hq).mono ?_, fun w b1 v1 b2 v2 h1 h2 => (Cld.implOk6m h1 h2 hq).mono ?_⟩
        all_goals
          rintro e w' ⟨p, kp, q, kq, rfl, o1, o2, lo, lt, bel⟩
          rw [← hT] at o1 ⊢
          exact ⟨_, kp, p, _, kq, q, rfl, o1, o2, lo, lt, bel⟩
      · have hT : (Cld.colL 6 true xs ys).length = xs.length := by simp [Cld.colL]
        refine ⟨6, gr, gc, Cld.colL 6 true xs ys, ys, true, by omega, by omega, fun w b1 v1 b2 v2 h1 h2 => (Cld.specOk6 h1 h2 hq).mono ?_, fun w b1 v1 b2 v2 h1 h2 => (Cld.implOk6 h1 h2 hq).mono ?_⟩
        all_goals
          rintro e w' ⟨p, kp, q, kq, rfl, o1, o2, lo, lt, bel⟩
          rw [← hT] at o1 ⊢
          exact ⟨_, kp, p, _, kq, q, rfl, o1, o2, lo, lt, bel⟩

theorem heap_top0 (w : World) (o : Obj) : (w.alloc o).heap[w.heap.size]? = some o := by
  show (w.heap.push o)[w.heap.size]? = some o
  simp
theorem own_setB {E : TypeId} {w : World} {b : Nat} {v : Value} {zs : List Int} (h : Own E w b v zs) (a : Addr) (u : Value) (hne : v = .slice none 0 0 ∨ a.block ≠ b) : Own E (w.setCell a u) b v zs := by
  rcases hne with hv | hne
  · rcases h.form with ⟨_, he⟩ | ⟨cap, hv2, _⟩
    · subst hv; rw [he]; exact Own.nil _ _ _
    · rw [hv] at hv2; cases hv2
  · exact own_set h a u hne
theorem heap_keep {w w' : World} {n : Nat} {o : Obj} (bel : Below w.heap.size w w') (h : w.heap[n]? = some o) : w'.heap[n]? = some o :=
  (bel.block n (Array.getElem?_eq_some_iff.1 h).1).trans h
theorem mcellB {w w' : World} {c n i : Nat} {u v : Value} (g : w.grownBy w' (some c)) (gn : v = .slice none 0 0 → Below w.heap.size w w') (h : w.cell? ⟨n, i, none⟩ = some u) (hne : v = .slice none 0 0 ∨ n ≠ c) : w'.cell? ⟨n, i, none⟩ = some u := by
  rcases hne with hv | hne
  · exact cell_keep (gn hv) h
  · exact mcell g h hne
theorem nx5_IB {N : Nat} {w0 w w' : World} {p0 p1 p2 p3 p4 : Addr} {c0 c1 c2 c3 c4 : Value} {b0 : Nat} {v0 : Value} {z0 : List Int} {b1 : Nat} {v1 : Value} {z1 : List Bool} (bel : Below w.heap.size w w') (h : Below N w0 w ∧ w.cell? p0 = some c0 ∧ w.cell? p1 = some c1 ∧ w.cell? p2 = some c2 ∧ w.cell? p3 = some c3 ∧ w.cell? p4 = some c4 ∧ Rd w b0 v0 z0 ∧ RdB w b1 v1 z1 ∧ N ≤ w.heap.size) : Below N w0 w' ∧ w'.cell? p0 = some c0 ∧ w'.cell? p1 = some c1 ∧ w'.cell? p2 = some c2 ∧ w'.cell? p3 = some c3 ∧ w'.cell? p4 = some c4 ∧ Rd w' b0 v0 z0 ∧ RdB w' b1 v1 z1 ∧ N ≤ w'.heap.size := by obtain ⟨h0, x0, x1, x2, x3, x4, y0, y1, h5⟩ := h; exact ⟨h0.trans (bel.mono h5), cell_keep bel x0, cell_keep bel x1, cell_keep bel x2, cell_keep bel x3, cell_keep bel x4, y0.keep bel (Nat.le_refl _), y1.keep bel (Nat.le_refl _), Nat.le_trans h5 bel.size⟩
theorem drw5_IB {N : Nat} {w0 w : World} {p0 p1 p2 p3 p4 : Addr} {c0 c1 c2 c3 c4 : Value} {b0 : Nat} {v0 : Value} {z0 : List Int} {b1 : Nat} {v1 : Value} {z1 : List Bool} (h : Below N w0 w ∧ w.cell? p0 = some c0 ∧ w.cell? p1 = some c1 ∧ w.cell? p2 = some c2 ∧ w.cell? p3 = some c3 ∧ w.cell? p4 = some c4 ∧ Rd w b0 v0 z0 ∧ RdB w b1 v1 z1 ∧ N ≤ w.heap.size) : Below N w0 w.drew ∧ w.drew.cell? p0 = some c0 ∧ w.drew.cell? p1 = some c1 ∧ w.drew.cell? p2 = some c2 ∧ w.drew.cell? p3 = some c3 ∧ w.drew.cell? p4 = some c4 ∧ Rd w.drew b0 v0 z0 ∧ RdB w.drew b1 v1 z1 ∧ N ≤ w.drew.heap.size := by obtain ⟨h0, x0, x1, x2, x3, x4, y0, y1, h5⟩ := h; exact ⟨h0.drew, x0, x1, x2, x3, x4, y0, y1, h5⟩
theorem rdx5_IB_0 {N : Nat} {w0 w : World} {p0 p1 p2 p3 p4 : Addr} {c0 c1 c2 c3 c4 : Value} {b0 : Nat} {v0 : Value} {z0 : List Int} {b1 : Nat} {v1 : Value} {z1 : List Bool} (h : Below N w0 w ∧ w.cell? p0 = some c0 ∧ w.cell? p1 = some c1 ∧ w.cell? p2 = some c2 ∧ w.cell? p3 = some c3 ∧ w.cell? p4 = some c4 ∧ Rd w b0 v0 z0 ∧ RdB w b1 v1 z1 ∧ N ≤ w.heap.size) : Rd w b0 v0 z0 := by obtain ⟨h0, x0, x1, x2, x3, x4, y0, y1, h5⟩ := h; exact y0
theorem rdx5_IB_1 {N : Nat} {w0 w : World} {p0 p1 p2 p3 p4 : Addr} {c0 c1 c2 c3 c4 : Value} {b0 : Nat} {v0 : Value} {z0 : List Int} {b1 : Nat} {v1 : Value} {z1 : List Bool} (h : Below N w0 w ∧ w.cell? p0 = some c0 ∧ w.cell? p1 = some c1 ∧ w.cell? p2 = some c2 ∧ w.cell? p3 = some c3 ∧ w.cell? p4 = some c4 ∧ Rd w b0 v0 z0 ∧ RdB w b1 v1 z1 ∧ N ≤ w.heap.size) : RdB w b1 v1 z1 := by obtain ⟨h0, x0, x1, x2, x3, x4, y0, y1, h5⟩ := h; exact y1
theorem nx10_IB {N : Nat} {w0 w w' : World} {p0 p1 p2 p3 p4 p5 p6 p7 p8 p9 : Addr} {c0 c1 c2 c3 c4 c5 c6 c7 c8 c9 : Value} {b0 : Nat} {v0 : Value} {z0 : List Int} {b1 : Nat} {v1 : Value} {z1 : List Bool} (bel : Below w.heap.size w w') (h : Below N w0 w ∧ w.cell? p0 = some c0 ∧ w.cell? p1 = some c1 ∧ w.cell? p2 = some c2 ∧ w.cell? p3 = some c3 ∧ w.cell? p4 = some c4 ∧ w.cell? p5 = some c5 ∧ w.cell? p6 = some c6 ∧ w.cell? p7 = some c7 ∧ w.cell? p8 = some c8 ∧ w.cell? p9 = some c9 ∧ Rd w b0 v0 z0 ∧ RdB w b1 v1 z1 ∧ N ≤ w.heap.size) : Below N w0 w' ∧ w'.cell? p0 = some c0 ∧ w'.cell? p1 = some c1 ∧ w'.cell? p2 = some c2 ∧ w'.cell? p3 = some c3 ∧ w'.cell? p4 = some c4 ∧ w'.cell? p5 = some c5 ∧ w'.cell? p6 = some c6 ∧ w'.cell? p7 = some c7 ∧ w'.cell? p8 = some c8 ∧ w'.cell? p9 = some c9 ∧ Rd w' b0 v0 z0 ∧ RdB w' b1 v1 z1 ∧ N ≤ w'.heap.size := by obtain ⟨h0, x0, x1, x2, x3, x4, x5, x6, x7, x8, x9, y0, y1, h5⟩ := h; exact ⟨h0.trans (bel.mono h5), cell_keep bel x0, cell_keep bel x1, cell_keep bel x2, cell_keep bel x3, cell_keep bel x4, cell_keep bel x5, cell_keep bel x6, cell_keep bel x7, cell_keep bel x8, cell_keep bel x9, y0.keep bel (Nat.le_refl _), y1.keep bel (Nat.le_refl _), Nat.le_trans h5 bel.size⟩
theorem drw10_IB {N : Nat} {w0 w : World} {p0 p1 p2 p3 p4 p5 p6 p7 p8 p9 : Addr} {c0 c1 c2 c3 c4 c5 c6 c7 c8 c9 : Value} {b0 : Nat} {v0 : Value} {z0 : List Int} {b1 : Nat} {v1 : Value} {z1 : List Bool} (h : Below N w0 w ∧ w.cell? p0 = some c0 ∧ w.cell? p1 = some c1 ∧ w.cell? p2 = some c2 ∧ w.cell? p3 = some c3 ∧ w.cell? p4 = some c4 ∧ w.cell? p5 = some c5 ∧ w.cell? p6 = some c6 ∧ w.cell? p7 = some c7 ∧ w.cell? p8 = some c8 ∧ w.cell? p9 = some c9 ∧ Rd w b0 v0 z0 ∧ RdB w b1 v1 z1 ∧ N ≤ w.heap.size) : Below N w0 w.drew ∧ w.drew.cell? p0 = some c0 ∧ w.drew.cell? p1 = some c1 ∧ w.drew.cell? p2 = some c2 ∧ w.drew.cell? p3 = some c3 ∧ w.drew.cell? p4 = some c4 ∧ w.drew.cell? p5 = some c5 ∧ w.drew.cell? p6 = some c6 ∧ w.drew.cell? p7 = some c7 ∧ w.drew.cell? p8 = some c8 ∧ w.drew.cell? p9 = some c9 ∧ Rd w.drew b0 v0 z0 ∧ RdB w.drew b1 v1 z1 ∧ N ≤ w.drew.heap.size := by obtain ⟨h0, x0, x1, x2, x3, x4, x5, x6, x7, x8, x9, y0, y1, h5⟩ := h; exact ⟨h0.drew, x0, x1, x2, x3, x4, x5, x6, x7, x8, x9, y0, y1, h5⟩
theorem rdx10_IB_0 {N : Nat} {w0 w : World} {p0 p1 p2 p3 p4 p5 p6 p7 p8 p9 : Addr} {c0 c1 c2 c3 c4 c5 c6 c7 c8 c9 : Value} {b0 : Nat} {v0 : Value} {z0 : List Int} {b1 : Nat} {v1 : Value} {z1 : List Bool} (h : Below N w0 w ∧ w.cell? p0 = some c0 ∧ w.cell? p1 = some c1 ∧ w.cell? p2 = some c2 ∧ w.cell? p3 = some c3 ∧ w.cell? p4 = some c4 ∧ w.cell? p5 = some c5 ∧ w.cell? p6 = some c6 ∧ w.cell? p7 = some c7 ∧ w.cell? p8 = some c8 ∧ w.cell? p9 = some c9 ∧ Rd w b0 v0 z0 ∧ RdB w b1 v1 z1 ∧ N ≤ w.heap.size) : Rd w b0 v0 z0 := by obtain ⟨h0, x0, x1, x2, x3, x4, x5, x6, x7, x8, x9, y0, y1, h5⟩ := h; exact y0
theorem rdx10_IB_1 {N : Nat} {w0 w : World} {p0 p1 p2 p3 p4 p5 p6 p7 p8 p9 : Addr} {c0 c1 c2 c3 c4 c5 c6 c7 c8 c9 : Value} {b0 : Nat} {v0 : Value} {z0 : List Int} {b1 : Nat} {v1 : Value} {z1 : List Bool} (h : Below N w0 w ∧ w.cell? p0 = some c0 ∧ w.cell? p1 = some c1 ∧ w.cell? p2 = some c2 ∧ w.cell? p3 = some c3 ∧ w.cell? p4 = some c4 ∧ w.cell? p5 = some c5 ∧ w.cell? p6 = some c6 ∧ w.cell? p7 = some c7 ∧ w.cell? p8 = some c8 ∧ w.cell? p9 = some c9 ∧ Rd w b0 v0 z0 ∧ RdB w b1 v1 z1 ∧ N ≤ w.heap.size) : RdB w b1 v1 z1 := by obtain ⟨h0, x0, x1, x2, x3, x4, x5, x6, x7, x8, x9, y0, y1, h5⟩ := h; exact y1
theorem nx15_IB {N : Nat} {w0 w w' : World} {p0 p1 p2 p3 p4 p5 p6 p7 p8 p9 p10 p11 p12 p13 p14 : Addr} {c0 c1 c2 c3 c4 c5 c6 c7 c8 c9 c10 c11 c12 c13 c14 : Value} {b0 : Nat} {v0 : Value} {z0 : List Int} {b1 : Nat} {v1 : Value} {z1 : List Bool} (bel : Below w.heap.size w w') (h : Below N w0 w ∧ w.cell? p0 = some c0 ∧ w.cell? p1 = some c1 ∧ w.cell? p2 = some c2 ∧ w.cell? p3 = some c3 ∧ w.cell? p4 = some c4 ∧ w.cell? p5 = some c5 ∧ w.cell? p6 = some c6 ∧ w.cell? p7 = some c7 ∧ w.cell? p8 = some c8 ∧ w.cell? p9 = some c9 ∧ w.cell? p10 = some c10 ∧ w.cell? p11 = some c11 ∧ w.cell? p12 = some c12 ∧ w.cell? p13 = some c13 ∧ w.cell? p14 = some c14 ∧ Rd w b0 v0 z0 ∧ RdB w b1 v1 z1 ∧ N ≤ w.heap.size) : Below N w0 w' ∧ w'.cell? p0 = some c0 ∧ w'.cell? p1 = some c1 ∧ w'.cell? p2 = some c2 ∧ w'.cell? p3 = some c3 ∧ w'.cell? p4 = some c4 ∧ w'.cell? p5 = some c5 ∧ w'.cell? p6 = some c6 ∧ w'.cell? p7 = some c7 ∧ w'.cell? p8 = some c8 ∧ w'.cell? p9 = some c9 ∧ w'.cell? p10 = some c10 ∧ w'.cell? p11 = some c11 ∧ w'.cell? p12 = some c12 ∧ w'.cell? p13 = some c13 ∧ w'.cell? p14 = some c14 ∧ Rd w' b0 v0 z0 ∧ RdB w' b1 v1 z1 ∧ N ≤ w'.heap.size := by obtain ⟨h0, x0, x1, x2, x3, x4, x5, x6, x7, x8, x9, x10, x11, x12, x13, x14, y0, y1, h5⟩ := h; exact ⟨h0.trans (bel.mono h5), cell_keep bel x0, cell_keep bel x1, cell_keep bel x2, cell_keep bel x3, cell_keep bel x4, cell_keep bel x5, cell_keep bel x6, cell_keep bel x7, cell_keep bel x8, cell_keep bel x9, cell_keep bel x10, cell_keep bel x11, cell_keep bel x12, cell_keep bel x13, cell_keep bel x14, y0.keep bel (Nat.le_refl _), y1.keep bel (Nat.le_refl _), Nat.le_trans h5 bel.size⟩
theorem drw15_IB {N : Nat} {w0 w : World} {p0 p1 p2 p3 p4 p5 p6 p7 p8 p9 p10 p11 p12 p13 p14 : Addr} {c0 c1 c2 c3 c4 c5 c6 c7 c8 c9 c10 c11 c12 c13 c14 : Value} {b0 : Nat} {v0 : Value} {z0 : List Int} {b1 : Nat} {v1 : Value} {z1 : List Bool} (h : Below N w0 w ∧ w.cell? p0 = some c0 ∧ w.cell? p1 = some c1 ∧ w.cell? p2 = some c2 ∧ w.cell? p3 = some c3 ∧ w.cell? p4 = some c4 ∧ w.cell? p5 = some c5 ∧ w.cell? p6 = some c6 ∧ w.cell? p7 = some c7 ∧ w.cell? p8 = some c8 ∧ w.cell? p9 = some c9 ∧ w.cell? p10 = some c10 ∧ w.cell? p11 = some c11 ∧ w.cell? p12 = some c12 ∧ w.cell? p13 = some c13 ∧ w.cell? p14 = some c14 ∧ Rd w b0 v0 z0 ∧ RdB w b1 v1 z1 ∧ N ≤ w.heap.size) : Below N w0 w.drew ∧ w.drew.cell? p0 = some c0 ∧ w.drew.cell? p1 = some c1 ∧ w.drew.cell? p2 = some c2 ∧ w.drew.cell? p3 = some c3 ∧ w.drew.cell? p4 = some c4 ∧ w.drew.cell? p5 = some c5 ∧ w.drew.cell? p6 = some c6 ∧ w.drew.cell? p7 = some c7 ∧ w.drew.cell? p8 = some c8 ∧ w.drew.cell? p9 = some c9 ∧ w.drew.cell? p10 = some c10 ∧ w.drew.cell? p11 = some c11 ∧ w.drew.cell? p12 = some c12 ∧ w.drew.cell? p13 = some c13 ∧ w.drew.cell? p14 = some c14 ∧ Rd w.drew b0 v0 z0 ∧ RdB w.drew b1 v1 z1 ∧ N ≤ w.drew.heap.size := by obtain ⟨h0, x0, x1, x2, x3, x4, x5, x6, x7, x8, x9, x10, x11, x12, x13, x14, y0, y1, h5⟩ := h; exact ⟨h0.drew, x0, x1, x2, x3, x4, x5, x6, x7, x8, x9, x10, x11, x12, x13, x14, y0, y1, h5⟩
theorem rdx15_IB_0 {N : Nat} {w0 w : World} {p0 p1 p2 p3 p4 p5 p6 p7 p8 p9 p10 p11 p12 p13 p14 : Addr} {c0 c1 c2 c3 c4 c5 c6 c7 c8 c9 c10 c11 c12 c13 c14 : Value} {b0 : Nat} {v0 : Value} {z0 : List Int} {b1 : Nat} {v1 : Value} {z1 : List Bool} (h : Below N w0 w ∧ w.cell? p0 = some c0 ∧ w.cell? p1 = some c1 ∧ w.cell? p2 = some c2 ∧ w.cell? p3 = some c3 ∧ w.cell? p4 = some c4 ∧ w.cell? p5 = some c5 ∧ w.cell? p6 = some c6 ∧ w.cell? p7 = some c7 ∧ w.cell? p8 = some c8 ∧ w.cell? p9 = some c9 ∧ w.cell? p10 = some c10 ∧ w.cell? p11 = some c11 ∧ w.cell? p12 = some c12 ∧ w.cell? p13 = some c13 ∧ w.cell? p14 = some c14 ∧ Rd w b0 v0 z0 ∧ RdB w b1 v1 z1 ∧ N ≤ w.heap.size) : Rd w b0 v0 z0 := by obtain ⟨h0, x0, x1, x2, x3, x4, x5, x6, x7, x8, x9, x10, x11, x12, x13, x14, y0, y1, h5⟩ := h; exact y0
theorem rdx15_IB_1 {N : Nat} {w0 w : World} {p0 p1 p2 p3 p4 p5 p6 p7 p8 p9 p10 p11 p12 p13 p14 : Addr} {c0 c1 c2 c3 c4 c5 c6 c7 c8 c9 c10 c11 c12 c13 c14 : Value} {b0 : Nat} {v0 : Value} {z0 : List Int} {b1 : Nat} {v1 : Value} {z1 : List Bool} (h : Below N w0 w ∧ w.cell? p0 = some c0 ∧ w.cell? p1 = some c1 ∧ w.cell? p2 = some c2 ∧ w.cell? p3 = some c3 ∧ w.cell? p4 = some c4 ∧ w.cell? p5 = some c5 ∧ w.cell? p6 = some c6 ∧ w.cell? p7 = some c7 ∧ w.cell? p8 = some c8 ∧ w.cell? p9 = some c9 ∧ w.cell? p10 = some c10 ∧ w.cell? p11 = some c11 ∧ w.cell? p12 = some c12 ∧ w.cell? p13 = some c13 ∧ w.cell? p14 = some c14 ∧ Rd w b0 v0 z0 ∧ RdB w b1 v1 z1 ∧ N ≤ w.heap.size) : RdB w b1 v1 z1 := by obtain ⟨h0, x0, x1, x2, x3, x4, x5, x6, x7, x8, x9, x10, x11, x12, x13, x14, y0, y1, h5⟩ := h; exact y1
theorem nx20_IB {N : Nat} {w0 w w' : World} {p0 p1 p2 p3 p4 p5 p6 p7 p8 p9 p10 p11 p12 p13 p14 p15 p16 p17 p18 p19 : Addr} {c0 c1 c2 c3 c4 c5 c6 c7 c8 c9 c10 c11 c12 c13 c14 c15 c16 c17 c18 c19 : Value} {b0 : Nat} {v0 : Value} {z0 : List Int} {b1 : Nat} {v1 : Value} {z1 : List Bool} (bel : Below w.heap.size w w') (h : Below N w0 w ∧ w.cell? p0 = some c0 ∧ w.cell? p1 = some c1 ∧ w.cell? p2 = some c2 ∧ w.cell? p3 = some c3 ∧ w.cell? p4 = some c4 ∧ w.cell? p5 = some c5 ∧ w.cell? p6 = some c6 ∧ w.cell? p7 = some c7 ∧ w.cell? p8 = some c8 ∧ w.cell? p9 = some c9 ∧ w.cell? p10 = some c10 ∧ w.cell? p11 = some c11 ∧ w.cell? p12 = some c12 ∧ w.cell? p13 = some c13 ∧ w.cell? p14 = some c14 ∧ w.cell? p15 = some c15 ∧ w.cell? p16 = some c16 ∧ w.cell? p17 = some c17 ∧ w.cell? p18 = some c18 ∧ w.cell? p19 = some c19 ∧ Rd w b0 v0 z0 ∧ RdB w b1 v1 z1 ∧ N ≤ w.heap.size) : Below N w0 w' ∧ w'.cell? p0 = some c0 ∧ w'.cell? p1 = some c1 ∧ w'.cell? p2 = some c2 ∧ w'.cell? p3 = some c3 ∧ w'.cell? p4 = some c4 ∧ w'.cell? p5 = some c5 ∧ w'.cell? p6 = some c6 ∧ w'.cell? p7 = some c7 ∧ w'.cell? p8 = some c8 ∧ w'.cell? p9 = some c9 ∧ w'.cell? p10 = some c10 ∧ w'.cell? p11 = some c11 ∧ w'.cell? p12 = some c12 ∧ w'.cell? p13 = some c13 ∧ w'.cell? p14 = some c14 ∧ w'.cell? p15 = some c15 ∧ w'.cell? p16 = some c16 ∧ w'.cell? p17 = some c17 ∧ w'.cell? p18 = some c18 ∧ w'.cell? p19 = some c19 ∧ Rd w' b0 v0 z0 ∧ RdB w' b1 v1 z1 ∧ N ≤ w'.heap.size := by obtain ⟨h0, x0, x1, x2, x3, x4, x5, x6, x7, x8, x9, x10, x11, x12, x13, x14, x15, x16, x17, x18, x19, y0, y1, h5⟩ := h; exact ⟨h0.trans (bel.mono h5), cell_keep bel x0, cell_keep bel x1, cell_keep bel x2, cell_keep bel x3, cell_keep bel x4, cell_keep bel x5, cell_keep bel x6, cell_keep bel x7, cell_keep bel x8, cell_keep bel x9, cell_keep bel x10, cell_keep bel x11, cell_keep bel x12, cell_keep bel x13, cell_keep bel x14, cell_keep bel x15, cell_keep bel x16, cell_keep bel x17, cell_keep bel x18, cell_keep bel x19, y0.keep bel (Nat.le_refl _), y1.keep bel (Nat.le_refl _), Nat.le_trans h5 bel.size⟩
theorem drw20_IB {N : Nat} {w0 w : World} {p0 p1 p2 p3 p4 p5 p6 p7 p8 p9 p10 p11 p12 p13 p14 p15 p16 p17 p18 p19 : Addr} {c0 c1 c2 c3 c4 c5 c6 c7 c8 c9 c10 c11 c12 c13 c14 c15 c16 c17 c18 c19 : Value} {b0 : Nat} {v0 : Value} {z0 : List Int} {b1 : Nat} {v1 : Value} {z1 : List Bool} (h : Below N w0 w ∧ w.cell? p0 = some c0 ∧ w.cell? p1 = some c1 ∧ w.cell? p2 = some c2 ∧ w.cell? p3 = some c3 ∧ w.cell? p4 = some c4 ∧ w.cell? p5 = some c5 ∧ w.cell? p6 = some c6 ∧ w.cell? p7 = some c7 ∧ w.cell? p8 = some c8 ∧ w.cell? p9 = some c9 ∧ w.cell? p10 = some c10 ∧ w.cell? p11 = some c11 ∧ w.cell? p12 = some c12 ∧ w.cell? p13 = some c13 ∧ w.cell? p14 = some c14 ∧ w.cell? p15 = some c15 ∧ w.cell? p16 = some c16 ∧ w.cell? p17 = some c17 ∧ w.cell? p18 = some c18 ∧ w.cell? p19 = some c19 ∧ Rd w b0 v0 z0 ∧ RdB w b1 v1 z1 ∧ N ≤ w.heap.size) : Below N w0 w.drew ∧ w.drew.cell? p0 = some c0 ∧ w.drew.cell? p1 = some c1 ∧ w.drew.cell? p2 = some c2 ∧ w.drew.cell? p3 = some c3 ∧ w.drew.cell? p4 = some c4 ∧ w.drew.cell? p5 = some c5 ∧ w.drew.cell? p6 = some c6 ∧ w.drew.cell? p7 = some c7 ∧ w.drew.cell? p8 = some c8 ∧ w.drew.cell? p9 = some c9 ∧ w.drew.cell? p10 = some c10 ∧ w.drew.cell? p11 = some c11 ∧ w.drew.cell? p12 = some c12 ∧ w.drew.cell? p13 = some c13 ∧ w.drew.cell? p14 = some c14 ∧ w.drew.cell? p15 = some c15 ∧ w.drew.cell? p16 = some c16 ∧ w.drew.cell? p17 = some c17 ∧ w.drew.cell? p18 = some c18 ∧ w.drew.cell? p19 = some c19 ∧ Rd w.drew b0 v0 z0 ∧ RdB w.drew b1 v1 z1 ∧ N ≤ w.drew.heap.size := by obtain ⟨h0, x0, x1, x2, x3, x4, x5, x6, x7, x8, x9, x10, x11, x12, x13, x14, x15, x16, x17, x18, x19, y0, y1, h5⟩ := h; exact ⟨h0.drew, x0, x1, x2, x3, x4, x5, x6, x7, x8, x9, x10, x11, x12, x13, x14, x15, x16, x17, x18, x19, y0, y1, h5⟩
theorem rdx20_IB_0 {N : Nat} {w0 w : World} {p0 p1 p2 p3 p4 p5 p6 p7 p8 p9 p10 p11 p12 p13 p14 p15 p16 p17 p18 p19 : Addr} {c0 c1 c2 c3 c4 c5 c6 c7 c8 c9 c10 c11 c12 c13 c14 c15 c16 c17 c18 c19 : Value} {b0 : Nat} {v0 : Value} {z0 : List Int} {b1 : Nat} {v1 : Value} {z1 : List Bool} (h : Below N w0 w ∧ w.cell? p0 = some c0 ∧ w.cell? p1 = some c1 ∧ w.cell? p2 = some c2 ∧ w.cell? p3 = some c3 ∧ w.cell? p4 = some c4 ∧ w.cell? p5 = some c5 ∧ w.cell? p6 = some c6 ∧ w.cell? p7 = some c7 ∧ w.cell? p8 = some c8 ∧ w.cell? p9 = some c9 ∧ w.cell? p10 = some c10 ∧ w.cell? p11 = some c11 ∧ w.cell? p12 = some c12 ∧ w.cell? p13 = some c13 ∧ w.cell? p14 = some c14 ∧ w.cell? p15 = some c15 ∧ w.cell? p16 = some c16 ∧ w.cell? p17 = some c17 ∧ w.cell? p18 = some c18 ∧ w.cell? p19 = some c19 ∧ Rd w b0 v0 z0 ∧ RdB w b1 v1 z1 ∧ N ≤ w.heap.size) : Rd w b0 v0 z0 := by obtain ⟨h0, x0, x1, x2, x3, x4, x5, x6, x7, x8, x9, x10, x11, x12, x13, x14, x15, x16, x17, x18, x19, y0, y1, h5⟩ := h; exact y0
theorem rdx20_IB_1 {N : Nat} {w0 w : World} {p0 p1 p2 p3 p4 p5 p6 p7 p8 p9 p10 p11 p12 p13 p14 p15 p16 p17 p18 p19 : Addr} {c0 c1 c2 c3 c4 c5 c6 c7 c8 c9 c10 c11 c12 c13 c14 c15 c16 c17 c18 c19 : Value} {b0 : Nat} {v0 : Value} {z0 : List Int} {b1 : Nat} {v1 : Value} {z1 : List Bool} (h : Below N w0 w ∧ w.cell? p0 = some c0 ∧ w.cell? p1 = some c1 ∧ w.cell? p2 = some c2 ∧ w.cell? p3 = some c3 ∧ w.cell? p4 = some c4 ∧ w.cell? p5 = some c5 ∧ w.cell? p6 = some c6 ∧ w.cell? p7 = some c7 ∧ w.cell? p8 = some c8 ∧ w.cell? p9 = some c9 ∧ w.cell? p10 = some c10 ∧ w.cell? p11 = some c11 ∧ w.cell? p12 = some c12 ∧ w.cell? p13 = some c13 ∧ w.cell? p14 = some c14 ∧ w.cell? p15 = some c15 ∧ w.cell? p16 = some c16 ∧ w.cell? p17 = some c17 ∧ w.cell? p18 = some c18 ∧ w.cell? p19 = some c19 ∧ Rd w b0 v0 z0 ∧ RdB w b1 v1 z1 ∧ N ≤ w.heap.size) : RdB w b1 v1 z1 := by obtain ⟨h0, x0, x1, x2, x3, x4, x5, x6, x7, x8, x9, x10, x11, x12, x13, x14, x15, x16, x17, x18, x19, y0, y1, h5⟩ := h; exact y1
theorem nx25_IB {N : Nat} {w0 w w' : World} {p0 p1 p2 p3 p4 p5 p6 p7 p8 p9 p10 p11 p12 p13 p14 p15 p16 p17 p18 p19 p20 p21 p22 p23 p24 : Addr} {c0 c1 c2 c3 c4 c5 c6 c7 c8 c9 c10 c11 c12 c13 c14 c15 c16 c17 c18 c19 c20 c21 c22 c23 c24 : Value} {b0 : Nat} {v0 : Value} {z0 : List Int} {b1 : Nat} {v1 : Value} {z1 : List Bool} (bel : Below w.heap.size w w') (h : Below N w0 w ∧ w.cell? p0 = some c0 ∧ w.cell? p1 = some c1 ∧ w.cell? p2 = some c2 ∧ w.cell? p3 = some c3 ∧ w.cell? p4 = some c4 ∧ w.cell? p5 = some c5 ∧ w.cell? p6 = some c6 ∧ w.cell? p7 = some c7 ∧ w.cell? p8 = some c8 ∧ w.cell? p9 = some c9 ∧ w.cell? p10 = some c10 ∧ w.cell? p11 = some c11 ∧ w.cell? p12 = some c12 ∧ w.cell? p13 = some c13 ∧ w.cell? p14 = some c14 ∧ w.cell? p15 = some c15 ∧ w.cell? p16 = some c16 ∧ w.cell? p17 = some c17 ∧ w.cell? p18 = some c18 ∧ w.cell? p19 = some c19 ∧ w.cell? p20 = some c20 ∧ w.cell? p21 = some c21 ∧ w.cell? p22 = some c22 ∧ w.cell? p23 = some c23 ∧ w.cell? p24 = some c24 ∧ Rd w b0 v0 z0 ∧ RdB w b1 v1 z1 ∧ N ≤ w.heap.size) : Below N w0 w' ∧ w'.cell? p0 = some c0 ∧ w'.cell? p1 = some c1 ∧ w'.cell? p2 = some c2 ∧ w'.cell? p3 = some c3 ∧ w'.cell? p4 = some c4 ∧ w'.cell? p5 = some c5 ∧ w'.cell? p6 = some c6 ∧ w'.cell? p7 = some c7 ∧ w'.cell? p8 = some c8 ∧ w'.cell? p9 = some c9 ∧ w'.cell? p10 = some c10 ∧ w'.cell? p11 = some c11 ∧ w'.cell? p12 = some c12 ∧ w'.cell? p13 = some c13 ∧ w'.cell? p14 = some c14 ∧ w'.cell? p15 = some c15 ∧ w'.cell? p16 = some c16 ∧ w'.cell? p17 = some c17 ∧ w'.cell? p18 = some c18 ∧ w'.cell? p19 = some c19 ∧ w'.cell? p20 = some c20 ∧ w'.cell? p21 = some c21 ∧ w'.cell? p22 = some c22 ∧ w'.cell? p23 = some c23 ∧ w'.cell? p24 = some c24 ∧ Rd w' b0 v0 z0 ∧ RdB w' b1 v1 z1 ∧ N ≤ w'.heap.size := by obtain ⟨h0, x0, x1, x2, x3, x4, x5, x6, x7, x8, x9, x10, x11, x12, x13, x14, x15, x16, x17, x18, x19, x20, x21, x22, x23, x24, y0, y1, h5⟩ := h; exact ⟨h0.trans (bel.mono h5), cell_keep bel x0, cell_keep bel x1, cell_keep bel x2, cell_keep bel x3, cell_keep bel x4, cell_keep bel x5, cell_keep bel x6, cell_keep bel x7, cell_keep bel x8, cell_keep bel x9, cell_keep bel x10, cell_keep bel x11, cell_keep bel x12, cell_keep bel x13, cell_keep bel x14, cell_keep bel x15, cell_keep bel x16, cell_keep bel x17, cell_keep bel x18, cell_keep bel x19, cell_keep bel x20, cell_keep bel x21, cell_keep bel x22, cell_keep bel x23, cell_keep bel x24, y0.keep bel (Nat.le_refl _), y1.keep bel (Nat.le_refl _), Nat.le_trans h5 bel.size⟩
theorem drw25_IB {N : Nat} {w0 w : World} {p0 p1 p2 p3 p4 p5 p6 p7 p8 p9 p10 p11 p12 p13 p14 p15 p16 p17 p18 p19 p20 p21 p22 p23 p24 : Addr} {c0 c1 c2 c3 c4 c5 c6 c7 c8 c9 c10 c11 c12 c13 c14 c15 c16 c17 c18 c19 c20 c21 c22 c23 c24 : Value} {b0 : Nat} {v0 : Value} {z0 : List Int} {b1 : Nat} {v1 : Value} {z1 : List Bool} (h : Below N w0 w ∧ w.cell? p0 = some c0 ∧ w.cell? p1 = some c1 ∧ w.cell? p2 = some c2 ∧ w.cell? p3 = some c3 ∧ w.cell? p4 = some c4 ∧ w.cell? p5 = some c5 ∧ w.cell? p6 = some c6 ∧ w.cell? p7 = some c7 ∧ w.cell? p8 = some c8 ∧ w.cell? p9 = some c9 ∧ w.cell? p10 = some c10 ∧ w.cell? p11 = some c11 ∧ w.cell? p12 = some c12 ∧ w.cell? p13 = some c13 ∧ w.cell? p14 = some c14 ∧ w.cell? p15 = some c15 ∧ w.cell? p16 = some c16 ∧ w.cell? p17 = some c17 ∧ w.cell? p18 = some c18 ∧ w.cell? p19 = some c19 ∧ w.cell? p20 = some c20 ∧ w.cell? p21 = some c21 ∧ w.cell? p22 = some c22 ∧ w.cell? p23 = some c23 ∧ w.cell? p24 = some c24 ∧ Rd w b0 v0 z0 ∧ RdB w b1 v1 z1 ∧ N ≤ w.heap.size) : Below N w0 w.drew ∧ w.drew.cell? p0 = some c0 ∧ w.drew.cell? p1 = some c1 ∧ w.drew.cell? p2 = some c2 ∧ w.drew.cell? p3 = some c3 ∧ w.drew.cell? p4 = some c4 ∧ w.drew.cell? p5 = some c5 ∧ w.drew.cell? p6 = some c6 ∧ w.drew.cell? p7 = some c7 ∧ w.drew.cell? p8 = some c8 ∧ w.drew.cell? p9 = some c9 ∧ w.drew.cell? p10 = some c10 ∧ w.drew.cell? p11 = some c11 ∧ w.drew.cell? p12 = some c12 ∧ w.drew.cell? p13 = some c13 ∧ w.drew.cell? p14 = some c14 ∧ w.drew.cell? p15 = some c15 ∧ w.drew.cell? p16 = some c16 ∧ w.drew.cell? p17 = some c17 ∧ w.drew.cell? p18 = some c18 ∧ w.drew.cell? p19 = some c19 ∧ w.drew.cell? p20 = some c20 ∧ w.drew.cell? p21 = some c21 ∧ w.drew.cell? p22 = some c22 ∧ w.drew.cell? p23 = some c23 ∧ w.drew.cell? p24 = some c24 ∧ Rd w.drew b0 v0 z0 ∧ RdB w.drew b1 v1 z1 ∧ N ≤ w.drew.heap.size := by obtain ⟨h0, x0, x1, x2, x3, x4, x5, x6, x7, x8, x9, x10, x11, x12, x13, x14, x15, x16, x17, x18, x19, x20, x21, x22, x23, x24, y0, y1, h5⟩ := h; exact ⟨h0.drew, x0, x1, x2, x3, x4, x5, x6, x7, x8, x9, x10, x11, x12, x13, x14, x15, x16, x17, x18, x19, x20, x21, x22, x23, x24, y0, y1, h5⟩
theorem rdx25_IB_0 {N : Nat} {w0 w : World} {p0 p1 p2 p3 p4 p5 p6 p7 p8 p9 p10 p11 p12 p13 p14 p15 p16 p17 p18 p19 p20 p21 p22 p23 p24 : Addr} {c0 c1 c2 c3 c4 c5 c6 c7 c8 c9 c10 c11 c12 c13 c14 c15 c16 c17 c18 c19 c20 c21 c22 c23 c24 : Value} {b0 : Nat} {v0 : Value} {z0 : List Int} {b1 : Nat} {v1 : Value} {z1 : List Bool} (h : Below N w0 w ∧ w.cell? p0 = some c0 ∧ w.cell? p1 = some c1 ∧ w.cell? p2 = some c2 ∧ w.cell? p3 = some c3 ∧ w.cell? p4 = some c4 ∧ w.cell? p5 = some c5 ∧ w.cell? p6 = some c6 ∧ w.cell? p7 = some c7 ∧ w.cell? p8 = some c8 ∧ w.cell? p9 = some c9 ∧ w.cell? p10 = some c10 ∧ w.cell? p11 = some c11 ∧ w.cell? p12 = some c12 ∧ w.cell? p13 = some c13 ∧ w.cell? p14 = some c14 ∧ w.cell? p15 = some c15 ∧ w.cell? p16 = some c16 ∧ w.cell? p17 = some c17 ∧ w.cell? p18 = some c18 ∧ w.cell? p19 = some c19 ∧ w.cell? p20 = some c20 ∧ w.cell? p21 = some c21 ∧ w.cell? p22 = some c22 ∧ w.cell? p23 = some c23 ∧ w.cell? p24 = some c24 ∧ Rd w b0 v0 z0 ∧ RdB w b1 v1 z1 ∧ N ≤ w.heap.size) : Rd w b0 v0 z0 := by obtain ⟨h0, x0, x1, x2, x3, x4, x5, x6, x7, x8, x9, x10, x11, x12, x13, x14, x15, x16, x17, x18, x19, x20, x21, x22, x23, x24, y0, y1, h5⟩ := h; exact y0
theorem rdx25_IB_1 {N : Nat} {w0 w : World} {p0 p1 p2 p3 p4 p5 p6 p7 p8 p9 p10 p11 p12 p13 p14 p15 p16 p17 p18 p19 p20 p21 p22 p23 p24 : Addr} {c0 c1 c2 c3 c4 c5 c6 c7 c8 c9 c10 c11 c12 c13 c14 c15 c16 c17 c18 c19 c20 c21 c22 c23 c24 : Value} {b0 : Nat} {v0 : Value} {z0 : List Int} {b1 : Nat} {v1 : Value} {z1 : List Bool} (h : Below N w0 w ∧ w.cell? p0 = some c0 ∧ w.cell? p1 = some c1 ∧ w.cell? p2 = some c2 ∧ w.cell? p3 = some c3 ∧ w.cell? p4 = some c4 ∧ w.cell? p5 = some c5 ∧ w.cell? p6 = some c6 ∧ w.cell? p7 = some c7 ∧ w.cell? p8 = some c8 ∧ w.cell? p9 = some c9 ∧ w.cell? p10 = some c10 ∧ w.cell? p11 = some c11 ∧ w.cell? p12 = some c12 ∧ w.cell? p13 = some c13 ∧ w.cell? p14 = some c14 ∧ w.cell? p15 = some c15 ∧ w.cell? p16 = some c16 ∧ w.cell? p17 = some c17 ∧ w.cell? p18 = some c18 ∧ w.cell? p19 = some c19 ∧ w.cell? p20 = some c20 ∧ w.cell? p21 = some c21 ∧ w.cell? p22 = some c22 ∧ w.cell? p23 = some c23 ∧ w.cell? p24 = some c24 ∧ Rd w b0 v0 z0 ∧ RdB w b1 v1 z1 ∧ N ≤ w.heap.size) : RdB w b1 v1 z1 := by obtain ⟨h0, x0, x1, x2, x3, x4, x5, x6, x7, x8, x9, x10, x11, x12, x13, x14, x15, x16, x17, x18, x19, x20, x21, x22, x23, x24, y0, y1, h5⟩ := h; exact y1

set_option maxHeartbeats 64000000 in
set_option maxRecDepth 4000 in
theorem walk {w : World} {s0 r0 k0 : Int} (fs0 : (Lit.int .i64 s0).wf = true) (fr0 : (Lit.int .i64 r0).wf = true) (fk0 : (Lit.int .i64 k0).wf = true) {b0x : Nat} {v0x : Value} {z0x : List Int} (h0x : Rd w b0x v0x z0x) {b0y : Nat} {v0y : Value} {z0y : List Bool} (h0y : RdB w b0y v0y z0y) {a1 : Bool} :
    Calls Try.prog 8 #[gasV s0 r0 k0 v0x v0y, .bool a1] w fun e w' => e = .returned (.bool true) ∧ Below w.heap.size w w' := by
  obtain ⟨ao0x, cap0x, e0x, kc0x, mc0x, _⟩ := id h0x
  have H0x : Hid (Rd w b0x v0x z0x) := h0x
  subst e0x; clear h0x
  have nb0x : z0x.length ≤ 9223372036854775807 := by unfold maxLen at mc0x; omega
  clear kc0x mc0x
  obtain ⟨ao0y, cap0y, e0y, kc0y, mc0y, _⟩ := id h0y
  have H0y : Hid (RdB w b0y v0y z0y) := h0y
  subst e0y; clear h0y
  have nb0y : z0y.length ≤ 9223372036854775807 := by unfold maxLen at mc0y; omega
  clear kc0y mc0y
  by_cases hs0 : (z0x.length : Int) + (z0y.length : Int) ≤ 1048576
  rotate_left 1
  · go_enter Try.func8, Try.ntmps8
    go_wp2_with fail
    obtain ⟨w1, hW⟩ : ∃ w1, w1 = (w.alloc (Obj.cells #[.int .i64 s0, .int .i64 r0, .int .i64 k0, (Value.slice ao0x z0x.length cap0x), (Value.slice ao0y z0y.length cap0y)] 28)) := ⟨_, rfl⟩
    obtain ⟨N0, hN0⟩ : ∃ N0, N0 = w.heap.size := ⟨_, rfl⟩
    have st : Below w.heap.size w w1 ∧ w1.cell? ⟨N0, 0, none⟩ = some (.int .i64 s0) ∧ w1.cell? ⟨N0, 1, none⟩ = some (.int .i64 r0) ∧ w1.cell? ⟨N0, 2, none⟩ = some (.int .i64 k0) ∧ w1.cell? ⟨N0, 3, none⟩ = some ((Value.slice ao0x z0x.length cap0x)) ∧ w1.cell? ⟨N0, 4, none⟩ = some ((Value.slice ao0y z0y.length cap0y)) ∧ Rd w1 b0x (Value.slice ao0x z0x.length cap0x) z0x ∧ RdB w1 b0y (Value.slice ao0y z0y.length cap0y) z0y ∧ w.heap.size ≤ w1.heap.size := by
      rw [hW, hN0]
      exact ⟨Rule.below1 _ _, by simp, by simp, by simp, by simp, by simp, H0x.out.keep (Rule.below1 _ _) (Nat.le_refl _), H0y.out.keep (Rule.below1 _ _) (Nat.le_refl _), by simp <;> omega⟩
    simp only [← hW, ← hN0]
    clear hW hN0
    go_at_call 14
    refine (szG_no nb0x nb0y (q := 1048576) (by omega) (by omega) (by omega)).mono ?_
    rintro e w2 ⟨rfl, bel⟩
    replace st := nx5_IB bel st
    clear bel
    go_wp2
    go_ret
    exact ⟨rfl, st.1⟩
  have hl0x : z0x.length ≤ 1048576 := by omega
  have HL0x : Hid (z0x.length ≤ 1048576) := hl0x
  have hl0y : z0y.length ≤ 1048576 := by omega
  have HL0y : Hid (z0y.length ≤ 1048576) := hl0y
  obtain ⟨qg, qs, qr, rs, ts, q1, hlen, hlem, hspec, himpl⟩ := agree s0 r0 k0 z0x z0y a1 hl0x hl0y
  have HN : Hid (rs.length ≤ 1000000) := hlen
  have hlen' : (rs.length : Int) ≤ 1000000 := by omega
  clear hlen
  have HM : Hid (ts.length ≤ 1000000) := hlem
  have hlem' : (ts.length : Int) ≤ 1000000 := by omega
  clear hlem
  have HSp := hid @hspec
  have HIm := hid @himpl
  clear hspec himpl hl0x hl0y
  go_enter Try.func8, Try.ntmps8
  go_wp2_with fail
  obtain ⟨w1, hW⟩ : ∃ w1, w1 = (w.alloc (Obj.cells #[.int .i64 s0, .int .i64 r0, .int .i64 k0, (Value.slice ao0x z0x.length cap0x), (Value.slice ao0y z0y.length cap0y)] 28)) := ⟨_, rfl⟩
  obtain ⟨N0, hN0⟩ : ∃ N0, N0 = w.heap.size := ⟨_, rfl⟩
  have st : Below w.heap.size w w1 ∧ w1.cell? ⟨N0, 0, none⟩ = some (.int .i64 s0) ∧ w1.cell? ⟨N0, 1, none⟩ = some (.int .i64 r0) ∧ w1.cell? ⟨N0, 2, none⟩ = some (.int .i64 k0) ∧ w1.cell? ⟨N0, 3, none⟩ = some ((Value.slice ao0x z0x.length cap0x)) ∧ w1.cell? ⟨N0, 4, none⟩ = some ((Value.slice ao0y z0y.length cap0y)) ∧ Rd w1 b0x (Value.slice ao0x z0x.length cap0x) z0x ∧ RdB w1 b0y (Value.slice ao0y z0y.length cap0y) z0y ∧ w.heap.size ≤ w1.heap.size := by
    rw [hW, hN0]
    exact ⟨Rule.below1 _ _, by simp, by simp, by simp, by simp, by simp, H0x.out.keep (Rule.below1 _ _) (Nat.le_refl _), H0y.out.keep (Rule.below1 _ _) (Nat.le_refl _), by simp <;> omega⟩
  simp only [← hW, ← hN0]
  clear hW hN0
  go_at_call 14
  refine (szG_ok nb0x nb0y (q := 1048576) (by omega) (by omega) (by omega)).mono ?_
  rintro e w2 ⟨rfl, bel⟩
  replace st := nx5_IB bel st
  clear bel
  go_wp2_with fail
  go_at_call 16
  refine (toG (rdx5_IB_0 st) (rdx5_IB_1 st) HL0x.out HL0y.out).mono ?_
  rintro e w3 ⟨bp0x, bp0y, rfl, op0x, op0y, lo, lt, bel⟩
  have cbp0x : w.heap.size ≤ bp0x := Nat.le_trans (And.left st).size lo
  have nbN0_p0x : (Value.slice (some ⟨bp0x, 0, none⟩) z0x.length z0x.length) = Value.slice none 0 0 ∨ N0 ≠ bp0x := .inr (Nat.ne_of_lt (Nat.lt_of_lt_of_le (World.block_lt_of_cell? _ _ st.2.1) lo))
  have cbp0y : w.heap.size ≤ bp0y := Nat.le_trans (And.left st).size (Nat.le_trans lo (Nat.le_of_lt lt))
  have nbN0_p0y : (Value.slice (some ⟨bp0y, 0, none⟩) z0y.length z0y.length) = Value.slice none 0 0 ∨ N0 ≠ bp0y := .inr (Nat.ne_of_lt (Nat.lt_of_lt_of_le (World.block_lt_of_cell? _ _ st.2.1) (Nat.le_trans lo (Nat.le_of_lt lt))))
  have nep0x_p0y : (Value.slice (some ⟨bp0x, 0, none⟩) z0x.length z0x.length) = Value.slice none 0 0 ∨ bp0x ≠ bp0y := .inr (Nat.ne_of_lt lt)
  replace st := nx5_IB bel st
  clear bel
  clear lo lt
  go_wp2_with fail
  go_at_call 27
  refine (HSp.out _ _ _ _ _ op0x.rd op0y.rd).mono ?_
  rintro e w4 ⟨aoWc, cWc, bWc, aoWw, cWw, bWw, rfl, oWc, oWw, lo, lt, bel⟩
  have neWW : bWc ≠ bWw := Nat.ne_of_lt lt
  have nep0x_Wc := (lim op0x).imp id (fun hx => (Nat.ne_of_lt (Nat.lt_of_lt_of_le hx lo) : bp0x ≠ bWc))
  have nep0y_Wc := (limB op0y).imp id (fun hx => (Nat.ne_of_lt (Nat.lt_of_lt_of_le hx lo) : bp0y ≠ bWc))
  have cbWc : w.heap.size ≤ bWc := Nat.le_trans (And.left st).size lo
  have nbN0_Wc : (Value.slice aoWc rs.length cWc) = Value.slice none 0 0 ∨ N0 ≠ bWc := .inr (Nat.ne_of_lt (Nat.lt_of_lt_of_le (World.block_lt_of_cell? _ _ st.2.1) lo))
  have nep0x_Ww := (lim op0x).imp id (fun hx => (Nat.ne_of_lt (Nat.lt_of_lt_of_le hx (Nat.le_trans lo (Nat.le_of_lt lt))) : bp0x ≠ bWw))
  have nep0y_Ww := (limB op0y).imp id (fun hx => (Nat.ne_of_lt (Nat.lt_of_lt_of_le hx (Nat.le_trans lo (Nat.le_of_lt lt))) : bp0y ≠ bWw))
  have cbWw : w.heap.size ≤ bWw := Nat.le_trans (And.left st).size (Nat.le_trans lo (Nat.le_of_lt lt))
  have nbN0_Ww : (Value.slice aoWw ts.length cWw) = Value.slice none 0 0 ∨ N0 ≠ bWw := .inr (Nat.ne_of_lt (Nat.lt_of_lt_of_le (World.block_lt_of_cell? _ _ st.2.1) (Nat.le_trans lo (Nat.le_of_lt lt))))
  have neWc_Ww : (Value.slice aoWc rs.length cWc) = Value.slice none 0 0 ∨ bWc ≠ bWw := .inr (Nat.ne_of_lt lt)
  replace st := nx5_IB bel st
  replace op0x := op0x.keep bel
  replace op0y := op0y.keep bel
  clear bel
  clear lo lt
  clear op0x
  clear op0y
  obtain ⟨w6, hW⟩ : ∃ w6, w6 = w4.alloc (Obj.cells #[.int .i64 qg, .int .i64 qs, .int .i64 qr, (Value.slice aoWc rs.length cWc), (Value.slice aoWw ts.length cWw)] 31) := ⟨_, rfl⟩
  obtain ⟨NW, hN⟩ : ∃ NW, NW = w4.heap.size := ⟨_, rfl⟩
  have nbNW_Wc : (Value.slice aoWc rs.length cWc) = Value.slice none 0 0 ∨ NW ≠ bWc := (lim oWc).imp id (fun hx => by rw [hN]; exact Nat.ne_of_gt hx)
  have nbNW_Ww : (Value.slice aoWw ts.length cWw) = Value.slice none 0 0 ∨ NW ≠ bWw := (limB oWw).imp id (fun hx => by rw [hN]; exact Nat.ne_of_gt hx)
  have bel : Below w4.heap.size w4 w6 := by rw [hW]; exact Rule.below1 _ _
  have st' : Below w.heap.size w w6 ∧ w6.cell? ⟨N0, 0, none⟩ = some (.int .i64 s0) ∧ w6.cell? ⟨N0, 1, none⟩ = some (.int .i64 r0) ∧ w6.cell? ⟨N0, 2, none⟩ = some (.int .i64 k0) ∧ w6.cell? ⟨N0, 3, none⟩ = some ((Value.slice ao0x z0x.length cap0x)) ∧ w6.cell? ⟨N0, 4, none⟩ = some ((Value.slice ao0y z0y.length cap0y)) ∧ w6.cell? ⟨NW, 0, none⟩ = some (.int .i64 qg) ∧ w6.cell? ⟨NW, 1, none⟩ = some (.int .i64 qs) ∧ w6.cell? ⟨NW, 2, none⟩ = some (.int .i64 qr) ∧ w6.cell? ⟨NW, 3, none⟩ = some ((Value.slice aoWc rs.length cWc)) ∧ w6.cell? ⟨NW, 4, none⟩ = some ((Value.slice aoWw ts.length cWw)) ∧ Rd w6 b0x (Value.slice ao0x z0x.length cap0x) z0x ∧ RdB w6 b0y (Value.slice ao0y z0y.length cap0y) z0y ∧ w.heap.size ≤ w6.heap.size := by
    obtain ⟨t0, c0, c1, c2, c3, c4, d0, d1, tz⟩ := nx5_IB bel st
    exact ⟨t0, c0, c1, c2, c3, c4, by rw [hW, hN]; simp, by rw [hW, hN]; simp, by rw [hW, hN]; simp, by rw [hW, hN]; simp, by rw [hW, hN]; simp, d0, d1, tz⟩
  replace oWc := oWc.keep bel
  replace oWw := oWw.keep bel
  clear st bel; have st := st'; clear st'
  have stp := st
  rw [hW, hN] at stp
  go_wp2_with fail
  clear stp
  simp only [← hW, ← hN]
  clear hW hN
  go_at_call 16
  refine (toG (rdx10_IB_0 st) (rdx10_IB_1 st) HL0x.out HL0y.out).mono ?_
  rintro e w5 ⟨bx0x, bx0y, rfl, ox0x, ox0y, lo, lt, bel⟩
  have neWc_x0x := (lim oWc).imp id (fun hx => (Nat.ne_of_lt (Nat.lt_of_lt_of_le hx lo) : bWc ≠ bx0x))
  have neWw_x0x := (limB oWw).imp id (fun hx => (Nat.ne_of_lt (Nat.lt_of_lt_of_le hx lo) : bWw ≠ bx0x))
  have cbx0x : w.heap.size ≤ bx0x := Nat.le_trans (And.left st).size lo
  have nbN0_x0x : (Value.slice (some ⟨bx0x, 0, none⟩) z0x.length z0x.length) = Value.slice none 0 0 ∨ N0 ≠ bx0x := .inr (Nat.ne_of_lt (Nat.lt_of_lt_of_le (World.block_lt_of_cell? _ _ st.2.1) lo))
  have nbNW_x0x : (Value.slice (some ⟨bx0x, 0, none⟩) z0x.length z0x.length) = Value.slice none 0 0 ∨ NW ≠ bx0x := .inr (Nat.ne_of_lt (Nat.lt_of_lt_of_le (World.block_lt_of_cell? _ _ st.2.2.2.2.2.2.1) lo))
  have neWc_x0y := (lim oWc).imp id (fun hx => (Nat.ne_of_lt (Nat.lt_of_lt_of_le hx (Nat.le_trans lo (Nat.le_of_lt lt))) : bWc ≠ bx0y))
  have neWw_x0y := (limB oWw).imp id (fun hx => (Nat.ne_of_lt (Nat.lt_of_lt_of_le hx (Nat.le_trans lo (Nat.le_of_lt lt))) : bWw ≠ bx0y))
  have cbx0y : w.heap.size ≤ bx0y := Nat.le_trans (And.left st).size (Nat.le_trans lo (Nat.le_of_lt lt))
  have nbN0_x0y : (Value.slice (some ⟨bx0y, 0, none⟩) z0y.length z0y.length) = Value.slice none 0 0 ∨ N0 ≠ bx0y := .inr (Nat.ne_of_lt (Nat.lt_of_lt_of_le (World.block_lt_of_cell? _ _ st.2.1) (Nat.le_trans lo (Nat.le_of_lt lt))))
  have nbNW_x0y : (Value.slice (some ⟨bx0y, 0, none⟩) z0y.length z0y.length) = Value.slice none 0 0 ∨ NW ≠ bx0y := .inr (Nat.ne_of_lt (Nat.lt_of_lt_of_le (World.block_lt_of_cell? _ _ st.2.2.2.2.2.2.1) (Nat.le_trans lo (Nat.le_of_lt lt))))
  have nex0x_x0y : (Value.slice (some ⟨bx0x, 0, none⟩) z0x.length z0x.length) = Value.slice none 0 0 ∨ bx0x ≠ bx0y := .inr (Nat.ne_of_lt lt)
  replace st := nx10_IB bel st
  replace oWc := oWc.keep bel
  replace oWw := oWw.keep bel
  clear bel
  clear lo lt
  obtain ⟨w8, hW⟩ : ∃ w8, w8 = w5.alloc (Obj.cells #[.int .i64 s0, .int .i64 r0, .int .i64 k0, (Value.slice (some ⟨bx0x, 0, none⟩) z0x.length z0x.length), (Value.slice (some ⟨bx0y, 0, none⟩) z0y.length z0y.length)] 31) := ⟨_, rfl⟩
  obtain ⟨NX0, hN⟩ : ∃ NX0, NX0 = w5.heap.size := ⟨_, rfl⟩
  have nbNX0_Wc : (Value.slice aoWc rs.length cWc) = Value.slice none 0 0 ∨ NX0 ≠ bWc := (lim oWc).imp id (fun hx => by rw [hN]; exact Nat.ne_of_gt hx)
  have nbNX0_Ww : (Value.slice aoWw ts.length cWw) = Value.slice none 0 0 ∨ NX0 ≠ bWw := (limB oWw).imp id (fun hx => by rw [hN]; exact Nat.ne_of_gt hx)
  have nbNX0_x0x : (Value.slice (some ⟨bx0x, 0, none⟩) z0x.length z0x.length) = Value.slice none 0 0 ∨ NX0 ≠ bx0x := (lim ox0x).imp id (fun hx => by rw [hN]; exact Nat.ne_of_gt hx)
  have nbNX0_x0y : (Value.slice (some ⟨bx0y, 0, none⟩) z0y.length z0y.length) = Value.slice none 0 0 ∨ NX0 ≠ bx0y := (limB ox0y).imp id (fun hx => by rw [hN]; exact Nat.ne_of_gt hx)
  have bel : Below w5.heap.size w5 w8 := by rw [hW]; exact Rule.below1 _ _
  have st' : Below w.heap.size w w8 ∧ w8.cell? ⟨N0, 0, none⟩ = some (.int .i64 s0) ∧ w8.cell? ⟨N0, 1, none⟩ = some (.int .i64 r0) ∧ w8.cell? ⟨N0, 2, none⟩ = some (.int .i64 k0) ∧ w8.cell? ⟨N0, 3, none⟩ = some ((Value.slice ao0x z0x.length cap0x)) ∧ w8.cell? ⟨N0, 4, none⟩ = some ((Value.slice ao0y z0y.length cap0y)) ∧ w8.cell? ⟨NW, 0, none⟩ = some (.int .i64 qg) ∧ w8.cell? ⟨NW, 1, none⟩ = some (.int .i64 qs) ∧ w8.cell? ⟨NW, 2, none⟩ = some (.int .i64 qr) ∧ w8.cell? ⟨NW, 3, none⟩ = some ((Value.slice aoWc rs.length cWc)) ∧ w8.cell? ⟨NW, 4, none⟩ = some ((Value.slice aoWw ts.length cWw)) ∧ w8.cell? ⟨NX0, 0, none⟩ = some (.int .i64 s0) ∧ w8.cell? ⟨NX0, 1, none⟩ = some (.int .i64 r0) ∧ w8.cell? ⟨NX0, 2, none⟩ = some (.int .i64 k0) ∧ w8.cell? ⟨NX0, 3, none⟩ = some ((Value.slice (some ⟨bx0x, 0, none⟩) z0x.length z0x.length)) ∧ w8.cell? ⟨NX0, 4, none⟩ = some ((Value.slice (some ⟨bx0y, 0, none⟩) z0y.length z0y.length)) ∧ Rd w8 b0x (Value.slice ao0x z0x.length cap0x) z0x ∧ RdB w8 b0y (Value.slice ao0y z0y.length cap0y) z0y ∧ w.heap.size ≤ w8.heap.size := by
    obtain ⟨t0, c0, c1, c2, c3, c4, c5, c6, c7, c8, c9, d0, d1, tz⟩ := nx10_IB bel st
    exact ⟨t0, c0, c1, c2, c3, c4, c5, c6, c7, c8, c9, by rw [hW, hN]; simp, by rw [hW, hN]; simp, by rw [hW, hN]; simp, by rw [hW, hN]; simp, by rw [hW, hN]; simp, d0, d1, tz⟩
  replace oWc := oWc.keep bel
  replace oWw := oWw.keep bel
  replace ox0x := ox0x.keep bel
  replace ox0y := ox0y.keep bel
  clear st bel; have st := st'; clear st'
  have stp := st
  rw [hW, hN] at stp
  go_wp2_with fail
  clear stp
  simp only [← hW, ← hN]
  clear hW hN
  go_at_call 28
  refine (HIm.out _ _ _ _ _ ox0x.rd ox0y.rd).mono ?_
  rintro e w7 ⟨aoGc, cGc, bGc, aoGw, cGw, bGw, rfl, oGc, oGw, lo, lt, bel⟩
  have neGG : bGc ≠ bGw := Nat.ne_of_lt lt
  have neWc_Gc := (lim oWc).imp id (fun hx => (Nat.ne_of_lt (Nat.lt_of_lt_of_le hx lo) : bWc ≠ bGc))
  have neWw_Gc := (limB oWw).imp id (fun hx => (Nat.ne_of_lt (Nat.lt_of_lt_of_le hx lo) : bWw ≠ bGc))
  have nex0x_Gc := (lim ox0x).imp id (fun hx => (Nat.ne_of_lt (Nat.lt_of_lt_of_le hx lo) : bx0x ≠ bGc))
  have nex0y_Gc := (limB ox0y).imp id (fun hx => (Nat.ne_of_lt (Nat.lt_of_lt_of_le hx lo) : bx0y ≠ bGc))
  have cbGc : w.heap.size ≤ bGc := Nat.le_trans (And.left st).size lo
  have nbN0_Gc : (Value.slice aoGc rs.length cGc) = Value.slice none 0 0 ∨ N0 ≠ bGc := .inr (Nat.ne_of_lt (Nat.lt_of_lt_of_le (World.block_lt_of_cell? _ _ st.2.1) lo))
  have nbNW_Gc : (Value.slice aoGc rs.length cGc) = Value.slice none 0 0 ∨ NW ≠ bGc := .inr (Nat.ne_of_lt (Nat.lt_of_lt_of_le (World.block_lt_of_cell? _ _ st.2.2.2.2.2.2.1) lo))
  have nbNX0_Gc : (Value.slice aoGc rs.length cGc) = Value.slice none 0 0 ∨ NX0 ≠ bGc := .inr (Nat.ne_of_lt (Nat.lt_of_lt_of_le (World.block_lt_of_cell? _ _ st.2.2.2.2.2.2.2.2.2.2.2.1) lo))
  have neWc_Gw := (lim oWc).imp id (fun hx => (Nat.ne_of_lt (Nat.lt_of_lt_of_le hx (Nat.le_trans lo (Nat.le_of_lt lt))) : bWc ≠ bGw))
  have neWw_Gw := (limB oWw).imp id (fun hx => (Nat.ne_of_lt (Nat.lt_of_lt_of_le hx (Nat.le_trans lo (Nat.le_of_lt lt))) : bWw ≠ bGw))
  have nex0x_Gw := (lim ox0x).imp id (fun hx => (Nat.ne_of_lt (Nat.lt_of_lt_of_le hx (Nat.le_trans lo (Nat.le_of_lt lt))) : bx0x ≠ bGw))
  have nex0y_Gw := (limB ox0y).imp id (fun hx => (Nat.ne_of_lt (Nat.lt_of_lt_of_le hx (Nat.le_trans lo (Nat.le_of_lt lt))) : bx0y ≠ bGw))
  have cbGw : w.heap.size ≤ bGw := Nat.le_trans (And.left st).size (Nat.le_trans lo (Nat.le_of_lt lt))
  have nbN0_Gw : (Value.slice aoGw ts.length cGw) = Value.slice none 0 0 ∨ N0 ≠ bGw := .inr (Nat.ne_of_lt (Nat.lt_of_lt_of_le (World.block_lt_of_cell? _ _ st.2.1) (Nat.le_trans lo (Nat.le_of_lt lt))))
  have nbNW_Gw : (Value.slice aoGw ts.length cGw) = Value.slice none 0 0 ∨ NW ≠ bGw := .inr (Nat.ne_of_lt (Nat.lt_of_lt_of_le (World.block_lt_of_cell? _ _ st.2.2.2.2.2.2.1) (Nat.le_trans lo (Nat.le_of_lt lt))))
  have nbNX0_Gw : (Value.slice aoGw ts.length cGw) = Value.slice none 0 0 ∨ NX0 ≠ bGw := .inr (Nat.ne_of_lt (Nat.lt_of_lt_of_le (World.block_lt_of_cell? _ _ st.2.2.2.2.2.2.2.2.2.2.2.1) (Nat.le_trans lo (Nat.le_of_lt lt))))
  have neGc_Gw : (Value.slice aoGc rs.length cGc) = Value.slice none 0 0 ∨ bGc ≠ bGw := .inr (Nat.ne_of_lt lt)
  replace st := nx15_IB bel st
  replace oWc := oWc.keep bel
  replace oWw := oWw.keep bel
  replace ox0x := ox0x.keep bel
  replace ox0y := ox0y.keep bel
  clear bel
  clear lo lt
  obtain ⟨w10, hW⟩ : ∃ w10, w10 = w7.alloc (Obj.cells #[.int .i64 qg, .int .i64 qs, .int .i64 qr, (Value.slice aoGc rs.length cGc), (Value.slice aoGw ts.length cGw)] 31) := ⟨_, rfl⟩
  obtain ⟨NG, hN⟩ : ∃ NG, NG = w7.heap.size := ⟨_, rfl⟩
  have nbNG_Wc : (Value.slice aoWc rs.length cWc) = Value.slice none 0 0 ∨ NG ≠ bWc := (lim oWc).imp id (fun hx => by rw [hN]; exact Nat.ne_of_gt hx)
  have nbNG_Ww : (Value.slice aoWw ts.length cWw) = Value.slice none 0 0 ∨ NG ≠ bWw := (limB oWw).imp id (fun hx => by rw [hN]; exact Nat.ne_of_gt hx)
  have nbNG_x0x : (Value.slice (some ⟨bx0x, 0, none⟩) z0x.length z0x.length) = Value.slice none 0 0 ∨ NG ≠ bx0x := (lim ox0x).imp id (fun hx => by rw [hN]; exact Nat.ne_of_gt hx)
  have nbNG_x0y : (Value.slice (some ⟨bx0y, 0, none⟩) z0y.length z0y.length) = Value.slice none 0 0 ∨ NG ≠ bx0y := (limB ox0y).imp id (fun hx => by rw [hN]; exact Nat.ne_of_gt hx)
  have nbNG_Gc : (Value.slice aoGc rs.length cGc) = Value.slice none 0 0 ∨ NG ≠ bGc := (lim oGc).imp id (fun hx => by rw [hN]; exact Nat.ne_of_gt hx)
  have nbNG_Gw : (Value.slice aoGw ts.length cGw) = Value.slice none 0 0 ∨ NG ≠ bGw := (limB oGw).imp id (fun hx => by rw [hN]; exact Nat.ne_of_gt hx)
  have bel : Below w7.heap.size w7 w10 := by rw [hW]; exact Rule.below1 _ _
  have st' : Below w.heap.size w w10 ∧ w10.cell? ⟨N0, 0, none⟩ = some (.int .i64 s0) ∧ w10.cell? ⟨N0, 1, none⟩ = some (.int .i64 r0) ∧ w10.cell? ⟨N0, 2, none⟩ = some (.int .i64 k0) ∧ w10.cell? ⟨N0, 3, none⟩ = some ((Value.slice ao0x z0x.length cap0x)) ∧ w10.cell? ⟨N0, 4, none⟩ = some ((Value.slice ao0y z0y.length cap0y)) ∧ w10.cell? ⟨NW, 0, none⟩ = some (.int .i64 qg) ∧ w10.cell? ⟨NW, 1, none⟩ = some (.int .i64 qs) ∧ w10.cell? ⟨NW, 2, none⟩ = some (.int .i64 qr) ∧ w10.cell? ⟨NW, 3, none⟩ = some ((Value.slice aoWc rs.length cWc)) ∧ w10.cell? ⟨NW, 4, none⟩ = some ((Value.slice aoWw ts.length cWw)) ∧ w10.cell? ⟨NX0, 0, none⟩ = some (.int .i64 s0) ∧ w10.cell? ⟨NX0, 1, none⟩ = some (.int .i64 r0) ∧ w10.cell? ⟨NX0, 2, none⟩ = some (.int .i64 k0) ∧ w10.cell? ⟨NX0, 3, none⟩ = some ((Value.slice (some ⟨bx0x, 0, none⟩) z0x.length z0x.length)) ∧ w10.cell? ⟨NX0, 4, none⟩ = some ((Value.slice (some ⟨bx0y, 0, none⟩) z0y.length z0y.length)) ∧ w10.cell? ⟨NG, 0, none⟩ = some (.int .i64 qg) ∧ w10.cell? ⟨NG, 1, none⟩ = some (.int .i64 qs) ∧ w10.cell? ⟨NG, 2, none⟩ = some (.int .i64 qr) ∧ w10.cell? ⟨NG, 3, none⟩ = some ((Value.slice aoGc rs.length cGc)) ∧ w10.cell? ⟨NG, 4, none⟩ = some ((Value.slice aoGw ts.length cGw)) ∧ Rd w10 b0x (Value.slice ao0x z0x.length cap0x) z0x ∧ RdB w10 b0y (Value.slice ao0y z0y.length cap0y) z0y ∧ w.heap.size ≤ w10.heap.size := by
    obtain ⟨t0, c0, c1, c2, c3, c4, c5, c6, c7, c8, c9, c10, c11, c12, c13, c14, d0, d1, tz⟩ := nx15_IB bel st
    exact ⟨t0, c0, c1, c2, c3, c4, c5, c6, c7, c8, c9, c10, c11, c12, c13, c14, by rw [hW, hN]; simp, by rw [hW, hN]; simp, by rw [hW, hN]; simp, by rw [hW, hN]; simp, by rw [hW, hN]; simp, d0, d1, tz⟩
  replace oWc := oWc.keep bel
  replace oWw := oWw.keep bel
  replace ox0x := ox0x.keep bel
  replace ox0y := ox0y.keep bel
  replace oGc := oGc.keep bel
  replace oGw := oGw.keep bel
  clear st bel; have st := st'; clear st'
  have stp := st
  rw [hW, hN] at stp
  go_wp2_with fail
  clear stp
  simp only [← hW, ← hN]
  clear hW hN
  go_at_call 18
  refine (eqG oGc.rd oGw.rd oWc.rd oWw.rd).mono ?_
  rintro e w9 ⟨rfl, bel⟩
  replace st := nx20_IB bel st
  replace oWc := oWc.keep bel
  replace oWw := oWw.keep bel
  replace ox0x := ox0x.keep bel
  replace ox0y := ox0y.keep bel
  replace oGc := oGc.keep bel
  replace oGw := oGw.keep bel
  clear bel
  go_wp2_with fail
  refine wp_region_held_drew (S := (fun ww => Below w.heap.size w ww ∧ ww.cell? ⟨N0, 0, none⟩ = some (.int .i64 s0) ∧ ww.cell? ⟨N0, 1, none⟩ = some (.int .i64 r0) ∧ ww.cell? ⟨N0, 2, none⟩ = some (.int .i64 k0) ∧ ww.cell? ⟨N0, 3, none⟩ = some ((Value.slice ao0x z0x.length cap0x)) ∧ ww.cell? ⟨N0, 4, none⟩ = some ((Value.slice ao0y z0y.length cap0y)) ∧ ww.cell? ⟨NW, 0, none⟩ = some (.int .i64 qg) ∧ ww.cell? ⟨NW, 1, none⟩ = some (.int .i64 qs) ∧ ww.cell? ⟨NW, 2, none⟩ = some (.int .i64 qr) ∧ ww.cell? ⟨NW, 3, none⟩ = some ((Value.slice aoWc rs.length cWc)) ∧ ww.cell? ⟨NW, 4, none⟩ = some ((Value.slice aoWw ts.length cWw)) ∧ ww.cell? ⟨NX0, 0, none⟩ = some (.int .i64 s0) ∧ ww.cell? ⟨NX0, 1, none⟩ = some (.int .i64 r0) ∧ ww.cell? ⟨NX0, 2, none⟩ = some (.int .i64 k0) ∧ ww.cell? ⟨NX0, 3, none⟩ = some ((Value.slice (some ⟨bx0x, 0, none⟩) z0x.length z0x.length)) ∧ ww.cell? ⟨NX0, 4, none⟩ = some ((Value.slice (some ⟨bx0y, 0, none⟩) z0y.length z0y.length)) ∧ ww.cell? ⟨NG, 0, none⟩ = some (.int .i64 qg) ∧ ww.cell? ⟨NG, 1, none⟩ = some (.int .i64 qs) ∧ ww.cell? ⟨NG, 2, none⟩ = some (.int .i64 qr) ∧ ww.cell? ⟨NG, 3, none⟩ = some ((Value.slice aoGc rs.length cGc)) ∧ ww.cell? ⟨NG, 4, none⟩ = some ((Value.slice aoGw ts.length cGw)) ∧ Rd ww b0x (Value.slice ao0x z0x.length cap0x) z0x ∧ RdB ww b0y (Value.slice ao0y z0y.length cap0y) z0y ∧ w.heap.size ≤ ww.heap.size)) (by kernel_rfl) ?_ (fun hHeld => ?_)
  · ((try dsimp only); exact drw20_IB st)
  first | (refine wpAnyH_take (i := 0) (v := ?_) rfl ?_ ?_ ?_ (fun _ _ _ h => h) (Or.inl ⟨?_, ?_⟩) ?_ ?_; rotate_left 1; (focus decide +kernel); (focus decide +kernel); (focus decide +kernel); (focus rfl); (focus (intro w hSw; (try dsimp only at hSw); go_simp; (try (with_reducible rfl)); done)); (focus assumption); (try simp only [Act.put, List.setIfInBounds_toArray, List.set_cons_zero, List.set_cons_succ, List.getElem_toArray, List.getElem_cons_succ, List.getElem_cons_zero])) | (refine wpAnyH_take (i := 0) (v := undef) rfl ?_ ?_ ?_ (fun _ _ _ h => h) (Or.inr ⟨?_, rfl⟩) ?_ ?_; (focus decide +kernel); (focus decide +kernel); (focus decide +kernel); (focus rfl); (focus assumption); (try simp only [Act.put, List.setIfInBounds_toArray, List.set_cons_zero, List.set_cons_succ, List.getElem_toArray, List.getElem_cons_succ, List.getElem_cons_zero])) | skip
  first | (refine wpAnyH_take (i := 1) (v := ?_) rfl ?_ ?_ ?_ (fun _ _ _ h => h) (Or.inl ⟨?_, ?_⟩) ?_ ?_; rotate_left 1; (focus decide +kernel); (focus decide +kernel); (focus decide +kernel); (focus rfl); (focus (intro w hSw; (try dsimp only at hSw); go_simp; (try (with_reducible rfl)); done)); (focus assumption); (try simp only [Act.put, List.setIfInBounds_toArray, List.set_cons_zero, List.set_cons_succ, List.getElem_toArray, List.getElem_cons_succ, List.getElem_cons_zero])) | (refine wpAnyH_take (i := 1) (v := undef) rfl ?_ ?_ ?_ (fun _ _ _ h => h) (Or.inr ⟨?_, rfl⟩) ?_ ?_; (focus decide +kernel); (focus decide +kernel); (focus decide +kernel); (focus rfl); (focus assumption); (try simp only [Act.put, List.setIfInBounds_toArray, List.set_cons_zero, List.set_cons_succ, List.getElem_toArray, List.getElem_cons_succ, List.getElem_cons_zero])) | skip
  first | (refine wpAnyH_take (i := 4) (v := ?_) rfl ?_ ?_ ?_ (fun _ _ _ h => h) (Or.inl ⟨?_, ?_⟩) ?_ ?_; rotate_left 1; (focus decide +kernel); (focus decide +kernel); (focus decide +kernel); (focus rfl); (focus (intro w hSw; (try dsimp only at hSw); go_simp; (try (with_reducible rfl)); done)); (focus assumption); (try simp only [Act.put, List.setIfInBounds_toArray, List.set_cons_zero, List.set_cons_succ, List.getElem_toArray, List.getElem_cons_succ, List.getElem_cons_zero])) | (refine wpAnyH_take (i := 4) (v := undef) rfl ?_ ?_ ?_ (fun _ _ _ h => h) (Or.inr ⟨?_, rfl⟩) ?_ ?_; (focus decide +kernel); (focus decide +kernel); (focus decide +kernel); (focus rfl); (focus assumption); (try simp only [Act.put, List.setIfInBounds_toArray, List.set_cons_zero, List.set_cons_succ, List.getElem_toArray, List.getElem_cons_succ, List.getElem_cons_zero])) | skip
  first | (refine wpAnyH_take (i := 2) (v := undef) rfl ?_ ?_ ?_ (fun _ _ _ h => h) (Or.inr ⟨?_, rfl⟩) ?_ ?_; (focus decide +kernel); (focus decide +kernel); (focus decide +kernel); (focus rfl); (focus assumption); (try simp only [Act.put, List.setIfInBounds_toArray, List.set_cons_zero, List.set_cons_succ, List.getElem_toArray, List.getElem_cons_succ, List.getElem_cons_zero])) | (refine wpAnyH_ready (rs := [2]) ?_ (by simp) ?_; (focus decide +kernel); refine AllReadyH.cons rfl (fun K hK => ?_) AllReadyH.nil; go_simp; (go_at_call 16; refine (toG (rdx20_IB_0 hHeld) (rdx20_IB_1 hHeld) HL0x.out HL0y.out).mono ?_; rintro e w11 ⟨by0x, by0y, rfl, oy0x, oy0y, lo, lt, bel⟩; replace oWc : Own 2 w9.drew bWc (Value.slice aoWc rs.length cWc) rs := oWc; replace oWw : OwnB 4 w9.drew bWw (Value.slice aoWw ts.length cWw) ts := oWw; replace ox0x : Own 2 w9.drew bx0x (Value.slice (some ⟨bx0x, 0, none⟩) z0x.length z0x.length) z0x := ox0x; replace ox0y : OwnB 4 w9.drew bx0y (Value.slice (some ⟨bx0y, 0, none⟩) z0y.length z0y.length) z0y := ox0y; replace oGc : Own 2 w9.drew bGc (Value.slice aoGc rs.length cGc) rs := oGc; replace oGw : OwnB 4 w9.drew bGw (Value.slice aoGw ts.length cGw) ts := oGw; replace oWc := oWc.keep bel; replace oWw := oWw.keep bel; replace ox0x := ox0x.keep bel; replace ox0y := ox0y.keep bel; replace oGc := oGc.keep bel; replace oGw := oGw.keep bel; clear lo lt); refine hK.out _ _ ?_ (fun hHeld => ?_); ((try dsimp only); exact nx20_IB bel hHeld); clear hK K; (try simp only [Act.put, List.setIfInBounds_toArray, List.set_cons_zero, List.set_cons_succ, List.getElem_toArray, List.getElem_cons_succ, List.getElem_cons_zero]))
  first | (refine wpAnyH_take (i := 4) (v := ?_) rfl ?_ ?_ ?_ (fun _ _ _ h => h) (Or.inl ⟨?_, ?_⟩) ?_ ?_; rotate_left 1; (focus decide +kernel); (focus decide +kernel); (focus decide +kernel); (focus rfl); (focus (intro w hSw; (try dsimp only at hSw); go_simp; (try (with_reducible rfl)); done)); (focus assumption); (try simp only [Act.put, List.setIfInBounds_toArray, List.set_cons_zero, List.set_cons_succ, List.getElem_toArray, List.getElem_cons_succ, List.getElem_cons_zero])) | (refine wpAnyH_take (i := 4) (v := undef) rfl ?_ ?_ ?_ (fun _ _ _ h => h) (Or.inr ⟨?_, rfl⟩) ?_ ?_; (focus decide +kernel); (focus decide +kernel); (focus decide +kernel); (focus rfl); (focus assumption); (try simp only [Act.put, List.setIfInBounds_toArray, List.set_cons_zero, List.set_cons_succ, List.getElem_toArray, List.getElem_cons_succ, List.getElem_cons_zero])) | skip
  first | (refine wpAnyH_take (i := 3) (v := undef) rfl ?_ ?_ ?_ (fun _ _ _ h => h) (Or.inr ⟨?_, rfl⟩) ?_ ?_; (focus decide +kernel); (focus decide +kernel); (focus decide +kernel); (focus rfl); (focus assumption); (try simp only [Act.put, List.setIfInBounds_toArray, List.set_cons_zero, List.set_cons_succ, List.getElem_toArray, List.getElem_cons_succ, List.getElem_cons_zero])) | (refine wpAnyH_ready (rs := [3]) ?_ (by simp) ?_; (focus decide +kernel); refine AllReadyH.cons rfl (fun K hK => ?_) AllReadyH.nil; go_simp; (go_at_call 18; refine (eqG ox0x.rd ox0y.rd oy0x.rd oy0y.rd).mono ?_; rintro e w12 ⟨rfl, bel⟩; replace oWc := oWc.keep bel; replace oWw := oWw.keep bel; replace ox0x := ox0x.keep bel; replace ox0y := ox0y.keep bel; replace oGc := oGc.keep bel; replace oGw := oGw.keep bel; clear oy0x oy0y); refine hK.out _ _ ?_ (fun hHeld => ?_); ((try dsimp only); exact nx20_IB bel hHeld); clear hK K; (try simp only [Act.put, List.setIfInBounds_toArray, List.set_cons_zero, List.set_cons_succ, List.getElem_toArray, List.getElem_cons_succ, List.getElem_cons_zero]))
  first | (refine wpAnyH_take (i := 4) (v := ?_) rfl ?_ ?_ ?_ (fun _ _ _ h => h) (Or.inl ⟨?_, ?_⟩) ?_ ?_; rotate_left 1; (focus decide +kernel); (focus decide +kernel); (focus decide +kernel); (focus rfl); (focus (intro w hSw; (try dsimp only at hSw); go_simp; (try (with_reducible rfl)); done)); (focus assumption); (try simp only [Act.put, List.setIfInBounds_toArray, List.set_cons_zero, List.set_cons_succ, List.getElem_toArray, List.getElem_cons_succ, List.getElem_cons_zero])) | (refine wpAnyH_take (i := 4) (v := undef) rfl ?_ ?_ ?_ (fun _ _ _ h => h) (Or.inr ⟨?_, rfl⟩) ?_ ?_; (focus decide +kernel); (focus decide +kernel); (focus decide +kernel); (focus rfl); (focus assumption); (try simp only [Act.put, List.setIfInBounds_toArray, List.set_cons_zero, List.set_cons_succ, List.getElem_toArray, List.getElem_cons_succ, List.getElem_cons_zero])) | skip
  refine wpAnyH_done (by kernel_rfl) ?_ _
  clear st; have st := hHeld; clear hHeld
  go_wp2_with fail
  go_at_call 25
  refine (markG ox0x ox0y (nex0x_x0y.elim (fun h => by cases h) id) (by omega) (by have := HL0x.out; omega) (by have := HL0y.out; omega) (by have := HL0x.out; have := HL0y.out; have := HL0x.out; have := HL0y.out; have := HN.out; have := HM.out; omega)).mono ?_
  rintro e w13 ⟨rfl, wm, ma, mb, g, gn, g2, gn2⟩
  replace oWc := beside oWc g neWc_x0x
  replace oWw := besideO oWw g neWw_x0x
  replace oGc := besideB oGc g gn nex0x_Gc
  replace oGw := besideP oGw g gn nex0x_Gw
  replace oWc := beside oWc g2 neWc_x0y
  replace oWw := besideO oWw g2 neWw_x0y
  replace oGc := besideB oGc g2 gn2 nex0y_Gc
  replace oGw := besideP oGw g2 gn2 nex0y_Gw
  replace ox0x := ma; replace ox0y := mb; clear ma mb
  have gB := below_mark (And.left st) g (And.left st).size cbx0x
  have st' : Below w.heap.size w wm ∧ wm.cell? ⟨N0, 0, none⟩ = some (.int .i64 s0) ∧ wm.cell? ⟨N0, 1, none⟩ = some (.int .i64 r0) ∧ wm.cell? ⟨N0, 2, none⟩ = some (.int .i64 k0) ∧ wm.cell? ⟨N0, 3, none⟩ = some ((Value.slice ao0x z0x.length cap0x)) ∧ wm.cell? ⟨N0, 4, none⟩ = some ((Value.slice ao0y z0y.length cap0y)) ∧ wm.cell? ⟨NW, 0, none⟩ = some (.int .i64 qg) ∧ wm.cell? ⟨NW, 1, none⟩ = some (.int .i64 qs) ∧ wm.cell? ⟨NW, 2, none⟩ = some (.int .i64 qr) ∧ wm.cell? ⟨NW, 3, none⟩ = some ((Value.slice aoWc rs.length cWc)) ∧ wm.cell? ⟨NW, 4, none⟩ = some ((Value.slice aoWw ts.length cWw)) ∧ wm.cell? ⟨NX0, 0, none⟩ = some (.int .i64 s0) ∧ wm.cell? ⟨NX0, 1, none⟩ = some (.int .i64 r0) ∧ wm.cell? ⟨NX0, 2, none⟩ = some (.int .i64 k0) ∧ wm.cell? ⟨NX0, 3, none⟩ = some ((Value.slice (some ⟨bx0x, 0, none⟩) z0x.length z0x.length)) ∧ wm.cell? ⟨NX0, 4, none⟩ = some ((Value.slice (some ⟨bx0y, 0, none⟩) z0y.length z0y.length)) ∧ wm.cell? ⟨NG, 0, none⟩ = some (.int .i64 qg) ∧ wm.cell? ⟨NG, 1, none⟩ = some (.int .i64 qs) ∧ wm.cell? ⟨NG, 2, none⟩ = some (.int .i64 qr) ∧ wm.cell? ⟨NG, 3, none⟩ = some ((Value.slice aoGc rs.length cGc)) ∧ wm.cell? ⟨NG, 4, none⟩ = some ((Value.slice aoGw ts.length cGw)) ∧ Rd wm b0x (Value.slice ao0x z0x.length cap0x) z0x ∧ RdB wm b0y (Value.slice ao0y z0y.length cap0y) z0y ∧ w.heap.size ≤ wm.heap.size := ⟨gB, mcellB g gn st.2.1 nbN0_x0x, mcellB g gn st.2.2.1 nbN0_x0x, mcellB g gn st.2.2.2.1 nbN0_x0x, mcellB g gn st.2.2.2.2.1 nbN0_x0x, mcellB g gn st.2.2.2.2.2.1 nbN0_x0x, mcellB g gn st.2.2.2.2.2.2.1 nbNW_x0x, mcellB g gn st.2.2.2.2.2.2.2.1 nbNW_x0x, mcellB g gn st.2.2.2.2.2.2.2.2.1 nbNW_x0x, mcellB g gn st.2.2.2.2.2.2.2.2.2.1 nbNW_x0x, mcellB g gn st.2.2.2.2.2.2.2.2.2.2.1 nbNW_x0x, mcellB g gn st.2.2.2.2.2.2.2.2.2.2.2.1 nbNX0_x0x, mcellB g gn st.2.2.2.2.2.2.2.2.2.2.2.2.1 nbNX0_x0x, mcellB g gn st.2.2.2.2.2.2.2.2.2.2.2.2.2.1 nbNX0_x0x, mcellB g gn st.2.2.2.2.2.2.2.2.2.2.2.2.2.2.1 nbNX0_x0x, mcellB g gn st.2.2.2.2.2.2.2.2.2.2.2.2.2.2.2.1 nbNX0_x0x, mcellB g gn st.2.2.2.2.2.2.2.2.2.2.2.2.2.2.2.2.1 nbNG_x0x, mcellB g gn st.2.2.2.2.2.2.2.2.2.2.2.2.2.2.2.2.2.1 nbNG_x0x, mcellB g gn st.2.2.2.2.2.2.2.2.2.2.2.2.2.2.2.2.2.2.1 nbNG_x0x, mcellB g gn st.2.2.2.2.2.2.2.2.2.2.2.2.2.2.2.2.2.2.2.1 nbNG_x0x, mcellB g gn st.2.2.2.2.2.2.2.2.2.2.2.2.2.2.2.2.2.2.2.2.1 nbNG_x0x, H0x.out.keep gB (Nat.le_refl _), H0y.out.keep gB (Nat.le_refl _), gB.size⟩
  clear st g gn gB; have st := st'; clear st'
  have gB := below_mark (And.left st) g2 (And.left st).size cbx0y
  have st' : Below w.heap.size w w13 ∧ w13.cell? ⟨N0, 0, none⟩ = some (.int .i64 s0) ∧ w13.cell? ⟨N0, 1, none⟩ = some (.int .i64 r0) ∧ w13.cell? ⟨N0, 2, none⟩ = some (.int .i64 k0) ∧ w13.cell? ⟨N0, 3, none⟩ = some ((Value.slice ao0x z0x.length cap0x)) ∧ w13.cell? ⟨N0, 4, none⟩ = some ((Value.slice ao0y z0y.length cap0y)) ∧ w13.cell? ⟨NW, 0, none⟩ = some (.int .i64 qg) ∧ w13.cell? ⟨NW, 1, none⟩ = some (.int .i64 qs) ∧ w13.cell? ⟨NW, 2, none⟩ = some (.int .i64 qr) ∧ w13.cell? ⟨NW, 3, none⟩ = some ((Value.slice aoWc rs.length cWc)) ∧ w13.cell? ⟨NW, 4, none⟩ = some ((Value.slice aoWw ts.length cWw)) ∧ w13.cell? ⟨NX0, 0, none⟩ = some (.int .i64 s0) ∧ w13.cell? ⟨NX0, 1, none⟩ = some (.int .i64 r0) ∧ w13.cell? ⟨NX0, 2, none⟩ = some (.int .i64 k0) ∧ w13.cell? ⟨NX0, 3, none⟩ = some ((Value.slice (some ⟨bx0x, 0, none⟩) z0x.length z0x.length)) ∧ w13.cell? ⟨NX0, 4, none⟩ = some ((Value.slice (some ⟨bx0y, 0, none⟩) z0y.length z0y.length)) ∧ w13.cell? ⟨NG, 0, none⟩ = some (.int .i64 qg) ∧ w13.cell? ⟨NG, 1, none⟩ = some (.int .i64 qs) ∧ w13.cell? ⟨NG, 2, none⟩ = some (.int .i64 qr) ∧ w13.cell? ⟨NG, 3, none⟩ = some ((Value.slice aoGc rs.length cGc)) ∧ w13.cell? ⟨NG, 4, none⟩ = some ((Value.slice aoGw ts.length cGw)) ∧ Rd w13 b0x (Value.slice ao0x z0x.length cap0x) z0x ∧ RdB w13 b0y (Value.slice ao0y z0y.length cap0y) z0y ∧ w.heap.size ≤ w13.heap.size := ⟨gB, mcellB g2 gn2 st.2.1 nbN0_x0y, mcellB g2 gn2 st.2.2.1 nbN0_x0y, mcellB g2 gn2 st.2.2.2.1 nbN0_x0y, mcellB g2 gn2 st.2.2.2.2.1 nbN0_x0y, mcellB g2 gn2 st.2.2.2.2.2.1 nbN0_x0y, mcellB g2 gn2 st.2.2.2.2.2.2.1 nbNW_x0y, mcellB g2 gn2 st.2.2.2.2.2.2.2.1 nbNW_x0y, mcellB g2 gn2 st.2.2.2.2.2.2.2.2.1 nbNW_x0y, mcellB g2 gn2 st.2.2.2.2.2.2.2.2.2.1 nbNW_x0y, mcellB g2 gn2 st.2.2.2.2.2.2.2.2.2.2.1 nbNW_x0y, mcellB g2 gn2 st.2.2.2.2.2.2.2.2.2.2.2.1 nbNX0_x0y, mcellB g2 gn2 st.2.2.2.2.2.2.2.2.2.2.2.2.1 nbNX0_x0y, mcellB g2 gn2 st.2.2.2.2.2.2.2.2.2.2.2.2.2.1 nbNX0_x0y, mcellB g2 gn2 st.2.2.2.2.2.2.2.2.2.2.2.2.2.2.1 nbNX0_x0y, mcellB g2 gn2 st.2.2.2.2.2.2.2.2.2.2.2.2.2.2.2.1 nbNX0_x0y, mcellB g2 gn2 st.2.2.2.2.2.2.2.2.2.2.2.2.2.2.2.2.1 nbNG_x0y, mcellB g2 gn2 st.2.2.2.2.2.2.2.2.2.2.2.2.2.2.2.2.2.1 nbNG_x0y, mcellB g2 gn2 st.2.2.2.2.2.2.2.2.2.2.2.2.2.2.2.2.2.2.1 nbNG_x0y, mcellB g2 gn2 st.2.2.2.2.2.2.2.2.2.2.2.2.2.2.2.2.2.2.2.1 nbNG_x0y, mcellB g2 gn2 st.2.2.2.2.2.2.2.2.2.2.2.2.2.2.2.2.2.2.2.2.1 nbNG_x0y, H0x.out.keep gB (Nat.le_refl _), H0y.out.keep gB (Nat.le_refl _), gB.size⟩
  clear st g2 gn2 gB; have st := st'; clear st'
  have hk0 : decide (((1 + (z0x.length : Int)) + (z0y.length : Int)) < 0) = false := by simp; omega
  go_wp2_with fail
  go_at_call 18
  refine (eqG oGc.rd oGw.rd oWc.rd oWw.rd).mono ?_
  rintro e w14 ⟨rfl, bel⟩
  replace st := nx20_IB bel st
  replace oWc := oWc.keep bel
  replace oWw := oWw.keep bel
  replace ox0x := ox0x.keep bel
  replace ox0y := ox0y.keep bel
  replace oGc := oGc.keep bel
  replace oGw := oGw.keep bel
  clear bel
  go_wp2_with fail
  go_at_call 25
  refine (markG oGc oGw neGG (by omega) (by have := HN.out; omega) (by have := HM.out; omega) (by have := HN.out; have := HM.out; have := HL0x.out; have := HL0y.out; have := HN.out; have := HM.out; omega)).mono ?_
  rintro e w15 ⟨rfl, wm, ma, mb, g, gn, g2, gn2⟩
  replace oWc := beside oWc g neWc_Gc
  replace oWw := besideO oWw g neWw_Gc
  replace ox0x := beside ox0x g nex0x_Gc
  replace ox0y := besideO ox0y g nex0y_Gc
  replace oWc := beside oWc g2 neWc_Gw
  replace oWw := besideO oWw g2 neWw_Gw
  replace ox0x := beside ox0x g2 nex0x_Gw
  replace ox0y := besideO ox0y g2 nex0y_Gw
  replace oGc := ma; replace oGw := mb; clear ma mb
  have gB := below_mark (And.left st) g (And.left st).size cbGc
  have st' : Below w.heap.size w wm ∧ wm.cell? ⟨N0, 0, none⟩ = some (.int .i64 s0) ∧ wm.cell? ⟨N0, 1, none⟩ = some (.int .i64 r0) ∧ wm.cell? ⟨N0, 2, none⟩ = some (.int .i64 k0) ∧ wm.cell? ⟨N0, 3, none⟩ = some ((Value.slice ao0x z0x.length cap0x)) ∧ wm.cell? ⟨N0, 4, none⟩ = some ((Value.slice ao0y z0y.length cap0y)) ∧ wm.cell? ⟨NW, 0, none⟩ = some (.int .i64 qg) ∧ wm.cell? ⟨NW, 1, none⟩ = some (.int .i64 qs) ∧ wm.cell? ⟨NW, 2, none⟩ = some (.int .i64 qr) ∧ wm.cell? ⟨NW, 3, none⟩ = some ((Value.slice aoWc rs.length cWc)) ∧ wm.cell? ⟨NW, 4, none⟩ = some ((Value.slice aoWw ts.length cWw)) ∧ wm.cell? ⟨NX0, 0, none⟩ = some (.int .i64 s0) ∧ wm.cell? ⟨NX0, 1, none⟩ = some (.int .i64 r0) ∧ wm.cell? ⟨NX0, 2, none⟩ = some (.int .i64 k0) ∧ wm.cell? ⟨NX0, 3, none⟩ = some ((Value.slice (some ⟨bx0x, 0, none⟩) z0x.length z0x.length)) ∧ wm.cell? ⟨NX0, 4, none⟩ = some ((Value.slice (some ⟨bx0y, 0, none⟩) z0y.length z0y.length)) ∧ wm.cell? ⟨NG, 0, none⟩ = some (.int .i64 qg) ∧ wm.cell? ⟨NG, 1, none⟩ = some (.int .i64 qs) ∧ wm.cell? ⟨NG, 2, none⟩ = some (.int .i64 qr) ∧ wm.cell? ⟨NG, 3, none⟩ = some ((Value.slice aoGc rs.length cGc)) ∧ wm.cell? ⟨NG, 4, none⟩ = some ((Value.slice aoGw ts.length cGw)) ∧ Rd wm b0x (Value.slice ao0x z0x.length cap0x) z0x ∧ RdB wm b0y (Value.slice ao0y z0y.length cap0y) z0y ∧ w.heap.size ≤ wm.heap.size := ⟨gB, mcellB g gn st.2.1 nbN0_Gc, mcellB g gn st.2.2.1 nbN0_Gc, mcellB g gn st.2.2.2.1 nbN0_Gc, mcellB g gn st.2.2.2.2.1 nbN0_Gc, mcellB g gn st.2.2.2.2.2.1 nbN0_Gc, mcellB g gn st.2.2.2.2.2.2.1 nbNW_Gc, mcellB g gn st.2.2.2.2.2.2.2.1 nbNW_Gc, mcellB g gn st.2.2.2.2.2.2.2.2.1 nbNW_Gc, mcellB g gn st.2.2.2.2.2.2.2.2.2.1 nbNW_Gc, mcellB g gn st.2.2.2.2.2.2.2.2.2.2.1 nbNW_Gc, mcellB g gn st.2.2.2.2.2.2.2.2.2.2.2.1 nbNX0_Gc, mcellB g gn st.2.2.2.2.2.2.2.2.2.2.2.2.1 nbNX0_Gc, mcellB g gn st.2.2.2.2.2.2.2.2.2.2.2.2.2.1 nbNX0_Gc, mcellB g gn st.2.2.2.2.2.2.2.2.2.2.2.2.2.2.1 nbNX0_Gc, mcellB g gn st.2.2.2.2.2.2.2.2.2.2.2.2.2.2.2.1 nbNX0_Gc, mcellB g gn st.2.2.2.2.2.2.2.2.2.2.2.2.2.2.2.2.1 nbNG_Gc, mcellB g gn st.2.2.2.2.2.2.2.2.2.2.2.2.2.2.2.2.2.1 nbNG_Gc, mcellB g gn st.2.2.2.2.2.2.2.2.2.2.2.2.2.2.2.2.2.2.1 nbNG_Gc, mcellB g gn st.2.2.2.2.2.2.2.2.2.2.2.2.2.2.2.2.2.2.2.1 nbNG_Gc, mcellB g gn st.2.2.2.2.2.2.2.2.2.2.2.2.2.2.2.2.2.2.2.2.1 nbNG_Gc, H0x.out.keep gB (Nat.le_refl _), H0y.out.keep gB (Nat.le_refl _), gB.size⟩
  clear st g gn gB; have st := st'; clear st'
  have gB := below_mark (And.left st) g2 (And.left st).size cbGw
  have st' : Below w.heap.size w w15 ∧ w15.cell? ⟨N0, 0, none⟩ = some (.int .i64 s0) ∧ w15.cell? ⟨N0, 1, none⟩ = some (.int .i64 r0) ∧ w15.cell? ⟨N0, 2, none⟩ = some (.int .i64 k0) ∧ w15.cell? ⟨N0, 3, none⟩ = some ((Value.slice ao0x z0x.length cap0x)) ∧ w15.cell? ⟨N0, 4, none⟩ = some ((Value.slice ao0y z0y.length cap0y)) ∧ w15.cell? ⟨NW, 0, none⟩ = some (.int .i64 qg) ∧ w15.cell? ⟨NW, 1, none⟩ = some (.int .i64 qs) ∧ w15.cell? ⟨NW, 2, none⟩ = some (.int .i64 qr) ∧ w15.cell? ⟨NW, 3, none⟩ = some ((Value.slice aoWc rs.length cWc)) ∧ w15.cell? ⟨NW, 4, none⟩ = some ((Value.slice aoWw ts.length cWw)) ∧ w15.cell? ⟨NX0, 0, none⟩ = some (.int .i64 s0) ∧ w15.cell? ⟨NX0, 1, none⟩ = some (.int .i64 r0) ∧ w15.cell? ⟨NX0, 2, none⟩ = some (.int .i64 k0) ∧ w15.cell? ⟨NX0, 3, none⟩ = some ((Value.slice (some ⟨bx0x, 0, none⟩) z0x.length z0x.length)) ∧ w15.cell? ⟨NX0, 4, none⟩ = some ((Value.slice (some ⟨bx0y, 0, none⟩) z0y.length z0y.length)) ∧ w15.cell? ⟨NG, 0, none⟩ = some (.int .i64 qg) ∧ w15.cell? ⟨NG, 1, none⟩ = some (.int .i64 qs) ∧ w15.cell? ⟨NG, 2, none⟩ = some (.int .i64 qr) ∧ w15.cell? ⟨NG, 3, none⟩ = some ((Value.slice aoGc rs.length cGc)) ∧ w15.cell? ⟨NG, 4, none⟩ = some ((Value.slice aoGw ts.length cGw)) ∧ Rd w15 b0x (Value.slice ao0x z0x.length cap0x) z0x ∧ RdB w15 b0y (Value.slice ao0y z0y.length cap0y) z0y ∧ w.heap.size ≤ w15.heap.size := ⟨gB, mcellB g2 gn2 st.2.1 nbN0_Gw, mcellB g2 gn2 st.2.2.1 nbN0_Gw, mcellB g2 gn2 st.2.2.2.1 nbN0_Gw, mcellB g2 gn2 st.2.2.2.2.1 nbN0_Gw, mcellB g2 gn2 st.2.2.2.2.2.1 nbN0_Gw, mcellB g2 gn2 st.2.2.2.2.2.2.1 nbNW_Gw, mcellB g2 gn2 st.2.2.2.2.2.2.2.1 nbNW_Gw, mcellB g2 gn2 st.2.2.2.2.2.2.2.2.1 nbNW_Gw, mcellB g2 gn2 st.2.2.2.2.2.2.2.2.2.1 nbNW_Gw, mcellB g2 gn2 st.2.2.2.2.2.2.2.2.2.2.1 nbNW_Gw, mcellB g2 gn2 st.2.2.2.2.2.2.2.2.2.2.2.1 nbNX0_Gw, mcellB g2 gn2 st.2.2.2.2.2.2.2.2.2.2.2.2.1 nbNX0_Gw, mcellB g2 gn2 st.2.2.2.2.2.2.2.2.2.2.2.2.2.1 nbNX0_Gw, mcellB g2 gn2 st.2.2.2.2.2.2.2.2.2.2.2.2.2.2.1 nbNX0_Gw, mcellB g2 gn2 st.2.2.2.2.2.2.2.2.2.2.2.2.2.2.2.1 nbNX0_Gw, mcellB g2 gn2 st.2.2.2.2.2.2.2.2.2.2.2.2.2.2.2.2.1 nbNG_Gw, mcellB g2 gn2 st.2.2.2.2.2.2.2.2.2.2.2.2.2.2.2.2.2.1 nbNG_Gw, mcellB g2 gn2 st.2.2.2.2.2.2.2.2.2.2.2.2.2.2.2.2.2.2.1 nbNG_Gw, mcellB g2 gn2 st.2.2.2.2.2.2.2.2.2.2.2.2.2.2.2.2.2.2.2.1 nbNG_Gw, mcellB g2 gn2 st.2.2.2.2.2.2.2.2.2.2.2.2.2.2.2.2.2.2.2.2.1 nbNG_Gw, H0x.out.keep gB (Nat.le_refl _), H0y.out.keep gB (Nat.le_refl _), gB.size⟩
  clear st g2 gn2 gB; have st := st'; clear st'
  go_wp2_with fail
  go_at_call 26
  refine (heldG oGc.rd oGw.rd (by omega) (by have := HN.out; omega) (by have := HM.out; omega) (by omega)).mono ?_
  rintro e w16 ⟨rfl, bel⟩
  replace st := nx20_IB bel st
  replace oWc := oWc.keep bel
  replace oWw := oWw.keep bel
  replace ox0x := ox0x.keep bel
  replace ox0y := ox0y.keep bel
  replace oGc := oGc.keep bel
  replace oGw := oGw.keep bel
  clear bel
  clear ox0x
  clear ox0y
  go_wp2_with fail
  go_at_call 16
  refine (toG (rdx20_IB_0 st) (rdx20_IB_1 st) HL0x.out HL0y.out).mono ?_
  rintro e w17 ⟨bz0x, bz0y, rfl, oz0x, oz0y, lo, lt, bel⟩
  have neWc_z0x := (lim oWc).imp id (fun hx => (Nat.ne_of_lt (Nat.lt_of_lt_of_le hx lo) : bWc ≠ bz0x))
  have neWw_z0x := (limB oWw).imp id (fun hx => (Nat.ne_of_lt (Nat.lt_of_lt_of_le hx lo) : bWw ≠ bz0x))
  have neGc_z0x := (lim oGc).imp id (fun hx => (Nat.ne_of_lt (Nat.lt_of_lt_of_le hx lo) : bGc ≠ bz0x))
  have neGw_z0x := (limB oGw).imp id (fun hx => (Nat.ne_of_lt (Nat.lt_of_lt_of_le hx lo) : bGw ≠ bz0x))
  have cbz0x : w.heap.size ≤ bz0x := Nat.le_trans (And.left st).size lo
  have nbN0_z0x : (Value.slice (some ⟨bz0x, 0, none⟩) z0x.length z0x.length) = Value.slice none 0 0 ∨ N0 ≠ bz0x := .inr (Nat.ne_of_lt (Nat.lt_of_lt_of_le (World.block_lt_of_cell? _ _ st.2.1) lo))
  have nbNW_z0x : (Value.slice (some ⟨bz0x, 0, none⟩) z0x.length z0x.length) = Value.slice none 0 0 ∨ NW ≠ bz0x := .inr (Nat.ne_of_lt (Nat.lt_of_lt_of_le (World.block_lt_of_cell? _ _ st.2.2.2.2.2.2.1) lo))
  have nbNX0_z0x : (Value.slice (some ⟨bz0x, 0, none⟩) z0x.length z0x.length) = Value.slice none 0 0 ∨ NX0 ≠ bz0x := .inr (Nat.ne_of_lt (Nat.lt_of_lt_of_le (World.block_lt_of_cell? _ _ st.2.2.2.2.2.2.2.2.2.2.2.1) lo))
  have nbNG_z0x : (Value.slice (some ⟨bz0x, 0, none⟩) z0x.length z0x.length) = Value.slice none 0 0 ∨ NG ≠ bz0x := .inr (Nat.ne_of_lt (Nat.lt_of_lt_of_le (World.block_lt_of_cell? _ _ st.2.2.2.2.2.2.2.2.2.2.2.2.2.2.2.2.1) lo))
  have neWc_z0y := (lim oWc).imp id (fun hx => (Nat.ne_of_lt (Nat.lt_of_lt_of_le hx (Nat.le_trans lo (Nat.le_of_lt lt))) : bWc ≠ bz0y))
  have neWw_z0y := (limB oWw).imp id (fun hx => (Nat.ne_of_lt (Nat.lt_of_lt_of_le hx (Nat.le_trans lo (Nat.le_of_lt lt))) : bWw ≠ bz0y))
  have neGc_z0y := (lim oGc).imp id (fun hx => (Nat.ne_of_lt (Nat.lt_of_lt_of_le hx (Nat.le_trans lo (Nat.le_of_lt lt))) : bGc ≠ bz0y))
  have neGw_z0y := (limB oGw).imp id (fun hx => (Nat.ne_of_lt (Nat.lt_of_lt_of_le hx (Nat.le_trans lo (Nat.le_of_lt lt))) : bGw ≠ bz0y))
  have cbz0y : w.heap.size ≤ bz0y := Nat.le_trans (And.left st).size (Nat.le_trans lo (Nat.le_of_lt lt))
  have nbN0_z0y : (Value.slice (some ⟨bz0y, 0, none⟩) z0y.length z0y.length) = Value.slice none 0 0 ∨ N0 ≠ bz0y := .inr (Nat.ne_of_lt (Nat.lt_of_lt_of_le (World.block_lt_of_cell? _ _ st.2.1) (Nat.le_trans lo (Nat.le_of_lt lt))))
  have nbNW_z0y : (Value.slice (some ⟨bz0y, 0, none⟩) z0y.length z0y.length) = Value.slice none 0 0 ∨ NW ≠ bz0y := .inr (Nat.ne_of_lt (Nat.lt_of_lt_of_le (World.block_lt_of_cell? _ _ st.2.2.2.2.2.2.1) (Nat.le_trans lo (Nat.le_of_lt lt))))
  have nbNX0_z0y : (Value.slice (some ⟨bz0y, 0, none⟩) z0y.length z0y.length) = Value.slice none 0 0 ∨ NX0 ≠ bz0y := .inr (Nat.ne_of_lt (Nat.lt_of_lt_of_le (World.block_lt_of_cell? _ _ st.2.2.2.2.2.2.2.2.2.2.2.1) (Nat.le_trans lo (Nat.le_of_lt lt))))
  have nbNG_z0y : (Value.slice (some ⟨bz0y, 0, none⟩) z0y.length z0y.length) = Value.slice none 0 0 ∨ NG ≠ bz0y := .inr (Nat.ne_of_lt (Nat.lt_of_lt_of_le (World.block_lt_of_cell? _ _ st.2.2.2.2.2.2.2.2.2.2.2.2.2.2.2.2.1) (Nat.le_trans lo (Nat.le_of_lt lt))))
  have nez0x_z0y : (Value.slice (some ⟨bz0x, 0, none⟩) z0x.length z0x.length) = Value.slice none 0 0 ∨ bz0x ≠ bz0y := .inr (Nat.ne_of_lt lt)
  replace st := nx20_IB bel st
  replace oWc := oWc.keep bel
  replace oWw := oWw.keep bel
  replace oGc := oGc.keep bel
  replace oGw := oGw.keep bel
  clear bel
  clear lo lt
  go_wp2_with fail
  go_at_call 28
  refine (HIm.out _ _ _ _ _ oz0x.rd oz0y.rd).mono ?_
  rintro e w18 ⟨aoKc, cKc, bKc, aoKw, cKw, bKw, rfl, oKc, oKw, lo, lt, bel⟩
  have neKK : bKc ≠ bKw := Nat.ne_of_lt lt
  have neWc_Kc := (lim oWc).imp id (fun hx => (Nat.ne_of_lt (Nat.lt_of_lt_of_le hx lo) : bWc ≠ bKc))
  have neWw_Kc := (limB oWw).imp id (fun hx => (Nat.ne_of_lt (Nat.lt_of_lt_of_le hx lo) : bWw ≠ bKc))
  have neGc_Kc := (lim oGc).imp id (fun hx => (Nat.ne_of_lt (Nat.lt_of_lt_of_le hx lo) : bGc ≠ bKc))
  have neGw_Kc := (limB oGw).imp id (fun hx => (Nat.ne_of_lt (Nat.lt_of_lt_of_le hx lo) : bGw ≠ bKc))
  have nez0x_Kc := (lim oz0x).imp id (fun hx => (Nat.ne_of_lt (Nat.lt_of_lt_of_le hx lo) : bz0x ≠ bKc))
  have nez0y_Kc := (limB oz0y).imp id (fun hx => (Nat.ne_of_lt (Nat.lt_of_lt_of_le hx lo) : bz0y ≠ bKc))
  have cbKc : w.heap.size ≤ bKc := Nat.le_trans (And.left st).size lo
  have nbN0_Kc : (Value.slice aoKc rs.length cKc) = Value.slice none 0 0 ∨ N0 ≠ bKc := .inr (Nat.ne_of_lt (Nat.lt_of_lt_of_le (World.block_lt_of_cell? _ _ st.2.1) lo))
  have nbNW_Kc : (Value.slice aoKc rs.length cKc) = Value.slice none 0 0 ∨ NW ≠ bKc := .inr (Nat.ne_of_lt (Nat.lt_of_lt_of_le (World.block_lt_of_cell? _ _ st.2.2.2.2.2.2.1) lo))
  have nbNX0_Kc : (Value.slice aoKc rs.length cKc) = Value.slice none 0 0 ∨ NX0 ≠ bKc := .inr (Nat.ne_of_lt (Nat.lt_of_lt_of_le (World.block_lt_of_cell? _ _ st.2.2.2.2.2.2.2.2.2.2.2.1) lo))
  have nbNG_Kc : (Value.slice aoKc rs.length cKc) = Value.slice none 0 0 ∨ NG ≠ bKc := .inr (Nat.ne_of_lt (Nat.lt_of_lt_of_le (World.block_lt_of_cell? _ _ st.2.2.2.2.2.2.2.2.2.2.2.2.2.2.2.2.1) lo))
  have neWc_Kw := (lim oWc).imp id (fun hx => (Nat.ne_of_lt (Nat.lt_of_lt_of_le hx (Nat.le_trans lo (Nat.le_of_lt lt))) : bWc ≠ bKw))
  have neWw_Kw := (limB oWw).imp id (fun hx => (Nat.ne_of_lt (Nat.lt_of_lt_of_le hx (Nat.le_trans lo (Nat.le_of_lt lt))) : bWw ≠ bKw))
  have neGc_Kw := (lim oGc).imp id (fun hx => (Nat.ne_of_lt (Nat.lt_of_lt_of_le hx (Nat.le_trans lo (Nat.le_of_lt lt))) : bGc ≠ bKw))
  have neGw_Kw := (limB oGw).imp id (fun hx => (Nat.ne_of_lt (Nat.lt_of_lt_of_le hx (Nat.le_trans lo (Nat.le_of_lt lt))) : bGw ≠ bKw))
  have nez0x_Kw := (lim oz0x).imp id (fun hx => (Nat.ne_of_lt (Nat.lt_of_lt_of_le hx (Nat.le_trans lo (Nat.le_of_lt lt))) : bz0x ≠ bKw))
  have nez0y_Kw := (limB oz0y).imp id (fun hx => (Nat.ne_of_lt (Nat.lt_of_lt_of_le hx (Nat.le_trans lo (Nat.le_of_lt lt))) : bz0y ≠ bKw))
  have cbKw : w.heap.size ≤ bKw := Nat.le_trans (And.left st).size (Nat.le_trans lo (Nat.le_of_lt lt))
  have nbN0_Kw : (Value.slice aoKw ts.length cKw) = Value.slice none 0 0 ∨ N0 ≠ bKw := .inr (Nat.ne_of_lt (Nat.lt_of_lt_of_le (World.block_lt_of_cell? _ _ st.2.1) (Nat.le_trans lo (Nat.le_of_lt lt))))
  have nbNW_Kw : (Value.slice aoKw ts.length cKw) = Value.slice none 0 0 ∨ NW ≠ bKw := .inr (Nat.ne_of_lt (Nat.lt_of_lt_of_le (World.block_lt_of_cell? _ _ st.2.2.2.2.2.2.1) (Nat.le_trans lo (Nat.le_of_lt lt))))
  have nbNX0_Kw : (Value.slice aoKw ts.length cKw) = Value.slice none 0 0 ∨ NX0 ≠ bKw := .inr (Nat.ne_of_lt (Nat.lt_of_lt_of_le (World.block_lt_of_cell? _ _ st.2.2.2.2.2.2.2.2.2.2.2.1) (Nat.le_trans lo (Nat.le_of_lt lt))))
  have nbNG_Kw : (Value.slice aoKw ts.length cKw) = Value.slice none 0 0 ∨ NG ≠ bKw := .inr (Nat.ne_of_lt (Nat.lt_of_lt_of_le (World.block_lt_of_cell? _ _ st.2.2.2.2.2.2.2.2.2.2.2.2.2.2.2.2.1) (Nat.le_trans lo (Nat.le_of_lt lt))))
  have neKc_Kw : (Value.slice aoKc rs.length cKc) = Value.slice none 0 0 ∨ bKc ≠ bKw := .inr (Nat.ne_of_lt lt)
  replace st := nx20_IB bel st
  replace oWc := oWc.keep bel
  replace oWw := oWw.keep bel
  replace oGc := oGc.keep bel
  replace oGw := oGw.keep bel
  replace oz0x := oz0x.keep bel
  replace oz0y := oz0y.keep bel
  clear bel
  clear lo lt
  clear oz0x
  clear oz0y
  obtain ⟨w20, hW⟩ : ∃ w20, w20 = w18.alloc (Obj.cells #[.int .i64 qg, .int .i64 qs, .int .i64 qr, (Value.slice aoKc rs.length cKc), (Value.slice aoKw ts.length cKw)] 31) := ⟨_, rfl⟩
  obtain ⟨NK, hN⟩ : ∃ NK, NK = w18.heap.size := ⟨_, rfl⟩
  have nbNK_Wc : (Value.slice aoWc rs.length cWc) = Value.slice none 0 0 ∨ NK ≠ bWc := (lim oWc).imp id (fun hx => by rw [hN]; exact Nat.ne_of_gt hx)
  have nbNK_Ww : (Value.slice aoWw ts.length cWw) = Value.slice none 0 0 ∨ NK ≠ bWw := (limB oWw).imp id (fun hx => by rw [hN]; exact Nat.ne_of_gt hx)
  have nbNK_Gc : (Value.slice aoGc rs.length cGc) = Value.slice none 0 0 ∨ NK ≠ bGc := (lim oGc).imp id (fun hx => by rw [hN]; exact Nat.ne_of_gt hx)
  have nbNK_Gw : (Value.slice aoGw ts.length cGw) = Value.slice none 0 0 ∨ NK ≠ bGw := (limB oGw).imp id (fun hx => by rw [hN]; exact Nat.ne_of_gt hx)
  have nbNK_Kc : (Value.slice aoKc rs.length cKc) = Value.slice none 0 0 ∨ NK ≠ bKc := (lim oKc).imp id (fun hx => by rw [hN]; exact Nat.ne_of_gt hx)
  have nbNK_Kw : (Value.slice aoKw ts.length cKw) = Value.slice none 0 0 ∨ NK ≠ bKw := (limB oKw).imp id (fun hx => by rw [hN]; exact Nat.ne_of_gt hx)
  have bel : Below w18.heap.size w18 w20 := by rw [hW]; exact Rule.below1 _ _
  have st' : Below w.heap.size w w20 ∧ w20.cell? ⟨N0, 0, none⟩ = some (.int .i64 s0) ∧ w20.cell? ⟨N0, 1, none⟩ = some (.int .i64 r0) ∧ w20.cell? ⟨N0, 2, none⟩ = some (.int .i64 k0) ∧ w20.cell? ⟨N0, 3, none⟩ = some ((Value.slice ao0x z0x.length cap0x)) ∧ w20.cell? ⟨N0, 4, none⟩ = some ((Value.slice ao0y z0y.length cap0y)) ∧ w20.cell? ⟨NW, 0, none⟩ = some (.int .i64 qg) ∧ w20.cell? ⟨NW, 1, none⟩ = some (.int .i64 qs) ∧ w20.cell? ⟨NW, 2, none⟩ = some (.int .i64 qr) ∧ w20.cell? ⟨NW, 3, none⟩ = some ((Value.slice aoWc rs.length cWc)) ∧ w20.cell? ⟨NW, 4, none⟩ = some ((Value.slice aoWw ts.length cWw)) ∧ w20.cell? ⟨NX0, 0, none⟩ = some (.int .i64 s0) ∧ w20.cell? ⟨NX0, 1, none⟩ = some (.int .i64 r0) ∧ w20.cell? ⟨NX0, 2, none⟩ = some (.int .i64 k0) ∧ w20.cell? ⟨NX0, 3, none⟩ = some ((Value.slice (some ⟨bx0x, 0, none⟩) z0x.length z0x.length)) ∧ w20.cell? ⟨NX0, 4, none⟩ = some ((Value.slice (some ⟨bx0y, 0, none⟩) z0y.length z0y.length)) ∧ w20.cell? ⟨NG, 0, none⟩ = some (.int .i64 qg) ∧ w20.cell? ⟨NG, 1, none⟩ = some (.int .i64 qs) ∧ w20.cell? ⟨NG, 2, none⟩ = some (.int .i64 qr) ∧ w20.cell? ⟨NG, 3, none⟩ = some ((Value.slice aoGc rs.length cGc)) ∧ w20.cell? ⟨NG, 4, none⟩ = some ((Value.slice aoGw ts.length cGw)) ∧ w20.cell? ⟨NK, 0, none⟩ = some (.int .i64 qg) ∧ w20.cell? ⟨NK, 1, none⟩ = some (.int .i64 qs) ∧ w20.cell? ⟨NK, 2, none⟩ = some (.int .i64 qr) ∧ w20.cell? ⟨NK, 3, none⟩ = some ((Value.slice aoKc rs.length cKc)) ∧ w20.cell? ⟨NK, 4, none⟩ = some ((Value.slice aoKw ts.length cKw)) ∧ Rd w20 b0x (Value.slice ao0x z0x.length cap0x) z0x ∧ RdB w20 b0y (Value.slice ao0y z0y.length cap0y) z0y ∧ w.heap.size ≤ w20.heap.size := by
    obtain ⟨t0, c0, c1, c2, c3, c4, c5, c6, c7, c8, c9, c10, c11, c12, c13, c14, c15, c16, c17, c18, c19, d0, d1, tz⟩ := nx20_IB bel st
    exact ⟨t0, c0, c1, c2, c3, c4, c5, c6, c7, c8, c9, c10, c11, c12, c13, c14, c15, c16, c17, c18, c19, by rw [hW, hN]; simp, by rw [hW, hN]; simp, by rw [hW, hN]; simp, by rw [hW, hN]; simp, by rw [hW, hN]; simp, d0, d1, tz⟩
  replace oWc := oWc.keep bel
  replace oWw := oWw.keep bel
  replace oGc := oGc.keep bel
  replace oGw := oGw.keep bel
  replace oKc := oKc.keep bel
  replace oKw := oKw.keep bel
  clear st bel; have st := st'; clear st'
  have stp := st
  rw [hW, hN] at stp
  go_wp2_with fail
  clear stp
  simp only [← hW, ← hN]
  clear hW hN
  go_at_call 18
  refine (eqG oKc.rd oKw.rd oWc.rd oWw.rd).mono ?_
  rintro e w19 ⟨rfl, bel⟩
  replace st := nx25_IB bel st
  replace oWc := oWc.keep bel
  replace oWw := oWw.keep bel
  replace oGc := oGc.keep bel
  replace oGw := oGw.keep bel
  replace oKc := oKc.keep bel
  replace oKw := oKw.keep bel
  clear bel
  go_wp2_with fail
  go_at_call 26
  refine (heldG oGc.rd oGw.rd (by omega) (by have := HN.out; omega) (by have := HM.out; omega) (by omega)).mono ?_
  rintro e w21 ⟨rfl, bel⟩
  replace st := nx25_IB bel st
  replace oWc := oWc.keep bel
  replace oWw := oWw.keep bel
  replace oGc := oGc.keep bel
  replace oGw := oGw.keep bel
  replace oKc := oKc.keep bel
  replace oKw := oKw.keep bel
  clear bel
  go_wp2
  go_ret
  exact ⟨rfl, And.left st⟩

set_option maxRecDepth 100000 in
theorem lifted (os : Os) (started : os.Started) (H : Type) (enc : TypeId × Value → H) :
    ReturnsInHanded {} Try.checked os 8 .any (Rows.fnExactCollideGasSpec.pre6 enc Try.prog Try.f8 Rows.fnExactCollideGasRow.domain false) (Rows.fnExactCollideGasSpec.post enc Try.prog Try.f8 false true false false) := by
  refine returnsInHanded_of_change (C := Try.checked) own started (by kernel_rfl) Try.func8
    (ChangeSpec.witness6 (enc := enc) (C := Try.checked) false ⟨#[], #[.agg #[.int .i64 0, .int .i64 0, .int .i64 0, .slice none 0 0, .slice none 0 0], .bool false], []⟩ 8 (by kernel_rfl) (by kernel_rfl) (by kernel_rfl) (by kernel_rfl)) ?_
  intro W base args ds gs before hval0 hW hcnd hreach
  have hval : ∀ (j : Nat) t v, Try.f8.params[j]? = some t → args[j]? = some v → Value.okWide Try.prog W .any base t v := hval0
  have hW' := hW
  obtain ⟨p, q, hA0, hV, rfl, hfz, hnd⟩ := hW
  have hA : DataW.TrodAll enc Try.prog W 0 (fun _ => true) true Try.f8.params.toList args.toList ds p := hA0
  rw [Try.params8] at hA hval
  obtain ⟨v0, vs0, d0, ds0, p0, q0, hargs, rfl, rfl, h0, r0⟩ := trodAll_cons hA
  obtain ⟨v1, vs1, d1, ds1, p1, q1, rfl, rfl, rfl, h1, r1⟩ := trodAll_cons r0
  obtain ⟨rfl, rfl, rfl⟩ := trodAll_nil r1
  obtain rfl : args = #[v0, v1] := by cases args; simp_all
  obtain ⟨rfl, rfl⟩ := trodVars_none hV
  have k0 := h0
  have lt0 : ∀ x ∈ p0, x.block < W.heap.size := by obtain ⟨m, hm⟩ := k0; exact DataW.trod_lt m _ _ _ hm
  obtain ⟨c00, c01, c02, c03, c04, m0, rfl, ⟨y00, t00⟩, ⟨y01, t01⟩, ⟨y02, t02⟩, ⟨y03, t03⟩, ⟨y04, t04⟩⟩ := open_five Try.underlying28 (by kernel_rfl) (by kernel_rfl) (hval 0 28 v0 rfl rfl) h0
  obtain ⟨a00, e00, _, w00⟩ := DataW.trod_int Try.underlying2 t00
  simp at e00
  subst e00
  obtain ⟨a01, e01, _, w01⟩ := DataW.trod_int Try.underlying2 t01
  simp at e01
  subst e01
  obtain ⟨a02, e02, _, w02⟩ := DataW.trod_int Try.underlying2 t02
  simp at e02
  subst e02
  obtain ⟨a03, len03, cap03, e03⟩ := slice_form Try.underlying22 t03
  simp at e03
  subst e03
  obtain ⟨b03, z03, _, w03⟩ : ∃ b zs, zs.length = len03 ∧ Rd W b (.slice a03 len03 cap03) zs := rd_open Try.underlying22 Try.underlying2 (by kernel_rfl) t03
  obtain ⟨a04, len04, cap04, e04⟩ := slice_form Try.underlying26 t04
  simp at e04
  subst e04
  obtain ⟨b04, z04, _, w04⟩ : ∃ b zs, zs.length = len04 ∧ RdB W b (.slice a04 len04 cap04) zs := rdB_open Try.underlying26 Try.underlying4 (by kernel_rfl) t04
  obtain ⟨a1, rfl, rfl, rfl⟩ := open_bool Try.underlying4 (hval 1 4 v1 rfl rfl) h1
  clear hA0 hval0
  refine (walk w00 w01 w02 w03 w04).mono fun e W' ⟨he, bel⟩ => ?_
  subst he
  exact ⟨_, rfl, _, _, _, [], _, [], hW', trodAll_mk1 (shut_bool Try.underlying4 _), (trodAll_cons_mk (Below.trod laidOut (by kernel_rfl) (of_decide_eq_true (by kernel_rfl)) k0 bel lt0) (trodAll_cons_mk (shut_bool Try.underlying4 _) (trodAll_mk0))), rfl, bel.frame _, fun h => by cases h⟩

theorem over : Rows.fnExactCollideGasRow.holds Try.pinned (OpenSpec.ofChange Rows.fnExactCollideGasSpec) :=
  OpenClaim.holds_of_wide 8 Try.f8 rfl rfl rfl rfl rfl rfl rfl ⟨rfl, rfl, rfl, rfl, rfl⟩ rfl rfl rfl rfl rfl (by kernel_rfl) Try.func8 (by kernel_rfl)
    (of_decide_eq_true (by kernel_rfl)) (by unfold Func.isWrapper; rw [if_neg (of_decide_eq_false (by kernel_rfl))]; exact ⟨rfl, rfl⟩)
    (fun os started H enc _ => lifted os started H enc)

theorem proved : Rows.FnExactCollideGasSaid := over
end Go.Proofs.Ytnpjhhkhdeomcaa.lawCollideGas
