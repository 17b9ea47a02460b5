/- For every two rules, impl.JoinRules answers as the model of the document does, changes nothing that it is given, and its answer is memory of its own. No condition. -/
import Derived.Test.YtejchjjkehmgaaaRows
import Derived.Test.YtejchjjkehmgaaaMayA
import Derived.Test.YtejchjjkehmgaaaMayB
import Derived.Test.YtejchjjkehmgaaaMayC
import Derived.Test.YtejchjjkehmgaaaRuleKit
import Derived.Test.YtejchjjkehmgaaaJoiA
import Derived.WalkKit
import Derived.WalkLawsBesides
import Derived.ProofKit
import Derived.OpenShut
import Derived.ShutString
import Derived.ChangeOld
import Derived.Below
import Derived.IntWalk
import Derived.Lib.SmallJoins
import Derived.Deep.Cut
namespace Go.Proofs.Ytejchjjkehmgaaa.lawJoinRules
open Go.ChangeShapes Go.WideShapes Go.ChangeAt Go.RowKit Go.Joins Go.Proofs.Ytejchjjkehmgaaa.Rd Go.Proofs.Ytejchjjkehmgaaa.Help Go.Proofs.Ytejchjjkehmgaaa.Keep
set_option linter.unusedVariables false
set_option linter.unusedSimpArgs false
theorem own : ownKnob Try.prog.godebug = none := by kernel_rfl
theorem laidOut : laidOutB Try.prog = true := by kernel_rfl
theorem agree (s r : Int) (xs : List Int) (s2 r2 : Int) (ys : List Int) (hx : xs.length ≤ 1048576) (hy : ys.length ≤ 1048576) : ∃ (qs qr : Int) (rs : List Int) (q0 : Bool), rs.length ≤ 1000000 ∧ (∀ (w : World) (b1 : Nat) (v1 : Value) (b2 : Nat) (v2 : Value), Rd w b1 v1 xs → Rd w b2 v2 ys → Calls Try.prog 59 #[Rule.ruleV s r v1, Rule.ruleV s2 r2 v2] w fun e w' => ∃ ao c b', e = .returned (.tuple #[Rule.ruleV qs qr (.slice ao rs.length c), .bool q0]) ∧ Own 2 w' b' (.slice ao rs.length c) rs ∧ w.heap.size ≤ b' ∧ Below w.heap.size w w') ∧ (∀ (w : World) (b1 : Nat) (v1 : Value) (b2 : Nat) (v2 : Value), Rd w b1 v1 xs → Rd w b2 v2 ys → Calls Try.prog 60 #[Rule.ruleV s r v1, Rule.ruleV s2 r2 v2] w fun e w' => ∃ ao c b', e = .returned (.tuple #[Rule.ruleV qs qr (.slice ao rs.length c), .bool q0]) ∧ Own 2 w' b' (.slice ao rs.length c) rs ∧ w.heap.size ≤ b' ∧ Below w.heap.size w w') := JoiA.agree s r xs s2 r2 ys

theorem heap_top0 (w : World) (o : Obj) : (w.alloc o).heap[w.heap.size]? = some o := by
  show (w.heap.push o)[w.heap.size]? = some o
  simp
theorem own_setB {E : TypeId} {w : World} {b : Nat} {v : Value} {zs : List Int} (h : Own E w b v zs) (a : Addr) (u : Value) (hne : v = .slice none 0 0 ∨ a.block ≠ b) : Own E (w.setCell a u) b v zs := by
  rcases hne with hv | hne
  · rcases h.form with ⟨_, he⟩ | ⟨cap, hv2, _⟩
    · subst hv; rw [he]; exact Own.nil _ _ _
    · rw [hv] at hv2; cases hv2
  · exact own_set h a u hne
theorem heap_keep {w w' : World} {n : Nat} {o : Obj} (bel : Below w.heap.size w w') (h : w.heap[n]? = some o) : w'.heap[n]? = some o :=
  (bel.block n (Array.getElem?_eq_some_iff.1 h).1).trans h
theorem mcellB {w w' : World} {c n i : Nat} {u v : Value} (g : w.grownBy w' (some c)) (gn : v = .slice none 0 0 → Below w.heap.size w w') (h : w.cell? ⟨n, i, none⟩ = some u) (hne : v = .slice none 0 0 ∨ n ≠ c) : w'.cell? ⟨n, i, none⟩ = some u := by
  rcases hne with hv | hne
  · exact cell_keep (gn hv) h
  · exact mcell g h hne
theorem szU_ok {w : World} {s r : Int} {ao : Option Addr} {n cap : Nat} {q : Int} (hn : n ≤ 9223372036854775807) (h0 : 0 ≤ q) (hq : q ≤ 1048576) (h : (n : Int) ≤ q) : Calls Try.prog 31 #[Rule.ruleV s r (.slice ao n cap), .int .i64 q] w fun e w' => e = .returned (.int .i64 (q - n)) ∧ Below w.heap.size w w' := by
  refine (szR hn h0 hq).mono ?_
  rw [if_pos h]
  exact fun e w' h => h
theorem szU_no {w : World} {s r : Int} {ao : Option Addr} {n cap : Nat} {q : Int} (hn : n ≤ 9223372036854775807) (h0 : 0 ≤ q) (hq : q ≤ 1048576) (h : ¬ (n : Int) ≤ q) : Calls Try.prog 31 #[Rule.ruleV s r (.slice ao n cap), .int .i64 q] w fun e w' => e = .returned (.int .i64 (-1)) ∧ Below w.heap.size w w' := by
  refine (szR hn h0 hq).mono ?_
  rw [if_neg h]
  exact fun e w' h => h
theorem nx6_II {N : Nat} {w0 w w' : World} {p0 p1 p2 p3 p4 p5 : Addr} {c0 c1 c2 c3 c4 c5 : Value} {b0 : Nat} {v0 : Value} {z0 : List Int} {b1 : Nat} {v1 : Value} {z1 : List Int} (bel : Below w.heap.size w w') (h : Below N w0 w ∧ w.cell? p0 = some c0 ∧ w.cell? p1 = some c1 ∧ w.cell? p2 = some c2 ∧ w.cell? p3 = some c3 ∧ w.cell? p4 = some c4 ∧ w.cell? p5 = some c5 ∧ Rd w b0 v0 z0 ∧ Rd w b1 v1 z1 ∧ N ≤ w.heap.size) : Below N w0 w' ∧ w'.cell? p0 = some c0 ∧ w'.cell? p1 = some c1 ∧ w'.cell? p2 = some c2 ∧ w'.cell? p3 = some c3 ∧ w'.cell? p4 = some c4 ∧ w'.cell? p5 = some c5 ∧ Rd w' b0 v0 z0 ∧ Rd w' b1 v1 z1 ∧ N ≤ w'.heap.size := by obtain ⟨h0, x0, x1, x2, x3, x4, x5, y0, y1, h5⟩ := h; exact ⟨h0.trans (bel.mono h5), cell_keep bel x0, cell_keep bel x1, cell_keep bel x2, cell_keep bel x3, cell_keep bel x4, cell_keep bel x5, y0.keep bel (Nat.le_refl _), y1.keep bel (Nat.le_refl _), Nat.le_trans h5 bel.size⟩
theorem drw6_II {N : Nat} {w0 w : World} {p0 p1 p2 p3 p4 p5 : Addr} {c0 c1 c2 c3 c4 c5 : Value} {b0 : Nat} {v0 : Value} {z0 : List Int} {b1 : Nat} {v1 : Value} {z1 : List Int} (h : Below N w0 w ∧ w.cell? p0 = some c0 ∧ w.cell? p1 = some c1 ∧ w.cell? p2 = some c2 ∧ w.cell? p3 = some c3 ∧ w.cell? p4 = some c4 ∧ w.cell? p5 = some c5 ∧ Rd w b0 v0 z0 ∧ Rd w b1 v1 z1 ∧ N ≤ w.heap.size) : Below N w0 w.drew ∧ w.drew.cell? p0 = some c0 ∧ w.drew.cell? p1 = some c1 ∧ w.drew.cell? p2 = some c2 ∧ w.drew.cell? p3 = some c3 ∧ w.drew.cell? p4 = some c4 ∧ w.drew.cell? p5 = some c5 ∧ Rd w.drew b0 v0 z0 ∧ Rd w.drew b1 v1 z1 ∧ N ≤ w.drew.heap.size := by obtain ⟨h0, x0, x1, x2, x3, x4, x5, y0, y1, h5⟩ := h; exact ⟨h0.drew, x0, x1, x2, x3, x4, x5, y0, y1, h5⟩
theorem rdx6_II_0 {N : Nat} {w0 w : World} {p0 p1 p2 p3 p4 p5 : Addr} {c0 c1 c2 c3 c4 c5 : Value} {b0 : Nat} {v0 : Value} {z0 : List Int} {b1 : Nat} {v1 : Value} {z1 : List Int} (h : Below N w0 w ∧ w.cell? p0 = some c0 ∧ w.cell? p1 = some c1 ∧ w.cell? p2 = some c2 ∧ w.cell? p3 = some c3 ∧ w.cell? p4 = some c4 ∧ w.cell? p5 = some c5 ∧ Rd w b0 v0 z0 ∧ Rd w b1 v1 z1 ∧ N ≤ w.heap.size) : Rd w b0 v0 z0 := by obtain ⟨h0, x0, x1, x2, x3, x4, x5, y0, y1, h5⟩ := h; exact y0
theorem rdx6_II_1 {N : Nat} {w0 w : World} {p0 p1 p2 p3 p4 p5 : Addr} {c0 c1 c2 c3 c4 c5 : Value} {b0 : Nat} {v0 : Value} {z0 : List Int} {b1 : Nat} {v1 : Value} {z1 : List Int} (h : Below N w0 w ∧ w.cell? p0 = some c0 ∧ w.cell? p1 = some c1 ∧ w.cell? p2 = some c2 ∧ w.cell? p3 = some c3 ∧ w.cell? p4 = some c4 ∧ w.cell? p5 = some c5 ∧ Rd w b0 v0 z0 ∧ Rd w b1 v1 z1 ∧ N ≤ w.heap.size) : Rd w b1 v1 z1 := by obtain ⟨h0, x0, x1, x2, x3, x4, x5, y0, y1, h5⟩ := h; exact y1
theorem nx9_II {N : Nat} {w0 w w' : World} {p0 p1 p2 p3 p4 p5 p6 p7 p8 : Addr} {c0 c1 c2 c3 c4 c5 c6 c7 c8 : Value} {b0 : Nat} {v0 : Value} {z0 : List Int} {b1 : Nat} {v1 : Value} {z1 : List Int} (bel : Below w.heap.size w w') (h : Below N w0 w ∧ w.cell? p0 = some c0 ∧ w.cell? p1 = some c1 ∧ w.cell? p2 = some c2 ∧ w.cell? p3 = some c3 ∧ w.cell? p4 = some c4 ∧ w.cell? p5 = some c5 ∧ w.cell? p6 = some c6 ∧ w.cell? p7 = some c7 ∧ w.cell? p8 = some c8 ∧ Rd w b0 v0 z0 ∧ Rd w b1 v1 z1 ∧ N ≤ w.heap.size) : Below N w0 w' ∧ w'.cell? p0 = some c0 ∧ w'.cell? p1 = some c1 ∧ w'.cell? p2 = some c2 ∧ w'.cell? p3 = some c3 ∧ w'.cell? p4 = some c4 ∧ w'.cell? p5 = some c5 ∧ w'.cell? p6 = some c6 ∧ w'.cell? p7 = some c7 ∧ w'.cell? p8 = some c8 ∧ Rd w' b0 v0 z0 ∧ Rd w' b1 v1 z1 ∧ N ≤ w'.heap.size := by obtain ⟨h0, x0, x1, x2, x3, x4, x5, x6, x7, x8, y0, y1, h5⟩ := h; exact ⟨h0.trans (bel.mono h5), cell_keep bel x0, cell_keep bel x1, cell_keep bel x2, cell_keep bel x3, cell_keep bel x4, cell_keep bel x5, cell_keep bel x6, cell_keep bel x7, cell_keep bel x8, y0.keep bel (Nat.le_refl _), y1.keep bel (Nat.le_refl _), Nat.le_trans h5 bel.size⟩
theorem drw9_II {N : Nat} {w0 w : World} {p0 p1 p2 p3 p4 p5 p6 p7 p8 : Addr} {c0 c1 c2 c3 c4 c5 c6 c7 c8 : Value} {b0 : Nat} {v0 : Value} {z0 : List Int} {b1 : Nat} {v1 : Value} {z1 : List Int} (h : Below N w0 w ∧ w.cell? p0 = some c0 ∧ w.cell? p1 = some c1 ∧ w.cell? p2 = some c2 ∧ w.cell? p3 = some c3 ∧ w.cell? p4 = some c4 ∧ w.cell? p5 = some c5 ∧ w.cell? p6 = some c6 ∧ w.cell? p7 = some c7 ∧ w.cell? p8 = some c8 ∧ Rd w b0 v0 z0 ∧ Rd w b1 v1 z1 ∧ N ≤ w.heap.size) : Below N w0 w.drew ∧ w.drew.cell? p0 = some c0 ∧ w.drew.cell? p1 = some c1 ∧ w.drew.cell? p2 = some c2 ∧ w.drew.cell? p3 = some c3 ∧ w.drew.cell? p4 = some c4 ∧ w.drew.cell? p5 = some c5 ∧ w.drew.cell? p6 = some c6 ∧ w.drew.cell? p7 = some c7 ∧ w.drew.cell? p8 = some c8 ∧ Rd w.drew b0 v0 z0 ∧ Rd w.drew b1 v1 z1 ∧ N ≤ w.drew.heap.size := by obtain ⟨h0, x0, x1, x2, x3, x4, x5, x6, x7, x8, y0, y1, h5⟩ := h; exact ⟨h0.drew, x0, x1, x2, x3, x4, x5, x6, x7, x8, y0, y1, h5⟩
theorem rdx9_II_0 {N : Nat} {w0 w : World} {p0 p1 p2 p3 p4 p5 p6 p7 p8 : Addr} {c0 c1 c2 c3 c4 c5 c6 c7 c8 : Value} {b0 : Nat} {v0 : Value} {z0 : List Int} {b1 : Nat} {v1 : Value} {z1 : List Int} (h : Below N w0 w ∧ w.cell? p0 = some c0 ∧ w.cell? p1 = some c1 ∧ w.cell? p2 = some c2 ∧ w.cell? p3 = some c3 ∧ w.cell? p4 = some c4 ∧ w.cell? p5 = some c5 ∧ w.cell? p6 = some c6 ∧ w.cell? p7 = some c7 ∧ w.cell? p8 = some c8 ∧ Rd w b0 v0 z0 ∧ Rd w b1 v1 z1 ∧ N ≤ w.heap.size) : Rd w b0 v0 z0 := by obtain ⟨h0, x0, x1, x2, x3, x4, x5, x6, x7, x8, y0, y1, h5⟩ := h; exact y0
theorem rdx9_II_1 {N : Nat} {w0 w : World} {p0 p1 p2 p3 p4 p5 p6 p7 p8 : Addr} {c0 c1 c2 c3 c4 c5 c6 c7 c8 : Value} {b0 : Nat} {v0 : Value} {z0 : List Int} {b1 : Nat} {v1 : Value} {z1 : List Int} (h : Below N w0 w ∧ w.cell? p0 = some c0 ∧ w.cell? p1 = some c1 ∧ w.cell? p2 = some c2 ∧ w.cell? p3 = some c3 ∧ w.cell? p4 = some c4 ∧ w.cell? p5 = some c5 ∧ w.cell? p6 = some c6 ∧ w.cell? p7 = some c7 ∧ w.cell? p8 = some c8 ∧ Rd w b0 v0 z0 ∧ Rd w b1 v1 z1 ∧ N ≤ w.heap.size) : Rd w b1 v1 z1 := by obtain ⟨h0, x0, x1, x2, x3, x4, x5, x6, x7, x8, y0, y1, h5⟩ := h; exact y1
theorem nx12_II {N : Nat} {w0 w w' : World} {p0 p1 p2 p3 p4 p5 p6 p7 p8 p9 p10 p11 : Addr} {c0 c1 c2 c3 c4 c5 c6 c7 c8 c9 c10 c11 : Value} {b0 : Nat} {v0 : Value} {z0 : List Int} {b1 : Nat} {v1 : Value} {z1 : List Int} (bel : Below w.heap.size w w') (h : Below N w0 w ∧ w.cell? p0 = some c0 ∧ w.cell? p1 = some c1 ∧ w.cell? p2 = some c2 ∧ w.cell? p3 = some c3 ∧ w.cell? p4 = some c4 ∧ w.cell? p5 = some c5 ∧ w.cell? p6 = some c6 ∧ w.cell? p7 = some c7 ∧ w.cell? p8 = some c8 ∧ w.cell? p9 = some c9 ∧ w.cell? p10 = some c10 ∧ w.cell? p11 = some c11 ∧ Rd w b0 v0 z0 ∧ Rd w b1 v1 z1 ∧ N ≤ w.heap.size) : Below N w0 w' ∧ w'.cell? p0 = some c0 ∧ w'.cell? p1 = some c1 ∧ w'.cell? p2 = some c2 ∧ w'.cell? p3 = some c3 ∧ w'.cell? p4 = some c4 ∧ w'.cell? p5 = some c5 ∧ w'.cell? p6 = some c6 ∧ w'.cell? p7 = some c7 ∧ w'.cell? p8 = some c8 ∧ w'.cell? p9 = some c9 ∧ w'.cell? p10 = some c10 ∧ w'.cell? p11 = some c11 ∧ Rd w' b0 v0 z0 ∧ Rd w' b1 v1 z1 ∧ N ≤ w'.heap.size := by obtain ⟨h0, x0, x1, x2, x3, x4, x5, x6, x7, x8, x9, x10, x11, y0, y1, h5⟩ := h; exact ⟨h0.trans (bel.mono h5), cell_keep bel x0, cell_keep bel x1, cell_keep bel x2, cell_keep bel x3, cell_keep bel x4, cell_keep bel x5, cell_keep bel x6, cell_keep bel x7, cell_keep bel x8, cell_keep bel x9, cell_keep bel x10, cell_keep bel x11, y0.keep bel (Nat.le_refl _), y1.keep bel (Nat.le_refl _), Nat.le_trans h5 bel.size⟩
theorem drw12_II {N : Nat} {w0 w : World} {p0 p1 p2 p3 p4 p5 p6 p7 p8 p9 p10 p11 : Addr} {c0 c1 c2 c3 c4 c5 c6 c7 c8 c9 c10 c11 : Value} {b0 : Nat} {v0 : Value} {z0 : List Int} {b1 : Nat} {v1 : Value} {z1 : List Int} (h : Below N w0 w ∧ w.cell? p0 = some c0 ∧ w.cell? p1 = some c1 ∧ w.cell? p2 = some c2 ∧ w.cell? p3 = some c3 ∧ w.cell? p4 = some c4 ∧ w.cell? p5 = some c5 ∧ w.cell? p6 = some c6 ∧ w.cell? p7 = some c7 ∧ w.cell? p8 = some c8 ∧ w.cell? p9 = some c9 ∧ w.cell? p10 = some c10 ∧ w.cell? p11 = some c11 ∧ Rd w b0 v0 z0 ∧ Rd w b1 v1 z1 ∧ N ≤ w.heap.size) : Below N w0 w.drew ∧ w.drew.cell? p0 = some c0 ∧ w.drew.cell? p1 = some c1 ∧ w.drew.cell? p2 = some c2 ∧ w.drew.cell? p3 = some c3 ∧ w.drew.cell? p4 = some c4 ∧ w.drew.cell? p5 = some c5 ∧ w.drew.cell? p6 = some c6 ∧ w.drew.cell? p7 = some c7 ∧ w.drew.cell? p8 = some c8 ∧ w.drew.cell? p9 = some c9 ∧ w.drew.cell? p10 = some c10 ∧ w.drew.cell? p11 = some c11 ∧ Rd w.drew b0 v0 z0 ∧ Rd w.drew b1 v1 z1 ∧ N ≤ w.drew.heap.size := by obtain ⟨h0, x0, x1, x2, x3, x4, x5, x6, x7, x8, x9, x10, x11, y0, y1, h5⟩ := h; exact ⟨h0.drew, x0, x1, x2, x3, x4, x5, x6, x7, x8, x9, x10, x11, y0, y1, h5⟩
theorem rdx12_II_0 {N : Nat} {w0 w : World} {p0 p1 p2 p3 p4 p5 p6 p7 p8 p9 p10 p11 : Addr} {c0 c1 c2 c3 c4 c5 c6 c7 c8 c9 c10 c11 : Value} {b0 : Nat} {v0 : Value} {z0 : List Int} {b1 : Nat} {v1 : Value} {z1 : List Int} (h : Below N w0 w ∧ w.cell? p0 = some c0 ∧ w.cell? p1 = some c1 ∧ w.cell? p2 = some c2 ∧ w.cell? p3 = some c3 ∧ w.cell? p4 = some c4 ∧ w.cell? p5 = some c5 ∧ w.cell? p6 = some c6 ∧ w.cell? p7 = some c7 ∧ w.cell? p8 = some c8 ∧ w.cell? p9 = some c9 ∧ w.cell? p10 = some c10 ∧ w.cell? p11 = some c11 ∧ Rd w b0 v0 z0 ∧ Rd w b1 v1 z1 ∧ N ≤ w.heap.size) : Rd w b0 v0 z0 := by obtain ⟨h0, x0, x1, x2, x3, x4, x5, x6, x7, x8, x9, x10, x11, y0, y1, h5⟩ := h; exact y0
theorem rdx12_II_1 {N : Nat} {w0 w : World} {p0 p1 p2 p3 p4 p5 p6 p7 p8 p9 p10 p11 : Addr} {c0 c1 c2 c3 c4 c5 c6 c7 c8 c9 c10 c11 : Value} {b0 : Nat} {v0 : Value} {z0 : List Int} {b1 : Nat} {v1 : Value} {z1 : List Int} (h : Below N w0 w ∧ w.cell? p0 = some c0 ∧ w.cell? p1 = some c1 ∧ w.cell? p2 = some c2 ∧ w.cell? p3 = some c3 ∧ w.cell? p4 = some c4 ∧ w.cell? p5 = some c5 ∧ w.cell? p6 = some c6 ∧ w.cell? p7 = some c7 ∧ w.cell? p8 = some c8 ∧ w.cell? p9 = some c9 ∧ w.cell? p10 = some c10 ∧ w.cell? p11 = some c11 ∧ Rd w b0 v0 z0 ∧ Rd w b1 v1 z1 ∧ N ≤ w.heap.size) : Rd w b1 v1 z1 := by obtain ⟨h0, x0, x1, x2, x3, x4, x5, x6, x7, x8, x9, x10, x11, y0, y1, h5⟩ := h; exact y1
theorem nx15_II {N : Nat} {w0 w w' : World} {p0 p1 p2 p3 p4 p5 p6 p7 p8 p9 p10 p11 p12 p13 p14 : Addr} {c0 c1 c2 c3 c4 c5 c6 c7 c8 c9 c10 c11 c12 c13 c14 : Value} {b0 : Nat} {v0 : Value} {z0 : List Int} {b1 : Nat} {v1 : Value} {z1 : List Int} (bel : Below w.heap.size w w') (h : Below N w0 w ∧ w.cell? p0 = some c0 ∧ w.cell? p1 = some c1 ∧ w.cell? p2 = some c2 ∧ w.cell? p3 = some c3 ∧ w.cell? p4 = some c4 ∧ w.cell? p5 = some c5 ∧ w.cell? p6 = some c6 ∧ w.cell? p7 = some c7 ∧ w.cell? p8 = some c8 ∧ w.cell? p9 = some c9 ∧ w.cell? p10 = some c10 ∧ w.cell? p11 = some c11 ∧ w.cell? p12 = some c12 ∧ w.cell? p13 = some c13 ∧ w.cell? p14 = some c14 ∧ Rd w b0 v0 z0 ∧ Rd w b1 v1 z1 ∧ N ≤ w.heap.size) : Below N w0 w' ∧ w'.cell? p0 = some c0 ∧ w'.cell? p1 = some c1 ∧ w'.cell? p2 = some c2 ∧ w'.cell? p3 = some c3 ∧ w'.cell? p4 = some c4 ∧ w'.cell? p5 = some c5 ∧ w'.cell? p6 = some c6 ∧ w'.cell? p7 = some c7 ∧ w'.cell? p8 = some c8 ∧ w'.cell? p9 = some c9 ∧ w'.cell? p10 = some c10 ∧ w'.cell? p11 = some c11 ∧ w'.cell? p12 = some c12 ∧ w'.cell? p13 = some c13 ∧ w'.cell? p14 = some c14 ∧ Rd w' b0 v0 z0 ∧ Rd w' b1 v1 z1 ∧ N ≤ w'.heap.size := by obtain ⟨h0, x0, x1, x2, x3, x4, x5, x6, x7, x8, x9, x10, x11, x12, x13, x14, y0, y1, h5⟩ := h; exact ⟨h0.trans (bel.mono h5), cell_keep bel x0, cell_keep bel x1, cell_keep bel x2, cell_keep bel x3, cell_keep bel x4, cell_keep bel x5, cell_keep bel x6, cell_keep bel x7, cell_keep bel x8, cell_keep bel x9, cell_keep bel x10, cell_keep bel x11, cell_keep bel x12, cell_keep bel x13, cell_keep bel x14, y0.keep bel (Nat.le_refl _), y1.keep bel (Nat.le_refl _), Nat.le_trans h5 bel.size⟩
theorem drw15_II {N : Nat} {w0 w : World} {p0 p1 p2 p3 p4 p5 p6 p7 p8 p9 p10 p11 p12 p13 p14 : Addr} {c0 c1 c2 c3 c4 c5 c6 c7 c8 c9 c10 c11 c12 c13 c14 : Value} {b0 : Nat} {v0 : Value} {z0 : List Int} {b1 : Nat} {v1 : Value} {z1 : List Int} (h : Below N w0 w ∧ w.cell? p0 = some c0 ∧ w.cell? p1 = some c1 ∧ w.cell? p2 = some c2 ∧ w.cell? p3 = some c3 ∧ w.cell? p4 = some c4 ∧ w.cell? p5 = some c5 ∧ w.cell? p6 = some c6 ∧ w.cell? p7 = some c7 ∧ w.cell? p8 = some c8 ∧ w.cell? p9 = some c9 ∧ w.cell? p10 = some c10 ∧ w.cell? p11 = some c11 ∧ w.cell? p12 = some c12 ∧ w.cell? p13 = some c13 ∧ w.cell? p14 = some c14 ∧ Rd w b0 v0 z0 ∧ Rd w b1 v1 z1 ∧ N ≤ w.heap.size) : Below N w0 w.drew ∧ w.drew.cell? p0 = some c0 ∧ w.drew.cell? p1 = some c1 ∧ w.drew.cell? p2 = some c2 ∧ w.drew.cell? p3 = some c3 ∧ w.drew.cell? p4 = some c4 ∧ w.drew.cell? p5 = some c5 ∧ w.drew.cell? p6 = some c6 ∧ w.drew.cell? p7 = some c7 ∧ w.drew.cell? p8 = some c8 ∧ w.drew.cell? p9 = some c9 ∧ w.drew.cell? p10 = some c10 ∧ w.drew.cell? p11 = some c11 ∧ w.drew.cell? p12 = some c12 ∧ w.drew.cell? p13 = some c13 ∧ w.drew.cell? p14 = some c14 ∧ Rd w.drew b0 v0 z0 ∧ Rd w.drew b1 v1 z1 ∧ N ≤ w.drew.heap.size := by obtain ⟨h0, x0, x1, x2, x3, x4, x5, x6, x7, x8, x9, x10, x11, x12, x13, x14, y0, y1, h5⟩ := h; exact ⟨h0.drew, x0, x1, x2, x3, x4, x5, x6, x7, x8, x9, x10, x11, x12, x13, x14, y0, y1, h5⟩
theorem rdx15_II_0 {N : Nat} {w0 w : World} {p0 p1 p2 p3 p4 p5 p6 p7 p8 p9 p10 p11 p12 p13 p14 : Addr} {c0 c1 c2 c3 c4 c5 c6 c7 c8 c9 c10 c11 c12 c13 c14 : Value} {b0 : Nat} {v0 : Value} {z0 : List Int} {b1 : Nat} {v1 : Value} {z1 : List Int} (h : Below N w0 w ∧ w.cell? p0 = some c0 ∧ w.cell? p1 = some c1 ∧ w.cell? p2 = some c2 ∧ w.cell? p3 = some c3 ∧ w.cell? p4 = some c4 ∧ w.cell? p5 = some c5 ∧ w.cell? p6 = some c6 ∧ w.cell? p7 = some c7 ∧ w.cell? p8 = some c8 ∧ w.cell? p9 = some c9 ∧ w.cell? p10 = some c10 ∧ w.cell? p11 = some c11 ∧ w.cell? p12 = some c12 ∧ w.cell? p13 = some c13 ∧ w.cell? p14 = some c14 ∧ Rd w b0 v0 z0 ∧ Rd w b1 v1 z1 ∧ N ≤ w.heap.size) : Rd w b0 v0 z0 := by obtain ⟨h0, x0, x1, x2, x3, x4, x5, x6, x7, x8, x9, x10, x11, x12, x13, x14, y0, y1, h5⟩ := h; exact y0
theorem rdx15_II_1 {N : Nat} {w0 w : World} {p0 p1 p2 p3 p4 p5 p6 p7 p8 p9 p10 p11 p12 p13 p14 : Addr} {c0 c1 c2 c3 c4 c5 c6 c7 c8 c9 c10 c11 c12 c13 c14 : Value} {b0 : Nat} {v0 : Value} {z0 : List Int} {b1 : Nat} {v1 : Value} {z1 : List Int} (h : Below N w0 w ∧ w.cell? p0 = some c0 ∧ w.cell? p1 = some c1 ∧ w.cell? p2 = some c2 ∧ w.cell? p3 = some c3 ∧ w.cell? p4 = some c4 ∧ w.cell? p5 = some c5 ∧ w.cell? p6 = some c6 ∧ w.cell? p7 = some c7 ∧ w.cell? p8 = some c8 ∧ w.cell? p9 = some c9 ∧ w.cell? p10 = some c10 ∧ w.cell? p11 = some c11 ∧ w.cell? p12 = some c12 ∧ w.cell? p13 = some c13 ∧ w.cell? p14 = some c14 ∧ Rd w b0 v0 z0 ∧ Rd w b1 v1 z1 ∧ N ≤ w.heap.size) : Rd w b1 v1 z1 := by obtain ⟨h0, x0, x1, x2, x3, x4, x5, x6, x7, x8, x9, x10, x11, x12, x13, x14, y0, y1, h5⟩ := h; exact y1
theorem nx18_II {N : Nat} {w0 w w' : World} {p0 p1 p2 p3 p4 p5 p6 p7 p8 p9 p10 p11 p12 p13 p14 p15 p16 p17 : Addr} {c0 c1 c2 c3 c4 c5 c6 c7 c8 c9 c10 c11 c12 c13 c14 c15 c16 c17 : Value} {b0 : Nat} {v0 : Value} {z0 : List Int} {b1 : Nat} {v1 : Value} {z1 : List Int} (bel : Below w.heap.size w w') (h : Below N w0 w ∧ w.cell? p0 = some c0 ∧ w.cell? p1 = some c1 ∧ w.cell? p2 = some c2 ∧ w.cell? p3 = some c3 ∧ w.cell? p4 = some c4 ∧ w.cell? p5 = some c5 ∧ w.cell? p6 = some c6 ∧ w.cell? p7 = some c7 ∧ w.cell? p8 = some c8 ∧ w.cell? p9 = some c9 ∧ w.cell? p10 = some c10 ∧ w.cell? p11 = some c11 ∧ w.cell? p12 = some c12 ∧ w.cell? p13 = some c13 ∧ w.cell? p14 = some c14 ∧ w.cell? p15 = some c15 ∧ w.cell? p16 = some c16 ∧ w.cell? p17 = some c17 ∧ Rd w b0 v0 z0 ∧ Rd w b1 v1 z1 ∧ N ≤ w.heap.size) : Below N w0 w' ∧ w'.cell? p0 = some c0 ∧ w'.cell? p1 = some c1 ∧ w'.cell? p2 = some c2 ∧ w'.cell? p3 = some c3 ∧ w'.cell? p4 = some c4 ∧ w'.cell? p5 = some c5 ∧ w'.cell? p6 = some c6 ∧ w'.cell? p7 = some c7 ∧ w'.cell? p8 = some c8 ∧ w'.cell? p9 = some c9 ∧ w'.cell? p10 = some c10 ∧ w'.cell? p11 = some c11 ∧ w'.cell? p12 = some c12 ∧ w'.cell? p13 = some c13 ∧ w'.cell? p14 = some c14 ∧ w'.cell? p15 = some c15 ∧ w'.cell? p16 = some c16 ∧ w'.cell? p17 = some c17 ∧ Rd w' b0 v0 z0 ∧ Rd w' b1 v1 z1 ∧ N ≤ w'.heap.size := by obtain ⟨h0, x0, x1, x2, x3, x4, x5, x6, x7, x8, x9, x10, x11, x12, x13, x14, x15, x16, x17, y0, y1, h5⟩ := h; exact ⟨h0.trans (bel.mono h5), cell_keep bel x0, cell_keep bel x1, cell_keep bel x2, cell_keep bel x3, cell_keep bel x4, cell_keep bel x5, cell_keep bel x6, cell_keep bel x7, cell_keep bel x8, cell_keep bel x9, cell_keep bel x10, cell_keep bel x11, cell_keep bel x12, cell_keep bel x13, cell_keep bel x14, cell_keep bel x15, cell_keep bel x16, cell_keep bel x17, y0.keep bel (Nat.le_refl _), y1.keep bel (Nat.le_refl _), Nat.le_trans h5 bel.size⟩
theorem drw18_II {N : Nat} {w0 w : World} {p0 p1 p2 p3 p4 p5 p6 p7 p8 p9 p10 p11 p12 p13 p14 p15 p16 p17 : Addr} {c0 c1 c2 c3 c4 c5 c6 c7 c8 c9 c10 c11 c12 c13 c14 c15 c16 c17 : Value} {b0 : Nat} {v0 : Value} {z0 : List Int} {b1 : Nat} {v1 : Value} {z1 : List Int} (h : Below N w0 w ∧ w.cell? p0 = some c0 ∧ w.cell? p1 = some c1 ∧ w.cell? p2 = some c2 ∧ w.cell? p3 = some c3 ∧ w.cell? p4 = some c4 ∧ w.cell? p5 = some c5 ∧ w.cell? p6 = some c6 ∧ w.cell? p7 = some c7 ∧ w.cell? p8 = some c8 ∧ w.cell? p9 = some c9 ∧ w.cell? p10 = some c10 ∧ w.cell? p11 = some c11 ∧ w.cell? p12 = some c12 ∧ w.cell? p13 = some c13 ∧ w.cell? p14 = some c14 ∧ w.cell? p15 = some c15 ∧ w.cell? p16 = some c16 ∧ w.cell? p17 = some c17 ∧ Rd w b0 v0 z0 ∧ Rd w b1 v1 z1 ∧ N ≤ w.heap.size) : Below N w0 w.drew ∧ w.drew.cell? p0 = some c0 ∧ w.drew.cell? p1 = some c1 ∧ w.drew.cell? p2 = some c2 ∧ w.drew.cell? p3 = some c3 ∧ w.drew.cell? p4 = some c4 ∧ w.drew.cell? p5 = some c5 ∧ w.drew.cell? p6 = some c6 ∧ w.drew.cell? p7 = some c7 ∧ w.drew.cell? p8 = some c8 ∧ w.drew.cell? p9 = some c9 ∧ w.drew.cell? p10 = some c10 ∧ w.drew.cell? p11 = some c11 ∧ w.drew.cell? p12 = some c12 ∧ w.drew.cell? p13 = some c13 ∧ w.drew.cell? p14 = some c14 ∧ w.drew.cell? p15 = some c15 ∧ w.drew.cell? p16 = some c16 ∧ w.drew.cell? p17 = some c17 ∧ Rd w.drew b0 v0 z0 ∧ Rd w.drew b1 v1 z1 ∧ N ≤ w.drew.heap.size := by obtain ⟨h0, x0, x1, x2, x3, x4, x5, x6, x7, x8, x9, x10, x11, x12, x13, x14, x15, x16, x17, y0, y1, h5⟩ := h; exact ⟨h0.drew, x0, x1, x2, x3, x4, x5, x6, x7, x8, x9, x10, x11, x12, x13, x14, x15, x16, x17, y0, y1, h5⟩
theorem rdx18_II_0 {N : Nat} {w0 w : World} {p0 p1 p2 p3 p4 p5 p6 p7 p8 p9 p10 p11 p12 p13 p14 p15 p16 p17 : Addr} {c0 c1 c2 c3 c4 c5 c6 c7 c8 c9 c10 c11 c12 c13 c14 c15 c16 c17 : Value} {b0 : Nat} {v0 : Value} {z0 : List Int} {b1 : Nat} {v1 : Value} {z1 : List Int} (h : Below N w0 w ∧ w.cell? p0 = some c0 ∧ w.cell? p1 = some c1 ∧ w.cell? p2 = some c2 ∧ w.cell? p3 = some c3 ∧ w.cell? p4 = some c4 ∧ w.cell? p5 = some c5 ∧ w.cell? p6 = some c6 ∧ w.cell? p7 = some c7 ∧ w.cell? p8 = some c8 ∧ w.cell? p9 = some c9 ∧ w.cell? p10 = some c10 ∧ w.cell? p11 = some c11 ∧ w.cell? p12 = some c12 ∧ w.cell? p13 = some c13 ∧ w.cell? p14 = some c14 ∧ w.cell? p15 = some c15 ∧ w.cell? p16 = some c16 ∧ w.cell? p17 = some c17 ∧ Rd w b0 v0 z0 ∧ Rd w b1 v1 z1 ∧ N ≤ w.heap.size) : Rd w b0 v0 z0 := by obtain ⟨h0, x0, x1, x2, x3, x4, x5, x6, x7, x8, x9, x10, x11, x12, x13, x14, x15, x16, x17, y0, y1, h5⟩ := h; exact y0
theorem rdx18_II_1 {N : Nat} {w0 w : World} {p0 p1 p2 p3 p4 p5 p6 p7 p8 p9 p10 p11 p12 p13 p14 p15 p16 p17 : Addr} {c0 c1 c2 c3 c4 c5 c6 c7 c8 c9 c10 c11 c12 c13 c14 c15 c16 c17 : Value} {b0 : Nat} {v0 : Value} {z0 : List Int} {b1 : Nat} {v1 : Value} {z1 : List Int} (h : Below N w0 w ∧ w.cell? p0 = some c0 ∧ w.cell? p1 = some c1 ∧ w.cell? p2 = some c2 ∧ w.cell? p3 = some c3 ∧ w.cell? p4 = some c4 ∧ w.cell? p5 = some c5 ∧ w.cell? p6 = some c6 ∧ w.cell? p7 = some c7 ∧ w.cell? p8 = some c8 ∧ w.cell? p9 = some c9 ∧ w.cell? p10 = some c10 ∧ w.cell? p11 = some c11 ∧ w.cell? p12 = some c12 ∧ w.cell? p13 = some c13 ∧ w.cell? p14 = some c14 ∧ w.cell? p15 = some c15 ∧ w.cell? p16 = some c16 ∧ w.cell? p17 = some c17 ∧ Rd w b0 v0 z0 ∧ Rd w b1 v1 z1 ∧ N ≤ w.heap.size) : Rd w b1 v1 z1 := by obtain ⟨h0, x0, x1, x2, x3, x4, x5, x6, x7, x8, x9, x10, x11, x12, x13, x14, x15, x16, x17, y0, y1, h5⟩ := h; exact y1
theorem nx21_II {N : Nat} {w0 w w' : World} {p0 p1 p2 p3 p4 p5 p6 p7 p8 p9 p10 p11 p12 p13 p14 p15 p16 p17 p18 p19 p20 : Addr} {c0 c1 c2 c3 c4 c5 c6 c7 c8 c9 c10 c11 c12 c13 c14 c15 c16 c17 c18 c19 c20 : Value} {b0 : Nat} {v0 : Value} {z0 : List Int} {b1 : Nat} {v1 : Value} {z1 : List Int} (bel : Below w.heap.size w w') (h : Below N w0 w ∧ w.cell? p0 = some c0 ∧ w.cell? p1 = some c1 ∧ w.cell? p2 = some c2 ∧ w.cell? p3 = some c3 ∧ w.cell? p4 = some c4 ∧ w.cell? p5 = some c5 ∧ w.cell? p6 = some c6 ∧ w.cell? p7 = some c7 ∧ w.cell? p8 = some c8 ∧ w.cell? p9 = some c9 ∧ w.cell? p10 = some c10 ∧ w.cell? p11 = some c11 ∧ w.cell? p12 = some c12 ∧ w.cell? p13 = some c13 ∧ w.cell? p14 = some c14 ∧ w.cell? p15 = some c15 ∧ w.cell? p16 = some c16 ∧ w.cell? p17 = some c17 ∧ w.cell? p18 = some c18 ∧ w.cell? p19 = some c19 ∧ w.cell? p20 = some c20 ∧ Rd w b0 v0 z0 ∧ Rd w b1 v1 z1 ∧ N ≤ w.heap.size) : Below N w0 w' ∧ w'.cell? p0 = some c0 ∧ w'.cell? p1 = some c1 ∧ w'.cell? p2 = some c2 ∧ w'.cell? p3 = some c3 ∧ w'.cell? p4 = some c4 ∧ w'.cell? p5 = some c5 ∧ w'.cell? p6 = some c6 ∧ w'.cell? p7 = some c7 ∧ w'.cell? p8 = some c8 ∧ w'.cell? p9 = some c9 ∧ w'.cell? p10 = some c10 ∧ w'.cell? p11 = some c11 ∧ w'.cell? p12 = some c12 ∧ w'.cell? p13 = some c13 ∧ w'.cell? p14 = some c14 ∧ w'.cell? p15 = some c15 ∧ w'.cell? p16 = some c16 ∧ w'.cell? p17 = some c17 ∧ w'.cell? p18 = some c18 ∧ w'.cell? p19 = some c19 ∧ w'.cell? p20 = some c20 ∧ Rd w' b0 v0 z0 ∧ Rd w' b1 v1 z1 ∧ N ≤ w'.heap.size := by obtain ⟨h0, x0, x1, x2, x3, x4, x5, x6, x7, x8, x9, x10, x11, x12, x13, x14, x15, x16, x17, x18, x19, x20, y0, y1, h5⟩ := h; exact ⟨h0.trans (bel.mono h5), cell_keep bel x0, cell_keep bel x1, cell_keep bel x2, cell_keep bel x3, cell_keep bel x4, cell_keep bel x5, cell_keep bel x6, cell_keep bel x7, cell_keep bel x8, cell_keep bel x9, cell_keep bel x10, cell_keep bel x11, cell_keep bel x12, cell_keep bel x13, cell_keep bel x14, cell_keep bel x15, cell_keep bel x16, cell_keep bel x17, cell_keep bel x18, cell_keep bel x19, cell_keep bel x20, y0.keep bel (Nat.le_refl _), y1.keep bel (Nat.le_refl _), Nat.le_trans h5 bel.size⟩
theorem drw21_II {N : Nat} {w0 w : World} {p0 p1 p2 p3 p4 p5 p6 p7 p8 p9 p10 p11 p12 p13 p14 p15 p16 p17 p18 p19 p20 : Addr} {c0 c1 c2 c3 c4 c5 c6 c7 c8 c9 c10 c11 c12 c13 c14 c15 c16 c17 c18 c19 c20 : Value} {b0 : Nat} {v0 : Value} {z0 : List Int} {b1 : Nat} {v1 : Value} {z1 : List Int} (h : Below N w0 w ∧ w.cell? p0 = some c0 ∧ w.cell? p1 = some c1 ∧ w.cell? p2 = some c2 ∧ w.cell? p3 = some c3 ∧ w.cell? p4 = some c4 ∧ w.cell? p5 = some c5 ∧ w.cell? p6 = some c6 ∧ w.cell? p7 = some c7 ∧ w.cell? p8 = some c8 ∧ w.cell? p9 = some c9 ∧ w.cell? p10 = some c10 ∧ w.cell? p11 = some c11 ∧ w.cell? p12 = some c12 ∧ w.cell? p13 = some c13 ∧ w.cell? p14 = some c14 ∧ w.cell? p15 = some c15 ∧ w.cell? p16 = some c16 ∧ w.cell? p17 = some c17 ∧ w.cell? p18 = some c18 ∧ w.cell? p19 = some c19 ∧ w.cell? p20 = some c20 ∧ Rd w b0 v0 z0 ∧ Rd w b1 v1 z1 ∧ N ≤ w.heap.size) : Below N w0 w.drew ∧ w.drew.cell? p0 = some c0 ∧ w.drew.cell? p1 = some c1 ∧ w.drew.cell? p2 = some c2 ∧ w.drew.cell? p3 = some c3 ∧ w.drew.cell? p4 = some c4 ∧ w.drew.cell? p5 = some c5 ∧ w.drew.cell? p6 = some c6 ∧ w.drew.cell? p7 = some c7 ∧ w.drew.cell? p8 = some c8 ∧ w.drew.cell? p9 = some c9 ∧ w.drew.cell? p10 = some c10 ∧ w.drew.cell? p11 = some c11 ∧ w.drew.cell? p12 = some c12 ∧ w.drew.cell? p13 = some c13 ∧ w.drew.cell? p14 = some c14 ∧ w.drew.cell? p15 = some c15 ∧ w.drew.cell? p16 = some c16 ∧ w.drew.cell? p17 = some c17 ∧ w.drew.cell? p18 = some c18 ∧ w.drew.cell? p19 = some c19 ∧ w.drew.cell? p20 = some c20 ∧ Rd w.drew b0 v0 z0 ∧ Rd w.drew b1 v1 z1 ∧ N ≤ w.drew.heap.size := by obtain ⟨h0, x0, x1, x2, x3, x4, x5, x6, x7, x8, x9, x10, x11, x12, x13, x14, x15, x16, x17, x18, x19, x20, y0, y1, h5⟩ := h; exact ⟨h0.drew, x0, x1, x2, x3, x4, x5, x6, x7, x8, x9, x10, x11, x12, x13, x14, x15, x16, x17, x18, x19, x20, y0, y1, h5⟩
theorem rdx21_II_0 {N : Nat} {w0 w : World} {p0 p1 p2 p3 p4 p5 p6 p7 p8 p9 p10 p11 p12 p13 p14 p15 p16 p17 p18 p19 p20 : Addr} {c0 c1 c2 c3 c4 c5 c6 c7 c8 c9 c10 c11 c12 c13 c14 c15 c16 c17 c18 c19 c20 : Value} {b0 : Nat} {v0 : Value} {z0 : List Int} {b1 : Nat} {v1 : Value} {z1 : List Int} (h : Below N w0 w ∧ w.cell? p0 = some c0 ∧ w.cell? p1 = some c1 ∧ w.cell? p2 = some c2 ∧ w.cell? p3 = some c3 ∧ w.cell? p4 = some c4 ∧ w.cell? p5 = some c5 ∧ w.cell? p6 = some c6 ∧ w.cell? p7 = some c7 ∧ w.cell? p8 = some c8 ∧ w.cell? p9 = some c9 ∧ w.cell? p10 = some c10 ∧ w.cell? p11 = some c11 ∧ w.cell? p12 = some c12 ∧ w.cell? p13 = some c13 ∧ w.cell? p14 = some c14 ∧ w.cell? p15 = some c15 ∧ w.cell? p16 = some c16 ∧ w.cell? p17 = some c17 ∧ w.cell? p18 = some c18 ∧ w.cell? p19 = some c19 ∧ w.cell? p20 = some c20 ∧ Rd w b0 v0 z0 ∧ Rd w b1 v1 z1 ∧ N ≤ w.heap.size) : Rd w b0 v0 z0 := by obtain ⟨h0, x0, x1, x2, x3, x4, x5, x6, x7, x8, x9, x10, x11, x12, x13, x14, x15, x16, x17, x18, x19, x20, y0, y1, h5⟩ := h; exact y0
theorem rdx21_II_1 {N : Nat} {w0 w : World} {p0 p1 p2 p3 p4 p5 p6 p7 p8 p9 p10 p11 p12 p13 p14 p15 p16 p17 p18 p19 p20 : Addr} {c0 c1 c2 c3 c4 c5 c6 c7 c8 c9 c10 c11 c12 c13 c14 c15 c16 c17 c18 c19 c20 : Value} {b0 : Nat} {v0 : Value} {z0 : List Int} {b1 : Nat} {v1 : Value} {z1 : List Int} (h : Below N w0 w ∧ w.cell? p0 = some c0 ∧ w.cell? p1 = some c1 ∧ w.cell? p2 = some c2 ∧ w.cell? p3 = some c3 ∧ w.cell? p4 = some c4 ∧ w.cell? p5 = some c5 ∧ w.cell? p6 = some c6 ∧ w.cell? p7 = some c7 ∧ w.cell? p8 = some c8 ∧ w.cell? p9 = some c9 ∧ w.cell? p10 = some c10 ∧ w.cell? p11 = some c11 ∧ w.cell? p12 = some c12 ∧ w.cell? p13 = some c13 ∧ w.cell? p14 = some c14 ∧ w.cell? p15 = some c15 ∧ w.cell? p16 = some c16 ∧ w.cell? p17 = some c17 ∧ w.cell? p18 = some c18 ∧ w.cell? p19 = some c19 ∧ w.cell? p20 = some c20 ∧ Rd w b0 v0 z0 ∧ Rd w b1 v1 z1 ∧ N ≤ w.heap.size) : Rd w b1 v1 z1 := by obtain ⟨h0, x0, x1, x2, x3, x4, x5, x6, x7, x8, x9, x10, x11, x12, x13, x14, x15, x16, x17, x18, x19, x20, y0, y1, h5⟩ := h; exact y1

set_option maxHeartbeats 64000000 in
set_option maxRecDepth 4000 in
theorem walk {w : World} {s0 r0 : Int} (fs0 : (Lit.int .i64 s0).wf = true) (fr0 : (Lit.int .i64 r0).wf = true) {b0x : Nat} {v0x : Value} {z0x : List Int} (h0x : Rd w b0x v0x z0x) {s1 r1 : Int} (fs1 : (Lit.int .i64 s1).wf = true) (fr1 : (Lit.int .i64 r1).wf = true) {b1x : Nat} {v1x : Value} {z1x : List Int} (h1x : Rd w b1x v1x z1x) :
    Calls Try.prog 14 #[Rule.ruleV s0 r0 v0x, Rule.ruleV s1 r1 v1x] w fun e w' => e = .returned (.bool true) ∧ Below w.heap.size w w' := by
  obtain ⟨ao0x, cap0x, e0x, kc0x, mc0x, _⟩ := id h0x
  have H0x : Hid (Rd w b0x v0x z0x) := h0x
  subst e0x; clear h0x
  have nb0x : z0x.length ≤ 9223372036854775807 := by unfold maxLen at mc0x; omega
  clear kc0x mc0x
  obtain ⟨ao1x, cap1x, e1x, kc1x, mc1x, _⟩ := id h1x
  have H1x : Hid (Rd w b1x v1x z1x) := h1x
  subst e1x; clear h1x
  have nb1x : z1x.length ≤ 9223372036854775807 := by unfold maxLen at mc1x; omega
  clear kc1x mc1x
  by_cases hs0 : (z0x.length : Int) ≤ 1048576
  rotate_left 1
  · go_enter Try.func14, Try.ntmps14
    go_wp2_with fail
    obtain ⟨w1, hW⟩ : ∃ w1, w1 = ((w.alloc (Obj.cells #[.int .i64 s0, .int .i64 r0, (Value.slice ao0x z0x.length cap0x)] 45)).alloc (Obj.cells #[.int .i64 s1, .int .i64 r1, (Value.slice ao1x z1x.length cap1x)] 45)) := ⟨_, rfl⟩
    obtain ⟨N0, hN0⟩ : ∃ N0, N0 = w.heap.size := ⟨_, rfl⟩
    obtain ⟨N1, hN1⟩ : ∃ N1, N1 = N0 + 1 := ⟨_, rfl⟩
    have st : Below w.heap.size w w1 ∧ w1.cell? ⟨N0, 0, none⟩ = some (.int .i64 s0) ∧ w1.cell? ⟨N0, 1, none⟩ = some (.int .i64 r0) ∧ w1.cell? ⟨N0, 2, none⟩ = some ((Value.slice ao0x z0x.length cap0x)) ∧ w1.cell? ⟨N1, 0, none⟩ = some (.int .i64 s1) ∧ w1.cell? ⟨N1, 1, none⟩ = some (.int .i64 r1) ∧ w1.cell? ⟨N1, 2, none⟩ = some ((Value.slice ao1x z1x.length cap1x)) ∧ Rd w1 b0x (Value.slice ao0x z0x.length cap0x) z0x ∧ Rd w1 b1x (Value.slice ao1x z1x.length cap1x) z1x ∧ w.heap.size ≤ w1.heap.size := by
      rw [hW, hN1, hN0]
      exact ⟨Go.Joins.below_alloc2 _ _ _, by simp, by simp, by simp, by simp, by simp, by simp, H0x.out.keep (Go.Joins.below_alloc2 _ _ _) (Nat.le_refl _), H1x.out.keep (Go.Joins.below_alloc2 _ _ _) (Nat.le_refl _), by simp <;> omega⟩
    simp only [← hW, ← hN0, ← hN1]
    clear hW hN0 hN1
    go_at_call 31
    refine (szU_no nb0x (q := 1048576) (by omega) (by omega) (by omega)).mono ?_
    rintro e w2 ⟨rfl, bel⟩
    replace st := nx6_II bel st
    clear bel
    go_wp2
    go_ret
    exact ⟨rfl, st.1⟩
  by_cases hs1 : (z1x.length : Int) ≤ 1048576 - (z0x.length : Int)
  rotate_left 1
  · go_enter Try.func14, Try.ntmps14
    go_wp2_with fail
    obtain ⟨w1, hW⟩ : ∃ w1, w1 = ((w.alloc (Obj.cells #[.int .i64 s0, .int .i64 r0, (Value.slice ao0x z0x.length cap0x)] 45)).alloc (Obj.cells #[.int .i64 s1, .int .i64 r1, (Value.slice ao1x z1x.length cap1x)] 45)) := ⟨_, rfl⟩
    obtain ⟨N0, hN0⟩ : ∃ N0, N0 = w.heap.size := ⟨_, rfl⟩
    obtain ⟨N1, hN1⟩ : ∃ N1, N1 = N0 + 1 := ⟨_, rfl⟩
    have st : Below w.heap.size w w1 ∧ w1.cell? ⟨N0, 0, none⟩ = some (.int .i64 s0) ∧ w1.cell? ⟨N0, 1, none⟩ = some (.int .i64 r0) ∧ w1.cell? ⟨N0, 2, none⟩ = some ((Value.slice ao0x z0x.length cap0x)) ∧ w1.cell? ⟨N1, 0, none⟩ = some (.int .i64 s1) ∧ w1.cell? ⟨N1, 1, none⟩ = some (.int .i64 r1) ∧ w1.cell? ⟨N1, 2, none⟩ = some ((Value.slice ao1x z1x.length cap1x)) ∧ Rd w1 b0x (Value.slice ao0x z0x.length cap0x) z0x ∧ Rd w1 b1x (Value.slice ao1x z1x.length cap1x) z1x ∧ w.heap.size ≤ w1.heap.size := by
      rw [hW, hN1, hN0]
      exact ⟨Go.Joins.below_alloc2 _ _ _, by simp, by simp, by simp, by simp, by simp, by simp, H0x.out.keep (Go.Joins.below_alloc2 _ _ _) (Nat.le_refl _), H1x.out.keep (Go.Joins.below_alloc2 _ _ _) (Nat.le_refl _), by simp <;> omega⟩
    simp only [← hW, ← hN0, ← hN1]
    clear hW hN0 hN1
    go_at_call 31
    refine (szU_ok nb0x (q := 1048576) (by omega) (by omega) (by omega)).mono ?_
    rintro e w2 ⟨rfl, bel⟩
    replace st := nx6_II bel st
    clear bel
    go_wp2_with fail
    go_at_call 31
    refine (szU_no nb1x (q := 1048576 - (z0x.length : Int)) (by omega) (by omega) (by omega)).mono ?_
    rintro e w3 ⟨rfl, bel⟩
    replace st := nx6_II bel st
    clear bel
    go_wp2
    go_ret
    exact ⟨rfl, st.1⟩
  have hl0x : z0x.length ≤ 1048576 := by omega
  have HL0x : Hid (z0x.length ≤ 1048576) := hl0x
  have hl1x : z1x.length ≤ 1048576 := by omega
  have HL1x : Hid (z1x.length ≤ 1048576) := hl1x
  obtain ⟨qs, qr, rs, q1, hlen, hspec, himpl⟩ := agree s0 r0 z0x s1 r1 z1x hl0x hl1x
  have HN : Hid (rs.length ≤ 1000000) := hlen
  have hlen' : (rs.length : Int) ≤ 1000000 := by omega
  clear hlen
  have HSp := hid @hspec
  have HIm := hid @himpl
  clear hspec himpl hl0x hl1x
  go_enter Try.func14, Try.ntmps14
  go_wp2_with fail
  obtain ⟨w1, hW⟩ : ∃ w1, w1 = ((w.alloc (Obj.cells #[.int .i64 s0, .int .i64 r0, (Value.slice ao0x z0x.length cap0x)] 45)).alloc (Obj.cells #[.int .i64 s1, .int .i64 r1, (Value.slice ao1x z1x.length cap1x)] 45)) := ⟨_, rfl⟩
  obtain ⟨N0, hN0⟩ : ∃ N0, N0 = w.heap.size := ⟨_, rfl⟩
  obtain ⟨N1, hN1⟩ : ∃ N1, N1 = N0 + 1 := ⟨_, rfl⟩
  have st : Below w.heap.size w w1 ∧ w1.cell? ⟨N0, 0, none⟩ = some (.int .i64 s0) ∧ w1.cell? ⟨N0, 1, none⟩ = some (.int .i64 r0) ∧ w1.cell? ⟨N0, 2, none⟩ = some ((Value.slice ao0x z0x.length cap0x)) ∧ w1.cell? ⟨N1, 0, none⟩ = some (.int .i64 s1) ∧ w1.cell? ⟨N1, 1, none⟩ = some (.int .i64 r1) ∧ w1.cell? ⟨N1, 2, none⟩ = some ((Value.slice ao1x z1x.length cap1x)) ∧ Rd w1 b0x (Value.slice ao0x z0x.length cap0x) z0x ∧ Rd w1 b1x (Value.slice ao1x z1x.length cap1x) z1x ∧ w.heap.size ≤ w1.heap.size := by
    rw [hW, hN1, hN0]
    exact ⟨Go.Joins.below_alloc2 _ _ _, by simp, by simp, by simp, by simp, by simp, by simp, H0x.out.keep (Go.Joins.below_alloc2 _ _ _) (Nat.le_refl _), H1x.out.keep (Go.Joins.below_alloc2 _ _ _) (Nat.le_refl _), by simp <;> omega⟩
  simp only [← hW, ← hN0, ← hN1]
  clear hW hN0 hN1
  go_at_call 31
  refine (szU_ok nb0x (q := 1048576) (by omega) (by omega) (by omega)).mono ?_
  rintro e w2 ⟨rfl, bel⟩
  replace st := nx6_II bel st
  clear bel
  go_wp2_with fail
  go_at_call 31
  refine (szU_ok nb1x (q := 1048576 - (z0x.length : Int)) (by omega) (by omega) (by omega)).mono ?_
  rintro e w3 ⟨rfl, bel⟩
  replace st := nx6_II bel st
  clear bel
  go_upto_region 8 with fail
  go_cut [6, 7] from 27 (fun p y0 wc => ∃ (NW bW : Nat) (aoW : Option Addr) (cW : Nat), p = .pointer (some ⟨NW, 0, none⟩) ∧ y0 = .bool q1 ∧ (Below w.heap.size w wc ∧ wc.cell? ⟨N0, 0, none⟩ = some (.int .i64 s0) ∧ wc.cell? ⟨N0, 1, none⟩ = some (.int .i64 r0) ∧ wc.cell? ⟨N0, 2, none⟩ = some ((Value.slice ao0x z0x.length cap0x)) ∧ wc.cell? ⟨N1, 0, none⟩ = some (.int .i64 s1) ∧ wc.cell? ⟨N1, 1, none⟩ = some (.int .i64 r1) ∧ wc.cell? ⟨N1, 2, none⟩ = some ((Value.slice ao1x z1x.length cap1x)) ∧ wc.cell? ⟨NW, 0, none⟩ = some (.int .i64 qs) ∧ wc.cell? ⟨NW, 1, none⟩ = some (.int .i64 qr) ∧ wc.cell? ⟨NW, 2, none⟩ = some ((Value.slice aoW rs.length cW)) ∧ Rd wc b0x (Value.slice ao0x z0x.length cap0x) z0x ∧ Rd wc b1x (Value.slice ao1x z1x.length cap1x) z1x ∧ w.heap.size ≤ wc.heap.size) ∧ Own 2 wc bW (Value.slice aoW rs.length cW) rs)
  case first =>
    refine wp_region_held_drew (S := (fun ww => Below w.heap.size w ww ∧ ww.cell? ⟨N0, 0, none⟩ = some (.int .i64 s0) ∧ ww.cell? ⟨N0, 1, none⟩ = some (.int .i64 r0) ∧ ww.cell? ⟨N0, 2, none⟩ = some ((Value.slice ao0x z0x.length cap0x)) ∧ ww.cell? ⟨N1, 0, none⟩ = some (.int .i64 s1) ∧ ww.cell? ⟨N1, 1, none⟩ = some (.int .i64 r1) ∧ ww.cell? ⟨N1, 2, none⟩ = some ((Value.slice ao1x z1x.length cap1x)) ∧ Rd ww b0x (Value.slice ao0x z0x.length cap0x) z0x ∧ Rd ww b1x (Value.slice ao1x z1x.length cap1x) z1x ∧ w.heap.size ≤ ww.heap.size)) (by kernel_rfl) ?_ (fun hHeld => ?_)
    · ((try dsimp only); exact drw6_II st)
    clear st
    generalize hDr : w3.drew = wD at hHeld  ⊢
    clear hDr
    have HD0 := hid hHeld
    have belD : Below wD.heap.size wD wD := Below.refl _ _
    (refine wpAnyH_take (i := 0) (v := ?_) rfl ?_ ?_ ?_ (fun _ _ _ h => h) (Or.inl ⟨?_, ?_⟩) ?_ ?_; rotate_left 1; (focus decide +kernel); (focus decide +kernel); (focus decide +kernel); (focus rfl); (focus (intro w hSw; (try dsimp only at hSw); go_simp; (try (with_reducible rfl)); done)); (focus assumption); (try simp only [Act.put, List.setIfInBounds_toArray, List.set_cons_zero, List.set_cons_succ, List.getElem_toArray, List.getElem_cons_succ, List.getElem_cons_zero]))
    (refine wpAnyH_take (i := 2) (v := ?_) rfl ?_ ?_ ?_ (fun _ _ _ h => h) (Or.inl ⟨?_, ?_⟩) ?_ ?_; rotate_left 1; (focus decide +kernel); (focus decide +kernel); (focus decide +kernel); (focus rfl); (focus (intro w hSw; (try dsimp only at hSw); go_simp; (try (with_reducible rfl)); done)); (focus assumption); (try simp only [Act.put, List.setIfInBounds_toArray, List.set_cons_zero, List.set_cons_succ, List.getElem_toArray, List.getElem_cons_succ, List.getElem_cons_zero]))
    refine wpAnyH_ready (rs := [1, 8]) ?_ (by simp) ?_
    · decide +kernel
    refine AllReadyH.cons rfl (fun K hK => ?_) (AllReadyH.cons rfl (fun K hK => ?_) AllReadyH.nil)
    · go_simp
      go_at_call 33
      refine (toR (rdx6_II_0 hHeld) HL0x.out).mono ?_
      rintro e wp0 ⟨bp0x, rfl, op0x, lo, bel⟩
      clear lo
      replace belD := belD.trans (bel.mono belD.size)
      refine hK.out _ _ ?_ (fun hHeld2 => ?_)
      · (try dsimp only); exact nx6_II belD HD0.out
      clear hK K hHeld
      have hHeld := hHeld2
      clear hHeld2
      clear bel
      (try simp only [Act.put, List.setIfInBounds_toArray, List.set_cons_zero, List.set_cons_succ, List.getElem_toArray, List.getElem_cons_succ, List.getElem_cons_zero])
      refine wpAnyH_ready (rs := [3, 8]) ?_ (by simp) ?_
      · decide +kernel
      refine AllReadyH.cons rfl (fun K hK => ?_) (AllReadyH.cons rfl (fun K hK => ?_) AllReadyH.nil)
      · go_simp
        go_at_call 33
        refine (toR (rdx6_II_1 hHeld) HL1x.out).mono ?_
        rintro e wp1 ⟨bp1x, rfl, op1x, lo, bel⟩
        clear lo
        replace belD := belD.trans (bel.mono belD.size)
        replace op0x := op0x.keep bel
        refine hK.out _ _ ?_ (fun hHeld2 => ?_)
        · (try dsimp only); exact nx6_II belD HD0.out
        clear hK K hHeld
        have hHeld := hHeld2
        clear hHeld2
        clear bel
        (try simp only [Act.put, List.setIfInBounds_toArray, List.set_cons_zero, List.set_cons_succ, List.getElem_toArray, List.getElem_cons_succ, List.getElem_cons_zero])
        refine wpAnyH_ready (rs := [4, 8]) ?_ (by simp) ?_
        · decide +kernel
        refine AllReadyH.cons rfl (fun K hK => ?_) (AllReadyH.cons rfl (fun K hK => ?_) AllReadyH.nil)
        · go_simp
          go_at_call 59
          refine (HSp.out _ _ _ _ _ op0x.rd op1x.rd).mono ?_
          rintro e wS ⟨aoW, cW, bW, rfl, oW, lo, bel⟩
          clear op0x op1x lo
          replace belD := belD.trans (bel.mono belD.size)
          refine hK.out _ _ ?_ (fun hHeld2 => ?_)
          · (try dsimp only); exact nx6_II belD HD0.out
          clear hK K hHeld
          have hHeld := hHeld2
          clear hHeld2
          clear bel
          (try simp only [Act.put, List.setIfInBounds_toArray, List.set_cons_zero, List.set_cons_succ, List.getElem_toArray, List.getElem_cons_succ, List.getElem_cons_zero])
          (refine wpAnyH_take (i := 5) (v := ?_) rfl ?_ ?_ ?_ (fun _ _ _ h => h) (Or.inl ⟨?_, ?_⟩) ?_ ?_; rotate_left 1; (focus decide +kernel); (focus decide +kernel); (focus decide +kernel); (focus rfl); (focus (intro w hSw; (try dsimp only at hSw); go_simp; (try (with_reducible rfl)); done)); (focus assumption); (try simp only [Act.put, List.setIfInBounds_toArray, List.set_cons_zero, List.set_cons_succ, List.getElem_toArray, List.getElem_cons_succ, List.getElem_cons_zero]))
          (refine wpAnyH_take (i := 6) (v := ?_) rfl ?_ ?_ ?_ (fun _ _ _ h => h) (Or.inl ⟨?_, ?_⟩) ?_ ?_; rotate_left 1; (focus decide +kernel); (focus decide +kernel); (focus decide +kernel); (focus rfl); (focus (intro w hSw; (try dsimp only at hSw); go_simp; (try (with_reducible rfl)); done)); (focus assumption); (try simp only [Act.put, List.setIfInBounds_toArray, List.set_cons_zero, List.set_cons_succ, List.getElem_toArray, List.getElem_cons_succ, List.getElem_cons_zero]))
          (refine wpAnyH_take (i := 7) (v := ?_) rfl ?_ ?_ ?_ (fun _ _ _ h => h) (Or.inl ⟨?_, ?_⟩) ?_ ?_; rotate_left 1; (focus decide +kernel); (focus decide +kernel); (focus decide +kernel); (focus rfl); (focus (intro w hSw; (try dsimp only at hSw); go_simp; (try (with_reducible rfl)); done)); (focus assumption); (try simp only [Act.put, List.setIfInBounds_toArray, List.set_cons_zero, List.set_cons_succ, List.getElem_toArray, List.getElem_cons_succ, List.getElem_cons_zero]))
          refine wpAnyH_ready (rs := [8]) ?_ (by simp) ?_
          · decide +kernel
          refine AllReadyH.cons rfl (fun K hK => ?_) AllReadyH.nil
          go_simp
          have bel := Rule.below1 wS (Obj.cells #[.int .i64 0, .int .i64 0, .slice none 0 0] 50)
          have lmS := belD.size
          have nBX0 : (Value.slice aoW rs.length cW) = Value.slice none 0 0 ∨ wS.heap.size ≠ bW := (lim oW).imp id Nat.ne_of_gt
          have kB : (wS.alloc (Obj.cells #[.int .i64 0, .int .i64 0, .slice none 0 0] 50)).heap[wS.heap.size]? = some (Obj.cells #[.int .i64 0, .int .i64 0, .slice none 0 0] 50) := heap_top0 _ _
          replace belD := belD.trans (bel.mono belD.size)
          replace oW := oW.keep bel
          refine hK.out _ _ ?_ (fun hHeld2 => ?_)
          · (try dsimp only); exact nx6_II belD HD0.out
          clear hK K hHeld bel
          obtain ⟨va, hWa⟩ : ∃ va, va = wS.alloc (Obj.cells #[.int .i64 0, .int .i64 0, .slice none 0 0] 50) := ⟨_, rfl⟩
          obtain ⟨NB, hNa⟩ : ∃ NB, NB = wS.heap.size := ⟨_, rfl⟩
          rw [← hWa] at belD oW
          rw [← hWa, ← hNa] at kB
          have lmD : wD.heap.size ≤ NB := by rw [hNa]; exact lmS
          clear lmS
          rw [← hNa] at nBX0
          have nBW0 := nBX0
          clear nBX0
          (try dsimp only at hHeld2)
          simp only [← hWa, ← hNa] at hHeld2 ⊢
          clear hWa hNa
          have hHeld := hHeld2
          clear hHeld2
          (try simp only [Act.put, List.setIfInBounds_toArray, List.set_cons_zero, List.set_cons_succ, List.getElem_toArray, List.getElem_cons_succ, List.getElem_cons_zero])
          refine wpAnyH_ready (rs := [9]) ?_ (by simp) ?_
          · decide +kernel
          refine AllReadyH.cons rfl (fun K hK => ?_) AllReadyH.nil
          have y0 : va.cell? ⟨NB, 0, none⟩ = some (.int .i64 0) := Go.Joins.cell_of_block kB 0
          have y1 : va.cell? ⟨NB, 1, none⟩ = some (.int .i64 0) := Go.Joins.cell_of_block kB 1
          have y2 : va.cell? ⟨NB, 2, none⟩ = some (.slice none 0 0) := Go.Joins.cell_of_block kB 2
          have g0 : va.frozen? ⟨NB, 0, none⟩ = false := Go.Joins.unfrozen_of_block kB 0
          have g1 : va.frozen? ⟨NB, 1, none⟩ = false := Go.Joins.unfrozen_of_block kB 1
          have g2 : va.frozen? ⟨NB, 2, none⟩ = false := Go.Joins.unfrozen_of_block kB 2
          have HKB := hid kB
          clear kB
          go_simp
          clear y0 g0 y1 g1 y2 g2
          have q0 := (Go.Joins.block_setCell (i := 2) (Go.Joins.block_setCell (i := 1) (Go.Joins.block_setCell (i := 0) HKB.out (.int .i64 qs)) (.int .i64 qr)) ((Value.slice aoW rs.length cW)))
          have oz0 := (own_setB (own_setB (own_setB oW ⟨NB, 0, none⟩ (.int .i64 qs) nBW0) ⟨NB, 1, none⟩ (.int .i64 qr) nBW0) ⟨NB, 2, none⟩ ((Value.slice aoW rs.length cW)) nBW0)
          have bz := (((belD.setCell (p := ⟨NB, 0, none⟩) lmD (.int .i64 qs)).setCell (p := ⟨NB, 1, none⟩) lmD (.int .i64 qr)).setCell (p := ⟨NB, 2, none⟩) lmD ((Value.slice aoW rs.length cW)))
          obtain ⟨W5, hW5⟩ : ∃ W5, W5 = (((va.setCell ⟨NB, 0, none⟩ (.int .i64 qs)).setCell ⟨NB, 1, none⟩ (.int .i64 qr)).setCell ⟨NB, 2, none⟩ ((Value.slice aoW rs.length cW))) := ⟨_, rfl⟩
          rw [← hW5] at q0 oz0 bz
          have z0 : W5.cell? ⟨NB, 0, none⟩ = some (.int .i64 qs) := Go.Joins.cell_of_block q0 0
          have z1 : W5.cell? ⟨NB, 1, none⟩ = some (.int .i64 qr) := Go.Joins.cell_of_block q0 1
          have z2 : W5.cell? ⟨NB, 2, none⟩ = some ((Value.slice aoW rs.length cW)) := Go.Joins.cell_of_block q0 2
          refine hK.out _ _ ?_ (fun hHeld2 => ?_)
          · (try dsimp only); rw [← hW5]; exact nx6_II bz HD0.out
          clear hK K hHeld
          (try dsimp only at hHeld2)
          simp only [← hW5] at hHeld2 ⊢
          clear hW5 q0
          have hfin : (Below w.heap.size w W5 ∧ W5.cell? ⟨N0, 0, none⟩ = some (.int .i64 s0) ∧ W5.cell? ⟨N0, 1, none⟩ = some (.int .i64 r0) ∧ W5.cell? ⟨N0, 2, none⟩ = some ((Value.slice ao0x z0x.length cap0x)) ∧ W5.cell? ⟨N1, 0, none⟩ = some (.int .i64 s1) ∧ W5.cell? ⟨N1, 1, none⟩ = some (.int .i64 r1) ∧ W5.cell? ⟨N1, 2, none⟩ = some ((Value.slice ao1x z1x.length cap1x)) ∧ W5.cell? ⟨NB, 0, none⟩ = some (.int .i64 qs) ∧ W5.cell? ⟨NB, 1, none⟩ = some (.int .i64 qr) ∧ W5.cell? ⟨NB, 2, none⟩ = some ((Value.slice aoW rs.length cW)) ∧ Rd W5 b0x (Value.slice ao0x z0x.length cap0x) z0x ∧ Rd W5 b1x (Value.slice ao1x z1x.length cap1x) z1x ∧ w.heap.size ≤ W5.heap.size) ∧ Own 2 W5 bW (Value.slice aoW rs.length cW) rs := by
            obtain ⟨t0, k0, k1, k2, k3, k4, k5, d0, d1, tz⟩ := nx6_II bz HD0.out
            exact ⟨⟨t0, k0, k1, k2, k3, k4, k5, z0, z1, z2, d0, d1, tz⟩, oz0⟩
          have HF := hid hfin
          clear hfin z0 z1 z2 oz0 bz oW belD HKB HD0
          have hHeld := hHeld2
          clear hHeld2
          (try simp only [Act.put, List.setIfInBounds_toArray, List.set_cons_zero, List.set_cons_succ, List.getElem_toArray, List.getElem_cons_succ, List.getElem_cons_zero])
          (refine wpAnyH_take (i := 10) (v := ?_) rfl ?_ ?_ ?_ (fun _ _ _ h => h) (Or.inl ⟨?_, ?_⟩) ?_ ?_; rotate_left 1; (focus decide +kernel); (focus decide +kernel); (focus decide +kernel); (focus rfl); (focus (intro w hSw; (try dsimp only at hSw); go_simp; (try (with_reducible rfl)); done)); (focus assumption); (try simp only [Act.put, List.setIfInBounds_toArray, List.set_cons_zero, List.set_cons_succ, List.getElem_toArray, List.getElem_cons_succ, List.getElem_cons_zero]))
          refine wpAnyH_done (by kernel_rfl) ?_ _
          clear hHeld
          go_wp2_with fail
          go_meet
          case rel => exact ⟨NB, bW, aoW, cW, rfl, rfl, HF.out⟩
        · go_simp
          have bel := Rule.below1 wp1 (Obj.cells #[.int .i64 0, .int .i64 0, .slice none 0 0] 50)
          have lmS := belD.size
          have kB : (wp1.alloc (Obj.cells #[.int .i64 0, .int .i64 0, .slice none 0 0] 50)).heap[wp1.heap.size]? = some (Obj.cells #[.int .i64 0, .int .i64 0, .slice none 0 0] 50) := heap_top0 _ _
          replace belD := belD.trans (bel.mono belD.size)
          replace op0x := op0x.keep bel
          replace op1x := op1x.keep bel
          refine hK.out _ _ ?_ (fun hHeld2 => ?_)
          · (try dsimp only); exact nx6_II belD HD0.out
          clear hK K hHeld bel
          obtain ⟨va, hWa⟩ : ∃ va, va = wp1.alloc (Obj.cells #[.int .i64 0, .int .i64 0, .slice none 0 0] 50) := ⟨_, rfl⟩
          obtain ⟨NB, hNa⟩ : ∃ NB, NB = wp1.heap.size := ⟨_, rfl⟩
          rw [← hWa] at belD op0x op1x
          rw [← hWa, ← hNa] at kB
          have lmD : wD.heap.size ≤ NB := by rw [hNa]; exact lmS
          clear lmS
          (try dsimp only at hHeld2)
          simp only [← hWa, ← hNa] at hHeld2 ⊢
          clear hWa hNa
          have hHeld := hHeld2
          clear hHeld2
          (try simp only [Act.put, List.setIfInBounds_toArray, List.set_cons_zero, List.set_cons_succ, List.getElem_toArray, List.getElem_cons_succ, List.getElem_cons_zero])
          refine wpAnyH_ready (rs := [4]) ?_ (by simp) ?_
          · decide +kernel
          refine AllReadyH.cons rfl (fun K hK => ?_) AllReadyH.nil
          go_simp
          go_at_call 59
          refine (HSp.out _ _ _ _ _ op0x.rd op1x.rd).mono ?_
          rintro e wS ⟨aoW, cW, bW, rfl, oW, lo, bel⟩
          have nBW0 : (Value.slice aoW rs.length cW) = Value.slice none 0 0 ∨ NB ≠ bW := .inr <| Nat.ne_of_lt (Nat.lt_of_lt_of_le (Array.getElem?_eq_some_iff.1 kB).1 lo)
          clear op0x op1x lo
          replace belD := belD.trans (bel.mono belD.size)
          replace kB := heap_keep bel kB
          refine hK.out _ _ ?_ (fun hHeld2 => ?_)
          · (try dsimp only); exact nx6_II belD HD0.out
          clear hK K hHeld
          have hHeld := hHeld2
          clear hHeld2
          clear bel
          (try simp only [Act.put, List.setIfInBounds_toArray, List.set_cons_zero, List.set_cons_succ, List.getElem_toArray, List.getElem_cons_succ, List.getElem_cons_zero])
          (refine wpAnyH_take (i := 5) (v := ?_) rfl ?_ ?_ ?_ (fun _ _ _ h => h) (Or.inl ⟨?_, ?_⟩) ?_ ?_; rotate_left 1; (focus decide +kernel); (focus decide +kernel); (focus decide +kernel); (focus rfl); (focus (intro w hSw; (try dsimp only at hSw); go_simp; (try (with_reducible rfl)); done)); (focus assumption); (try simp only [Act.put, List.setIfInBounds_toArray, List.set_cons_zero, List.set_cons_succ, List.getElem_toArray, List.getElem_cons_succ, List.getElem_cons_zero]))
          (refine wpAnyH_take (i := 6) (v := ?_) rfl ?_ ?_ ?_ (fun _ _ _ h => h) (Or.inl ⟨?_, ?_⟩) ?_ ?_; rotate_left 1; (focus decide +kernel); (focus decide +kernel); (focus decide +kernel); (focus rfl); (focus (intro w hSw; (try dsimp only at hSw); go_simp; (try (with_reducible rfl)); done)); (focus assumption); (try simp only [Act.put, List.setIfInBounds_toArray, List.set_cons_zero, List.set_cons_succ, List.getElem_toArray, List.getElem_cons_succ, List.getElem_cons_zero]))
          (refine wpAnyH_take (i := 7) (v := ?_) rfl ?_ ?_ ?_ (fun _ _ _ h => h) (Or.inl ⟨?_, ?_⟩) ?_ ?_; rotate_left 1; (focus decide +kernel); (focus decide +kernel); (focus decide +kernel); (focus rfl); (focus (intro w hSw; (try dsimp only at hSw); go_simp; (try (with_reducible rfl)); done)); (focus assumption); (try simp only [Act.put, List.setIfInBounds_toArray, List.set_cons_zero, List.set_cons_succ, List.getElem_toArray, List.getElem_cons_succ, List.getElem_cons_zero]))
          refine wpAnyH_ready (rs := [9]) ?_ (by simp) ?_
          · decide +kernel
          refine AllReadyH.cons rfl (fun K hK => ?_) AllReadyH.nil
          have y0 : wS.cell? ⟨NB, 0, none⟩ = some (.int .i64 0) := Go.Joins.cell_of_block kB 0
          have y1 : wS.cell? ⟨NB, 1, none⟩ = some (.int .i64 0) := Go.Joins.cell_of_block kB 1
          have y2 : wS.cell? ⟨NB, 2, none⟩ = some (.slice none 0 0) := Go.Joins.cell_of_block kB 2
          have g0 : wS.frozen? ⟨NB, 0, none⟩ = false := Go.Joins.unfrozen_of_block kB 0
          have g1 : wS.frozen? ⟨NB, 1, none⟩ = false := Go.Joins.unfrozen_of_block kB 1
          have g2 : wS.frozen? ⟨NB, 2, none⟩ = false := Go.Joins.unfrozen_of_block kB 2
          have HKB := hid kB
          clear kB
          go_simp
          clear y0 g0 y1 g1 y2 g2
          have q0 := (Go.Joins.block_setCell (i := 2) (Go.Joins.block_setCell (i := 1) (Go.Joins.block_setCell (i := 0) HKB.out (.int .i64 qs)) (.int .i64 qr)) ((Value.slice aoW rs.length cW)))
          have oz0 := (own_setB (own_setB (own_setB oW ⟨NB, 0, none⟩ (.int .i64 qs) nBW0) ⟨NB, 1, none⟩ (.int .i64 qr) nBW0) ⟨NB, 2, none⟩ ((Value.slice aoW rs.length cW)) nBW0)
          have bz := (((belD.setCell (p := ⟨NB, 0, none⟩) lmD (.int .i64 qs)).setCell (p := ⟨NB, 1, none⟩) lmD (.int .i64 qr)).setCell (p := ⟨NB, 2, none⟩) lmD ((Value.slice aoW rs.length cW)))
          obtain ⟨W5, hW5⟩ : ∃ W5, W5 = (((wS.setCell ⟨NB, 0, none⟩ (.int .i64 qs)).setCell ⟨NB, 1, none⟩ (.int .i64 qr)).setCell ⟨NB, 2, none⟩ ((Value.slice aoW rs.length cW))) := ⟨_, rfl⟩
          rw [← hW5] at q0 oz0 bz
          have z0 : W5.cell? ⟨NB, 0, none⟩ = some (.int .i64 qs) := Go.Joins.cell_of_block q0 0
          have z1 : W5.cell? ⟨NB, 1, none⟩ = some (.int .i64 qr) := Go.Joins.cell_of_block q0 1
          have z2 : W5.cell? ⟨NB, 2, none⟩ = some ((Value.slice aoW rs.length cW)) := Go.Joins.cell_of_block q0 2
          refine hK.out _ _ ?_ (fun hHeld2 => ?_)
          · (try dsimp only); rw [← hW5]; exact nx6_II bz HD0.out
          clear hK K hHeld
          (try dsimp only at hHeld2)
          simp only [← hW5] at hHeld2 ⊢
          clear hW5 q0
          have hfin : (Below w.heap.size w W5 ∧ W5.cell? ⟨N0, 0, none⟩ = some (.int .i64 s0) ∧ W5.cell? ⟨N0, 1, none⟩ = some (.int .i64 r0) ∧ W5.cell? ⟨N0, 2, none⟩ = some ((Value.slice ao0x z0x.length cap0x)) ∧ W5.cell? ⟨N1, 0, none⟩ = some (.int .i64 s1) ∧ W5.cell? ⟨N1, 1, none⟩ = some (.int .i64 r1) ∧ W5.cell? ⟨N1, 2, none⟩ = some ((Value.slice ao1x z1x.length cap1x)) ∧ W5.cell? ⟨NB, 0, none⟩ = some (.int .i64 qs) ∧ W5.cell? ⟨NB, 1, none⟩ = some (.int .i64 qr) ∧ W5.cell? ⟨NB, 2, none⟩ = some ((Value.slice aoW rs.length cW)) ∧ Rd W5 b0x (Value.slice ao0x z0x.length cap0x) z0x ∧ Rd W5 b1x (Value.slice ao1x z1x.length cap1x) z1x ∧ w.heap.size ≤ W5.heap.size) ∧ Own 2 W5 bW (Value.slice aoW rs.length cW) rs := by
            obtain ⟨t0, k0, k1, k2, k3, k4, k5, d0, d1, tz⟩ := nx6_II bz HD0.out
            exact ⟨⟨t0, k0, k1, k2, k3, k4, k5, z0, z1, z2, d0, d1, tz⟩, oz0⟩
          have HF := hid hfin
          clear hfin z0 z1 z2 oz0 bz oW belD HKB HD0
          have hHeld := hHeld2
          clear hHeld2
          (try simp only [Act.put, List.setIfInBounds_toArray, List.set_cons_zero, List.set_cons_succ, List.getElem_toArray, List.getElem_cons_succ, List.getElem_cons_zero])
          (refine wpAnyH_take (i := 10) (v := ?_) rfl ?_ ?_ ?_ (fun _ _ _ h => h) (Or.inl ⟨?_, ?_⟩) ?_ ?_; rotate_left 1; (focus decide +kernel); (focus decide +kernel); (focus decide +kernel); (focus rfl); (focus (intro w hSw; (try dsimp only at hSw); go_simp; (try (with_reducible rfl)); done)); (focus assumption); (try simp only [Act.put, List.setIfInBounds_toArray, List.set_cons_zero, List.set_cons_succ, List.getElem_toArray, List.getElem_cons_succ, List.getElem_cons_zero]))
          refine wpAnyH_done (by kernel_rfl) ?_ _
          clear hHeld
          go_wp2_with fail
          go_meet
          case rel => exact ⟨NB, bW, aoW, cW, rfl, rfl, HF.out⟩
      · go_simp
        have bel := Rule.below1 wp0 (Obj.cells #[.int .i64 0, .int .i64 0, .slice none 0 0] 50)
        have lmS := belD.size
        have kB : (wp0.alloc (Obj.cells #[.int .i64 0, .int .i64 0, .slice none 0 0] 50)).heap[wp0.heap.size]? = some (Obj.cells #[.int .i64 0, .int .i64 0, .slice none 0 0] 50) := heap_top0 _ _
        replace belD := belD.trans (bel.mono belD.size)
        replace op0x := op0x.keep bel
        refine hK.out _ _ ?_ (fun hHeld2 => ?_)
        · (try dsimp only); exact nx6_II belD HD0.out
        clear hK K hHeld bel
        obtain ⟨va, hWa⟩ : ∃ va, va = wp0.alloc (Obj.cells #[.int .i64 0, .int .i64 0, .slice none 0 0] 50) := ⟨_, rfl⟩
        obtain ⟨NB, hNa⟩ : ∃ NB, NB = wp0.heap.size := ⟨_, rfl⟩
        rw [← hWa] at belD op0x
        rw [← hWa, ← hNa] at kB
        have lmD : wD.heap.size ≤ NB := by rw [hNa]; exact lmS
        clear lmS
        (try dsimp only at hHeld2)
        simp only [← hWa, ← hNa] at hHeld2 ⊢
        clear hWa hNa
        have hHeld := hHeld2
        clear hHeld2
        (try simp only [Act.put, List.setIfInBounds_toArray, List.set_cons_zero, List.set_cons_succ, List.getElem_toArray, List.getElem_cons_succ, List.getElem_cons_zero])
        refine wpAnyH_ready (rs := [3]) ?_ (by simp) ?_
        · decide +kernel
        refine AllReadyH.cons rfl (fun K hK => ?_) AllReadyH.nil
        go_simp
        go_at_call 33
        refine (toR (rdx6_II_1 hHeld) HL1x.out).mono ?_
        rintro e wp1 ⟨bp1x, rfl, op1x, lo, bel⟩
        clear lo
        replace belD := belD.trans (bel.mono belD.size)
        replace op0x := op0x.keep bel
        replace kB := heap_keep bel kB
        refine hK.out _ _ ?_ (fun hHeld2 => ?_)
        · (try dsimp only); exact nx6_II belD HD0.out
        clear hK K hHeld
        have hHeld := hHeld2
        clear hHeld2
        clear bel
        (try simp only [Act.put, List.setIfInBounds_toArray, List.set_cons_zero, List.set_cons_succ, List.getElem_toArray, List.getElem_cons_succ, List.getElem_cons_zero])
        refine wpAnyH_ready (rs := [4]) ?_ (by simp) ?_
        · decide +kernel
        refine AllReadyH.cons rfl (fun K hK => ?_) AllReadyH.nil
        go_simp
        go_at_call 59
        refine (HSp.out _ _ _ _ _ op0x.rd op1x.rd).mono ?_
        rintro e wS ⟨aoW, cW, bW, rfl, oW, lo, bel⟩
        have nBW0 : (Value.slice aoW rs.length cW) = Value.slice none 0 0 ∨ NB ≠ bW := .inr <| Nat.ne_of_lt (Nat.lt_of_lt_of_le (Array.getElem?_eq_some_iff.1 kB).1 lo)
        clear op0x op1x lo
        replace belD := belD.trans (bel.mono belD.size)
        replace kB := heap_keep bel kB
        refine hK.out _ _ ?_ (fun hHeld2 => ?_)
        · (try dsimp only); exact nx6_II belD HD0.out
        clear hK K hHeld
        have hHeld := hHeld2
        clear hHeld2
        clear bel
        (try simp only [Act.put, List.setIfInBounds_toArray, List.set_cons_zero, List.set_cons_succ, List.getElem_toArray, List.getElem_cons_succ, List.getElem_cons_zero])
        (refine wpAnyH_take (i := 5) (v := ?_) rfl ?_ ?_ ?_ (fun _ _ _ h => h) (Or.inl ⟨?_, ?_⟩) ?_ ?_; rotate_left 1; (focus decide +kernel); (focus decide +kernel); (focus decide +kernel); (focus rfl); (focus (intro w hSw; (try dsimp only at hSw); go_simp; (try (with_reducible rfl)); done)); (focus assumption); (try simp only [Act.put, List.setIfInBounds_toArray, List.set_cons_zero, List.set_cons_succ, List.getElem_toArray, List.getElem_cons_succ, List.getElem_cons_zero]))
        (refine wpAnyH_take (i := 6) (v := ?_) rfl ?_ ?_ ?_ (fun _ _ _ h => h) (Or.inl ⟨?_, ?_⟩) ?_ ?_; rotate_left 1; (focus decide +kernel); (focus decide +kernel); (focus decide +kernel); (focus rfl); (focus (intro w hSw; (try dsimp only at hSw); go_simp; (try (with_reducible rfl)); done)); (focus assumption); (try simp only [Act.put, List.setIfInBounds_toArray, List.set_cons_zero, List.set_cons_succ, List.getElem_toArray, List.getElem_cons_succ, List.getElem_cons_zero]))
        (refine wpAnyH_take (i := 7) (v := ?_) rfl ?_ ?_ ?_ (fun _ _ _ h => h) (Or.inl ⟨?_, ?_⟩) ?_ ?_; rotate_left 1; (focus decide +kernel); (focus decide +kernel); (focus decide +kernel); (focus rfl); (focus (intro w hSw; (try dsimp only at hSw); go_simp; (try (with_reducible rfl)); done)); (focus assumption); (try simp only [Act.put, List.setIfInBounds_toArray, List.set_cons_zero, List.set_cons_succ, List.getElem_toArray, List.getElem_cons_succ, List.getElem_cons_zero]))
        refine wpAnyH_ready (rs := [9]) ?_ (by simp) ?_
        · decide +kernel
        refine AllReadyH.cons rfl (fun K hK => ?_) AllReadyH.nil
        have y0 : wS.cell? ⟨NB, 0, none⟩ = some (.int .i64 0) := Go.Joins.cell_of_block kB 0
        have y1 : wS.cell? ⟨NB, 1, none⟩ = some (.int .i64 0) := Go.Joins.cell_of_block kB 1
        have y2 : wS.cell? ⟨NB, 2, none⟩ = some (.slice none 0 0) := Go.Joins.cell_of_block kB 2
        have g0 : wS.frozen? ⟨NB, 0, none⟩ = false := Go.Joins.unfrozen_of_block kB 0
        have g1 : wS.frozen? ⟨NB, 1, none⟩ = false := Go.Joins.unfrozen_of_block kB 1
        have g2 : wS.frozen? ⟨NB, 2, none⟩ = false := Go.Joins.unfrozen_of_block kB 2
        have HKB := hid kB
        clear kB
        go_simp
        clear y0 g0 y1 g1 y2 g2
        have q0 := (Go.Joins.block_setCell (i := 2) (Go.Joins.block_setCell (i := 1) (Go.Joins.block_setCell (i := 0) HKB.out (.int .i64 qs)) (.int .i64 qr)) ((Value.slice aoW rs.length cW)))
        have oz0 := (own_setB (own_setB (own_setB oW ⟨NB, 0, none⟩ (.int .i64 qs) nBW0) ⟨NB, 1, none⟩ (.int .i64 qr) nBW0) ⟨NB, 2, none⟩ ((Value.slice aoW rs.length cW)) nBW0)
        have bz := (((belD.setCell (p := ⟨NB, 0, none⟩) lmD (.int .i64 qs)).setCell (p := ⟨NB, 1, none⟩) lmD (.int .i64 qr)).setCell (p := ⟨NB, 2, none⟩) lmD ((Value.slice aoW rs.length cW)))
        obtain ⟨W5, hW5⟩ : ∃ W5, W5 = (((wS.setCell ⟨NB, 0, none⟩ (.int .i64 qs)).setCell ⟨NB, 1, none⟩ (.int .i64 qr)).setCell ⟨NB, 2, none⟩ ((Value.slice aoW rs.length cW))) := ⟨_, rfl⟩
        rw [← hW5] at q0 oz0 bz
        have z0 : W5.cell? ⟨NB, 0, none⟩ = some (.int .i64 qs) := Go.Joins.cell_of_block q0 0
        have z1 : W5.cell? ⟨NB, 1, none⟩ = some (.int .i64 qr) := Go.Joins.cell_of_block q0 1
        have z2 : W5.cell? ⟨NB, 2, none⟩ = some ((Value.slice aoW rs.length cW)) := Go.Joins.cell_of_block q0 2
        refine hK.out _ _ ?_ (fun hHeld2 => ?_)
        · (try dsimp only); rw [← hW5]; exact nx6_II bz HD0.out
        clear hK K hHeld
        (try dsimp only at hHeld2)
        simp only [← hW5] at hHeld2 ⊢
        clear hW5 q0
        have hfin : (Below w.heap.size w W5 ∧ W5.cell? ⟨N0, 0, none⟩ = some (.int .i64 s0) ∧ W5.cell? ⟨N0, 1, none⟩ = some (.int .i64 r0) ∧ W5.cell? ⟨N0, 2, none⟩ = some ((Value.slice ao0x z0x.length cap0x)) ∧ W5.cell? ⟨N1, 0, none⟩ = some (.int .i64 s1) ∧ W5.cell? ⟨N1, 1, none⟩ = some (.int .i64 r1) ∧ W5.cell? ⟨N1, 2, none⟩ = some ((Value.slice ao1x z1x.length cap1x)) ∧ W5.cell? ⟨NB, 0, none⟩ = some (.int .i64 qs) ∧ W5.cell? ⟨NB, 1, none⟩ = some (.int .i64 qr) ∧ W5.cell? ⟨NB, 2, none⟩ = some ((Value.slice aoW rs.length cW)) ∧ Rd W5 b0x (Value.slice ao0x z0x.length cap0x) z0x ∧ Rd W5 b1x (Value.slice ao1x z1x.length cap1x) z1x ∧ w.heap.size ≤ W5.heap.size) ∧ Own 2 W5 bW (Value.slice aoW rs.length cW) rs := by
          obtain ⟨t0, k0, k1, k2, k3, k4, k5, d0, d1, tz⟩ := nx6_II bz HD0.out
          exact ⟨⟨t0, k0, k1, k2, k3, k4, k5, z0, z1, z2, d0, d1, tz⟩, oz0⟩
        have HF := hid hfin
        clear hfin z0 z1 z2 oz0 bz oW belD HKB HD0
        have hHeld := hHeld2
        clear hHeld2
        (try simp only [Act.put, List.setIfInBounds_toArray, List.set_cons_zero, List.set_cons_succ, List.getElem_toArray, List.getElem_cons_succ, List.getElem_cons_zero])
        (refine wpAnyH_take (i := 10) (v := ?_) rfl ?_ ?_ ?_ (fun _ _ _ h => h) (Or.inl ⟨?_, ?_⟩) ?_ ?_; rotate_left 1; (focus decide +kernel); (focus decide +kernel); (focus decide +kernel); (focus rfl); (focus (intro w hSw; (try dsimp only at hSw); go_simp; (try (with_reducible rfl)); done)); (focus assumption); (try simp only [Act.put, List.setIfInBounds_toArray, List.set_cons_zero, List.set_cons_succ, List.getElem_toArray, List.getElem_cons_succ, List.getElem_cons_zero]))
        refine wpAnyH_done (by kernel_rfl) ?_ _
        clear hHeld
        go_wp2_with fail
        go_meet
        case rel => exact ⟨NB, bW, aoW, cW, rfl, rfl, HF.out⟩
    · go_simp
      have bel := Rule.below1 wD (Obj.cells #[.int .i64 0, .int .i64 0, .slice none 0 0] 50)
      have lmS := belD.size
      have kB : (wD.alloc (Obj.cells #[.int .i64 0, .int .i64 0, .slice none 0 0] 50)).heap[wD.heap.size]? = some (Obj.cells #[.int .i64 0, .int .i64 0, .slice none 0 0] 50) := heap_top0 _ _
      replace belD := belD.trans (bel.mono belD.size)
      refine hK.out _ _ ?_ (fun hHeld2 => ?_)
      · (try dsimp only); exact nx6_II belD HD0.out
      clear hK K hHeld bel
      obtain ⟨va, hWa⟩ : ∃ va, va = wD.alloc (Obj.cells #[.int .i64 0, .int .i64 0, .slice none 0 0] 50) := ⟨_, rfl⟩
      obtain ⟨NB, hNa⟩ : ∃ NB, NB = wD.heap.size := ⟨_, rfl⟩
      rw [← hWa] at belD 
      rw [← hWa, ← hNa] at kB
      have lmD : wD.heap.size ≤ NB := by rw [hNa]; exact lmS
      clear lmS
      (try dsimp only at hHeld2)
      simp only [← hWa, ← hNa] at hHeld2 ⊢
      clear hWa hNa
      have hHeld := hHeld2
      clear hHeld2
      (try simp only [Act.put, List.setIfInBounds_toArray, List.set_cons_zero, List.set_cons_succ, List.getElem_toArray, List.getElem_cons_succ, List.getElem_cons_zero])
      refine wpAnyH_ready (rs := [1]) ?_ (by simp) ?_
      · decide +kernel
      refine AllReadyH.cons rfl (fun K hK => ?_) AllReadyH.nil
      go_simp
      go_at_call 33
      refine (toR (rdx6_II_0 hHeld) HL0x.out).mono ?_
      rintro e wp0 ⟨bp0x, rfl, op0x, lo, bel⟩
      clear lo
      replace belD := belD.trans (bel.mono belD.size)
      replace kB := heap_keep bel kB
      refine hK.out _ _ ?_ (fun hHeld2 => ?_)
      · (try dsimp only); exact nx6_II belD HD0.out
      clear hK K hHeld
      have hHeld := hHeld2
      clear hHeld2
      clear bel
      (try simp only [Act.put, List.setIfInBounds_toArray, List.set_cons_zero, List.set_cons_succ, List.getElem_toArray, List.getElem_cons_succ, List.getElem_cons_zero])
      refine wpAnyH_ready (rs := [3]) ?_ (by simp) ?_
      · decide +kernel
      refine AllReadyH.cons rfl (fun K hK => ?_) AllReadyH.nil
      go_simp
      go_at_call 33
      refine (toR (rdx6_II_1 hHeld) HL1x.out).mono ?_
      rintro e wp1 ⟨bp1x, rfl, op1x, lo, bel⟩
      clear lo
      replace belD := belD.trans (bel.mono belD.size)
      replace op0x := op0x.keep bel
      replace kB := heap_keep bel kB
      refine hK.out _ _ ?_ (fun hHeld2 => ?_)
      · (try dsimp only); exact nx6_II belD HD0.out
      clear hK K hHeld
      have hHeld := hHeld2
      clear hHeld2
      clear bel
      (try simp only [Act.put, List.setIfInBounds_toArray, List.set_cons_zero, List.set_cons_succ, List.getElem_toArray, List.getElem_cons_succ, List.getElem_cons_zero])
      refine wpAnyH_ready (rs := [4]) ?_ (by simp) ?_
      · decide +kernel
      refine AllReadyH.cons rfl (fun K hK => ?_) AllReadyH.nil
      go_simp
      go_at_call 59
      refine (HSp.out _ _ _ _ _ op0x.rd op1x.rd).mono ?_
      rintro e wS ⟨aoW, cW, bW, rfl, oW, lo, bel⟩
      have nBW0 : (Value.slice aoW rs.length cW) = Value.slice none 0 0 ∨ NB ≠ bW := .inr <| Nat.ne_of_lt (Nat.lt_of_lt_of_le (Array.getElem?_eq_some_iff.1 kB).1 lo)
      clear op0x op1x lo
      replace belD := belD.trans (bel.mono belD.size)
      replace kB := heap_keep bel kB
      refine hK.out _ _ ?_ (fun hHeld2 => ?_)
      · (try dsimp only); exact nx6_II belD HD0.out
      clear hK K hHeld
      have hHeld := hHeld2
      clear hHeld2
      clear bel
      (try simp only [Act.put, List.setIfInBounds_toArray, List.set_cons_zero, List.set_cons_succ, List.getElem_toArray, List.getElem_cons_succ, List.getElem_cons_zero])
      (refine wpAnyH_take (i := 5) (v := ?_) rfl ?_ ?_ ?_ (fun _ _ _ h => h) (Or.inl ⟨?_, ?_⟩) ?_ ?_; rotate_left 1; (focus decide +kernel); (focus decide +kernel); (focus decide +kernel); (focus rfl); (focus (intro w hSw; (try dsimp only at hSw); go_simp; (try (with_reducible rfl)); done)); (focus assumption); (try simp only [Act.put, List.setIfInBounds_toArray, List.set_cons_zero, List.set_cons_succ, List.getElem_toArray, List.getElem_cons_succ, List.getElem_cons_zero]))
      (refine wpAnyH_take (i := 6) (v := ?_) rfl ?_ ?_ ?_ (fun _ _ _ h => h) (Or.inl ⟨?_, ?_⟩) ?_ ?_; rotate_left 1; (focus decide +kernel); (focus decide +kernel); (focus decide +kernel); (focus rfl); (focus (intro w hSw; (try dsimp only at hSw); go_simp; (try (with_reducible rfl)); done)); (focus assumption); (try simp only [Act.put, List.setIfInBounds_toArray, List.set_cons_zero, List.set_cons_succ, List.getElem_toArray, List.getElem_cons_succ, List.getElem_cons_zero]))
      (refine wpAnyH_take (i := 7) (v := ?_) rfl ?_ ?_ ?_ (fun _ _ _ h => h) (Or.inl ⟨?_, ?_⟩) ?_ ?_; rotate_left 1; (focus decide +kernel); (focus decide +kernel); (focus decide +kernel); (focus rfl); (focus (intro w hSw; (try dsimp only at hSw); go_simp; (try (with_reducible rfl)); done)); (focus assumption); (try simp only [Act.put, List.setIfInBounds_toArray, List.set_cons_zero, List.set_cons_succ, List.getElem_toArray, List.getElem_cons_succ, List.getElem_cons_zero]))
      refine wpAnyH_ready (rs := [9]) ?_ (by simp) ?_
      · decide +kernel
      refine AllReadyH.cons rfl (fun K hK => ?_) AllReadyH.nil
      have y0 : wS.cell? ⟨NB, 0, none⟩ = some (.int .i64 0) := Go.Joins.cell_of_block kB 0
      have y1 : wS.cell? ⟨NB, 1, none⟩ = some (.int .i64 0) := Go.Joins.cell_of_block kB 1
      have y2 : wS.cell? ⟨NB, 2, none⟩ = some (.slice none 0 0) := Go.Joins.cell_of_block kB 2
      have g0 : wS.frozen? ⟨NB, 0, none⟩ = false := Go.Joins.unfrozen_of_block kB 0
      have g1 : wS.frozen? ⟨NB, 1, none⟩ = false := Go.Joins.unfrozen_of_block kB 1
      have g2 : wS.frozen? ⟨NB, 2, none⟩ = false := Go.Joins.unfrozen_of_block kB 2
      have HKB := hid kB
      clear kB
      go_simp
      clear y0 g0 y1 g1 y2 g2
      have q0 := (Go.Joins.block_setCell (i := 2) (Go.Joins.block_setCell (i := 1) (Go.Joins.block_setCell (i := 0) HKB.out (.int .i64 qs)) (.int .i64 qr)) ((Value.slice aoW rs.length cW)))
      have oz0 := (own_setB (own_setB (own_setB oW ⟨NB, 0, none⟩ (.int .i64 qs) nBW0) ⟨NB, 1, none⟩ (.int .i64 qr) nBW0) ⟨NB, 2, none⟩ ((Value.slice aoW rs.length cW)) nBW0)
      have bz := (((belD.setCell (p := ⟨NB, 0, none⟩) lmD (.int .i64 qs)).setCell (p := ⟨NB, 1, none⟩) lmD (.int .i64 qr)).setCell (p := ⟨NB, 2, none⟩) lmD ((Value.slice aoW rs.length cW)))
      obtain ⟨W5, hW5⟩ : ∃ W5, W5 = (((wS.setCell ⟨NB, 0, none⟩ (.int .i64 qs)).setCell ⟨NB, 1, none⟩ (.int .i64 qr)).setCell ⟨NB, 2, none⟩ ((Value.slice aoW rs.length cW))) := ⟨_, rfl⟩
      rw [← hW5] at q0 oz0 bz
      have z0 : W5.cell? ⟨NB, 0, none⟩ = some (.int .i64 qs) := Go.Joins.cell_of_block q0 0
      have z1 : W5.cell? ⟨NB, 1, none⟩ = some (.int .i64 qr) := Go.Joins.cell_of_block q0 1
      have z2 : W5.cell? ⟨NB, 2, none⟩ = some ((Value.slice aoW rs.length cW)) := Go.Joins.cell_of_block q0 2
      refine hK.out _ _ ?_ (fun hHeld2 => ?_)
      · (try dsimp only); rw [← hW5]; exact nx6_II bz HD0.out
      clear hK K hHeld
      (try dsimp only at hHeld2)
      simp only [← hW5] at hHeld2 ⊢
      clear hW5 q0
      have hfin : (Below w.heap.size w W5 ∧ W5.cell? ⟨N0, 0, none⟩ = some (.int .i64 s0) ∧ W5.cell? ⟨N0, 1, none⟩ = some (.int .i64 r0) ∧ W5.cell? ⟨N0, 2, none⟩ = some ((Value.slice ao0x z0x.length cap0x)) ∧ W5.cell? ⟨N1, 0, none⟩ = some (.int .i64 s1) ∧ W5.cell? ⟨N1, 1, none⟩ = some (.int .i64 r1) ∧ W5.cell? ⟨N1, 2, none⟩ = some ((Value.slice ao1x z1x.length cap1x)) ∧ W5.cell? ⟨NB, 0, none⟩ = some (.int .i64 qs) ∧ W5.cell? ⟨NB, 1, none⟩ = some (.int .i64 qr) ∧ W5.cell? ⟨NB, 2, none⟩ = some ((Value.slice aoW rs.length cW)) ∧ Rd W5 b0x (Value.slice ao0x z0x.length cap0x) z0x ∧ Rd W5 b1x (Value.slice ao1x z1x.length cap1x) z1x ∧ w.heap.size ≤ W5.heap.size) ∧ Own 2 W5 bW (Value.slice aoW rs.length cW) rs := by
        obtain ⟨t0, k0, k1, k2, k3, k4, k5, d0, d1, tz⟩ := nx6_II bz HD0.out
        exact ⟨⟨t0, k0, k1, k2, k3, k4, k5, z0, z1, z2, d0, d1, tz⟩, oz0⟩
      have HF := hid hfin
      clear hfin z0 z1 z2 oz0 bz oW belD HKB HD0
      have hHeld := hHeld2
      clear hHeld2
      (try simp only [Act.put, List.setIfInBounds_toArray, List.set_cons_zero, List.set_cons_succ, List.getElem_toArray, List.getElem_cons_succ, List.getElem_cons_zero])
      (refine wpAnyH_take (i := 10) (v := ?_) rfl ?_ ?_ ?_ (fun _ _ _ h => h) (Or.inl ⟨?_, ?_⟩) ?_ ?_; rotate_left 1; (focus decide +kernel); (focus decide +kernel); (focus decide +kernel); (focus rfl); (focus (intro w hSw; (try dsimp only at hSw); go_simp; (try (with_reducible rfl)); done)); (focus assumption); (try simp only [Act.put, List.setIfInBounds_toArray, List.set_cons_zero, List.set_cons_succ, List.getElem_toArray, List.getElem_cons_succ, List.getElem_cons_zero]))
      refine wpAnyH_done (by kernel_rfl) ?_ _
      clear hHeld
      go_wp2_with fail
      go_meet
      case rel => exact ⟨NB, bW, aoW, cW, rfl, rfl, HF.out⟩
  clear st
  obtain ⟨NW, bW, aoW, cW, rfl, rfl, st, oW⟩ := hcut
  rename World => w4
  go_wp2_with fail
  go_at_call 33
  refine (toR (rdx9_II_0 st) HL0x.out).mono ?_
  rintro e w5 ⟨bx0x, rfl, ox0x, lo, bel⟩
  have neW_x0x := (lim oW).imp id (fun hx => (Nat.ne_of_lt (Nat.lt_of_lt_of_le hx lo) : bW ≠ bx0x))
  have cbx0x : w.heap.size ≤ bx0x := Nat.le_trans (And.left st).size lo
  have nbN0_x0x : (Value.slice (some ⟨bx0x, 0, none⟩) z0x.length z0x.length) = Value.slice none 0 0 ∨ N0 ≠ bx0x := .inr (Nat.ne_of_lt (Nat.lt_of_lt_of_le (World.block_lt_of_cell? _ _ st.2.1) lo))
  have nbN1_x0x : (Value.slice (some ⟨bx0x, 0, none⟩) z0x.length z0x.length) = Value.slice none 0 0 ∨ N1 ≠ bx0x := .inr (Nat.ne_of_lt (Nat.lt_of_lt_of_le (World.block_lt_of_cell? _ _ st.2.2.2.2.1) lo))
  have nbNW_x0x : (Value.slice (some ⟨bx0x, 0, none⟩) z0x.length z0x.length) = Value.slice none 0 0 ∨ NW ≠ bx0x := .inr (Nat.ne_of_lt (Nat.lt_of_lt_of_le (World.block_lt_of_cell? _ _ st.2.2.2.2.2.2.2.1) lo))
  replace st := nx9_II bel st
  replace oW := oW.keep bel
  clear bel
  clear lo
  obtain ⟨w7, hW⟩ : ∃ w7, w7 = w5.alloc (Obj.cells #[.int .i64 s0, .int .i64 r0, (Value.slice (some ⟨bx0x, 0, none⟩) z0x.length z0x.length)] 50) := ⟨_, rfl⟩
  obtain ⟨NX0, hN⟩ : ∃ NX0, NX0 = w5.heap.size := ⟨_, rfl⟩
  have nbNX0_W : (Value.slice aoW rs.length cW) = Value.slice none 0 0 ∨ NX0 ≠ bW := (lim oW).imp id (fun hx => by rw [hN]; exact Nat.ne_of_gt hx)
  have nbNX0_x0x : (Value.slice (some ⟨bx0x, 0, none⟩) z0x.length z0x.length) = Value.slice none 0 0 ∨ NX0 ≠ bx0x := (lim ox0x).imp id (fun hx => by rw [hN]; exact Nat.ne_of_gt hx)
  have bel : Below w5.heap.size w5 w7 := by rw [hW]; exact Rule.below1 _ _
  have st' : Below w.heap.size w w7 ∧ w7.cell? ⟨N0, 0, none⟩ = some (.int .i64 s0) ∧ w7.cell? ⟨N0, 1, none⟩ = some (.int .i64 r0) ∧ w7.cell? ⟨N0, 2, none⟩ = some ((Value.slice ao0x z0x.length cap0x)) ∧ w7.cell? ⟨N1, 0, none⟩ = some (.int .i64 s1) ∧ w7.cell? ⟨N1, 1, none⟩ = some (.int .i64 r1) ∧ w7.cell? ⟨N1, 2, none⟩ = some ((Value.slice ao1x z1x.length cap1x)) ∧ w7.cell? ⟨NW, 0, none⟩ = some (.int .i64 qs) ∧ w7.cell? ⟨NW, 1, none⟩ = some (.int .i64 qr) ∧ w7.cell? ⟨NW, 2, none⟩ = some ((Value.slice aoW rs.length cW)) ∧ w7.cell? ⟨NX0, 0, none⟩ = some (.int .i64 s0) ∧ w7.cell? ⟨NX0, 1, none⟩ = some (.int .i64 r0) ∧ w7.cell? ⟨NX0, 2, none⟩ = some ((Value.slice (some ⟨bx0x, 0, none⟩) z0x.length z0x.length)) ∧ Rd w7 b0x (Value.slice ao0x z0x.length cap0x) z0x ∧ Rd w7 b1x (Value.slice ao1x z1x.length cap1x) z1x ∧ w.heap.size ≤ w7.heap.size := by
    obtain ⟨t0, c0, c1, c2, c3, c4, c5, c6, c7, c8, d0, d1, tz⟩ := nx9_II bel st
    exact ⟨t0, c0, c1, c2, c3, c4, c5, c6, c7, c8, by rw [hW, hN]; simp, by rw [hW, hN]; simp, by rw [hW, hN]; simp, d0, d1, tz⟩
  replace oW := oW.keep bel
  replace ox0x := ox0x.keep bel
  clear st bel; have st := st'; clear st'
  have stp := st
  rw [hW, hN] at stp
  go_wp2_with fail
  clear stp
  simp only [← hW, ← hN]
  clear hW hN
  go_at_call 33
  refine (toR (rdx12_II_1 st) HL1x.out).mono ?_
  rintro e w6 ⟨bx1x, rfl, ox1x, lo, bel⟩
  have neW_x1x := (lim oW).imp id (fun hx => (Nat.ne_of_lt (Nat.lt_of_lt_of_le hx lo) : bW ≠ bx1x))
  have nex0x_x1x := (lim ox0x).imp id (fun hx => (Nat.ne_of_lt (Nat.lt_of_lt_of_le hx lo) : bx0x ≠ bx1x))
  have cbx1x : w.heap.size ≤ bx1x := Nat.le_trans (And.left st).size lo
  have nbN0_x1x : (Value.slice (some ⟨bx1x, 0, none⟩) z1x.length z1x.length) = Value.slice none 0 0 ∨ N0 ≠ bx1x := .inr (Nat.ne_of_lt (Nat.lt_of_lt_of_le (World.block_lt_of_cell? _ _ st.2.1) lo))
  have nbN1_x1x : (Value.slice (some ⟨bx1x, 0, none⟩) z1x.length z1x.length) = Value.slice none 0 0 ∨ N1 ≠ bx1x := .inr (Nat.ne_of_lt (Nat.lt_of_lt_of_le (World.block_lt_of_cell? _ _ st.2.2.2.2.1) lo))
  have nbNW_x1x : (Value.slice (some ⟨bx1x, 0, none⟩) z1x.length z1x.length) = Value.slice none 0 0 ∨ NW ≠ bx1x := .inr (Nat.ne_of_lt (Nat.lt_of_lt_of_le (World.block_lt_of_cell? _ _ st.2.2.2.2.2.2.2.1) lo))
  have nbNX0_x1x : (Value.slice (some ⟨bx1x, 0, none⟩) z1x.length z1x.length) = Value.slice none 0 0 ∨ NX0 ≠ bx1x := .inr (Nat.ne_of_lt (Nat.lt_of_lt_of_le (World.block_lt_of_cell? _ _ st.2.2.2.2.2.2.2.2.2.2.1) lo))
  replace st := nx12_II bel st
  replace oW := oW.keep bel
  replace ox0x := ox0x.keep bel
  clear bel
  clear lo
  obtain ⟨w9, hW⟩ : ∃ w9, w9 = w6.alloc (Obj.cells #[.int .i64 s1, .int .i64 r1, (Value.slice (some ⟨bx1x, 0, none⟩) z1x.length z1x.length)] 50) := ⟨_, rfl⟩
  obtain ⟨NX1, hN⟩ : ∃ NX1, NX1 = w6.heap.size := ⟨_, rfl⟩
  have nbNX1_W : (Value.slice aoW rs.length cW) = Value.slice none 0 0 ∨ NX1 ≠ bW := (lim oW).imp id (fun hx => by rw [hN]; exact Nat.ne_of_gt hx)
  have nbNX1_x0x : (Value.slice (some ⟨bx0x, 0, none⟩) z0x.length z0x.length) = Value.slice none 0 0 ∨ NX1 ≠ bx0x := (lim ox0x).imp id (fun hx => by rw [hN]; exact Nat.ne_of_gt hx)
  have nbNX1_x1x : (Value.slice (some ⟨bx1x, 0, none⟩) z1x.length z1x.length) = Value.slice none 0 0 ∨ NX1 ≠ bx1x := (lim ox1x).imp id (fun hx => by rw [hN]; exact Nat.ne_of_gt hx)
  have bel : Below w6.heap.size w6 w9 := by rw [hW]; exact Rule.below1 _ _
  have st' : Below w.heap.size w w9 ∧ w9.cell? ⟨N0, 0, none⟩ = some (.int .i64 s0) ∧ w9.cell? ⟨N0, 1, none⟩ = some (.int .i64 r0) ∧ w9.cell? ⟨N0, 2, none⟩ = some ((Value.slice ao0x z0x.length cap0x)) ∧ w9.cell? ⟨N1, 0, none⟩ = some (.int .i64 s1) ∧ w9.cell? ⟨N1, 1, none⟩ = some (.int .i64 r1) ∧ w9.cell? ⟨N1, 2, none⟩ = some ((Value.slice ao1x z1x.length cap1x)) ∧ w9.cell? ⟨NW, 0, none⟩ = some (.int .i64 qs) ∧ w9.cell? ⟨NW, 1, none⟩ = some (.int .i64 qr) ∧ w9.cell? ⟨NW, 2, none⟩ = some ((Value.slice aoW rs.length cW)) ∧ w9.cell? ⟨NX0, 0, none⟩ = some (.int .i64 s0) ∧ w9.cell? ⟨NX0, 1, none⟩ = some (.int .i64 r0) ∧ w9.cell? ⟨NX0, 2, none⟩ = some ((Value.slice (some ⟨bx0x, 0, none⟩) z0x.length z0x.length)) ∧ w9.cell? ⟨NX1, 0, none⟩ = some (.int .i64 s1) ∧ w9.cell? ⟨NX1, 1, none⟩ = some (.int .i64 r1) ∧ w9.cell? ⟨NX1, 2, none⟩ = some ((Value.slice (some ⟨bx1x, 0, none⟩) z1x.length z1x.length)) ∧ Rd w9 b0x (Value.slice ao0x z0x.length cap0x) z0x ∧ Rd w9 b1x (Value.slice ao1x z1x.length cap1x) z1x ∧ w.heap.size ≤ w9.heap.size := by
    obtain ⟨t0, c0, c1, c2, c3, c4, c5, c6, c7, c8, c9, c10, c11, d0, d1, tz⟩ := nx12_II bel st
    exact ⟨t0, c0, c1, c2, c3, c4, c5, c6, c7, c8, c9, c10, c11, by rw [hW, hN]; simp, by rw [hW, hN]; simp, by rw [hW, hN]; simp, d0, d1, tz⟩
  replace oW := oW.keep bel
  replace ox0x := ox0x.keep bel
  replace ox1x := ox1x.keep bel
  clear st bel; have st := st'; clear st'
  have stp := st
  rw [hW, hN] at stp
  go_wp2_with fail
  clear stp
  simp only [← hW, ← hN]
  clear hW hN
  go_at_call 60
  refine (HIm.out _ _ _ _ _ ox0x.rd ox1x.rd).mono ?_
  rintro e w8 ⟨aoG, cG, bG, rfl, oG, lo, bel⟩
  have neW_G := (lim oW).imp id (fun hx => (Nat.ne_of_lt (Nat.lt_of_lt_of_le hx lo) : bW ≠ bG))
  have nex0x_G := (lim ox0x).imp id (fun hx => (Nat.ne_of_lt (Nat.lt_of_lt_of_le hx lo) : bx0x ≠ bG))
  have nex1x_G := (lim ox1x).imp id (fun hx => (Nat.ne_of_lt (Nat.lt_of_lt_of_le hx lo) : bx1x ≠ bG))
  have cbG : w.heap.size ≤ bG := Nat.le_trans (And.left st).size lo
  have nbN0_G : (Value.slice aoG rs.length cG) = Value.slice none 0 0 ∨ N0 ≠ bG := .inr (Nat.ne_of_lt (Nat.lt_of_lt_of_le (World.block_lt_of_cell? _ _ st.2.1) lo))
  have nbN1_G : (Value.slice aoG rs.length cG) = Value.slice none 0 0 ∨ N1 ≠ bG := .inr (Nat.ne_of_lt (Nat.lt_of_lt_of_le (World.block_lt_of_cell? _ _ st.2.2.2.2.1) lo))
  have nbNW_G : (Value.slice aoG rs.length cG) = Value.slice none 0 0 ∨ NW ≠ bG := .inr (Nat.ne_of_lt (Nat.lt_of_lt_of_le (World.block_lt_of_cell? _ _ st.2.2.2.2.2.2.2.1) lo))
  have nbNX0_G : (Value.slice aoG rs.length cG) = Value.slice none 0 0 ∨ NX0 ≠ bG := .inr (Nat.ne_of_lt (Nat.lt_of_lt_of_le (World.block_lt_of_cell? _ _ st.2.2.2.2.2.2.2.2.2.2.1) lo))
  have nbNX1_G : (Value.slice aoG rs.length cG) = Value.slice none 0 0 ∨ NX1 ≠ bG := .inr (Nat.ne_of_lt (Nat.lt_of_lt_of_le (World.block_lt_of_cell? _ _ st.2.2.2.2.2.2.2.2.2.2.2.2.2.1) lo))
  replace st := nx15_II bel st
  replace oW := oW.keep bel
  replace ox0x := ox0x.keep bel
  replace ox1x := ox1x.keep bel
  clear bel
  clear lo
  obtain ⟨w11, hW⟩ : ∃ w11, w11 = w8.alloc (Obj.cells #[.int .i64 qs, .int .i64 qr, (Value.slice aoG rs.length cG)] 50) := ⟨_, rfl⟩
  obtain ⟨NG, hN⟩ : ∃ NG, NG = w8.heap.size := ⟨_, rfl⟩
  have nbNG_W : (Value.slice aoW rs.length cW) = Value.slice none 0 0 ∨ NG ≠ bW := (lim oW).imp id (fun hx => by rw [hN]; exact Nat.ne_of_gt hx)
  have nbNG_x0x : (Value.slice (some ⟨bx0x, 0, none⟩) z0x.length z0x.length) = Value.slice none 0 0 ∨ NG ≠ bx0x := (lim ox0x).imp id (fun hx => by rw [hN]; exact Nat.ne_of_gt hx)
  have nbNG_x1x : (Value.slice (some ⟨bx1x, 0, none⟩) z1x.length z1x.length) = Value.slice none 0 0 ∨ NG ≠ bx1x := (lim ox1x).imp id (fun hx => by rw [hN]; exact Nat.ne_of_gt hx)
  have nbNG_G : (Value.slice aoG rs.length cG) = Value.slice none 0 0 ∨ NG ≠ bG := (lim oG).imp id (fun hx => by rw [hN]; exact Nat.ne_of_gt hx)
  have bel : Below w8.heap.size w8 w11 := by rw [hW]; exact Rule.below1 _ _
  have st' : Below w.heap.size w w11 ∧ w11.cell? ⟨N0, 0, none⟩ = some (.int .i64 s0) ∧ w11.cell? ⟨N0, 1, none⟩ = some (.int .i64 r0) ∧ w11.cell? ⟨N0, 2, none⟩ = some ((Value.slice ao0x z0x.length cap0x)) ∧ w11.cell? ⟨N1, 0, none⟩ = some (.int .i64 s1) ∧ w11.cell? ⟨N1, 1, none⟩ = some (.int .i64 r1) ∧ w11.cell? ⟨N1, 2, none⟩ = some ((Value.slice ao1x z1x.length cap1x)) ∧ w11.cell? ⟨NW, 0, none⟩ = some (.int .i64 qs) ∧ w11.cell? ⟨NW, 1, none⟩ = some (.int .i64 qr) ∧ w11.cell? ⟨NW, 2, none⟩ = some ((Value.slice aoW rs.length cW)) ∧ w11.cell? ⟨NX0, 0, none⟩ = some (.int .i64 s0) ∧ w11.cell? ⟨NX0, 1, none⟩ = some (.int .i64 r0) ∧ w11.cell? ⟨NX0, 2, none⟩ = some ((Value.slice (some ⟨bx0x, 0, none⟩) z0x.length z0x.length)) ∧ w11.cell? ⟨NX1, 0, none⟩ = some (.int .i64 s1) ∧ w11.cell? ⟨NX1, 1, none⟩ = some (.int .i64 r1) ∧ w11.cell? ⟨NX1, 2, none⟩ = some ((Value.slice (some ⟨bx1x, 0, none⟩) z1x.length z1x.length)) ∧ w11.cell? ⟨NG, 0, none⟩ = some (.int .i64 qs) ∧ w11.cell? ⟨NG, 1, none⟩ = some (.int .i64 qr) ∧ w11.cell? ⟨NG, 2, none⟩ = some ((Value.slice aoG rs.length cG)) ∧ Rd w11 b0x (Value.slice ao0x z0x.length cap0x) z0x ∧ Rd w11 b1x (Value.slice ao1x z1x.length cap1x) z1x ∧ w.heap.size ≤ w11.heap.size := by
    obtain ⟨t0, c0, c1, c2, c3, c4, c5, c6, c7, c8, c9, c10, c11, c12, c13, c14, d0, d1, tz⟩ := nx15_II bel st
    exact ⟨t0, c0, c1, c2, c3, c4, c5, c6, c7, c8, c9, c10, c11, c12, c13, c14, by rw [hW, hN]; simp, by rw [hW, hN]; simp, by rw [hW, hN]; simp, d0, d1, tz⟩
  replace oW := oW.keep bel
  replace ox0x := ox0x.keep bel
  replace ox1x := ox1x.keep bel
  replace oG := oG.keep bel
  clear st bel; have st := st'; clear st'
  have stp := st
  rw [hW, hN] at stp
  go_wp2_with fail
  clear stp
  simp only [← hW, ← hN]
  clear hW hN
  go_at_call 37
  refine (eqR oG.rd oW.rd).mono ?_
  rintro e w10 ⟨rfl, bel⟩
  replace st := nx18_II bel st
  replace oW := oW.keep bel
  replace ox0x := ox0x.keep bel
  replace ox1x := ox1x.keep bel
  replace oG := oG.keep bel
  clear bel
  go_wp2_with fail
  refine wp_region_held_drew (S := (fun ww => Below w.heap.size w ww ∧ ww.cell? ⟨N0, 0, none⟩ = some (.int .i64 s0) ∧ ww.cell? ⟨N0, 1, none⟩ = some (.int .i64 r0) ∧ ww.cell? ⟨N0, 2, none⟩ = some ((Value.slice ao0x z0x.length cap0x)) ∧ ww.cell? ⟨N1, 0, none⟩ = some (.int .i64 s1) ∧ ww.cell? ⟨N1, 1, none⟩ = some (.int .i64 r1) ∧ ww.cell? ⟨N1, 2, none⟩ = some ((Value.slice ao1x z1x.length cap1x)) ∧ ww.cell? ⟨NW, 0, none⟩ = some (.int .i64 qs) ∧ ww.cell? ⟨NW, 1, none⟩ = some (.int .i64 qr) ∧ ww.cell? ⟨NW, 2, none⟩ = some ((Value.slice aoW rs.length cW)) ∧ ww.cell? ⟨NX0, 0, none⟩ = some (.int .i64 s0) ∧ ww.cell? ⟨NX0, 1, none⟩ = some (.int .i64 r0) ∧ ww.cell? ⟨NX0, 2, none⟩ = some ((Value.slice (some ⟨bx0x, 0, none⟩) z0x.length z0x.length)) ∧ ww.cell? ⟨NX1, 0, none⟩ = some (.int .i64 s1) ∧ ww.cell? ⟨NX1, 1, none⟩ = some (.int .i64 r1) ∧ ww.cell? ⟨NX1, 2, none⟩ = some ((Value.slice (some ⟨bx1x, 0, none⟩) z1x.length z1x.length)) ∧ ww.cell? ⟨NG, 0, none⟩ = some (.int .i64 qs) ∧ ww.cell? ⟨NG, 1, none⟩ = some (.int .i64 qr) ∧ ww.cell? ⟨NG, 2, none⟩ = some ((Value.slice aoG rs.length cG)) ∧ Rd ww b0x (Value.slice ao0x z0x.length cap0x) z0x ∧ Rd ww b1x (Value.slice ao1x z1x.length cap1x) z1x ∧ w.heap.size ≤ ww.heap.size)) (by kernel_rfl) ?_ (fun hHeld => ?_)
  · ((try dsimp only); exact drw18_II st)
  first | (refine wpAnyH_take (i := 0) (v := ?_) rfl ?_ ?_ ?_ (fun _ _ _ h => h) (Or.inl ⟨?_, ?_⟩) ?_ ?_; rotate_left 1; (focus decide +kernel); (focus decide +kernel); (focus decide +kernel); (focus rfl); (focus (intro w hSw; (try dsimp only at hSw); go_simp; (try (with_reducible rfl)); done)); (focus assumption); (try simp only [Act.put, List.setIfInBounds_toArray, List.set_cons_zero, List.set_cons_succ, List.getElem_toArray, List.getElem_cons_succ, List.getElem_cons_zero])) | (refine wpAnyH_take (i := 0) (v := undef) rfl ?_ ?_ ?_ (fun _ _ _ h => h) (Or.inr ⟨?_, rfl⟩) ?_ ?_; (focus decide +kernel); (focus decide +kernel); (focus decide +kernel); (focus rfl); (focus assumption); (try simp only [Act.put, List.setIfInBounds_toArray, List.set_cons_zero, List.set_cons_succ, List.getElem_toArray, List.getElem_cons_succ, List.getElem_cons_zero])) | skip
  first | (refine wpAnyH_take (i := 1) (v := ?_) rfl ?_ ?_ ?_ (fun _ _ _ h => h) (Or.inl ⟨?_, ?_⟩) ?_ ?_; rotate_left 1; (focus decide +kernel); (focus decide +kernel); (focus decide +kernel); (focus rfl); (focus (intro w hSw; (try dsimp only at hSw); go_simp; (try (with_reducible rfl)); done)); (focus assumption); (try simp only [Act.put, List.setIfInBounds_toArray, List.set_cons_zero, List.set_cons_succ, List.getElem_toArray, List.getElem_cons_succ, List.getElem_cons_zero])) | (refine wpAnyH_take (i := 1) (v := undef) rfl ?_ ?_ ?_ (fun _ _ _ h => h) (Or.inr ⟨?_, rfl⟩) ?_ ?_; (focus decide +kernel); (focus decide +kernel); (focus decide +kernel); (focus rfl); (focus assumption); (try simp only [Act.put, List.setIfInBounds_toArray, List.set_cons_zero, List.set_cons_succ, List.getElem_toArray, List.getElem_cons_succ, List.getElem_cons_zero])) | skip
  first | (refine wpAnyH_take (i := 4) (v := ?_) rfl ?_ ?_ ?_ (fun _ _ _ h => h) (Or.inl ⟨?_, ?_⟩) ?_ ?_; rotate_left 1; (focus decide +kernel); (focus decide +kernel); (focus decide +kernel); (focus rfl); (focus (intro w hSw; (try dsimp only at hSw); go_simp; (try (with_reducible rfl)); done)); (focus assumption); (try simp only [Act.put, List.setIfInBounds_toArray, List.set_cons_zero, List.set_cons_succ, List.getElem_toArray, List.getElem_cons_succ, List.getElem_cons_zero])) | (refine wpAnyH_take (i := 4) (v := undef) rfl ?_ ?_ ?_ (fun _ _ _ h => h) (Or.inr ⟨?_, rfl⟩) ?_ ?_; (focus decide +kernel); (focus decide +kernel); (focus decide +kernel); (focus rfl); (focus assumption); (try simp only [Act.put, List.setIfInBounds_toArray, List.set_cons_zero, List.set_cons_succ, List.getElem_toArray, List.getElem_cons_succ, List.getElem_cons_zero])) | skip
  first | (refine wpAnyH_take (i := 2) (v := undef) rfl ?_ ?_ ?_ (fun _ _ _ h => h) (Or.inr ⟨?_, rfl⟩) ?_ ?_; (focus decide +kernel); (focus decide +kernel); (focus decide +kernel); (focus rfl); (focus assumption); (try simp only [Act.put, List.setIfInBounds_toArray, List.set_cons_zero, List.set_cons_succ, List.getElem_toArray, List.getElem_cons_succ, List.getElem_cons_zero])) | (refine wpAnyH_ready (rs := [2]) ?_ (by simp) ?_; (focus decide +kernel); refine AllReadyH.cons rfl (fun K hK => ?_) AllReadyH.nil; go_simp; (go_at_call 33; refine (toR (rdx18_II_0 hHeld) HL0x.out).mono ?_; rintro e w12 ⟨by0x, rfl, oy0x, lo, bel⟩; replace oW : Own 2 w10.drew bW (Value.slice aoW rs.length cW) rs := oW; replace ox0x : Own 2 w10.drew bx0x (Value.slice (some ⟨bx0x, 0, none⟩) z0x.length z0x.length) z0x := ox0x; replace ox1x : Own 2 w10.drew bx1x (Value.slice (some ⟨bx1x, 0, none⟩) z1x.length z1x.length) z1x := ox1x; replace oG : Own 2 w10.drew bG (Value.slice aoG rs.length cG) rs := oG; replace oW := oW.keep bel; replace ox0x := ox0x.keep bel; replace ox1x := ox1x.keep bel; replace oG := oG.keep bel; clear lo); refine hK.out _ _ ?_ (fun hHeld => ?_); ((try dsimp only); exact nx18_II bel hHeld); clear hK K; (try simp only [Act.put, List.setIfInBounds_toArray, List.set_cons_zero, List.set_cons_succ, List.getElem_toArray, List.getElem_cons_succ, List.getElem_cons_zero]))
  first | (refine wpAnyH_take (i := 4) (v := ?_) rfl ?_ ?_ ?_ (fun _ _ _ h => h) (Or.inl ⟨?_, ?_⟩) ?_ ?_; rotate_left 1; (focus decide +kernel); (focus decide +kernel); (focus decide +kernel); (focus rfl); (focus (intro w hSw; (try dsimp only at hSw); go_simp; (try (with_reducible rfl)); done)); (focus assumption); (try simp only [Act.put, List.setIfInBounds_toArray, List.set_cons_zero, List.set_cons_succ, List.getElem_toArray, List.getElem_cons_succ, List.getElem_cons_zero])) | (refine wpAnyH_take (i := 4) (v := undef) rfl ?_ ?_ ?_ (fun _ _ _ h => h) (Or.inr ⟨?_, rfl⟩) ?_ ?_; (focus decide +kernel); (focus decide +kernel); (focus decide +kernel); (focus rfl); (focus assumption); (try simp only [Act.put, List.setIfInBounds_toArray, List.set_cons_zero, List.set_cons_succ, List.getElem_toArray, List.getElem_cons_succ, List.getElem_cons_zero])) | skip
  first | (refine wpAnyH_take (i := 3) (v := undef) rfl ?_ ?_ ?_ (fun _ _ _ h => h) (Or.inr ⟨?_, rfl⟩) ?_ ?_; (focus decide +kernel); (focus decide +kernel); (focus decide +kernel); (focus rfl); (focus assumption); (try simp only [Act.put, List.setIfInBounds_toArray, List.set_cons_zero, List.set_cons_succ, List.getElem_toArray, List.getElem_cons_succ, List.getElem_cons_zero])) | (refine wpAnyH_ready (rs := [3]) ?_ (by simp) ?_; (focus decide +kernel); refine AllReadyH.cons rfl (fun K hK => ?_) AllReadyH.nil; go_simp; (go_at_call 37; refine (eqR ox0x.rd oy0x.rd).mono ?_; rintro e w13 ⟨rfl, bel⟩; replace oW := oW.keep bel; replace ox0x := ox0x.keep bel; replace ox1x := ox1x.keep bel; replace oG := oG.keep bel; clear oy0x); refine hK.out _ _ ?_ (fun hHeld => ?_); ((try dsimp only); exact nx18_II bel hHeld); clear hK K; (try simp only [Act.put, List.setIfInBounds_toArray, List.set_cons_zero, List.set_cons_succ, List.getElem_toArray, List.getElem_cons_succ, List.getElem_cons_zero]))
  first | (refine wpAnyH_take (i := 4) (v := ?_) rfl ?_ ?_ ?_ (fun _ _ _ h => h) (Or.inl ⟨?_, ?_⟩) ?_ ?_; rotate_left 1; (focus decide +kernel); (focus decide +kernel); (focus decide +kernel); (focus rfl); (focus (intro w hSw; (try dsimp only at hSw); go_simp; (try (with_reducible rfl)); done)); (focus assumption); (try simp only [Act.put, List.setIfInBounds_toArray, List.set_cons_zero, List.set_cons_succ, List.getElem_toArray, List.getElem_cons_succ, List.getElem_cons_zero])) | (refine wpAnyH_take (i := 4) (v := undef) rfl ?_ ?_ ?_ (fun _ _ _ h => h) (Or.inr ⟨?_, rfl⟩) ?_ ?_; (focus decide +kernel); (focus decide +kernel); (focus decide +kernel); (focus rfl); (focus assumption); (try simp only [Act.put, List.setIfInBounds_toArray, List.set_cons_zero, List.set_cons_succ, List.getElem_toArray, List.getElem_cons_succ, List.getElem_cons_zero])) | skip
  refine wpAnyH_done (by kernel_rfl) ?_ _
  clear st; have st := hHeld; clear hHeld
  go_wp2_with fail
  refine wp_region_held_drew (S := (fun ww => Below w.heap.size w ww ∧ ww.cell? ⟨N0, 0, none⟩ = some (.int .i64 s0) ∧ ww.cell? ⟨N0, 1, none⟩ = some (.int .i64 r0) ∧ ww.cell? ⟨N0, 2, none⟩ = some ((Value.slice ao0x z0x.length cap0x)) ∧ ww.cell? ⟨N1, 0, none⟩ = some (.int .i64 s1) ∧ ww.cell? ⟨N1, 1, none⟩ = some (.int .i64 r1) ∧ ww.cell? ⟨N1, 2, none⟩ = some ((Value.slice ao1x z1x.length cap1x)) ∧ ww.cell? ⟨NW, 0, none⟩ = some (.int .i64 qs) ∧ ww.cell? ⟨NW, 1, none⟩ = some (.int .i64 qr) ∧ ww.cell? ⟨NW, 2, none⟩ = some ((Value.slice aoW rs.length cW)) ∧ ww.cell? ⟨NX0, 0, none⟩ = some (.int .i64 s0) ∧ ww.cell? ⟨NX0, 1, none⟩ = some (.int .i64 r0) ∧ ww.cell? ⟨NX0, 2, none⟩ = some ((Value.slice (some ⟨bx0x, 0, none⟩) z0x.length z0x.length)) ∧ ww.cell? ⟨NX1, 0, none⟩ = some (.int .i64 s1) ∧ ww.cell? ⟨NX1, 1, none⟩ = some (.int .i64 r1) ∧ ww.cell? ⟨NX1, 2, none⟩ = some ((Value.slice (some ⟨bx1x, 0, none⟩) z1x.length z1x.length)) ∧ ww.cell? ⟨NG, 0, none⟩ = some (.int .i64 qs) ∧ ww.cell? ⟨NG, 1, none⟩ = some (.int .i64 qr) ∧ ww.cell? ⟨NG, 2, none⟩ = some ((Value.slice aoG rs.length cG)) ∧ Rd ww b0x (Value.slice ao0x z0x.length cap0x) z0x ∧ Rd ww b1x (Value.slice ao1x z1x.length cap1x) z1x ∧ w.heap.size ≤ ww.heap.size)) (by kernel_rfl) ?_ (fun hHeld => ?_)
  · ((try dsimp only); exact drw18_II st)
  first | (refine wpAnyH_take (i := 0) (v := ?_) rfl ?_ ?_ ?_ (fun _ _ _ h => h) (Or.inl ⟨?_, ?_⟩) ?_ ?_; rotate_left 1; (focus decide +kernel); (focus decide +kernel); (focus decide +kernel); (focus rfl); (focus (intro w hSw; (try dsimp only at hSw); go_simp; (try (with_reducible rfl)); done)); (focus assumption); (try simp only [Act.put, List.setIfInBounds_toArray, List.set_cons_zero, List.set_cons_succ, List.getElem_toArray, List.getElem_cons_succ, List.getElem_cons_zero])) | (refine wpAnyH_take (i := 0) (v := undef) rfl ?_ ?_ ?_ (fun _ _ _ h => h) (Or.inr ⟨?_, rfl⟩) ?_ ?_; (focus decide +kernel); (focus decide +kernel); (focus decide +kernel); (focus rfl); (focus assumption); (try simp only [Act.put, List.setIfInBounds_toArray, List.set_cons_zero, List.set_cons_succ, List.getElem_toArray, List.getElem_cons_succ, List.getElem_cons_zero])) | skip
  first | (refine wpAnyH_take (i := 1) (v := ?_) rfl ?_ ?_ ?_ (fun _ _ _ h => h) (Or.inl ⟨?_, ?_⟩) ?_ ?_; rotate_left 1; (focus decide +kernel); (focus decide +kernel); (focus decide +kernel); (focus rfl); (focus (intro w hSw; (try dsimp only at hSw); go_simp; (try (with_reducible rfl)); done)); (focus assumption); (try simp only [Act.put, List.setIfInBounds_toArray, List.set_cons_zero, List.set_cons_succ, List.getElem_toArray, List.getElem_cons_succ, List.getElem_cons_zero])) | (refine wpAnyH_take (i := 1) (v := undef) rfl ?_ ?_ ?_ (fun _ _ _ h => h) (Or.inr ⟨?_, rfl⟩) ?_ ?_; (focus decide +kernel); (focus decide +kernel); (focus decide +kernel); (focus rfl); (focus assumption); (try simp only [Act.put, List.setIfInBounds_toArray, List.set_cons_zero, List.set_cons_succ, List.getElem_toArray, List.getElem_cons_succ, List.getElem_cons_zero])) | skip
  first | (refine wpAnyH_take (i := 4) (v := ?_) rfl ?_ ?_ ?_ (fun _ _ _ h => h) (Or.inl ⟨?_, ?_⟩) ?_ ?_; rotate_left 1; (focus decide +kernel); (focus decide +kernel); (focus decide +kernel); (focus rfl); (focus (intro w hSw; (try dsimp only at hSw); go_simp; (try (with_reducible rfl)); done)); (focus assumption); (try simp only [Act.put, List.setIfInBounds_toArray, List.set_cons_zero, List.set_cons_succ, List.getElem_toArray, List.getElem_cons_succ, List.getElem_cons_zero])) | (refine wpAnyH_take (i := 4) (v := undef) rfl ?_ ?_ ?_ (fun _ _ _ h => h) (Or.inr ⟨?_, rfl⟩) ?_ ?_; (focus decide +kernel); (focus decide +kernel); (focus decide +kernel); (focus rfl); (focus assumption); (try simp only [Act.put, List.setIfInBounds_toArray, List.set_cons_zero, List.set_cons_succ, List.getElem_toArray, List.getElem_cons_succ, List.getElem_cons_zero])) | skip
  first | (refine wpAnyH_take (i := 2) (v := undef) rfl ?_ ?_ ?_ (fun _ _ _ h => h) (Or.inr ⟨?_, rfl⟩) ?_ ?_; (focus decide +kernel); (focus decide +kernel); (focus decide +kernel); (focus rfl); (focus assumption); (try simp only [Act.put, List.setIfInBounds_toArray, List.set_cons_zero, List.set_cons_succ, List.getElem_toArray, List.getElem_cons_succ, List.getElem_cons_zero])) | (refine wpAnyH_ready (rs := [2]) ?_ (by simp) ?_; (focus decide +kernel); refine AllReadyH.cons rfl (fun K hK => ?_) AllReadyH.nil; go_simp; (go_at_call 33; refine (toR (rdx18_II_1 hHeld) HL1x.out).mono ?_; rintro e w14 ⟨by1x, rfl, oy1x, lo, bel⟩; replace oW : Own 2 w13.drew bW (Value.slice aoW rs.length cW) rs := oW; replace ox0x : Own 2 w13.drew bx0x (Value.slice (some ⟨bx0x, 0, none⟩) z0x.length z0x.length) z0x := ox0x; replace ox1x : Own 2 w13.drew bx1x (Value.slice (some ⟨bx1x, 0, none⟩) z1x.length z1x.length) z1x := ox1x; replace oG : Own 2 w13.drew bG (Value.slice aoG rs.length cG) rs := oG; replace oW := oW.keep bel; replace ox0x := ox0x.keep bel; replace ox1x := ox1x.keep bel; replace oG := oG.keep bel; clear lo); refine hK.out _ _ ?_ (fun hHeld => ?_); ((try dsimp only); exact nx18_II bel hHeld); clear hK K; (try simp only [Act.put, List.setIfInBounds_toArray, List.set_cons_zero, List.set_cons_succ, List.getElem_toArray, List.getElem_cons_succ, List.getElem_cons_zero]))
  first | (refine wpAnyH_take (i := 4) (v := ?_) rfl ?_ ?_ ?_ (fun _ _ _ h => h) (Or.inl ⟨?_, ?_⟩) ?_ ?_; rotate_left 1; (focus decide +kernel); (focus decide +kernel); (focus decide +kernel); (focus rfl); (focus (intro w hSw; (try dsimp only at hSw); go_simp; (try (with_reducible rfl)); done)); (focus assumption); (try simp only [Act.put, List.setIfInBounds_toArray, List.set_cons_zero, List.set_cons_succ, List.getElem_toArray, List.getElem_cons_succ, List.getElem_cons_zero])) | (refine wpAnyH_take (i := 4) (v := undef) rfl ?_ ?_ ?_ (fun _ _ _ h => h) (Or.inr ⟨?_, rfl⟩) ?_ ?_; (focus decide +kernel); (focus decide +kernel); (focus decide +kernel); (focus rfl); (focus assumption); (try simp only [Act.put, List.setIfInBounds_toArray, List.set_cons_zero, List.set_cons_succ, List.getElem_toArray, List.getElem_cons_succ, List.getElem_cons_zero])) | skip
  first | (refine wpAnyH_take (i := 3) (v := undef) rfl ?_ ?_ ?_ (fun _ _ _ h => h) (Or.inr ⟨?_, rfl⟩) ?_ ?_; (focus decide +kernel); (focus decide +kernel); (focus decide +kernel); (focus rfl); (focus assumption); (try simp only [Act.put, List.setIfInBounds_toArray, List.set_cons_zero, List.set_cons_succ, List.getElem_toArray, List.getElem_cons_succ, List.getElem_cons_zero])) | (refine wpAnyH_ready (rs := [3]) ?_ (by simp) ?_; (focus decide +kernel); refine AllReadyH.cons rfl (fun K hK => ?_) AllReadyH.nil; go_simp; (go_at_call 37; refine (eqR ox1x.rd oy1x.rd).mono ?_; rintro e w15 ⟨rfl, bel⟩; replace oW := oW.keep bel; replace ox0x := ox0x.keep bel; replace ox1x := ox1x.keep bel; replace oG := oG.keep bel; clear oy1x); refine hK.out _ _ ?_ (fun hHeld => ?_); ((try dsimp only); exact nx18_II bel hHeld); clear hK K; (try simp only [Act.put, List.setIfInBounds_toArray, List.set_cons_zero, List.set_cons_succ, List.getElem_toArray, List.getElem_cons_succ, List.getElem_cons_zero]))
  first | (refine wpAnyH_take (i := 4) (v := ?_) rfl ?_ ?_ ?_ (fun _ _ _ h => h) (Or.inl ⟨?_, ?_⟩) ?_ ?_; rotate_left 1; (focus decide +kernel); (focus decide +kernel); (focus decide +kernel); (focus rfl); (focus (intro w hSw; (try dsimp only at hSw); go_simp; (try (with_reducible rfl)); done)); (focus assumption); (try simp only [Act.put, List.setIfInBounds_toArray, List.set_cons_zero, List.set_cons_succ, List.getElem_toArray, List.getElem_cons_succ, List.getElem_cons_zero])) | (refine wpAnyH_take (i := 4) (v := undef) rfl ?_ ?_ ?_ (fun _ _ _ h => h) (Or.inr ⟨?_, rfl⟩) ?_ ?_; (focus decide +kernel); (focus decide +kernel); (focus decide +kernel); (focus rfl); (focus assumption); (try simp only [Act.put, List.setIfInBounds_toArray, List.set_cons_zero, List.set_cons_succ, List.getElem_toArray, List.getElem_cons_succ, List.getElem_cons_zero])) | skip
  refine wpAnyH_done (by kernel_rfl) ?_ _
  clear st; have st := hHeld; clear hHeld
  go_wp2_with fail
  go_at_call 39
  refine (markR ox0x (by omega) (by have := HL0x.out; omega)).mono ?_
  rintro e w16 ⟨rfl, mx0x, g, gn⟩
  replace oW := beside oW g neW_x0x
  replace ox1x := besideB ox1x g gn nex0x_x1x
  replace oG := besideB oG g gn nex0x_G
  replace ox0x := mx0x; clear mx0x
  have gB := below_mark (And.left st) g (And.left st).size cbx0x
  have st' : Below w.heap.size w w16 ∧ w16.cell? ⟨N0, 0, none⟩ = some (.int .i64 s0) ∧ w16.cell? ⟨N0, 1, none⟩ = some (.int .i64 r0) ∧ w16.cell? ⟨N0, 2, none⟩ = some ((Value.slice ao0x z0x.length cap0x)) ∧ w16.cell? ⟨N1, 0, none⟩ = some (.int .i64 s1) ∧ w16.cell? ⟨N1, 1, none⟩ = some (.int .i64 r1) ∧ w16.cell? ⟨N1, 2, none⟩ = some ((Value.slice ao1x z1x.length cap1x)) ∧ w16.cell? ⟨NW, 0, none⟩ = some (.int .i64 qs) ∧ w16.cell? ⟨NW, 1, none⟩ = some (.int .i64 qr) ∧ w16.cell? ⟨NW, 2, none⟩ = some ((Value.slice aoW rs.length cW)) ∧ w16.cell? ⟨NX0, 0, none⟩ = some (.int .i64 s0) ∧ w16.cell? ⟨NX0, 1, none⟩ = some (.int .i64 r0) ∧ w16.cell? ⟨NX0, 2, none⟩ = some ((Value.slice (some ⟨bx0x, 0, none⟩) z0x.length z0x.length)) ∧ w16.cell? ⟨NX1, 0, none⟩ = some (.int .i64 s1) ∧ w16.cell? ⟨NX1, 1, none⟩ = some (.int .i64 r1) ∧ w16.cell? ⟨NX1, 2, none⟩ = some ((Value.slice (some ⟨bx1x, 0, none⟩) z1x.length z1x.length)) ∧ w16.cell? ⟨NG, 0, none⟩ = some (.int .i64 qs) ∧ w16.cell? ⟨NG, 1, none⟩ = some (.int .i64 qr) ∧ w16.cell? ⟨NG, 2, none⟩ = some ((Value.slice aoG rs.length cG)) ∧ Rd w16 b0x (Value.slice ao0x z0x.length cap0x) z0x ∧ Rd w16 b1x (Value.slice ao1x z1x.length cap1x) z1x ∧ w.heap.size ≤ w16.heap.size := ⟨gB, mcellB g gn st.2.1 nbN0_x0x, mcellB g gn st.2.2.1 nbN0_x0x, mcellB g gn st.2.2.2.1 nbN0_x0x, mcellB g gn st.2.2.2.2.1 nbN1_x0x, mcellB g gn st.2.2.2.2.2.1 nbN1_x0x, mcellB g gn st.2.2.2.2.2.2.1 nbN1_x0x, mcellB g gn st.2.2.2.2.2.2.2.1 nbNW_x0x, mcellB g gn st.2.2.2.2.2.2.2.2.1 nbNW_x0x, mcellB g gn st.2.2.2.2.2.2.2.2.2.1 nbNW_x0x, mcellB g gn st.2.2.2.2.2.2.2.2.2.2.1 nbNX0_x0x, mcellB g gn st.2.2.2.2.2.2.2.2.2.2.2.1 nbNX0_x0x, mcellB g gn st.2.2.2.2.2.2.2.2.2.2.2.2.1 nbNX0_x0x, mcellB g gn st.2.2.2.2.2.2.2.2.2.2.2.2.2.1 nbNX1_x0x, mcellB g gn st.2.2.2.2.2.2.2.2.2.2.2.2.2.2.1 nbNX1_x0x, mcellB g gn st.2.2.2.2.2.2.2.2.2.2.2.2.2.2.2.1 nbNX1_x0x, mcellB g gn st.2.2.2.2.2.2.2.2.2.2.2.2.2.2.2.2.1 nbNG_x0x, mcellB g gn st.2.2.2.2.2.2.2.2.2.2.2.2.2.2.2.2.2.1 nbNG_x0x, mcellB g gn st.2.2.2.2.2.2.2.2.2.2.2.2.2.2.2.2.2.2.1 nbNG_x0x, H0x.out.keep gB (Nat.le_refl _), H1x.out.keep gB (Nat.le_refl _), gB.size⟩
  clear st g gn gB; have st := st'; clear st'
  go_wp2_with fail
  go_at_call 39
  refine (markR ox1x (by omega) (by have := HL1x.out; omega)).mono ?_
  rintro e w17 ⟨rfl, mx1x, g, gn⟩
  replace oW := beside oW g neW_x1x
  replace ox0x := beside ox0x g nex0x_x1x
  replace oG := besideB oG g gn nex1x_G
  replace ox1x := mx1x; clear mx1x
  have gB := below_mark (And.left st) g (And.left st).size cbx1x
  have st' : Below w.heap.size w w17 ∧ w17.cell? ⟨N0, 0, none⟩ = some (.int .i64 s0) ∧ w17.cell? ⟨N0, 1, none⟩ = some (.int .i64 r0) ∧ w17.cell? ⟨N0, 2, none⟩ = some ((Value.slice ao0x z0x.length cap0x)) ∧ w17.cell? ⟨N1, 0, none⟩ = some (.int .i64 s1) ∧ w17.cell? ⟨N1, 1, none⟩ = some (.int .i64 r1) ∧ w17.cell? ⟨N1, 2, none⟩ = some ((Value.slice ao1x z1x.length cap1x)) ∧ w17.cell? ⟨NW, 0, none⟩ = some (.int .i64 qs) ∧ w17.cell? ⟨NW, 1, none⟩ = some (.int .i64 qr) ∧ w17.cell? ⟨NW, 2, none⟩ = some ((Value.slice aoW rs.length cW)) ∧ w17.cell? ⟨NX0, 0, none⟩ = some (.int .i64 s0) ∧ w17.cell? ⟨NX0, 1, none⟩ = some (.int .i64 r0) ∧ w17.cell? ⟨NX0, 2, none⟩ = some ((Value.slice (some ⟨bx0x, 0, none⟩) z0x.length z0x.length)) ∧ w17.cell? ⟨NX1, 0, none⟩ = some (.int .i64 s1) ∧ w17.cell? ⟨NX1, 1, none⟩ = some (.int .i64 r1) ∧ w17.cell? ⟨NX1, 2, none⟩ = some ((Value.slice (some ⟨bx1x, 0, none⟩) z1x.length z1x.length)) ∧ w17.cell? ⟨NG, 0, none⟩ = some (.int .i64 qs) ∧ w17.cell? ⟨NG, 1, none⟩ = some (.int .i64 qr) ∧ w17.cell? ⟨NG, 2, none⟩ = some ((Value.slice aoG rs.length cG)) ∧ Rd w17 b0x (Value.slice ao0x z0x.length cap0x) z0x ∧ Rd w17 b1x (Value.slice ao1x z1x.length cap1x) z1x ∧ w.heap.size ≤ w17.heap.size := ⟨gB, mcellB g gn st.2.1 nbN0_x1x, mcellB g gn st.2.2.1 nbN0_x1x, mcellB g gn st.2.2.2.1 nbN0_x1x, mcellB g gn st.2.2.2.2.1 nbN1_x1x, mcellB g gn st.2.2.2.2.2.1 nbN1_x1x, mcellB g gn st.2.2.2.2.2.2.1 nbN1_x1x, mcellB g gn st.2.2.2.2.2.2.2.1 nbNW_x1x, mcellB g gn st.2.2.2.2.2.2.2.2.1 nbNW_x1x, mcellB g gn st.2.2.2.2.2.2.2.2.2.1 nbNW_x1x, mcellB g gn st.2.2.2.2.2.2.2.2.2.2.1 nbNX0_x1x, mcellB g gn st.2.2.2.2.2.2.2.2.2.2.2.1 nbNX0_x1x, mcellB g gn st.2.2.2.2.2.2.2.2.2.2.2.2.1 nbNX0_x1x, mcellB g gn st.2.2.2.2.2.2.2.2.2.2.2.2.2.1 nbNX1_x1x, mcellB g gn st.2.2.2.2.2.2.2.2.2.2.2.2.2.2.1 nbNX1_x1x, mcellB g gn st.2.2.2.2.2.2.2.2.2.2.2.2.2.2.2.1 nbNX1_x1x, mcellB g gn st.2.2.2.2.2.2.2.2.2.2.2.2.2.2.2.2.1 nbNG_x1x, mcellB g gn st.2.2.2.2.2.2.2.2.2.2.2.2.2.2.2.2.2.1 nbNG_x1x, mcellB g gn st.2.2.2.2.2.2.2.2.2.2.2.2.2.2.2.2.2.2.1 nbNG_x1x, H0x.out.keep gB (Nat.le_refl _), H1x.out.keep gB (Nat.le_refl _), gB.size⟩
  clear st g gn gB; have st := st'; clear st'
  have hk0 : decide (((1 + (z0x.length : Int)) + (z1x.length : Int)) < 0) = false := by simp; omega
  go_wp2_with fail
  go_at_call 37
  refine (eqR oG.rd oW.rd).mono ?_
  rintro e w18 ⟨rfl, bel⟩
  replace st := nx18_II bel st
  replace oW := oW.keep bel
  replace ox0x := ox0x.keep bel
  replace ox1x := ox1x.keep bel
  replace oG := oG.keep bel
  clear bel
  go_wp2_with fail
  go_at_call 39
  refine (markR oG (by omega) (by have := HN.out; omega)).mono ?_
  rintro e w19 ⟨rfl, mG, g, gn⟩
  replace oW := beside oW g neW_G
  replace ox0x := beside ox0x g nex0x_G
  replace ox1x := beside ox1x g nex1x_G
  replace oG := mG; clear mG
  have gB := below_mark (And.left st) g (And.left st).size cbG
  have st' : Below w.heap.size w w19 ∧ w19.cell? ⟨N0, 0, none⟩ = some (.int .i64 s0) ∧ w19.cell? ⟨N0, 1, none⟩ = some (.int .i64 r0) ∧ w19.cell? ⟨N0, 2, none⟩ = some ((Value.slice ao0x z0x.length cap0x)) ∧ w19.cell? ⟨N1, 0, none⟩ = some (.int .i64 s1) ∧ w19.cell? ⟨N1, 1, none⟩ = some (.int .i64 r1) ∧ w19.cell? ⟨N1, 2, none⟩ = some ((Value.slice ao1x z1x.length cap1x)) ∧ w19.cell? ⟨NW, 0, none⟩ = some (.int .i64 qs) ∧ w19.cell? ⟨NW, 1, none⟩ = some (.int .i64 qr) ∧ w19.cell? ⟨NW, 2, none⟩ = some ((Value.slice aoW rs.length cW)) ∧ w19.cell? ⟨NX0, 0, none⟩ = some (.int .i64 s0) ∧ w19.cell? ⟨NX0, 1, none⟩ = some (.int .i64 r0) ∧ w19.cell? ⟨NX0, 2, none⟩ = some ((Value.slice (some ⟨bx0x, 0, none⟩) z0x.length z0x.length)) ∧ w19.cell? ⟨NX1, 0, none⟩ = some (.int .i64 s1) ∧ w19.cell? ⟨NX1, 1, none⟩ = some (.int .i64 r1) ∧ w19.cell? ⟨NX1, 2, none⟩ = some ((Value.slice (some ⟨bx1x, 0, none⟩) z1x.length z1x.length)) ∧ w19.cell? ⟨NG, 0, none⟩ = some (.int .i64 qs) ∧ w19.cell? ⟨NG, 1, none⟩ = some (.int .i64 qr) ∧ w19.cell? ⟨NG, 2, none⟩ = some ((Value.slice aoG rs.length cG)) ∧ Rd w19 b0x (Value.slice ao0x z0x.length cap0x) z0x ∧ Rd w19 b1x (Value.slice ao1x z1x.length cap1x) z1x ∧ w.heap.size ≤ w19.heap.size := ⟨gB, mcellB g gn st.2.1 nbN0_G, mcellB g gn st.2.2.1 nbN0_G, mcellB g gn st.2.2.2.1 nbN0_G, mcellB g gn st.2.2.2.2.1 nbN1_G, mcellB g gn st.2.2.2.2.2.1 nbN1_G, mcellB g gn st.2.2.2.2.2.2.1 nbN1_G, mcellB g gn st.2.2.2.2.2.2.2.1 nbNW_G, mcellB g gn st.2.2.2.2.2.2.2.2.1 nbNW_G, mcellB g gn st.2.2.2.2.2.2.2.2.2.1 nbNW_G, mcellB g gn st.2.2.2.2.2.2.2.2.2.2.1 nbNX0_G, mcellB g gn st.2.2.2.2.2.2.2.2.2.2.2.1 nbNX0_G, mcellB g gn st.2.2.2.2.2.2.2.2.2.2.2.2.1 nbNX0_G, mcellB g gn st.2.2.2.2.2.2.2.2.2.2.2.2.2.1 nbNX1_G, mcellB g gn st.2.2.2.2.2.2.2.2.2.2.2.2.2.2.1 nbNX1_G, mcellB g gn st.2.2.2.2.2.2.2.2.2.2.2.2.2.2.2.1 nbNX1_G, mcellB g gn st.2.2.2.2.2.2.2.2.2.2.2.2.2.2.2.2.1 nbNG_G, mcellB g gn st.2.2.2.2.2.2.2.2.2.2.2.2.2.2.2.2.2.1 nbNG_G, mcellB g gn st.2.2.2.2.2.2.2.2.2.2.2.2.2.2.2.2.2.2.1 nbNG_G, H0x.out.keep gB (Nat.le_refl _), H1x.out.keep gB (Nat.le_refl _), gB.size⟩
  clear st g gn gB; have st := st'; clear st'
  go_wp2_with fail
  go_at_call 61
  refine (heldR oG.rd (by omega) (by have := HN.out; omega)).mono ?_
  rintro e w20 ⟨rfl, bel⟩
  replace st := nx18_II bel st
  replace oW := oW.keep bel
  replace ox0x := ox0x.keep bel
  replace ox1x := ox1x.keep bel
  replace oG := oG.keep bel
  clear bel
  clear ox0x
  clear ox1x
  go_upto_region 31 with fail
  go_cut [15, 16] from 94 (fun p y0 wc => ∃ (NK bK : Nat) (aoK : Option Addr) (cK : Nat), p = .pointer (some ⟨NK, 0, none⟩) ∧ y0 = .bool q1 ∧ (Below w.heap.size w wc ∧ wc.cell? ⟨N0, 0, none⟩ = some (.int .i64 s0) ∧ wc.cell? ⟨N0, 1, none⟩ = some (.int .i64 r0) ∧ wc.cell? ⟨N0, 2, none⟩ = some ((Value.slice ao0x z0x.length cap0x)) ∧ wc.cell? ⟨N1, 0, none⟩ = some (.int .i64 s1) ∧ wc.cell? ⟨N1, 1, none⟩ = some (.int .i64 r1) ∧ wc.cell? ⟨N1, 2, none⟩ = some ((Value.slice ao1x z1x.length cap1x)) ∧ wc.cell? ⟨NW, 0, none⟩ = some (.int .i64 qs) ∧ wc.cell? ⟨NW, 1, none⟩ = some (.int .i64 qr) ∧ wc.cell? ⟨NW, 2, none⟩ = some ((Value.slice aoW rs.length cW)) ∧ wc.cell? ⟨NX0, 0, none⟩ = some (.int .i64 s0) ∧ wc.cell? ⟨NX0, 1, none⟩ = some (.int .i64 r0) ∧ wc.cell? ⟨NX0, 2, none⟩ = some ((Value.slice (some ⟨bx0x, 0, none⟩) z0x.length z0x.length)) ∧ wc.cell? ⟨NX1, 0, none⟩ = some (.int .i64 s1) ∧ wc.cell? ⟨NX1, 1, none⟩ = some (.int .i64 r1) ∧ wc.cell? ⟨NX1, 2, none⟩ = some ((Value.slice (some ⟨bx1x, 0, none⟩) z1x.length z1x.length)) ∧ wc.cell? ⟨NG, 0, none⟩ = some (.int .i64 qs) ∧ wc.cell? ⟨NG, 1, none⟩ = some (.int .i64 qr) ∧ wc.cell? ⟨NG, 2, none⟩ = some ((Value.slice aoG rs.length cG)) ∧ wc.cell? ⟨NK, 0, none⟩ = some (.int .i64 qs) ∧ wc.cell? ⟨NK, 1, none⟩ = some (.int .i64 qr) ∧ wc.cell? ⟨NK, 2, none⟩ = some ((Value.slice aoK rs.length cK)) ∧ Rd wc b0x (Value.slice ao0x z0x.length cap0x) z0x ∧ Rd wc b1x (Value.slice ao1x z1x.length cap1x) z1x ∧ w.heap.size ≤ wc.heap.size) ∧ Own 2 wc bK (Value.slice aoK rs.length cK) rs ∧ Own 2 wc bW (Value.slice aoW rs.length cW) rs ∧ Own 2 wc bG (Value.slice aoG rs.length cG) (marks 1 rs.length))
  case first =>
    refine wp_region_held_drew (S := (fun ww => Below w.heap.size w ww ∧ ww.cell? ⟨N0, 0, none⟩ = some (.int .i64 s0) ∧ ww.cell? ⟨N0, 1, none⟩ = some (.int .i64 r0) ∧ ww.cell? ⟨N0, 2, none⟩ = some ((Value.slice ao0x z0x.length cap0x)) ∧ ww.cell? ⟨N1, 0, none⟩ = some (.int .i64 s1) ∧ ww.cell? ⟨N1, 1, none⟩ = some (.int .i64 r1) ∧ ww.cell? ⟨N1, 2, none⟩ = some ((Value.slice ao1x z1x.length cap1x)) ∧ ww.cell? ⟨NW, 0, none⟩ = some (.int .i64 qs) ∧ ww.cell? ⟨NW, 1, none⟩ = some (.int .i64 qr) ∧ ww.cell? ⟨NW, 2, none⟩ = some ((Value.slice aoW rs.length cW)) ∧ ww.cell? ⟨NX0, 0, none⟩ = some (.int .i64 s0) ∧ ww.cell? ⟨NX0, 1, none⟩ = some (.int .i64 r0) ∧ ww.cell? ⟨NX0, 2, none⟩ = some ((Value.slice (some ⟨bx0x, 0, none⟩) z0x.length z0x.length)) ∧ ww.cell? ⟨NX1, 0, none⟩ = some (.int .i64 s1) ∧ ww.cell? ⟨NX1, 1, none⟩ = some (.int .i64 r1) ∧ ww.cell? ⟨NX1, 2, none⟩ = some ((Value.slice (some ⟨bx1x, 0, none⟩) z1x.length z1x.length)) ∧ ww.cell? ⟨NG, 0, none⟩ = some (.int .i64 qs) ∧ ww.cell? ⟨NG, 1, none⟩ = some (.int .i64 qr) ∧ ww.cell? ⟨NG, 2, none⟩ = some ((Value.slice aoG rs.length cG)) ∧ Rd ww b0x (Value.slice ao0x z0x.length cap0x) z0x ∧ Rd ww b1x (Value.slice ao1x z1x.length cap1x) z1x ∧ w.heap.size ≤ ww.heap.size)) (by kernel_rfl) ?_ (fun hHeld => ?_)
    · ((try dsimp only); exact drw18_II st)
    replace oW : Own 2 w20.drew bW (Value.slice aoW rs.length cW) rs := oW
    replace oG : Own 2 w20.drew bG (Value.slice aoG rs.length cG) (marks 1 rs.length) := oG
    clear st
    generalize hDr : w20.drew = wD at hHeld oW oG ⊢
    clear hDr
    have HD0 := hid hHeld
    have belD : Below wD.heap.size wD wD := Below.refl _ _
    have HOW := hid oW
    clear oW
    have HOG := hid oG
    clear oG
    (refine wpAnyH_take (i := 0) (v := ?_) rfl ?_ ?_ ?_ (fun _ _ _ h => h) (Or.inl ⟨?_, ?_⟩) ?_ ?_; rotate_left 1; (focus decide +kernel); (focus decide +kernel); (focus decide +kernel); (focus rfl); (focus (intro w hSw; (try dsimp only at hSw); go_simp; (try (with_reducible rfl)); done)); (focus assumption); (try simp only [Act.put, List.setIfInBounds_toArray, List.set_cons_zero, List.set_cons_succ, List.getElem_toArray, List.getElem_cons_succ, List.getElem_cons_zero]))
    (refine wpAnyH_take (i := 2) (v := ?_) rfl ?_ ?_ ?_ (fun _ _ _ h => h) (Or.inl ⟨?_, ?_⟩) ?_ ?_; rotate_left 1; (focus decide +kernel); (focus decide +kernel); (focus decide +kernel); (focus rfl); (focus (intro w hSw; (try dsimp only at hSw); go_simp; (try (with_reducible rfl)); done)); (focus assumption); (try simp only [Act.put, List.setIfInBounds_toArray, List.set_cons_zero, List.set_cons_succ, List.getElem_toArray, List.getElem_cons_succ, List.getElem_cons_zero]))
    refine wpAnyH_ready (rs := [1, 8]) ?_ (by simp) ?_
    · decide +kernel
    refine AllReadyH.cons rfl (fun K hK => ?_) (AllReadyH.cons rfl (fun K hK => ?_) AllReadyH.nil)
    · go_simp
      go_at_call 33
      refine (toR (rdx18_II_0 hHeld) HL0x.out).mono ?_
      rintro e wp0 ⟨bp0x, rfl, op0x, lo, bel⟩
      clear lo
      replace belD := belD.trans (bel.mono belD.size)
      refine hK.out _ _ ?_ (fun hHeld2 => ?_)
      · (try dsimp only); exact nx18_II belD HD0.out
      clear hK K hHeld
      have hHeld := hHeld2
      clear hHeld2
      clear bel
      (try simp only [Act.put, List.setIfInBounds_toArray, List.set_cons_zero, List.set_cons_succ, List.getElem_toArray, List.getElem_cons_succ, List.getElem_cons_zero])
      refine wpAnyH_ready (rs := [3, 8]) ?_ (by simp) ?_
      · decide +kernel
      refine AllReadyH.cons rfl (fun K hK => ?_) (AllReadyH.cons rfl (fun K hK => ?_) AllReadyH.nil)
      · go_simp
        go_at_call 33
        refine (toR (rdx18_II_1 hHeld) HL1x.out).mono ?_
        rintro e wp1 ⟨bp1x, rfl, op1x, lo, bel⟩
        clear lo
        replace belD := belD.trans (bel.mono belD.size)
        replace op0x := op0x.keep bel
        refine hK.out _ _ ?_ (fun hHeld2 => ?_)
        · (try dsimp only); exact nx18_II belD HD0.out
        clear hK K hHeld
        have hHeld := hHeld2
        clear hHeld2
        clear bel
        (try simp only [Act.put, List.setIfInBounds_toArray, List.set_cons_zero, List.set_cons_succ, List.getElem_toArray, List.getElem_cons_succ, List.getElem_cons_zero])
        refine wpAnyH_ready (rs := [4, 8]) ?_ (by simp) ?_
        · decide +kernel
        refine AllReadyH.cons rfl (fun K hK => ?_) (AllReadyH.cons rfl (fun K hK => ?_) AllReadyH.nil)
        · go_simp
          go_at_call 60
          refine (HIm.out _ _ _ _ _ op0x.rd op1x.rd).mono ?_
          rintro e wS ⟨aoK, cK, bK, rfl, oK, lo, bel⟩
          clear op0x op1x lo
          replace belD := belD.trans (bel.mono belD.size)
          refine hK.out _ _ ?_ (fun hHeld2 => ?_)
          · (try dsimp only); exact nx18_II belD HD0.out
          clear hK K hHeld
          have hHeld := hHeld2
          clear hHeld2
          clear bel
          (try simp only [Act.put, List.setIfInBounds_toArray, List.set_cons_zero, List.set_cons_succ, List.getElem_toArray, List.getElem_cons_succ, List.getElem_cons_zero])
          (refine wpAnyH_take (i := 5) (v := ?_) rfl ?_ ?_ ?_ (fun _ _ _ h => h) (Or.inl ⟨?_, ?_⟩) ?_ ?_; rotate_left 1; (focus decide +kernel); (focus decide +kernel); (focus decide +kernel); (focus rfl); (focus (intro w hSw; (try dsimp only at hSw); go_simp; (try (with_reducible rfl)); done)); (focus assumption); (try simp only [Act.put, List.setIfInBounds_toArray, List.set_cons_zero, List.set_cons_succ, List.getElem_toArray, List.getElem_cons_succ, List.getElem_cons_zero]))
          (refine wpAnyH_take (i := 6) (v := ?_) rfl ?_ ?_ ?_ (fun _ _ _ h => h) (Or.inl ⟨?_, ?_⟩) ?_ ?_; rotate_left 1; (focus decide +kernel); (focus decide +kernel); (focus decide +kernel); (focus rfl); (focus (intro w hSw; (try dsimp only at hSw); go_simp; (try (with_reducible rfl)); done)); (focus assumption); (try simp only [Act.put, List.setIfInBounds_toArray, List.set_cons_zero, List.set_cons_succ, List.getElem_toArray, List.getElem_cons_succ, List.getElem_cons_zero]))
          (refine wpAnyH_take (i := 7) (v := ?_) rfl ?_ ?_ ?_ (fun _ _ _ h => h) (Or.inl ⟨?_, ?_⟩) ?_ ?_; rotate_left 1; (focus decide +kernel); (focus decide +kernel); (focus decide +kernel); (focus rfl); (focus (intro w hSw; (try dsimp only at hSw); go_simp; (try (with_reducible rfl)); done)); (focus assumption); (try simp only [Act.put, List.setIfInBounds_toArray, List.set_cons_zero, List.set_cons_succ, List.getElem_toArray, List.getElem_cons_succ, List.getElem_cons_zero]))
          refine wpAnyH_ready (rs := [8]) ?_ (by simp) ?_
          · decide +kernel
          refine AllReadyH.cons rfl (fun K hK => ?_) AllReadyH.nil
          go_simp
          have bel := Rule.below1 wS (Obj.cells #[.int .i64 0, .int .i64 0, .slice none 0 0] 50)
          have lmS := belD.size
          have nBX0 : (Value.slice aoK rs.length cK) = Value.slice none 0 0 ∨ wS.heap.size ≠ bK := (lim oK).imp id Nat.ne_of_gt
          have kB : (wS.alloc (Obj.cells #[.int .i64 0, .int .i64 0, .slice none 0 0] 50)).heap[wS.heap.size]? = some (Obj.cells #[.int .i64 0, .int .i64 0, .slice none 0 0] 50) := heap_top0 _ _
          replace belD := belD.trans (bel.mono belD.size)
          replace oK := oK.keep bel
          refine hK.out _ _ ?_ (fun hHeld2 => ?_)
          · (try dsimp only); exact nx18_II belD HD0.out
          clear hK K hHeld bel
          obtain ⟨va, hWa⟩ : ∃ va, va = wS.alloc (Obj.cells #[.int .i64 0, .int .i64 0, .slice none 0 0] 50) := ⟨_, rfl⟩
          obtain ⟨NB, hNa⟩ : ∃ NB, NB = wS.heap.size := ⟨_, rfl⟩
          rw [← hWa] at belD oK
          rw [← hWa, ← hNa] at kB
          have lmD : wD.heap.size ≤ NB := by rw [hNa]; exact lmS
          clear lmS
          rw [← hNa] at nBX0
          have nBW0 := nBX0
          clear nBX0
          (try dsimp only at hHeld2)
          simp only [← hWa, ← hNa] at hHeld2 ⊢
          clear hWa hNa
          have hHeld := hHeld2
          clear hHeld2
          (try simp only [Act.put, List.setIfInBounds_toArray, List.set_cons_zero, List.set_cons_succ, List.getElem_toArray, List.getElem_cons_succ, List.getElem_cons_zero])
          refine wpAnyH_ready (rs := [9]) ?_ (by simp) ?_
          · decide +kernel
          refine AllReadyH.cons rfl (fun K hK => ?_) AllReadyH.nil
          have y0 : va.cell? ⟨NB, 0, none⟩ = some (.int .i64 0) := Go.Joins.cell_of_block kB 0
          have y1 : va.cell? ⟨NB, 1, none⟩ = some (.int .i64 0) := Go.Joins.cell_of_block kB 1
          have y2 : va.cell? ⟨NB, 2, none⟩ = some (.slice none 0 0) := Go.Joins.cell_of_block kB 2
          have g0 : va.frozen? ⟨NB, 0, none⟩ = false := Go.Joins.unfrozen_of_block kB 0
          have g1 : va.frozen? ⟨NB, 1, none⟩ = false := Go.Joins.unfrozen_of_block kB 1
          have g2 : va.frozen? ⟨NB, 2, none⟩ = false := Go.Joins.unfrozen_of_block kB 2
          have HKB := hid kB
          clear kB
          go_simp
          clear y0 g0 y1 g1 y2 g2
          have q0 := (Go.Joins.block_setCell (i := 2) (Go.Joins.block_setCell (i := 1) (Go.Joins.block_setCell (i := 0) HKB.out (.int .i64 qs)) (.int .i64 qr)) ((Value.slice aoK rs.length cK)))
          have oz0 := (own_setB (own_setB (own_setB oK ⟨NB, 0, none⟩ (.int .i64 qs) nBW0) ⟨NB, 1, none⟩ (.int .i64 qr) nBW0) ⟨NB, 2, none⟩ ((Value.slice aoK rs.length cK)) nBW0)
          have bz := (((belD.setCell (p := ⟨NB, 0, none⟩) lmD (.int .i64 qs)).setCell (p := ⟨NB, 1, none⟩) lmD (.int .i64 qr)).setCell (p := ⟨NB, 2, none⟩) lmD ((Value.slice aoK rs.length cK)))
          obtain ⟨W5, hW5⟩ : ∃ W5, W5 = (((va.setCell ⟨NB, 0, none⟩ (.int .i64 qs)).setCell ⟨NB, 1, none⟩ (.int .i64 qr)).setCell ⟨NB, 2, none⟩ ((Value.slice aoK rs.length cK))) := ⟨_, rfl⟩
          rw [← hW5] at q0 oz0 bz
          have z0 : W5.cell? ⟨NB, 0, none⟩ = some (.int .i64 qs) := Go.Joins.cell_of_block q0 0
          have z1 : W5.cell? ⟨NB, 1, none⟩ = some (.int .i64 qr) := Go.Joins.cell_of_block q0 1
          have z2 : W5.cell? ⟨NB, 2, none⟩ = some ((Value.slice aoK rs.length cK)) := Go.Joins.cell_of_block q0 2
          refine hK.out _ _ ?_ (fun hHeld2 => ?_)
          · (try dsimp only); rw [← hW5]; exact nx18_II bz HD0.out
          clear hK K hHeld
          (try dsimp only at hHeld2)
          simp only [← hW5] at hHeld2 ⊢
          clear hW5 q0
          have hfin : (Below w.heap.size w W5 ∧ W5.cell? ⟨N0, 0, none⟩ = some (.int .i64 s0) ∧ W5.cell? ⟨N0, 1, none⟩ = some (.int .i64 r0) ∧ W5.cell? ⟨N0, 2, none⟩ = some ((Value.slice ao0x z0x.length cap0x)) ∧ W5.cell? ⟨N1, 0, none⟩ = some (.int .i64 s1) ∧ W5.cell? ⟨N1, 1, none⟩ = some (.int .i64 r1) ∧ W5.cell? ⟨N1, 2, none⟩ = some ((Value.slice ao1x z1x.length cap1x)) ∧ W5.cell? ⟨NW, 0, none⟩ = some (.int .i64 qs) ∧ W5.cell? ⟨NW, 1, none⟩ = some (.int .i64 qr) ∧ W5.cell? ⟨NW, 2, none⟩ = some ((Value.slice aoW rs.length cW)) ∧ W5.cell? ⟨NX0, 0, none⟩ = some (.int .i64 s0) ∧ W5.cell? ⟨NX0, 1, none⟩ = some (.int .i64 r0) ∧ W5.cell? ⟨NX0, 2, none⟩ = some ((Value.slice (some ⟨bx0x, 0, none⟩) z0x.length z0x.length)) ∧ W5.cell? ⟨NX1, 0, none⟩ = some (.int .i64 s1) ∧ W5.cell? ⟨NX1, 1, none⟩ = some (.int .i64 r1) ∧ W5.cell? ⟨NX1, 2, none⟩ = some ((Value.slice (some ⟨bx1x, 0, none⟩) z1x.length z1x.length)) ∧ W5.cell? ⟨NG, 0, none⟩ = some (.int .i64 qs) ∧ W5.cell? ⟨NG, 1, none⟩ = some (.int .i64 qr) ∧ W5.cell? ⟨NG, 2, none⟩ = some ((Value.slice aoG rs.length cG)) ∧ W5.cell? ⟨NB, 0, none⟩ = some (.int .i64 qs) ∧ W5.cell? ⟨NB, 1, none⟩ = some (.int .i64 qr) ∧ W5.cell? ⟨NB, 2, none⟩ = some ((Value.slice aoK rs.length cK)) ∧ Rd W5 b0x (Value.slice ao0x z0x.length cap0x) z0x ∧ Rd W5 b1x (Value.slice ao1x z1x.length cap1x) z1x ∧ w.heap.size ≤ W5.heap.size) ∧ Own 2 W5 bK (Value.slice aoK rs.length cK) rs ∧ Own 2 W5 bW (Value.slice aoW rs.length cW) rs ∧ Own 2 W5 bG (Value.slice aoG rs.length cG) (marks 1 rs.length) := by
            obtain ⟨t0, k0, k1, k2, k3, k4, k5, k6, k7, k8, k9, k10, k11, k12, k13, k14, k15, k16, k17, d0, d1, tz⟩ := nx18_II bz HD0.out
            exact ⟨⟨t0, k0, k1, k2, k3, k4, k5, k6, k7, k8, k9, k10, k11, k12, k13, k14, k15, k16, k17, z0, z1, z2, d0, d1, tz⟩, oz0, HOW.out.keep bz, HOG.out.keep bz⟩
          have HF := hid hfin
          clear hfin z0 z1 z2 oz0 bz oK belD HKB HD0 HOW HOG
          have hHeld := hHeld2
          clear hHeld2
          (try simp only [Act.put, List.setIfInBounds_toArray, List.set_cons_zero, List.set_cons_succ, List.getElem_toArray, List.getElem_cons_succ, List.getElem_cons_zero])
          (refine wpAnyH_take (i := 10) (v := ?_) rfl ?_ ?_ ?_ (fun _ _ _ h => h) (Or.inl ⟨?_, ?_⟩) ?_ ?_; rotate_left 1; (focus decide +kernel); (focus decide +kernel); (focus decide +kernel); (focus rfl); (focus (intro w hSw; (try dsimp only at hSw); go_simp; (try (with_reducible rfl)); done)); (focus assumption); (try simp only [Act.put, List.setIfInBounds_toArray, List.set_cons_zero, List.set_cons_succ, List.getElem_toArray, List.getElem_cons_succ, List.getElem_cons_zero]))
          refine wpAnyH_done (by kernel_rfl) ?_ _
          clear hHeld
          go_wp2_with fail
          go_meet
          case rel => exact ⟨NB, bK, aoK, cK, rfl, rfl, HF.out⟩
        · go_simp
          have bel := Rule.below1 wp1 (Obj.cells #[.int .i64 0, .int .i64 0, .slice none 0 0] 50)
          have lmS := belD.size
          have kB : (wp1.alloc (Obj.cells #[.int .i64 0, .int .i64 0, .slice none 0 0] 50)).heap[wp1.heap.size]? = some (Obj.cells #[.int .i64 0, .int .i64 0, .slice none 0 0] 50) := heap_top0 _ _
          replace belD := belD.trans (bel.mono belD.size)
          replace op0x := op0x.keep bel
          replace op1x := op1x.keep bel
          refine hK.out _ _ ?_ (fun hHeld2 => ?_)
          · (try dsimp only); exact nx18_II belD HD0.out
          clear hK K hHeld bel
          obtain ⟨va, hWa⟩ : ∃ va, va = wp1.alloc (Obj.cells #[.int .i64 0, .int .i64 0, .slice none 0 0] 50) := ⟨_, rfl⟩
          obtain ⟨NB, hNa⟩ : ∃ NB, NB = wp1.heap.size := ⟨_, rfl⟩
          rw [← hWa] at belD op0x op1x
          rw [← hWa, ← hNa] at kB
          have lmD : wD.heap.size ≤ NB := by rw [hNa]; exact lmS
          clear lmS
          (try dsimp only at hHeld2)
          simp only [← hWa, ← hNa] at hHeld2 ⊢
          clear hWa hNa
          have hHeld := hHeld2
          clear hHeld2
          (try simp only [Act.put, List.setIfInBounds_toArray, List.set_cons_zero, List.set_cons_succ, List.getElem_toArray, List.getElem_cons_succ, List.getElem_cons_zero])
          refine wpAnyH_ready (rs := [4]) ?_ (by simp) ?_
          · decide +kernel
          refine AllReadyH.cons rfl (fun K hK => ?_) AllReadyH.nil
          go_simp
          go_at_call 60
          refine (HIm.out _ _ _ _ _ op0x.rd op1x.rd).mono ?_
          rintro e wS ⟨aoK, cK, bK, rfl, oK, lo, bel⟩
          have nBW0 : (Value.slice aoK rs.length cK) = Value.slice none 0 0 ∨ NB ≠ bK := .inr <| Nat.ne_of_lt (Nat.lt_of_lt_of_le (Array.getElem?_eq_some_iff.1 kB).1 lo)
          clear op0x op1x lo
          replace belD := belD.trans (bel.mono belD.size)
          replace kB := heap_keep bel kB
          refine hK.out _ _ ?_ (fun hHeld2 => ?_)
          · (try dsimp only); exact nx18_II belD HD0.out
          clear hK K hHeld
          have hHeld := hHeld2
          clear hHeld2
          clear bel
          (try simp only [Act.put, List.setIfInBounds_toArray, List.set_cons_zero, List.set_cons_succ, List.getElem_toArray, List.getElem_cons_succ, List.getElem_cons_zero])
          (refine wpAnyH_take (i := 5) (v := ?_) rfl ?_ ?_ ?_ (fun _ _ _ h => h) (Or.inl ⟨?_, ?_⟩) ?_ ?_; rotate_left 1; (focus decide +kernel); (focus decide +kernel); (focus decide +kernel); (focus rfl); (focus (intro w hSw; (try dsimp only at hSw); go_simp; (try (with_reducible rfl)); done)); (focus assumption); (try simp only [Act.put, List.setIfInBounds_toArray, List.set_cons_zero, List.set_cons_succ, List.getElem_toArray, List.getElem_cons_succ, List.getElem_cons_zero]))
          (refine wpAnyH_take (i := 6) (v := ?_) rfl ?_ ?_ ?_ (fun _ _ _ h => h) (Or.inl ⟨?_, ?_⟩) ?_ ?_; rotate_left 1; (focus decide +kernel); (focus decide +kernel); (focus decide +kernel); (focus rfl); (focus (intro w hSw; (try dsimp only at hSw); go_simp; (try (with_reducible rfl)); done)); (focus assumption); (try simp only [Act.put, List.setIfInBounds_toArray, List.set_cons_zero, List.set_cons_succ, List.getElem_toArray, List.getElem_cons_succ, List.getElem_cons_zero]))
          (refine wpAnyH_take (i := 7) (v := ?_) rfl ?_ ?_ ?_ (fun _ _ _ h => h) (Or.inl ⟨?_, ?_⟩) ?_ ?_; rotate_left 1; (focus decide +kernel); (focus decide +kernel); (focus decide +kernel); (focus rfl); (focus (intro w hSw; (try dsimp only at hSw); go_simp; (try (with_reducible rfl)); done)); (focus assumption); (try simp only [Act.put, List.setIfInBounds_toArray, List.set_cons_zero, List.set_cons_succ, List.getElem_toArray, List.getElem_cons_succ, List.getElem_cons_zero]))
          refine wpAnyH_ready (rs := [9]) ?_ (by simp) ?_
          · decide +kernel
          refine AllReadyH.cons rfl (fun K hK => ?_) AllReadyH.nil
          have y0 : wS.cell? ⟨NB, 0, none⟩ = some (.int .i64 0) := Go.Joins.cell_of_block kB 0
          have y1 : wS.cell? ⟨NB, 1, none⟩ = some (.int .i64 0) := Go.Joins.cell_of_block kB 1
          have y2 : wS.cell? ⟨NB, 2, none⟩ = some (.slice none 0 0) := Go.Joins.cell_of_block kB 2
          have g0 : wS.frozen? ⟨NB, 0, none⟩ = false := Go.Joins.unfrozen_of_block kB 0
          have g1 : wS.frozen? ⟨NB, 1, none⟩ = false := Go.Joins.unfrozen_of_block kB 1
          have g2 : wS.frozen? ⟨NB, 2, none⟩ = false := Go.Joins.unfrozen_of_block kB 2
          have HKB := hid kB
          clear kB
          go_simp
          clear y0 g0 y1 g1 y2 g2
          have q0 := (Go.Joins.block_setCell (i := 2) (Go.Joins.block_setCell (i := 1) (Go.Joins.block_setCell (i := 0) HKB.out (.int .i64 qs)) (.int .i64 qr)) ((Value.slice aoK rs.length cK)))
          have oz0 := (own_setB (own_setB (own_setB oK ⟨NB, 0, none⟩ (.int .i64 qs) nBW0) ⟨NB, 1, none⟩ (.int .i64 qr) nBW0) ⟨NB, 2, none⟩ ((Value.slice aoK rs.length cK)) nBW0)
          have bz := (((belD.setCell (p := ⟨NB, 0, none⟩) lmD (.int .i64 qs)).setCell (p := ⟨NB, 1, none⟩) lmD (.int .i64 qr)).setCell (p := ⟨NB, 2, none⟩) lmD ((Value.slice aoK rs.length cK)))
          obtain ⟨W5, hW5⟩ : ∃ W5, W5 = (((wS.setCell ⟨NB, 0, none⟩ (.int .i64 qs)).setCell ⟨NB, 1, none⟩ (.int .i64 qr)).setCell ⟨NB, 2, none⟩ ((Value.slice aoK rs.length cK))) := ⟨_, rfl⟩
          rw [← hW5] at q0 oz0 bz
          have z0 : W5.cell? ⟨NB, 0, none⟩ = some (.int .i64 qs) := Go.Joins.cell_of_block q0 0
          have z1 : W5.cell? ⟨NB, 1, none⟩ = some (.int .i64 qr) := Go.Joins.cell_of_block q0 1
          have z2 : W5.cell? ⟨NB, 2, none⟩ = some ((Value.slice aoK rs.length cK)) := Go.Joins.cell_of_block q0 2
          refine hK.out _ _ ?_ (fun hHeld2 => ?_)
          · (try dsimp only); rw [← hW5]; exact nx18_II bz HD0.out
          clear hK K hHeld
          (try dsimp only at hHeld2)
          simp only [← hW5] at hHeld2 ⊢
          clear hW5 q0
          have hfin : (Below w.heap.size w W5 ∧ W5.cell? ⟨N0, 0, none⟩ = some (.int .i64 s0) ∧ W5.cell? ⟨N0, 1, none⟩ = some (.int .i64 r0) ∧ W5.cell? ⟨N0, 2, none⟩ = some ((Value.slice ao0x z0x.length cap0x)) ∧ W5.cell? ⟨N1, 0, none⟩ = some (.int .i64 s1) ∧ W5.cell? ⟨N1, 1, none⟩ = some (.int .i64 r1) ∧ W5.cell? ⟨N1, 2, none⟩ = some ((Value.slice ao1x z1x.length cap1x)) ∧ W5.cell? ⟨NW, 0, none⟩ = some (.int .i64 qs) ∧ W5.cell? ⟨NW, 1, none⟩ = some (.int .i64 qr) ∧ W5.cell? ⟨NW, 2, none⟩ = some ((Value.slice aoW rs.length cW)) ∧ W5.cell? ⟨NX0, 0, none⟩ = some (.int .i64 s0) ∧ W5.cell? ⟨NX0, 1, none⟩ = some (.int .i64 r0) ∧ W5.cell? ⟨NX0, 2, none⟩ = some ((Value.slice (some ⟨bx0x, 0, none⟩) z0x.length z0x.length)) ∧ W5.cell? ⟨NX1, 0, none⟩ = some (.int .i64 s1) ∧ W5.cell? ⟨NX1, 1, none⟩ = some (.int .i64 r1) ∧ W5.cell? ⟨NX1, 2, none⟩ = some ((Value.slice (some ⟨bx1x, 0, none⟩) z1x.length z1x.length)) ∧ W5.cell? ⟨NG, 0, none⟩ = some (.int .i64 qs) ∧ W5.cell? ⟨NG, 1, none⟩ = some (.int .i64 qr) ∧ W5.cell? ⟨NG, 2, none⟩ = some ((Value.slice aoG rs.length cG)) ∧ W5.cell? ⟨NB, 0, none⟩ = some (.int .i64 qs) ∧ W5.cell? ⟨NB, 1, none⟩ = some (.int .i64 qr) ∧ W5.cell? ⟨NB, 2, none⟩ = some ((Value.slice aoK rs.length cK)) ∧ Rd W5 b0x (Value.slice ao0x z0x.length cap0x) z0x ∧ Rd W5 b1x (Value.slice ao1x z1x.length cap1x) z1x ∧ w.heap.size ≤ W5.heap.size) ∧ Own 2 W5 bK (Value.slice aoK rs.length cK) rs ∧ Own 2 W5 bW (Value.slice aoW rs.length cW) rs ∧ Own 2 W5 bG (Value.slice aoG rs.length cG) (marks 1 rs.length) := by
            obtain ⟨t0, k0, k1, k2, k3, k4, k5, k6, k7, k8, k9, k10, k11, k12, k13, k14, k15, k16, k17, d0, d1, tz⟩ := nx18_II bz HD0.out
            exact ⟨⟨t0, k0, k1, k2, k3, k4, k5, k6, k7, k8, k9, k10, k11, k12, k13, k14, k15, k16, k17, z0, z1, z2, d0, d1, tz⟩, oz0, HOW.out.keep bz, HOG.out.keep bz⟩
          have HF := hid hfin
          clear hfin z0 z1 z2 oz0 bz oK belD HKB HD0 HOW HOG
          have hHeld := hHeld2
          clear hHeld2
          (try simp only [Act.put, List.setIfInBounds_toArray, List.set_cons_zero, List.set_cons_succ, List.getElem_toArray, List.getElem_cons_succ, List.getElem_cons_zero])
          (refine wpAnyH_take (i := 10) (v := ?_) rfl ?_ ?_ ?_ (fun _ _ _ h => h) (Or.inl ⟨?_, ?_⟩) ?_ ?_; rotate_left 1; (focus decide +kernel); (focus decide +kernel); (focus decide +kernel); (focus rfl); (focus (intro w hSw; (try dsimp only at hSw); go_simp; (try (with_reducible rfl)); done)); (focus assumption); (try simp only [Act.put, List.setIfInBounds_toArray, List.set_cons_zero, List.set_cons_succ, List.getElem_toArray, List.getElem_cons_succ, List.getElem_cons_zero]))
          refine wpAnyH_done (by kernel_rfl) ?_ _
          clear hHeld
          go_wp2_with fail
          go_meet
          case rel => exact ⟨NB, bK, aoK, cK, rfl, rfl, HF.out⟩
      · go_simp
        have bel := Rule.below1 wp0 (Obj.cells #[.int .i64 0, .int .i64 0, .slice none 0 0] 50)
        have lmS := belD.size
        have kB : (wp0.alloc (Obj.cells #[.int .i64 0, .int .i64 0, .slice none 0 0] 50)).heap[wp0.heap.size]? = some (Obj.cells #[.int .i64 0, .int .i64 0, .slice none 0 0] 50) := heap_top0 _ _
        replace belD := belD.trans (bel.mono belD.size)
        replace op0x := op0x.keep bel
        refine hK.out _ _ ?_ (fun hHeld2 => ?_)
        · (try dsimp only); exact nx18_II belD HD0.out
        clear hK K hHeld bel
        obtain ⟨va, hWa⟩ : ∃ va, va = wp0.alloc (Obj.cells #[.int .i64 0, .int .i64 0, .slice none 0 0] 50) := ⟨_, rfl⟩
        obtain ⟨NB, hNa⟩ : ∃ NB, NB = wp0.heap.size := ⟨_, rfl⟩
        rw [← hWa] at belD op0x
        rw [← hWa, ← hNa] at kB
        have lmD : wD.heap.size ≤ NB := by rw [hNa]; exact lmS
        clear lmS
        (try dsimp only at hHeld2)
        simp only [← hWa, ← hNa] at hHeld2 ⊢
        clear hWa hNa
        have hHeld := hHeld2
        clear hHeld2
        (try simp only [Act.put, List.setIfInBounds_toArray, List.set_cons_zero, List.set_cons_succ, List.getElem_toArray, List.getElem_cons_succ, List.getElem_cons_zero])
        refine wpAnyH_ready (rs := [3]) ?_ (by simp) ?_
        · decide +kernel
        refine AllReadyH.cons rfl (fun K hK => ?_) AllReadyH.nil
        go_simp
        go_at_call 33
        refine (toR (rdx18_II_1 hHeld) HL1x.out).mono ?_
        rintro e wp1 ⟨bp1x, rfl, op1x, lo, bel⟩
        clear lo
        replace belD := belD.trans (bel.mono belD.size)
        replace op0x := op0x.keep bel
        replace kB := heap_keep bel kB
        refine hK.out _ _ ?_ (fun hHeld2 => ?_)
        · (try dsimp only); exact nx18_II belD HD0.out
        clear hK K hHeld
        have hHeld := hHeld2
        clear hHeld2
        clear bel
        (try simp only [Act.put, List.setIfInBounds_toArray, List.set_cons_zero, List.set_cons_succ, List.getElem_toArray, List.getElem_cons_succ, List.getElem_cons_zero])
        refine wpAnyH_ready (rs := [4]) ?_ (by simp) ?_
        · decide +kernel
        refine AllReadyH.cons rfl (fun K hK => ?_) AllReadyH.nil
        go_simp
        go_at_call 60
        refine (HIm.out _ _ _ _ _ op0x.rd op1x.rd).mono ?_
        rintro e wS ⟨aoK, cK, bK, rfl, oK, lo, bel⟩
        have nBW0 : (Value.slice aoK rs.length cK) = Value.slice none 0 0 ∨ NB ≠ bK := .inr <| Nat.ne_of_lt (Nat.lt_of_lt_of_le (Array.getElem?_eq_some_iff.1 kB).1 lo)
        clear op0x op1x lo
        replace belD := belD.trans (bel.mono belD.size)
        replace kB := heap_keep bel kB
        refine hK.out _ _ ?_ (fun hHeld2 => ?_)
        · (try dsimp only); exact nx18_II belD HD0.out
        clear hK K hHeld
        have hHeld := hHeld2
        clear hHeld2
        clear bel
        (try simp only [Act.put, List.setIfInBounds_toArray, List.set_cons_zero, List.set_cons_succ, List.getElem_toArray, List.getElem_cons_succ, List.getElem_cons_zero])
        (refine wpAnyH_take (i := 5) (v := ?_) rfl ?_ ?_ ?_ (fun _ _ _ h => h) (Or.inl ⟨?_, ?_⟩) ?_ ?_; rotate_left 1; (focus decide +kernel); (focus decide +kernel); (focus decide +kernel); (focus rfl); (focus (intro w hSw; (try dsimp only at hSw); go_simp; (try (with_reducible rfl)); done)); (focus assumption); (try simp only [Act.put, List.setIfInBounds_toArray, List.set_cons_zero, List.set_cons_succ, List.getElem_toArray, List.getElem_cons_succ, List.getElem_cons_zero]))
        (refine wpAnyH_take (i := 6) (v := ?_) rfl ?_ ?_ ?_ (fun _ _ _ h => h) (Or.inl ⟨?_, ?_⟩) ?_ ?_; rotate_left 1; (focus decide +kernel); (focus decide +kernel); (focus decide +kernel); (focus rfl); (focus (intro w hSw; (try dsimp only at hSw); go_simp; (try (with_reducible rfl)); done)); (focus assumption); (try simp only [Act.put, List.setIfInBounds_toArray, List.set_cons_zero, List.set_cons_succ, List.getElem_toArray, List.getElem_cons_succ, List.getElem_cons_zero]))
        (refine wpAnyH_take (i := 7) (v := ?_) rfl ?_ ?_ ?_ (fun _ _ _ h => h) (Or.inl ⟨?_, ?_⟩) ?_ ?_; rotate_left 1; (focus decide +kernel); (focus decide +kernel); (focus decide +kernel); (focus rfl); (focus (intro w hSw; (try dsimp only at hSw); go_simp; (try (with_reducible rfl)); done)); (focus assumption); (try simp only [Act.put, List.setIfInBounds_toArray, List.set_cons_zero, List.set_cons_succ, List.getElem_toArray, List.getElem_cons_succ, List.getElem_cons_zero]))
        refine wpAnyH_ready (rs := [9]) ?_ (by simp) ?_
        · decide +kernel
        refine AllReadyH.cons rfl (fun K hK => ?_) AllReadyH.nil
        have y0 : wS.cell? ⟨NB, 0, none⟩ = some (.int .i64 0) := Go.Joins.cell_of_block kB 0
        have y1 : wS.cell? ⟨NB, 1, none⟩ = some (.int .i64 0) := Go.Joins.cell_of_block kB 1
        have y2 : wS.cell? ⟨NB, 2, none⟩ = some (.slice none 0 0) := Go.Joins.cell_of_block kB 2
        have g0 : wS.frozen? ⟨NB, 0, none⟩ = false := Go.Joins.unfrozen_of_block kB 0
        have g1 : wS.frozen? ⟨NB, 1, none⟩ = false := Go.Joins.unfrozen_of_block kB 1
        have g2 : wS.frozen? ⟨NB, 2, none⟩ = false := Go.Joins.unfrozen_of_block kB 2
        have HKB := hid kB
        clear kB
        go_simp
        clear y0 g0 y1 g1 y2 g2
        have q0 := (Go.Joins.block_setCell (i := 2) (Go.Joins.block_setCell (i := 1) (Go.Joins.block_setCell (i := 0) HKB.out (.int .i64 qs)) (.int .i64 qr)) ((Value.slice aoK rs.length cK)))
        have oz0 := (own_setB (own_setB (own_setB oK ⟨NB, 0, none⟩ (.int .i64 qs) nBW0) ⟨NB, 1, none⟩ (.int .i64 qr) nBW0) ⟨NB, 2, none⟩ ((Value.slice aoK rs.length cK)) nBW0)
        have bz := (((belD.setCell (p := ⟨NB, 0, none⟩) lmD (.int .i64 qs)).setCell (p := ⟨NB, 1, none⟩) lmD (.int .i64 qr)).setCell (p := ⟨NB, 2, none⟩) lmD ((Value.slice aoK rs.length cK)))
        obtain ⟨W5, hW5⟩ : ∃ W5, W5 = (((wS.setCell ⟨NB, 0, none⟩ (.int .i64 qs)).setCell ⟨NB, 1, none⟩ (.int .i64 qr)).setCell ⟨NB, 2, none⟩ ((Value.slice aoK rs.length cK))) := ⟨_, rfl⟩
        rw [← hW5] at q0 oz0 bz
        have z0 : W5.cell? ⟨NB, 0, none⟩ = some (.int .i64 qs) := Go.Joins.cell_of_block q0 0
        have z1 : W5.cell? ⟨NB, 1, none⟩ = some (.int .i64 qr) := Go.Joins.cell_of_block q0 1
        have z2 : W5.cell? ⟨NB, 2, none⟩ = some ((Value.slice aoK rs.length cK)) := Go.Joins.cell_of_block q0 2
        refine hK.out _ _ ?_ (fun hHeld2 => ?_)
        · (try dsimp only); rw [← hW5]; exact nx18_II bz HD0.out
        clear hK K hHeld
        (try dsimp only at hHeld2)
        simp only [← hW5] at hHeld2 ⊢
        clear hW5 q0
        have hfin : (Below w.heap.size w W5 ∧ W5.cell? ⟨N0, 0, none⟩ = some (.int .i64 s0) ∧ W5.cell? ⟨N0, 1, none⟩ = some (.int .i64 r0) ∧ W5.cell? ⟨N0, 2, none⟩ = some ((Value.slice ao0x z0x.length cap0x)) ∧ W5.cell? ⟨N1, 0, none⟩ = some (.int .i64 s1) ∧ W5.cell? ⟨N1, 1, none⟩ = some (.int .i64 r1) ∧ W5.cell? ⟨N1, 2, none⟩ = some ((Value.slice ao1x z1x.length cap1x)) ∧ W5.cell? ⟨NW, 0, none⟩ = some (.int .i64 qs) ∧ W5.cell? ⟨NW, 1, none⟩ = some (.int .i64 qr) ∧ W5.cell? ⟨NW, 2, none⟩ = some ((Value.slice aoW rs.length cW)) ∧ W5.cell? ⟨NX0, 0, none⟩ = some (.int .i64 s0) ∧ W5.cell? ⟨NX0, 1, none⟩ = some (.int .i64 r0) ∧ W5.cell? ⟨NX0, 2, none⟩ = some ((Value.slice (some ⟨bx0x, 0, none⟩) z0x.length z0x.length)) ∧ W5.cell? ⟨NX1, 0, none⟩ = some (.int .i64 s1) ∧ W5.cell? ⟨NX1, 1, none⟩ = some (.int .i64 r1) ∧ W5.cell? ⟨NX1, 2, none⟩ = some ((Value.slice (some ⟨bx1x, 0, none⟩) z1x.length z1x.length)) ∧ W5.cell? ⟨NG, 0, none⟩ = some (.int .i64 qs) ∧ W5.cell? ⟨NG, 1, none⟩ = some (.int .i64 qr) ∧ W5.cell? ⟨NG, 2, none⟩ = some ((Value.slice aoG rs.length cG)) ∧ W5.cell? ⟨NB, 0, none⟩ = some (.int .i64 qs) ∧ W5.cell? ⟨NB, 1, none⟩ = some (.int .i64 qr) ∧ W5.cell? ⟨NB, 2, none⟩ = some ((Value.slice aoK rs.length cK)) ∧ Rd W5 b0x (Value.slice ao0x z0x.length cap0x) z0x ∧ Rd W5 b1x (Value.slice ao1x z1x.length cap1x) z1x ∧ w.heap.size ≤ W5.heap.size) ∧ Own 2 W5 bK (Value.slice aoK rs.length cK) rs ∧ Own 2 W5 bW (Value.slice aoW rs.length cW) rs ∧ Own 2 W5 bG (Value.slice aoG rs.length cG) (marks 1 rs.length) := by
          obtain ⟨t0, k0, k1, k2, k3, k4, k5, k6, k7, k8, k9, k10, k11, k12, k13, k14, k15, k16, k17, d0, d1, tz⟩ := nx18_II bz HD0.out
          exact ⟨⟨t0, k0, k1, k2, k3, k4, k5, k6, k7, k8, k9, k10, k11, k12, k13, k14, k15, k16, k17, z0, z1, z2, d0, d1, tz⟩, oz0, HOW.out.keep bz, HOG.out.keep bz⟩
        have HF := hid hfin
        clear hfin z0 z1 z2 oz0 bz oK belD HKB HD0 HOW HOG
        have hHeld := hHeld2
        clear hHeld2
        (try simp only [Act.put, List.setIfInBounds_toArray, List.set_cons_zero, List.set_cons_succ, List.getElem_toArray, List.getElem_cons_succ, List.getElem_cons_zero])
        (refine wpAnyH_take (i := 10) (v := ?_) rfl ?_ ?_ ?_ (fun _ _ _ h => h) (Or.inl ⟨?_, ?_⟩) ?_ ?_; rotate_left 1; (focus decide +kernel); (focus decide +kernel); (focus decide +kernel); (focus rfl); (focus (intro w hSw; (try dsimp only at hSw); go_simp; (try (with_reducible rfl)); done)); (focus assumption); (try simp only [Act.put, List.setIfInBounds_toArray, List.set_cons_zero, List.set_cons_succ, List.getElem_toArray, List.getElem_cons_succ, List.getElem_cons_zero]))
        refine wpAnyH_done (by kernel_rfl) ?_ _
        clear hHeld
        go_wp2_with fail
        go_meet
        case rel => exact ⟨NB, bK, aoK, cK, rfl, rfl, HF.out⟩
    · go_simp
      have bel := Rule.below1 wD (Obj.cells #[.int .i64 0, .int .i64 0, .slice none 0 0] 50)
      have lmS := belD.size
      have kB : (wD.alloc (Obj.cells #[.int .i64 0, .int .i64 0, .slice none 0 0] 50)).heap[wD.heap.size]? = some (Obj.cells #[.int .i64 0, .int .i64 0, .slice none 0 0] 50) := heap_top0 _ _
      replace belD := belD.trans (bel.mono belD.size)
      refine hK.out _ _ ?_ (fun hHeld2 => ?_)
      · (try dsimp only); exact nx18_II belD HD0.out
      clear hK K hHeld bel
      obtain ⟨va, hWa⟩ : ∃ va, va = wD.alloc (Obj.cells #[.int .i64 0, .int .i64 0, .slice none 0 0] 50) := ⟨_, rfl⟩
      obtain ⟨NB, hNa⟩ : ∃ NB, NB = wD.heap.size := ⟨_, rfl⟩
      rw [← hWa] at belD 
      rw [← hWa, ← hNa] at kB
      have lmD : wD.heap.size ≤ NB := by rw [hNa]; exact lmS
      clear lmS
      (try dsimp only at hHeld2)
      simp only [← hWa, ← hNa] at hHeld2 ⊢
      clear hWa hNa
      have hHeld := hHeld2
      clear hHeld2
      (try simp only [Act.put, List.setIfInBounds_toArray, List.set_cons_zero, List.set_cons_succ, List.getElem_toArray, List.getElem_cons_succ, List.getElem_cons_zero])
      refine wpAnyH_ready (rs := [1]) ?_ (by simp) ?_
      · decide +kernel
      refine AllReadyH.cons rfl (fun K hK => ?_) AllReadyH.nil
      go_simp
      go_at_call 33
      refine (toR (rdx18_II_0 hHeld) HL0x.out).mono ?_
      rintro e wp0 ⟨bp0x, rfl, op0x, lo, bel⟩
      clear lo
      replace belD := belD.trans (bel.mono belD.size)
      replace kB := heap_keep bel kB
      refine hK.out _ _ ?_ (fun hHeld2 => ?_)
      · (try dsimp only); exact nx18_II belD HD0.out
      clear hK K hHeld
      have hHeld := hHeld2
      clear hHeld2
      clear bel
      (try simp only [Act.put, List.setIfInBounds_toArray, List.set_cons_zero, List.set_cons_succ, List.getElem_toArray, List.getElem_cons_succ, List.getElem_cons_zero])
      refine wpAnyH_ready (rs := [3]) ?_ (by simp) ?_
      · decide +kernel
      refine AllReadyH.cons rfl (fun K hK => ?_) AllReadyH.nil
      go_simp
      go_at_call 33
      refine (toR (rdx18_II_1 hHeld) HL1x.out).mono ?_
      rintro e wp1 ⟨bp1x, rfl, op1x, lo, bel⟩
      clear lo
      replace belD := belD.trans (bel.mono belD.size)
      replace op0x := op0x.keep bel
      replace kB := heap_keep bel kB
      refine hK.out _ _ ?_ (fun hHeld2 => ?_)
      · (try dsimp only); exact nx18_II belD HD0.out
      clear hK K hHeld
      have hHeld := hHeld2
      clear hHeld2
      clear bel
      (try simp only [Act.put, List.setIfInBounds_toArray, List.set_cons_zero, List.set_cons_succ, List.getElem_toArray, List.getElem_cons_succ, List.getElem_cons_zero])
      refine wpAnyH_ready (rs := [4]) ?_ (by simp) ?_
      · decide +kernel
      refine AllReadyH.cons rfl (fun K hK => ?_) AllReadyH.nil
      go_simp
      go_at_call 60
      refine (HIm.out _ _ _ _ _ op0x.rd op1x.rd).mono ?_
      rintro e wS ⟨aoK, cK, bK, rfl, oK, lo, bel⟩
      have nBW0 : (Value.slice aoK rs.length cK) = Value.slice none 0 0 ∨ NB ≠ bK := .inr <| Nat.ne_of_lt (Nat.lt_of_lt_of_le (Array.getElem?_eq_some_iff.1 kB).1 lo)
      clear op0x op1x lo
      replace belD := belD.trans (bel.mono belD.size)
      replace kB := heap_keep bel kB
      refine hK.out _ _ ?_ (fun hHeld2 => ?_)
      · (try dsimp only); exact nx18_II belD HD0.out
      clear hK K hHeld
      have hHeld := hHeld2
      clear hHeld2
      clear bel
      (try simp only [Act.put, List.setIfInBounds_toArray, List.set_cons_zero, List.set_cons_succ, List.getElem_toArray, List.getElem_cons_succ, List.getElem_cons_zero])
      (refine wpAnyH_take (i := 5) (v := ?_) rfl ?_ ?_ ?_ (fun _ _ _ h => h) (Or.inl ⟨?_, ?_⟩) ?_ ?_; rotate_left 1; (focus decide +kernel); (focus decide +kernel); (focus decide +kernel); (focus rfl); (focus (intro w hSw; (try dsimp only at hSw); go_simp; (try (with_reducible rfl)); done)); (focus assumption); (try simp only [Act.put, List.setIfInBounds_toArray, List.set_cons_zero, List.set_cons_succ, List.getElem_toArray, List.getElem_cons_succ, List.getElem_cons_zero]))
      (refine wpAnyH_take (i := 6) (v := ?_) rfl ?_ ?_ ?_ (fun _ _ _ h => h) (Or.inl ⟨?_, ?_⟩) ?_ ?_; rotate_left 1; (focus decide +kernel); (focus decide +kernel); (focus decide +kernel); (focus rfl); (focus (intro w hSw; (try dsimp only at hSw); go_simp; (try (with_reducible rfl)); done)); (focus assumption); (try simp only [Act.put, List.setIfInBounds_toArray, List.set_cons_zero, List.set_cons_succ, List.getElem_toArray, List.getElem_cons_succ, List.getElem_cons_zero]))
      (refine wpAnyH_take (i := 7) (v := ?_) rfl ?_ ?_ ?_ (fun _ _ _ h => h) (Or.inl ⟨?_, ?_⟩) ?_ ?_; rotate_left 1; (focus decide +kernel); (focus decide +kernel); (focus decide +kernel); (focus rfl); (focus (intro w hSw; (try dsimp only at hSw); go_simp; (try (with_reducible rfl)); done)); (focus assumption); (try simp only [Act.put, List.setIfInBounds_toArray, List.set_cons_zero, List.set_cons_succ, List.getElem_toArray, List.getElem_cons_succ, List.getElem_cons_zero]))
      refine wpAnyH_ready (rs := [9]) ?_ (by simp) ?_
      · decide +kernel
      refine AllReadyH.cons rfl (fun K hK => ?_) AllReadyH.nil
      have y0 : wS.cell? ⟨NB, 0, none⟩ = some (.int .i64 0) := Go.Joins.cell_of_block kB 0
      have y1 : wS.cell? ⟨NB, 1, none⟩ = some (.int .i64 0) := Go.Joins.cell_of_block kB 1
      have y2 : wS.cell? ⟨NB, 2, none⟩ = some (.slice none 0 0) := Go.Joins.cell_of_block kB 2
      have g0 : wS.frozen? ⟨NB, 0, none⟩ = false := Go.Joins.unfrozen_of_block kB 0
      have g1 : wS.frozen? ⟨NB, 1, none⟩ = false := Go.Joins.unfrozen_of_block kB 1
      have g2 : wS.frozen? ⟨NB, 2, none⟩ = false := Go.Joins.unfrozen_of_block kB 2
      have HKB := hid kB
      clear kB
      go_simp
      clear y0 g0 y1 g1 y2 g2
      have q0 := (Go.Joins.block_setCell (i := 2) (Go.Joins.block_setCell (i := 1) (Go.Joins.block_setCell (i := 0) HKB.out (.int .i64 qs)) (.int .i64 qr)) ((Value.slice aoK rs.length cK)))
      have oz0 := (own_setB (own_setB (own_setB oK ⟨NB, 0, none⟩ (.int .i64 qs) nBW0) ⟨NB, 1, none⟩ (.int .i64 qr) nBW0) ⟨NB, 2, none⟩ ((Value.slice aoK rs.length cK)) nBW0)
      have bz := (((belD.setCell (p := ⟨NB, 0, none⟩) lmD (.int .i64 qs)).setCell (p := ⟨NB, 1, none⟩) lmD (.int .i64 qr)).setCell (p := ⟨NB, 2, none⟩) lmD ((Value.slice aoK rs.length cK)))
      obtain ⟨W5, hW5⟩ : ∃ W5, W5 = (((wS.setCell ⟨NB, 0, none⟩ (.int .i64 qs)).setCell ⟨NB, 1, none⟩ (.int .i64 qr)).setCell ⟨NB, 2, none⟩ ((Value.slice aoK rs.length cK))) := ⟨_, rfl⟩
      rw [← hW5] at q0 oz0 bz
      have z0 : W5.cell? ⟨NB, 0, none⟩ = some (.int .i64 qs) := Go.Joins.cell_of_block q0 0
      have z1 : W5.cell? ⟨NB, 1, none⟩ = some (.int .i64 qr) := Go.Joins.cell_of_block q0 1
      have z2 : W5.cell? ⟨NB, 2, none⟩ = some ((Value.slice aoK rs.length cK)) := Go.Joins.cell_of_block q0 2
      refine hK.out _ _ ?_ (fun hHeld2 => ?_)
      · (try dsimp only); rw [← hW5]; exact nx18_II bz HD0.out
      clear hK K hHeld
      (try dsimp only at hHeld2)
      simp only [← hW5] at hHeld2 ⊢
      clear hW5 q0
      have hfin : (Below w.heap.size w W5 ∧ W5.cell? ⟨N0, 0, none⟩ = some (.int .i64 s0) ∧ W5.cell? ⟨N0, 1, none⟩ = some (.int .i64 r0) ∧ W5.cell? ⟨N0, 2, none⟩ = some ((Value.slice ao0x z0x.length cap0x)) ∧ W5.cell? ⟨N1, 0, none⟩ = some (.int .i64 s1) ∧ W5.cell? ⟨N1, 1, none⟩ = some (.int .i64 r1) ∧ W5.cell? ⟨N1, 2, none⟩ = some ((Value.slice ao1x z1x.length cap1x)) ∧ W5.cell? ⟨NW, 0, none⟩ = some (.int .i64 qs) ∧ W5.cell? ⟨NW, 1, none⟩ = some (.int .i64 qr) ∧ W5.cell? ⟨NW, 2, none⟩ = some ((Value.slice aoW rs.length cW)) ∧ W5.cell? ⟨NX0, 0, none⟩ = some (.int .i64 s0) ∧ W5.cell? ⟨NX0, 1, none⟩ = some (.int .i64 r0) ∧ W5.cell? ⟨NX0, 2, none⟩ = some ((Value.slice (some ⟨bx0x, 0, none⟩) z0x.length z0x.length)) ∧ W5.cell? ⟨NX1, 0, none⟩ = some (.int .i64 s1) ∧ W5.cell? ⟨NX1, 1, none⟩ = some (.int .i64 r1) ∧ W5.cell? ⟨NX1, 2, none⟩ = some ((Value.slice (some ⟨bx1x, 0, none⟩) z1x.length z1x.length)) ∧ W5.cell? ⟨NG, 0, none⟩ = some (.int .i64 qs) ∧ W5.cell? ⟨NG, 1, none⟩ = some (.int .i64 qr) ∧ W5.cell? ⟨NG, 2, none⟩ = some ((Value.slice aoG rs.length cG)) ∧ W5.cell? ⟨NB, 0, none⟩ = some (.int .i64 qs) ∧ W5.cell? ⟨NB, 1, none⟩ = some (.int .i64 qr) ∧ W5.cell? ⟨NB, 2, none⟩ = some ((Value.slice aoK rs.length cK)) ∧ Rd W5 b0x (Value.slice ao0x z0x.length cap0x) z0x ∧ Rd W5 b1x (Value.slice ao1x z1x.length cap1x) z1x ∧ w.heap.size ≤ W5.heap.size) ∧ Own 2 W5 bK (Value.slice aoK rs.length cK) rs ∧ Own 2 W5 bW (Value.slice aoW rs.length cW) rs ∧ Own 2 W5 bG (Value.slice aoG rs.length cG) (marks 1 rs.length) := by
        obtain ⟨t0, k0, k1, k2, k3, k4, k5, k6, k7, k8, k9, k10, k11, k12, k13, k14, k15, k16, k17, d0, d1, tz⟩ := nx18_II bz HD0.out
        exact ⟨⟨t0, k0, k1, k2, k3, k4, k5, k6, k7, k8, k9, k10, k11, k12, k13, k14, k15, k16, k17, z0, z1, z2, d0, d1, tz⟩, oz0, HOW.out.keep bz, HOG.out.keep bz⟩
      have HF := hid hfin
      clear hfin z0 z1 z2 oz0 bz oK belD HKB HD0 HOW HOG
      have hHeld := hHeld2
      clear hHeld2
      (try simp only [Act.put, List.setIfInBounds_toArray, List.set_cons_zero, List.set_cons_succ, List.getElem_toArray, List.getElem_cons_succ, List.getElem_cons_zero])
      (refine wpAnyH_take (i := 10) (v := ?_) rfl ?_ ?_ ?_ (fun _ _ _ h => h) (Or.inl ⟨?_, ?_⟩) ?_ ?_; rotate_left 1; (focus decide +kernel); (focus decide +kernel); (focus decide +kernel); (focus rfl); (focus (intro w hSw; (try dsimp only at hSw); go_simp; (try (with_reducible rfl)); done)); (focus assumption); (try simp only [Act.put, List.setIfInBounds_toArray, List.set_cons_zero, List.set_cons_succ, List.getElem_toArray, List.getElem_cons_succ, List.getElem_cons_zero]))
      refine wpAnyH_done (by kernel_rfl) ?_ _
      clear hHeld
      go_wp2_with fail
      go_meet
      case rel => exact ⟨NB, bK, aoK, cK, rfl, rfl, HF.out⟩
  clear st oW oG
  obtain ⟨NK, bK, aoK, cK, rfl, rfl, st, oK, oW, oG⟩ := hcut
  rename World => w21
  go_wp2_with fail
  go_at_call 37
  refine (eqR oK.rd oW.rd).mono ?_
  rintro e w22 ⟨rfl, bel⟩
  replace st := nx21_II bel st
  replace oW := oW.keep bel
  replace oG := oG.keep bel
  replace oK := oK.keep bel
  clear bel
  go_wp2_with fail
  go_at_call 61
  refine (heldR oG.rd (by omega) (by have := HN.out; omega)).mono ?_
  rintro e w23 ⟨rfl, bel⟩
  replace st := nx21_II bel st
  replace oW := oW.keep bel
  replace oG := oG.keep bel
  replace oK := oK.keep bel
  clear bel
  go_wp2
  go_ret
  exact ⟨rfl, And.left st⟩

set_option maxRecDepth 100000 in
theorem lifted (os : Os) (started : os.Started) (H : Type) (enc : TypeId × Value → H) :
    ReturnsInHanded {} Try.checked os 14 .any (Rows.fnExactJoinRulesSpec.pre6 enc Try.prog Try.f14 Rows.fnExactJoinRulesRow.domain false) (Rows.fnExactJoinRulesSpec.post enc Try.prog Try.f14 false true false false) := by
  refine returnsInHanded_of_change (C := Try.checked) own started (by kernel_rfl) Try.func14
    (ChangeSpec.witness6 (enc := enc) (C := Try.checked) false ⟨#[], #[.agg #[.int .i64 0, .int .i64 0, .slice none 0 0], .agg #[.int .i64 0, .int .i64 0, .slice none 0 0]], []⟩ 8 (by kernel_rfl) (by kernel_rfl) (by kernel_rfl) (by kernel_rfl)) ?_
  intro W base args ds gs before hval0 hW hcnd hreach
  have hval : ∀ (j : Nat) t v, Try.f14.params[j]? = some t → args[j]? = some v → Value.okWide Try.prog W .any base t v := hval0
  have hW' := hW
  obtain ⟨p, q, hA0, hV, rfl, hfz, hnd⟩ := hW
  have hA : DataW.TrodAll enc Try.prog W 0 (fun _ => true) true Try.f14.params.toList args.toList ds p := hA0
  rw [Try.params14] at hA hval
  obtain ⟨v0, vs0, d0, ds0, p0, q0, hargs, rfl, rfl, h0, r0⟩ := trodAll_cons hA
  obtain ⟨v1, vs1, d1, ds1, p1, q1, rfl, rfl, rfl, h1, r1⟩ := trodAll_cons r0
  obtain ⟨rfl, rfl, rfl⟩ := trodAll_nil r1
  obtain rfl : args = #[v0, v1] := by cases args; simp_all
  obtain ⟨rfl, rfl⟩ := trodVars_none hV
  have k0 := h0
  have lt0 : ∀ x ∈ p0, x.block < W.heap.size := by obtain ⟨m, hm⟩ := k0; exact DataW.trod_lt m _ _ _ hm
  obtain ⟨c00, c01, c02, y00, y01, y02, m0, rfl, hd0, hp0, t00, t01, t02⟩ := open_agg3 Try.underlying45 (by kernel_rfl) (by kernel_rfl) (hval 0 45 v0 rfl rfl) h0
  obtain ⟨a00, e00, _, w00⟩ := DataW.trod_int Try.underlying2 t00
  simp at e00
  subst e00
  obtain ⟨a01, e01, _, w01⟩ := DataW.trod_int Try.underlying2 t01
  simp at e01
  subst e01
  obtain ⟨a0, len0, cap0, e0⟩ := slice_form Try.underlying43 t02
  simp at e0
  subst e0
  obtain ⟨b0, z0, _, w0⟩ : ∃ b zs, zs.length = len0 ∧ Rd W b (.slice a0 len0 cap0) zs := rd_open Try.underlying43 Try.underlying2 (by kernel_rfl) t02
  have k1 := h1
  have lt1 : ∀ x ∈ p1, x.block < W.heap.size := by obtain ⟨m, hm⟩ := k1; exact DataW.trod_lt m _ _ _ hm
  obtain ⟨c10, c11, c12, y10, y11, y12, m1, rfl, hd1, hp1, t10, t11, t12⟩ := open_agg3 Try.underlying45 (by kernel_rfl) (by kernel_rfl) (hval 1 45 v1 rfl rfl) h1
  obtain ⟨a10, e10, _, w10⟩ := DataW.trod_int Try.underlying2 t10
  simp at e10
  subst e10
  obtain ⟨a11, e11, _, w11⟩ := DataW.trod_int Try.underlying2 t11
  simp at e11
  subst e11
  obtain ⟨a1, len1, cap1, e1⟩ := slice_form Try.underlying43 t12
  simp at e1
  subst e1
  obtain ⟨b1, z1, _, w1⟩ : ∃ b zs, zs.length = len1 ∧ Rd W b (.slice a1 len1 cap1) zs := rd_open Try.underlying43 Try.underlying2 (by kernel_rfl) t12
  clear hA0 hval0
  refine (walk w00 w01 w0 w10 w11 w1).mono fun e W' ⟨he, bel⟩ => ?_
  subst he
  exact ⟨_, rfl, _, _, _, [], _, [], hW', trodAll_mk1 (shut_bool Try.underlying4 _), (trodAll_cons_mk (Below.trod laidOut (by kernel_rfl) (of_decide_eq_true (by kernel_rfl)) k0 bel lt0) (trodAll_cons_mk (Below.trod laidOut (by kernel_rfl) (of_decide_eq_true (by kernel_rfl)) k1 bel lt1) (trodAll_mk0))), rfl, bel.frame _, fun h => by cases h⟩

theorem over : Rows.fnExactJoinRulesRow.holds Try.pinned (OpenSpec.ofChange Rows.fnExactJoinRulesSpec) :=
  OpenClaim.holds_of_wide 14 Try.f14 rfl rfl rfl rfl rfl rfl rfl ⟨rfl, rfl, rfl, rfl, rfl⟩ rfl rfl rfl rfl rfl (by kernel_rfl) Try.func14 (by unfold joinedFacts; rw [MayA.fact, MayB.fact, MayC.fact]; kernel_rfl)
    (of_decide_eq_true (by kernel_rfl)) (by unfold Func.isWrapper; rw [if_neg (of_decide_eq_false (by kernel_rfl))]; exact ⟨rfl, rfl⟩)
    (fun os started H enc _ => lifted os started H enc)

theorem proved : Rows.FnExactJoinRulesSaid := over
end Go.Proofs.Ytejchjjkehmgaaa.lawJoinRules
