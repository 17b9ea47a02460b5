/- MassOf of the program. -/
import Derived.Test.YtejchjjkehmgaaaMasS
import Derived.Deep.MidRow
import Derived.Deep.WholeRow
namespace Go.Proofs.Ytejchjjkehmgaaa.MasI
open Go.RowKit Go.Proofs.Ytejchjjkehmgaaa.Rd Go.Proofs.Ytejchjjkehmgaaa.Rdb Go.Proofs.Ytejchjjkehmgaaa.Rdf Go.Proofs.Ytejchjjkehmgaaa.Fl Go.Proofs.Ytejchjjkehmgaaa.Help Go.Proofs.Ytejchjjkehmgaaa.Ring Go.Proofs.Ytejchjjkehmgaaa.Small Go.Proofs.Ytejchjjkehmgaaa.Keep Go.Proofs.Ytejchjjkehmgaaa.Rule Go.Proofs.Ytejchjjkehmgaaa.WVal Go.Proofs.Ytejchjjkehmgaaa.MasS
open Go.Proofs.Ytejchjjkehmgaaa.Fsm (accF sumG is_word is_zero)
set_option linter.unusedVariables false
set_option linter.unusedSimpArgs false

theorem ix9 {x0 x1 x2 x3 x4 x5 x6 x7 x8 : Nat} {k : Nat} (hk : k < 9) (w : World) : (Instr.index 96 (.agg #[.float .f32 x0, .float .f32 x1, .float .f32 x2, .float .f32 x3, .float .f32 x4, .float .f32 x5, .float .f32 x6, .float .f32 x7, .float .f32 x8]) (.int .i64 k)).run Try.prog w = .ok (.float .f32 (([x0, x1, x2, x3, x4, x5, x6, x7, x8] : List Nat).getD k 0)) w := by
  rcases (show k = 0 ∨ k = 1 ∨ k = 2 ∨ k = 3 ∨ k = 4 ∨ k = 5 ∨ k = 6 ∨ k = 7 ∨ k = 8 by omega) with rfl | rfl | rfl | rfl | rfl | rfl | rfl | rfl | rfl <;> kernel_rfl
set_option maxHeartbeats 2000000 in
set_option maxRecDepth 100000 in
theorem mass {w : World} {x0 x1 x2 x3 x4 x5 x6 x7 x8 : Nat} (hw : W32 [x0, x1, x2, x3, x4, x5, x6, x7, x8]) :
    Calls Try.prog 72 #[.agg #[.float .f32 x0, .float .f32 x1, .float .f32 x2, .float .f32 x3, .float .f32 x4, .float .f32 x5, .float .f32 x6, .float .f32 x7, .float .f32 x8]] w fun e w' => ∃ r, e = .returned (.float .f32 r) ∧ Is .f32 r (accF (sumG [x0, x1, x2, x3, x4, x5, x6, x7, x8]) 9) ∧ Below w.heap.size w w' := by
  obtain ⟨zs, hzs⟩ : ∃ zs : List Nat, zs = [x0, x1, x2, x3, x4, x5, x6, x7, x8] := ⟨_, rfl⟩
  have HIX : Hid (∀ k : Nat, k < 9 → ∀ w : World, (Instr.index 96 (.agg #[.float .f32 x0, .float .f32 x1, .float .f32 x2, .float .f32 x3, .float .f32 x4, .float .f32 x5, .float .f32 x6, .float .f32 x7, .float .f32 x8]) (.int .i64 k)).run Try.prog w = .ok (.float .f32 (zs.getD k 0)) w) := by rw [hzs]; exact fun k hk w => ix9 hk w
  rw [← hzs] at hw ⊢
  have HW := hid hw
  clear hw hzs
  go_enter Try.func72, Try.ntmps72
  go_wp2
  go_loopw [3, 5, 7] (fun x y i wr => ∃ k : Nat, k ≤ 9 ∧ i = .int .i64 k ∧ (∃ X : Nat, x = .float .f32 X ∧ Is .f32 X (accF (sumG zs) k)) ∧ Below w.heap.size w wr) (fun _ _ i _ => 9 - (intOf i).toNat)
  case atStart => exact ⟨0, by omega, rfl, ⟨0, rfl, is_zero⟩, below1 _ _⟩
  case round =>
    obtain ⟨k, hk, rfl, ⟨X, rfl, HA⟩, bel⟩ := hrel
    by_cases hlt : k < 9
    · have hki : (k : Int) < 9 := by omega
      have hix := HIX.out k hlt
      obtain ⟨z, hz⟩ : ∃ z, z = zs.getD k 0 := ⟨_, rfl⟩
      have HZ : Is .f32 z (sumG zs k) := by rw [hz]; exact is_word (HW.out k)
      rw [← hz] at hix
      have HB := hid bel
      clear hz bel
      go_wp2_with (refine wpList_fop rfl .add _ _ _ _ rfl _ _ _ rfl rfl rfl HA HZ ?_; intro r1 m1 h1)
      go_roundw
      case rel => exact ⟨k + 1, by omega, by go_num, ⟨_, rfl, h1⟩, HB.out.trans (below_n _ _ _)⟩
      case measure => simp [intOf]; omega
    · have hkn : k = 9 := by omega
      subst hkn
      go_wp2
      go_ret
      exact ⟨_, rfl, HA, bel⟩

theorem arr9 {b o n c : Nat} (w : World) (h : 9 ≤ n) : (Instr.arrayAt 96 (.slice (some ⟨b, o, none⟩) n c)).run Try.prog w = .ok (.pointer (some ⟨b, o, none⟩)) w := by
  have hu : Try.prog.underlying 96 = some (.array 9 23) := Try.underlying96
  unfold Instr.arrayAt
  simp [run_underlying hu]
  omega
set_option maxHeartbeats 4000000 in
set_option maxRecDepth 100000 in
theorem partsAt {w : World} {s r : Int} {b1 k : Nat} {v1 v2 : Value} {xs : List Nat} (h1 : RdF w b1 v1 xs) (hk : 9 * k + 9 ≤ xs.length) (hx : xs.length ≤ 10000) :
    Calls Try.prog 130 #[flowV s r v1 v2, .int .i64 k] w fun e w' => e = .returned (.agg #[.float .f32 (xs.getD (9 * k + 0) 0), .float .f32 (xs.getD (9 * k + 1) 0), .float .f32 (xs.getD (9 * k + 2) 0), .float .f32 (xs.getD (9 * k + 3) 0), .float .f32 (xs.getD (9 * k + 4) 0), .float .f32 (xs.getD (9 * k + 5) 0), .float .f32 (xs.getD (9 * k + 6) 0), .float .f32 (xs.getD (9 * k + 7) 0), .float .f32 (xs.getD (9 * k + 8) 0)]) ∧ Below w.heap.size w w' := by
  obtain ⟨ao, cap, rfl, hc, hm, h4⟩ := h1
  have hm1 := hm.1
  have hcap : cap ≤ 9223372036854775807 := by unfold maxLen at hm1; omega
  obtain ⟨off, rfl, hb, hcell⟩ := h4 (by omega)
  obtain ⟨x0, hx0⟩ : ∃ x, x = xs.getD (9 * k + 0) 0 := ⟨_, rfl⟩
  have hc0 := hcell (9 * k + 0) (by omega)
  rw [← hx0, ← Nat.add_assoc] at hc0
  obtain ⟨x1, hx1⟩ : ∃ x, x = xs.getD (9 * k + 1) 0 := ⟨_, rfl⟩
  have hc1 := hcell (9 * k + 1) (by omega)
  rw [← hx1, ← Nat.add_assoc] at hc1
  obtain ⟨x2, hx2⟩ : ∃ x, x = xs.getD (9 * k + 2) 0 := ⟨_, rfl⟩
  have hc2 := hcell (9 * k + 2) (by omega)
  rw [← hx2, ← Nat.add_assoc] at hc2
  obtain ⟨x3, hx3⟩ : ∃ x, x = xs.getD (9 * k + 3) 0 := ⟨_, rfl⟩
  have hc3 := hcell (9 * k + 3) (by omega)
  rw [← hx3, ← Nat.add_assoc] at hc3
  obtain ⟨x4, hx4⟩ : ∃ x, x = xs.getD (9 * k + 4) 0 := ⟨_, rfl⟩
  have hc4 := hcell (9 * k + 4) (by omega)
  rw [← hx4, ← Nat.add_assoc] at hc4
  obtain ⟨x5, hx5⟩ : ∃ x, x = xs.getD (9 * k + 5) 0 := ⟨_, rfl⟩
  have hc5 := hcell (9 * k + 5) (by omega)
  rw [← hx5, ← Nat.add_assoc] at hc5
  obtain ⟨x6, hx6⟩ : ∃ x, x = xs.getD (9 * k + 6) 0 := ⟨_, rfl⟩
  have hc6 := hcell (9 * k + 6) (by omega)
  rw [← hx6, ← Nat.add_assoc] at hc6
  obtain ⟨x7, hx7⟩ : ∃ x, x = xs.getD (9 * k + 7) 0 := ⟨_, rfl⟩
  have hc7 := hcell (9 * k + 7) (by omega)
  rw [← hx7, ← Nat.add_assoc] at hc7
  obtain ⟨x8, hx8⟩ : ∃ x, x = xs.getD (9 * k + 8) 0 := ⟨_, rfl⟩
  have hc8 := hcell (9 * k + 8) (by omega)
  rw [← hx8, ← Nat.add_assoc] at hc8
  rw [← hx0, ← hx1, ← hx2, ← hx3, ← hx4, ← hx5, ← hx6, ← hx7, ← hx8]
  obtain ⟨n, hn⟩ : ∃ n, n = xs.length := ⟨_, rfl⟩
  rw [← hn] at hc hk hx ⊢
  have hst : ∀ (a : Addr) (x : Nat) (m : Mode) (w : World), (store a (.float .f32 x) m).run Try.prog w = stored Try.prog w a (.float .f32 x) m := fun a x m w => run_store _ w a _ m rfl
  have w9 : IntKind.i64.wrap ((k : Int) * 9) = ((9 * k : Nat) : Int) := by rw [IntKind.wrap_i64]; omega
  have e1 : 9 * k ≤ n := by omega
  have e2 : ¬ cap = 9 * k := by omega
  have e3 : 9 ≤ n - 9 * k := by omega
  have harr : ∀ w : World, (Instr.arrayAt 96 (.slice (some ⟨b1, off + 9 * k, none⟩) (n - 9 * k) (cap - 9 * k))).run Try.prog w = .ok (.pointer (some ⟨b1, off + 9 * k, none⟩)) w := fun w => arr9 w e3
  have bA : Below w.heap.size w ((w.alloc (Obj.cells #[.int .i64 s, .int .i64 r, .slice (some ⟨b1, off, none⟩) n cap, v2] 37)).alloc (Obj.cells #[.float .f32 0, .float .f32 0, .float .f32 0, .float .f32 0, .float .f32 0, .float .f32 0, .float .f32 0, .float .f32 0, .float .f32 0] 96)) := Go.Joins.below_alloc2 _ _ _
  have hd0 := (bA.cell (p := ⟨b1, off + 9 * k + 0, none⟩) hb).trans hc0
  have hd1 := (bA.cell (p := ⟨b1, off + 9 * k + 1, none⟩) hb).trans hc1
  have hd2 := (bA.cell (p := ⟨b1, off + 9 * k + 2, none⟩) hb).trans hc2
  have hd3 := (bA.cell (p := ⟨b1, off + 9 * k + 3, none⟩) hb).trans hc3
  have hd4 := (bA.cell (p := ⟨b1, off + 9 * k + 4, none⟩) hb).trans hc4
  have hd5 := (bA.cell (p := ⟨b1, off + 9 * k + 5, none⟩) hb).trans hc5
  have hd6 := (bA.cell (p := ⟨b1, off + 9 * k + 6, none⟩) hb).trans hc6
  have hd7 := (bA.cell (p := ⟨b1, off + 9 * k + 7, none⟩) hb).trans hc7
  have hd8 := (bA.cell (p := ⟨b1, off + 9 * k + 8, none⟩) hb).trans hc8
  rw [Nat.add_zero] at hd0
  clear hx0 hx1 hx2 hx3 hx4 hx5 hx6 hx7 hx8 hcell h4 hn hm hm1 hc0 hc1 hc2 hc3 hc4 hc5 hc6 hc7 hc8 bA
  go_enter Try.func130, Try.ntmps130
  go_wp2
  simp [bodyPost, results, Try.results130, go_sem]
  exact Go.Joins.below_alloc2 _ _ _

end Go.Proofs.Ytejchjjkehmgaaa.MasI
