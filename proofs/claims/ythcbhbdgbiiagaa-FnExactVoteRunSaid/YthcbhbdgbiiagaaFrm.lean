/- framed: the cells of a field with what is beyond its border. -/
import Derived.Test.YthcbhbdgbiiagaaArr
import Derived.Test.YthcbhbdgbiiagaaLf
import Derived.Test.YthcbhbdgbiiagaaRound
import Derived.Test.YthcbhbdgbiiagaaCopy
namespace Go.Proofs.Ythcbhbdgbiiagaa.Frm
open Go.RowKit Go.Proofs.Ythcbhbdgbiiagaa.Rd Go.Proofs.Ythcbhbdgbiiagaa.Help Go.Proofs.Ythcbhbdgbiiagaa.Ring Go.Proofs.Ythcbhbdgbiiagaa.Small Go.Proofs.Ythcbhbdgbiiagaa.FVal Go.Proofs.Ythcbhbdgbiiagaa.Keep Go.Proofs.Ythcbhbdgbiiagaa.Rule Go.Proofs.Ythcbhbdgbiiagaa.Grow Go.Proofs.Ythcbhbdgbiiagaa.Copy Go.Proofs.Ythcbhbdgbiiagaa.Arr Go.Proofs.Ythcbhbdgbiiagaa.Lf Go.Proofs.Ythcbhbdgbiiagaa.Rnd
set_option linter.unusedVariables false
set_option linter.unusedSimpArgs false

theorem listExt {a b : List Int} (hl : a.length = b.length) (h : ∀ j, j < a.length → a.getD j 0 = b.getD j 0) : a = b := by
  refine List.ext_getElem hl fun i h1 h2 => ?_
  have := h i h1
  rwa [List.getD_eq_getElem?_getD, List.getD_eq_getElem?_getD, List.getElem?_eq_getElem h1, List.getElem?_eq_getElem h2] at this
theorem setGet {L : List Int} {i j : Nat} {x : Int} : (L.set i x).getD j 0 = if i = j ∧ j < L.length then x else L.getD j 0 := by
  rw [List.getD_eq_getElem?_getD, List.getElem?_set, List.getD_eq_getElem?_getD]
  by_cases h : i = j
  · by_cases h2 : j < L.length
    · rw [if_pos h, if_pos (by omega), if_pos ⟨h, h2⟩]; rfl
    · rw [if_pos h, if_neg (by omega), if_neg (by omega), List.getElem?_eq_none (by omega)]
  · rw [if_neg h, if_neg (by omega)]
/-- A cell of the frame. -/
def fc (zs : List Int) (R C : Nat) (rd : Bool) (a c : Nat) : Int := if a < R + 2 ∧ c < C + 2 then fr zs R C rd ((a : Int) - 1) ((c : Int) - 1) else 0
def fz (zs : List Int) (R C : Nat) (rd : Bool) (p j : Nat) : Int := if j / 26 < p then fc zs R C rd (j / 26) (j % 26) else 0
/-- The frame behind p rows. -/
def fzL (zs : List Int) (R C : Nat) (rd : Bool) (p : Nat) : List Int := (List.range 676).map (fz zs R C rd p)
def rowX (zs : List Int) (C X : Nat) : List Int := (List.range C).map fun k => zs.getD (X * C + k) 0
theorem fzL_len (zs : List Int) (R C : Nat) (rd : Bool) (p : Nat) : (fzL zs R C rd p).length = 676 := by simp [fzL]
theorem rowX_len (zs : List Int) (C X : Nat) : (rowX zs C X).length = C := by simp [rowX]
theorem rowX_get (zs : List Int) {C X k : Nat} (hk : k < C) : (rowX zs C X).getD k 0 = zs.getD (X * C + k) 0 := by
  rw [List.getD_eq_getElem?_getD, List.getElem?_eq_getElem (by simp [rowX]; exact hk)]
  simp [rowX]
theorem fzL_get {zs : List Int} {R C : Nat} {rd : Bool} {p j : Nat} (hj : j < 676) : (fzL zs R C rd p).getD j 0 = fz zs R C rd p j := by
  rw [List.getD_eq_getElem?_getD, List.getElem?_eq_getElem (by simp [fzL]; exact hj)]
  simp [fzL]
theorem fzL_zero (zs : List Int) (R C : Nat) (rd : Bool) : fzL zs R C rd 0 = List.replicate 676 0 := by
  refine listExt (by rw [fzL_len, List.length_replicate]) fun j hj => ?_
  rw [fzL_len] at hj
  rw [fzL_get hj, fz, if_neg (by omega), zeros_get]
theorem fr_row {zs : List Int} {R C X k : Nat} {rd : Bool} {a : Int} (hX : (a % (R : Int)).toNat = X) (hk : k < C) (hin : rd = true ∨ (0 ≤ a ∧ a < R)) : fr zs R C rd a (k : Int) = zs.getD (X * C + k) 0 := by
  unfold fr
  rw [if_pos (hin.imp id fun h => ⟨h.1, h.2, by omega, by omega⟩), hX, Int.emod_eq_of_lt (by omega) (by omega), Int.toNat_natCast]
theorem row_out {zs : List Int} {R C p : Nat} (h : ¬ (1 ≤ p ∧ p ≤ R)) : fzL zs R C false p = fzL zs R C false (p + 1) := by
  refine listExt (by rw [fzL_len, fzL_len]) fun j hj => ?_
  rw [fzL_len] at hj
  rw [fzL_get hj, fzL_get hj, fz, fz]
  by_cases h1 : j / 26 < p
  · rw [if_pos h1, if_pos (by omega)]
  · rw [if_neg h1]
    by_cases h2 : j / 26 < p + 1
    · rw [if_pos h2]
      unfold fc fr
      split
      · rw [if_neg (by rintro (hh | hh); cases hh; omega)]
      · rfl
    · rw [if_neg h2]
theorem row_in {zs : List Int} {R C p : Nat} (hp : 1 ≤ p ∧ p ≤ R) (hR : R ≤ 24) (hC : C ≤ 24) : splice (fzL zs R C false p) (p * 26 + 1) (rowX zs C (p - 1)) = fzL zs R C false (p + 1) := by
  have hf : p * 26 + 1 + (rowX zs C (p - 1)).length ≤ (fzL zs R C false p).length := by rw [rowX_len, fzL_len]; omega
  refine listExt (by rw [length_splice _ _ _ hf, fzL_len, fzL_len]) fun j hj => ?_
  rw [length_splice _ _ _ hf, fzL_len] at hj
  rw [splice_get hf, rowX_len, fzL_get hj, fzL_get hj]
  by_cases h1 : j / 26 = p
  · have hz : fz zs R C false p j = 0 := by unfold fz; rw [if_neg (by omega)]
    have hz1 : fz zs R C false (p + 1) j = fc zs R C false p (j % 26) := by unfold fz; rw [if_pos (by omega), h1]
    rw [hz, hz1]
    by_cases h2 : 1 ≤ j % 26 ∧ j % 26 ≤ C
    · rw [if_pos (by omega), rowX_get zs (by omega), show j - (p * 26 + 1) = j % 26 - 1 by omega]
      unfold fc
      rw [if_pos (by omega), show ((j % 26 : Nat) : Int) - 1 = ((j % 26 - 1 : Nat) : Int) by omega, fr_row (X := p - 1) (by rw [Int.emod_eq_of_lt (by omega) (by omega)]; omega) (by omega) (.inr ⟨by omega, by omega⟩)]
    · rw [if_neg (by omega)]
      unfold fc fr
      split
      · rw [if_neg (by rintro (hh | hh); cases hh; omega)]
      · rfl
  · rw [if_neg (by omega)]
    unfold fz
    by_cases h2 : j / 26 < p
    · rw [if_pos h2, if_pos (by omega)]
    · rw [if_neg h2, if_neg (by omega)]
theorem row_rd {zs : List Int} {R C p X : Nat} (hp : p ≤ R + 1) (hR : 1 ≤ R ∧ R ≤ 24) (hC : 1 ≤ C ∧ C ≤ 24) (hX : (((p : Int) - 1) % (R : Int)).toNat = X) :
    ((splice (fzL zs R C true p) (p * 26 + 1) (rowX zs C X)).set (p * 26) (zs.getD (X * C + (C - 1)) 0)).set (p * 26 + (C + 1)) (zs.getD (X * C) 0) = fzL zs R C true (p + 1) := by
  have hf : p * 26 + 1 + (rowX zs C X).length ≤ (fzL zs R C true p).length := by rw [rowX_len, fzL_len]; omega
  have hl : (splice (fzL zs R C true p) (p * 26 + 1) (rowX zs C X)).length = 676 := by rw [length_splice _ _ _ hf, fzL_len]
  refine listExt (by rw [List.length_set, List.length_set, hl, fzL_len]) fun j hj => ?_
  rw [List.length_set, List.length_set, hl] at hj
  rw [setGet, setGet, List.length_set, hl, splice_get hf, rowX_len, fzL_get hj, fzL_get hj]
  by_cases h1 : j / 26 = p
  · have hz : fz zs R C true p j = 0 := by unfold fz; rw [if_neg (by omega)]
    have hz1 : fz zs R C true (p + 1) j = fc zs R C true p (j % 26) := by unfold fz; rw [if_pos (by omega), h1]
    rw [hz, hz1]
    by_cases ha : j % 26 = C + 1
    · rw [if_pos (by omega)]
      unfold fc
      rw [if_pos (by omega), ha]
      unfold fr
      rw [if_pos (.inl rfl), hX, show ((C + 1 : Nat) : Int) - 1 = (C : Int) by omega, Int.emod_self]
      simp
    · rw [if_neg (by omega)]
      by_cases hb : j % 26 = 0
      · rw [if_pos (by omega)]
        unfold fc
        rw [if_pos (by omega), hb]
        unfold fr
        rw [if_pos (.inl rfl), hX, show ((((0 : Nat) : Int) - 1) % (C : Int)).toNat = C - 1 by
          rw [show ((0 : Nat) : Int) - 1 = (C : Int) - 1 + (C : Int) * (-1) by omega, Int.add_mul_emod_self_left, Int.emod_eq_of_lt (by omega) (by omega)]; omega]
      · rw [if_neg (by omega)]
        by_cases h2 : j % 26 ≤ C
        · rw [if_pos (by omega), rowX_get zs (by omega), show j - (p * 26 + 1) = j % 26 - 1 by omega]
          unfold fc
          rw [if_pos (by omega), show ((j % 26 : Nat) : Int) - 1 = ((j % 26 - 1 : Nat) : Int) by omega, fr_row hX (by omega) (.inl rfl)]
        · rw [if_neg (by omega)]
          unfold fc
          rw [if_neg (by omega)]
  · rw [if_neg (by omega), if_neg (by omega), if_neg (by omega)]
    unfold fz
    by_cases h2 : j / 26 < p
    · rw [if_pos h2, if_pos (by omega)]
    · rw [if_neg h2, if_neg (by omega)]
theorem fz_at {zs : List Int} {R C a c : Nat} {rd : Bool} (ha : a < R + 2) (hc : c < C + 2) (hR : R ≤ 24) (hC : C ≤ 24) : (fzL zs R C rd (R + 2)).getD (a * 26 + c) 0 = fr zs R C rd ((a : Int) - 1) ((c : Int) - 1) := by
  rw [fzL_get (by omega), fz, show (a * 26 + c) / 26 = a by omega, show (a * 26 + c) % 26 = c by omega, if_pos ha, fc, if_pos ⟨ha, hc⟩]

theorem sliceFrom (w : World) {FB o C : Nat} (hC : C + 2 ≤ 26) : (Instr.sliceAt 139 (.pointer (some ⟨FB, o, none⟩)) none (some (.int .i64 ((C : Int) + 2))) none).run Try.prog w = .ok (.slice (some ⟨FB, o, none⟩) (C + 2) 26) w := by
  have e : ((C : Int) + 2).toNat = C + 2 := by omega
  have hb := run_sliceBound (P := Try.prog) w .i64 ((C : Int) + 2) 26 .sliceAlen (by omega) (by omega)
  simp [Instr.sliceAt, run_underlying Try.underlying139, Instr.sureAddr, Instr.sliceBounds, hb, e, Try.sizeOf2, Addr.add]

/-- copy(..) into an array. -/
theorem copyA {ops : Array Oper} {rest : List Oper} {o : Oper} {a : Act} {W : World} {Q : Exit → Act → World → Prop} (hgd : o.guard = none) (d s : Operand)
    (ho : o.op = .call { callee := .builtin .copy, args := #[d, s], argTypes := #[22, 22] })
    {T : TypeId} {b : Nat} {zs xs : List Int} (ab : AB T W b zs)
    (off dLen dCap b2 o2 sLen sCap : Nat) (hd : a.eval d = .slice (some ⟨b, off, none⟩) dLen dCap) (hs : a.eval s = .slice (some ⟨b2, o2, none⟩) sLen sCap)
    (hn : xs.length = Nat.min sLen dLen) (hsrc : ∀ i, i < xs.length → W.cell? ⟨b2, o2 + i, none⟩ = some (.int .i64 (xs.getD i 0))) (hfit : off + xs.length ≤ zs.length)
    (h : ∀ w', AB T w' b (splice zs off xs) → W.grownBy w' (some b) → wpList Try.prog ops Q rest (a.put o.dst (goInt xs.length)) w') :
    wpList Try.prog ops Q (o :: rest) a W := by
  refine wpList_plain hgd fun K hK => ?_
  have hrun := run_copy_row (P := Try.prog) W 22 22 o.type 2 b off dLen dCap ⟨b2, o2, none⟩ sLen sCap (cellsA zs) T (xs.map (Value.int .i64)) Try.underlying22 (by kernel_rfl) ab (by simpa using hn)
    (by
      intro j v hj
      have hjl : j < xs.length := by have := (List.getElem?_eq_some_iff.1 hj).1; simpa using this
      rw [Go.WideShapes.add_plain, hsrc j hjl]
      simp [hjl] at hj
      simp [List.getD, hjl, hj])
    (by rw [cellsA_size, List.length_map]; exact hfit)
    (by intro u hu; simp at hu; obtain ⟨x, _, rfl⟩ := hu; rfl)
  unfold Oper.wp
  simp [execOp, ho, resolve, invoke, builtin, hd, hs, hrun, Result.andThen]
  have hk := hK _ _ (h (W.setRow b (splice (cellsA zs).toList off (xs.map (Value.int .i64))).toArray) ?_ ⟨rfl, rfl, rfl, by simp [World.setRow], fun k _ hne => setRow_other W b k _ (fun e => hne (by rw [e]))⟩)
  · simpa [splice, Oper.upon] using hk
  · unfold AB
    rw [setRow_heap W b _ _ T (0, 0) ab]
    simp [cellsA, splice, List.map_take, List.map_drop]

theorem gTr {w0 w w' : World} {b : Nat} (g : w0.grownBy w (some b)) (h : w.grownBy w' (some b)) : w0.grownBy w' (some b) :=
  ⟨h.os.trans g.os, h.tape.trans g.tape, h.output.trans g.output, Nat.le_trans g.size h.size, fun k hk hne => (h.block k (Nat.lt_of_lt_of_le hk g.size) hne).trans (g.block k hk hne)⟩

set_option maxHeartbeats 32000000 in
set_option maxRecDepth 4000 in
theorem framed {w : World} {R C n : Nat} {rd : Bool} {b : Nat} {v : Value} {zs : List Int} (h : Rd w b v zs) (hq : fieldB R C zs = true) (hn : n = R * C) :
    Calls Try.prog 125 #[ruleV R C v, .bool rd] w fun e w' => e = .returned (.agg (cellsA (fzL zs R C rd (R + 2)))) ∧ Below w.heap.size w w' := by
  obtain ⟨hR, hC, hl, hle⟩ := field_nat hq
  have HH := hid h
  have HQ := hid hq
  obtain ⟨ao, cap, rfl, hc, hm, h4⟩ := h
  rw [← hn] at hle
  have hpos : 0 < zs.length := by rw [hl]; exact Nat.mul_pos hR.1 hC.1
  obtain ⟨off, rfl, hb, hcell⟩ := h4 hpos
  have hln : zs.length = n := by rw [hn]; exact hl
  rw [hln] at HH hc hcell ⊢
  have hsz : n ≤ cap ∧ cap ≤ 9223372036854775807 := by unfold maxLen at hm; omega
  have HCap := hid (show n ≤ cap ∧ cap ≤ maxLen from ⟨hc, hm⟩)
  have HL : Hid (zs.length = n) := by simp only [Hid]; rw [hn]; exact hl
  have HN := hid hn
  have HR := hid hR
  have HC := hid hC
  have HB0 := hid hb
  have HCell := hid hcell
  have HLE := hid hle
  clear hc hm h4 hq hn hl hpos hb hcell hln
  go_enter Try.func125, Try.ntmps125
  go_wp2_with fail
  obtain ⟨w1, hW⟩ : ∃ w1, w1 = ((w.alloc (Obj.cells #[.int .i64 R, .int .i64 C, .slice (some ⟨b, off, none⟩) n cap] 26)).alloc (Obj.cells Try.zeroCells140 140)).alloc (Obj.cells Try.zeroCells140 140) := ⟨_, rfl⟩
  obtain ⟨N, hN⟩ : ∃ N, N = w.heap.size := ⟨_, rfl⟩
  obtain ⟨NR, hNR⟩ : ∃ NR, NR = N + 1 := ⟨_, rfl⟩
  obtain ⟨FB, hT⟩ : ∃ FB, FB = NR + 1 := ⟨_, rfl⟩
  have hzz : Try.zeroCells140 = cellsA (List.replicate 676 0) := by kernel_rfl
  have HB1 : Hid (Below w.heap.size w w1) := by simp only [Hid]; rw [hW]; exact Go.Joins.below_alloc3 _ _ _ _
  have HM : Hid (w1.cell? ⟨N, 0, none⟩ = some (.int .i64 R) ∧ w1.cell? ⟨N, 1, none⟩ = some (.int .i64 C) ∧ w1.cell? ⟨N, 2, none⟩ = some (.slice (some ⟨b, off, none⟩) n cap)) := by
    simp only [Hid]; rw [hW, hN]; exact ⟨cell_keep (Go.Joins.below_alloc2 _ _ _) (by simp), cell_keep (Go.Joins.below_alloc2 _ _ _) (by simp), cell_keep (Go.Joins.below_alloc2 _ _ _) (by simp)⟩
  have HRb : Hid (AB 140 w1 NR (List.replicate 676 0)) := by
    simp only [Hid]; unfold AB; rw [hW, ← hzz]; exact FNew.heap_old (FNew.heap_top (by rw [hNR, hN]; simp))
  have HTb : Hid (AB 140 w1 FB (List.replicate 676 0)) := by
    simp only [Hid]; unfold AB; rw [hW, ← hzz]; exact FNew.heap_top (by rw [hT, hNR, hN]; simp)
  have HNF : Hid (N ≠ FB) := by simp only [Hid]; omega
  have HLoF : Hid (w.heap.size ≤ FB) := by simp only [Hid]; omega
  have HNRF : Hid (NR ≠ FB ∧ w.heap.size ≤ NR) := ⟨by omega, by omega⟩
  have HNB : Hid (b ≠ FB) := by have := HB0.out; simp only [Hid]; omega
  have HCLX : Hid (∀ i, i < n → w1.cell? ⟨b, off + i, none⟩ = some (.int .i64 (zs.getD i 0))) := fun i hi => (HB1.out.cell (p := ⟨b, off + i, none⟩) HB0.out).trans (HCell.out i hi)
  simp only [← hW, ← hN, ← hNR, ← hT]
  clear hW hN hNR hT hzz
  have hRi : 1 ≤ (R : Int) ∧ (R : Int) ≤ 24 := by omega
  have hCi : 1 ≤ (C : Int) ∧ (C : Int) ≤ 24 := by omega
  have q1 : IntKind.i64.wrap ((R : Int) - 1) = (R : Int) - 1 := by rw [IntKind.wrap_i64]; omega
  have q2 : IntKind.i64.wrap ((C : Int) + 2) = (C : Int) + 2 := by rw [IntKind.wrap_i64]; omega
  have q3 : IntKind.i64.wrap ((C : Int) - 1) = ((C - 1 : Nat) : Int) := by rw [IntKind.wrap_i64]; omega
  have q4 : IntKind.i64.wrap ((C : Int) + 1) = (C : Int) + 1 := by rw [IntKind.wrap_i64]; omega
  go_loopw [6] (fun i wr => ∃ p : Nat, p ≤ R + 2 ∧ i = .int .i64 ((p : Int) - 1) ∧ AB 140 wr FB (fzL zs R C rd p) ∧ w1.grownBy wr (some FB)) (fun i _ => ((R : Int) + 2 - intOf i).toNat)
  case atStart => exact ⟨0, Nat.zero_le _, by simp, by rw [fzL_zero]; exact HTb.out, g_refl _ _⟩
  case round =>
    obtain ⟨p, hp, rfl, hab, hg⟩ := hrel
    have HAB0 := hid hab
    have HG0 := hid hg
    have HBW := hid (g_below HB1.out hg HLoF.out)
    have c0 := g_cell hg HM.out.1 HNF.out
    have c1 := g_cell hg HM.out.2.1 HNF.out
    have c2 := g_cell hg HM.out.2.2 HNF.out
    clear hab hg
    have u0 : IntKind.i64.wrap (p : Int) = (p : Int) := by rw [IntKind.wrap_i64]; omega
    have u1 : IntKind.i64.wrap ((p : Int) - 1 + 1) = (p : Int) := by rw [IntKind.wrap_i64]; omega
    by_cases hlt : p < R + 2
    · have hd : decide ((p : Int) - 1 ≤ (R : Int)) = true := by simp; omega
      have hp26 : (p : Int) < 26 := by omega
      have hpn26 : p < 26 := by omega
      obtain ⟨X, hX⟩ : ∃ X, X = (((p : Int) - 1) % (R : Int)).toNat := ⟨_, rfl⟩
      have HX : Hid ((((p : Int) - 1) % (R : Int)).toNat = X) := hX.symm
      cases rd with
      | true =>
        have HXI : Hid (((p : Int) - 1) % (R : Int) = (X : Int)) := by simp only [Hid]; rw [hX]; exact (rnd_lt _ HR.out.1).1.symm
        have HXR : Hid (X < R) := by simp only [Hid]; rw [hX]; exact (rnd_lt _ HR.out.1).2
        obtain ⟨L, hL⟩ : ∃ L, L = X * C := ⟨_, rfl⟩
        have HL := hid hL
        have hLn : L + C ≤ n := by rw [hL, HN.out]; exact Row.row_in HXR.out
        clear hL hX
        go_wp2_with fail

        refine wp_region_held_drew (S := (fun ww => Below w.heap.size w ww ∧ ww.cell? ⟨N, 0, none⟩ = some (.int .i64 R) ∧ ww.cell? ⟨N, 1, none⟩ = some (.int .i64 C) ∧ ww.cell? ⟨N, 2, none⟩ = some (.slice (some ⟨b, off, none⟩) n cap) ∧ w.heap.size ≤ ww.heap.size)) (by kernel_rfl) ?_ (fun hHeld => ?_)
        · ((try dsimp only); exact ⟨HBW.out.drew, c0, c1, c2, HBW.out.drew.size⟩)
        have hsl := fun w => sliceFrom w (FB := FB) (o := p * 26) (C := C) (by omega)
        have ab : AB 140 wr.drew FB (fzL zs R C true p) := HAB0.out
        have g : w1.grownBy wr.drew (some FB) := g_drew HG0.out
        clear c0 c1 c2
        (refine wpAnyH_take (i := 0) (v := ?_) rfl ?_ ?_ ?_ (fun _ _ _ h => h) (Or.inl ⟨?_, ?_⟩) ?_ ?_; rotate_left 1; (focus decide +kernel); (focus decide +kernel); (focus decide +kernel); (focus rfl); (focus (intro w hSw; (try dsimp only at hSw); go_simp; (try (with_reducible rfl)); done)); (focus assumption); (try simp only [Act.put, List.setIfInBounds_toArray, List.set_cons_zero, List.set_cons_succ, List.getElem_toArray, List.getElem_cons_succ, List.getElem_cons_zero]))
        (refine wpAnyH_take (i := 1) (v := ?_) rfl ?_ ?_ ?_ (fun _ _ _ h => h) (Or.inl ⟨?_, ?_⟩) ?_ ?_; rotate_left 1; (focus decide +kernel); (focus decide +kernel); (focus decide +kernel); (focus rfl); (focus (intro w hSw; (try dsimp only at hSw); go_simp; (try (with_reducible rfl)); done)); (focus assumption); (try simp only [Act.put, List.setIfInBounds_toArray, List.set_cons_zero, List.set_cons_succ, List.getElem_toArray, List.getElem_cons_succ, List.getElem_cons_zero]))
        (refine wpAnyH_take (i := 2) (v := ?_) rfl ?_ ?_ ?_ (fun _ _ _ h => h) (Or.inl ⟨?_, ?_⟩) ?_ ?_; rotate_left 1; (focus decide +kernel); (focus decide +kernel); (focus decide +kernel); (focus rfl); (focus (intro w hSw; (try dsimp only at hSw); go_simp; (try (with_reducible rfl)); done)); (focus assumption); (try simp only [Act.put, List.setIfInBounds_toArray, List.set_cons_zero, List.set_cons_succ, List.getElem_toArray, List.getElem_cons_succ, List.getElem_cons_zero]))
        (refine wpAnyH_take (i := 3) (v := ?_) rfl ?_ ?_ ?_ (fun _ _ _ h => h) (Or.inl ⟨?_, ?_⟩) ?_ ?_; rotate_left 1; (focus decide +kernel); (focus decide +kernel); (focus decide +kernel); (focus rfl); (focus (intro w hSw; (try dsimp only at hSw); go_simp; (try (with_reducible rfl)); done)); (focus assumption); (try simp only [Act.put, List.setIfInBounds_toArray, List.set_cons_zero, List.set_cons_succ, List.getElem_toArray, List.getElem_cons_succ, List.getElem_cons_zero]))
        (refine wpAnyH_take (i := 6) (v := ?_) rfl ?_ ?_ ?_ (fun _ _ _ h => h) (Or.inl ⟨?_, ?_⟩) ?_ ?_; rotate_left 1; (focus decide +kernel); (focus decide +kernel); (focus decide +kernel); (focus rfl); (focus (intro w hSw; (try dsimp only at hSw); go_simp; (try (with_reducible rfl)); done)); (focus assumption); (try simp only [Act.put, List.setIfInBounds_toArray, List.set_cons_zero, List.set_cons_succ, List.getElem_toArray, List.getElem_cons_succ, List.getElem_cons_zero]))
        (refine wpAnyH_take (i := 7) (v := ?_) rfl ?_ ?_ ?_ (fun _ _ _ h => h) (Or.inl ⟨?_, ?_⟩) ?_ ?_; rotate_left 1; (focus decide +kernel); (focus decide +kernel); (focus decide +kernel); (focus rfl); (focus (intro w hSw; (try dsimp only at hSw); go_simp; (try (with_reducible rfl)); done)); (focus assumption); (try simp only [Act.put, List.setIfInBounds_toArray, List.set_cons_zero, List.set_cons_succ, List.getElem_toArray, List.getElem_cons_succ, List.getElem_cons_zero]))
        (refine wpAnyH_take (i := 8) (v := ?_) rfl ?_ ?_ ?_ (fun _ _ _ h => h) (Or.inl ⟨?_, ?_⟩) ?_ ?_; rotate_left 1; (focus decide +kernel); (focus decide +kernel); (focus decide +kernel); (focus rfl); (focus (intro w hSw; (try dsimp only at hSw); go_simp; (try (with_reducible rfl)); done)); (focus assumption); (try simp only [Act.put, List.setIfInBounds_toArray, List.set_cons_zero, List.set_cons_succ, List.getElem_toArray, List.getElem_cons_succ, List.getElem_cons_zero]))
        (refine wpAnyH_take (i := 9) (v := ?_) rfl ?_ ?_ ?_ (fun _ _ _ h => h) (Or.inl ⟨?_, ?_⟩) ?_ ?_; rotate_left 1; (focus decide +kernel); (focus decide +kernel); (focus decide +kernel); (focus rfl); (focus (intro w hSw; (try dsimp only at hSw); go_simp; (try (with_reducible rfl)); done)); (focus assumption); (try simp only [Act.put, List.setIfInBounds_toArray, List.set_cons_zero, List.set_cons_succ, List.getElem_toArray, List.getElem_cons_succ, List.getElem_cons_zero]))
        (refine wpAnyH_take (i := 10) (v := ?_) rfl ?_ ?_ ?_ (fun _ _ _ h => h) (Or.inl ⟨?_, ?_⟩) ?_ ?_; rotate_left 1; (focus decide +kernel); (focus decide +kernel); (focus decide +kernel); (focus rfl); (focus (intro w hSw; (try dsimp only at hSw); go_simp; (try (with_reducible rfl)); done)); (focus assumption); (try simp only [Act.put, List.setIfInBounds_toArray, List.set_cons_zero, List.set_cons_succ, List.getElem_toArray, List.getElem_cons_succ, List.getElem_cons_zero]))
        (refine wpAnyH_take (i := 11) (v := ?_) rfl ?_ ?_ ?_ (fun _ _ _ h => h) (Or.inl ⟨?_, ?_⟩) ?_ ?_; rotate_left 1; (focus decide +kernel); (focus decide +kernel); (focus decide +kernel); (focus rfl); (focus (intro w hSw; (try dsimp only at hSw); go_simp; (try (with_reducible rfl)); done)); (focus assumption); (try simp only [Act.put, List.setIfInBounds_toArray, List.set_cons_zero, List.set_cons_succ, List.getElem_toArray, List.getElem_cons_succ, List.getElem_cons_zero]))
        (refine wpAnyH_take (i := 12) (v := ?_) rfl ?_ ?_ ?_ (fun _ _ _ h => h) (Or.inl ⟨?_, ?_⟩) ?_ ?_; rotate_left 1; (focus decide +kernel); (focus decide +kernel); (focus decide +kernel); (focus rfl); (focus (intro w hSw; (try dsimp only at hSw); go_simp; (try (with_reducible rfl)); done)); (focus assumption); (try simp only [Act.put, List.setIfInBounds_toArray, List.set_cons_zero, List.set_cons_succ, List.getElem_toArray, List.getElem_cons_succ, List.getElem_cons_zero]))
        refine wpAnyH_ready (rs := [4]) ?_ (by simp) ?_
        · decide +kernel
        refine AllReadyH.cons rfl (fun K hK => ?_) AllReadyH.nil
        go_simp
        go_at_call 135
        refine (Round.onRound (by omega) (by omega)).mono ?_
        rw [HXI.out]
        rintro e w3 ⟨rfl, rfl⟩
        refine hK.out _ _ ?_ (fun hHeld2 => ?_)
        · (try dsimp only); exact hHeld
        clear hK K hHeld
        have hHeld := hHeld2
        clear hHeld2
        (try simp only [Act.put, List.setIfInBounds_toArray, List.set_cons_zero, List.set_cons_succ, List.getElem_toArray, List.getElem_cons_succ, List.getElem_cons_zero])
        refine wpAnyH_ready (rs := [5]) ?_ (by simp) ?_
        · decide +kernel
        refine AllReadyH.cons rfl (fun K hK => ?_) AllReadyH.nil
        go_simp
        go_at_call 126
        refine (rowOfP HL.out HN.out HLE.out HXR.out HR.out.2 HC.out HCap.out.1 HCap.out.2).mono ?_
        rintro e wb ⟨rfl, bel⟩
        replace ab := ab.keep bel
        replace g := g_bel g bel
        refine hK.out _ _ ?_ (fun hHeld2 => ?_)
        · (try dsimp only); exact next3_0 bel hHeld
        clear hK K hHeld bel
        have hHeld := hHeld2
        clear hHeld2
        (try simp only [Act.put, List.setIfInBounds_toArray, List.set_cons_zero, List.set_cons_succ, List.getElem_toArray, List.getElem_cons_succ, List.getElem_cons_zero])
        (refine wpAnyH_take (i := 13) (v := ?_) rfl ?_ ?_ ?_ (fun _ _ _ h => h) (Or.inl ⟨?_, ?_⟩) ?_ ?_; rotate_left 1; (focus decide +kernel); (focus decide +kernel); (focus decide +kernel); (focus rfl); (focus (intro w hSw; (try dsimp only at hSw); go_simp; (try (with_reducible rfl)); done)); (focus assumption); (try simp only [Act.put, List.setIfInBounds_toArray, List.set_cons_zero, List.set_cons_succ, List.getElem_toArray, List.getElem_cons_succ, List.getElem_cons_zero]))
        (refine wpAnyH_take (i := 14) (v := ?_) rfl ?_ ?_ ?_ (fun _ _ _ h => h) (Or.inl ⟨?_, ?_⟩) ?_ ?_; rotate_left 1; (focus decide +kernel); (focus decide +kernel); (focus decide +kernel); (focus rfl); (focus (intro w hSw; (try dsimp only at hSw); go_simp; (try (with_reducible rfl)); done)); (focus assumption); (try simp only [Act.put, List.setIfInBounds_toArray, List.set_cons_zero, List.set_cons_succ, List.getElem_toArray, List.getElem_cons_succ, List.getElem_cons_zero]))
        refine wpAnyH_done (by kernel_rfl) ?_ _
        have c0 := hHeld.2.1
        have c1 := hHeld.2.2.1
        have c2 := hHeld.2.2.2.1
        have HAB := hid ab
        have HG := hid g
        clear ab g hHeld
        go_wp2_with (refine copyA (xs := rowX zs C X) rfl _ _ rfl HAB.out (p * 26 + 1) (C + 1) 25 b (off + L) C C rfl rfl ?k1 ?k2 ?k3 ?_)
        case k1 => rw [rowX_len]; show C = min C (C + 1); omega
        case k2 => intro i hi; rw [rowX_len] at hi; rw [rowX_get zs hi, show off + L + i = off + (X * C + i) by have := HL.out; omega]; exact g_cell HG.out (HCLX.out (X * C + i) (by rw [HN.out]; exact pos_bd HXR.out hi)) HNB.out
        case k3 => rw [rowX_len, fzL_len]; omega
        intro w9 ab9 g9
        have HA9 := hid ab9
        have HG9 := hid (gTr HG.out g9)
        have hl0 : off + L + (C - 1) < off + L + C := by omega
        obtain ⟨x0, hx0⟩ : ∃ x0, x0 = zs.getD (X * C + (C - 1)) 0 := ⟨_, rfl⟩
        obtain ⟨x1, hx1⟩ : ∃ x1, x1 = zs.getD (X * C) 0 := ⟨_, rfl⟩
        have hin0 : X * C + (C - 1) < n := by rw [HN.out]; exact pos_bd HXR.out (by omega)
        have hin1 : X * C + 0 < n := by rw [HN.out]; exact pos_bd HXR.out (by omega)
        have f0 : w9.cell? ⟨b, off + L + (C - 1), none⟩ = some (.int .i64 x0) := by rw [show off + L + (C - 1) = off + (X * C + (C - 1)) by have := HL.out; omega, hx0]; exact g_cell HG9.out (HCLX.out _ hin0) HNB.out
        have f1 : w9.cell? ⟨b, off + L, none⟩ = some (.int .i64 x1) := by rw [show off + L = off + (X * C + 0) by have := HL.out; omega, hx1]; exact g_cell HG9.out (HCLX.out _ hin1) HNB.out
        have hlen9 : (splice (fzL zs R C true p) (p * 26 + 1) (rowX zs C X)).length = 676 := by rw [length_splice _ _ _ (by rw [rowX_len, fzL_len]; omega), fzL_len]
        have m1 : w9.cell? ⟨N, 1, none⟩ = some (.int .i64 C) := g_cell HG9.out HM.out.2.1 HNF.out
        have HB9 := hid (g_below HB1.out HG9.out HLoF.out)
        have HX01 := hid (And.intro hx0 hx1)
        have HL9 := hid hlen9
        have hcl1 : C - 1 < C := by omega
        have hcl2 : 0 < C := by omega
        have hcl3 : C + 1 < C + 2 := by omega
        have hcl4 : (0 : Int) < (C : Int) + 2 := by omega
        have hcl5 : (0 : Int) ≤ (C : Int) + 1 := by omega
        have hcl6 : (C : Int) + 1 < (C : Int) + 2 := by omega
        have hcl7 : ((C : Int) + 1).toNat = C + 1 := by omega
        clear ab9 g9 hx0 hx1 c0 c1 c2 hin0 hin1 hl0 hlen9 HAB HG
        go_wp2_with fail
        refine wp_region_held_drew (S := (fun ww => Below w.heap.size w ww ∧ ww.cell? ⟨N, 1, none⟩ = some (.int .i64 C) ∧ ww.cell? ⟨b, off + L + (C - 1), none⟩ = some (.int .i64 x0) ∧ ww.cell? ⟨b, off + L, none⟩ = some (.int .i64 x1))) (by kernel_rfl) ?_ (fun hHeld => ?_)
        · ((try dsimp only); exact ⟨HB9.out.drew, m1, f0, f1⟩)
        have ab : AB 140 w9.drew FB (splice (fzL zs R C true p) (p * 26 + 1) (rowX zs C X)) := HA9.out
        have g : w1.grownBy w9.drew (some FB) := g_drew HG9.out
        clear m1 f0 f1
        generalize hD : w9.drew = wD at hHeld ab g ⊢
        clear hD
        (refine wpAnyH_take (i := 0) (v := ?_) rfl ?_ ?_ ?_ (fun _ _ _ h => h) (Or.inl ⟨?_, ?_⟩) ?_ ?_; rotate_left 1; (focus decide +kernel); (focus decide +kernel); (focus decide +kernel); (focus rfl); (focus (intro w hSw; (try dsimp only at hSw); go_simp; (try (with_reducible rfl)); done)); (focus assumption); (try simp only [Act.put, List.setIfInBounds_toArray, List.set_cons_zero, List.set_cons_succ, List.getElem_toArray, List.getElem_cons_succ, List.getElem_cons_zero]))
        (refine wpAnyH_take (i := 1) (v := ?_) rfl ?_ ?_ ?_ (fun _ _ _ h => h) (Or.inl ⟨?_, ?_⟩) ?_ ?_; rotate_left 1; (focus decide +kernel); (focus decide +kernel); (focus decide +kernel); (focus rfl); (focus (intro w hSw; (try dsimp only at hSw); go_simp; (try (with_reducible rfl)); done)); (focus assumption); (try simp only [Act.put, List.setIfInBounds_toArray, List.set_cons_zero, List.set_cons_succ, List.getElem_toArray, List.getElem_cons_succ, List.getElem_cons_zero]))
        (refine wpAnyH_take (i := 2) (v := ?_) rfl ?_ ?_ ?_ (fun _ _ _ h => h) (Or.inl ⟨?_, ?_⟩) ?_ ?_; rotate_left 1; (focus decide +kernel); (focus decide +kernel); (focus decide +kernel); (focus rfl); (focus (intro w hSw; (try dsimp only at hSw); go_simp; (try (with_reducible rfl)); done)); (focus assumption); (try simp only [Act.put, List.setIfInBounds_toArray, List.set_cons_zero, List.set_cons_succ, List.getElem_toArray, List.getElem_cons_succ, List.getElem_cons_zero]))
        (refine wpAnyH_take (i := 3) (v := ?_) rfl ?_ ?_ ?_ (fun _ _ _ h => h) (Or.inl ⟨?_, ?_⟩) ?_ ?_; rotate_left 1; (focus decide +kernel); (focus decide +kernel); (focus decide +kernel); (focus rfl); (focus (intro w hSw; (try dsimp only at hSw); go_simp; (try (with_reducible rfl)); done)); (focus assumption); (try simp only [Act.put, List.setIfInBounds_toArray, List.set_cons_zero, List.set_cons_succ, List.getElem_toArray, List.getElem_cons_succ, List.getElem_cons_zero]))
        (refine wpAnyH_take (i := 4) (v := ?_) rfl ?_ ?_ ?_ (fun _ _ _ h => h) (Or.inl ⟨?_, ?_⟩) ?_ ?_; rotate_left 1; (focus decide +kernel); (focus decide +kernel); (focus decide +kernel); (focus rfl); (focus (intro w hSw; (try dsimp only at hSw); go_simp; (try (with_reducible rfl)); done)); (focus assumption); (try simp only [Act.put, List.setIfInBounds_toArray, List.set_cons_zero, List.set_cons_succ, List.getElem_toArray, List.getElem_cons_succ, List.getElem_cons_zero]))
        (refine wpAnyH_take (i := 5) (v := ?_) rfl ?_ ?_ ?_ (fun _ _ _ h => h) (Or.inl ⟨?_, ?_⟩) ?_ ?_; rotate_left 1; (focus decide +kernel); (focus decide +kernel); (focus decide +kernel); (focus rfl); (focus (intro w hSw; (try dsimp only at hSw); go_simp; (try (with_reducible rfl)); done)); (focus assumption); (try simp only [Act.put, List.setIfInBounds_toArray, List.set_cons_zero, List.set_cons_succ, List.getElem_toArray, List.getElem_cons_succ, List.getElem_cons_zero]))
        (refine wpAnyH_take (i := 6) (v := ?_) rfl ?_ ?_ ?_ (fun _ _ _ h => h) (Or.inl ⟨?_, ?_⟩) ?_ ?_; rotate_left 1; (focus decide +kernel); (focus decide +kernel); (focus decide +kernel); (focus rfl); (focus (intro w hSw; (try dsimp only at hSw); go_simp; (try (with_reducible rfl)); done)); (focus assumption); (try simp only [Act.put, List.setIfInBounds_toArray, List.set_cons_zero, List.set_cons_succ, List.getElem_toArray, List.getElem_cons_succ, List.getElem_cons_zero]))
        (refine wpAnyH_take (i := 7) (v := ?_) rfl ?_ ?_ ?_ (fun _ _ _ h => h) (Or.inl ⟨?_, ?_⟩) ?_ ?_; rotate_left 1; (focus decide +kernel); (focus decide +kernel); (focus decide +kernel); (focus rfl); (focus (intro w hSw; (try dsimp only at hSw); go_simp; (try (with_reducible rfl)); done)); (focus assumption); (try simp only [Act.put, List.setIfInBounds_toArray, List.set_cons_zero, List.set_cons_succ, List.getElem_toArray, List.getElem_cons_succ, List.getElem_cons_zero]))
        (refine wpAnyH_take (i := 8) (v := ?_) rfl ?_ ?_ ?_ (fun _ _ _ h => h) (Or.inl ⟨?_, ?_⟩) ?_ ?_; rotate_left 1; (focus decide +kernel); (focus decide +kernel); (focus decide +kernel); (focus rfl); (focus (intro w hSw; (try dsimp only at hSw); go_simp; (try (with_reducible rfl)); done)); (focus assumption); (try simp only [Act.put, List.setIfInBounds_toArray, List.set_cons_zero, List.set_cons_succ, List.getElem_toArray, List.getElem_cons_succ, List.getElem_cons_zero]))
        (refine wpAnyH_take (i := 9) (v := ?_) rfl ?_ ?_ ?_ (fun _ _ _ h => h) (Or.inl ⟨?_, ?_⟩) ?_ ?_; rotate_left 1; (focus decide +kernel); (focus decide +kernel); (focus decide +kernel); (focus rfl); (focus (intro w hSw; (try dsimp only at hSw); go_simp; (try (with_reducible rfl)); done)); (focus assumption); (try simp only [Act.put, List.setIfInBounds_toArray, List.set_cons_zero, List.set_cons_succ, List.getElem_toArray, List.getElem_cons_succ, List.getElem_cons_zero]))
        (refine wpAnyH_take (i := 10) (v := ?_) rfl ?_ ?_ ?_ (fun _ _ _ h => h) (Or.inl ⟨?_, ?_⟩) ?_ ?_; rotate_left 1; (focus decide +kernel); (focus decide +kernel); (focus decide +kernel); (focus rfl); (focus (intro w hSw; (try dsimp only at hSw); go_simp; (try (with_reducible rfl)); done)); (focus assumption); (try simp only [Act.put, List.setIfInBounds_toArray, List.set_cons_zero, List.set_cons_succ, List.getElem_toArray, List.getElem_cons_succ, List.getElem_cons_zero]))
        (refine wpAnyH_take (i := 11) (v := ?_) rfl ?_ ?_ ?_ (fun _ _ _ h => h) (Or.inl ⟨?_, ?_⟩) ?_ ?_; rotate_left 1; (focus decide +kernel); (focus decide +kernel); (focus decide +kernel); (focus rfl); (focus (intro w hSw; (try dsimp only at hSw); go_simp; (try (with_reducible rfl)); done)); (focus assumption); (try simp only [Act.put, List.setIfInBounds_toArray, List.set_cons_zero, List.set_cons_succ, List.getElem_toArray, List.getElem_cons_succ, List.getElem_cons_zero]))
        (refine wpAnyH_take (i := 12) (v := ?_) rfl ?_ ?_ ?_ (fun _ _ _ h => h) (Or.inl ⟨?_, ?_⟩) ?_ ?_; rotate_left 1; (focus decide +kernel); (focus decide +kernel); (focus decide +kernel); (focus rfl); (focus (intro w hSw; (try dsimp only at hSw); go_simp; (try (with_reducible rfl)); done)); (focus assumption); (try simp only [Act.put, List.setIfInBounds_toArray, List.set_cons_zero, List.set_cons_succ, List.getElem_toArray, List.getElem_cons_succ, List.getElem_cons_zero]))
        (refine wpAnyH_take (i := 13) (v := ?_) rfl ?_ ?_ ?_ (fun _ _ _ h => h) (Or.inl ⟨?_, ?_⟩) ?_ ?_; rotate_left 1; (focus decide +kernel); (focus decide +kernel); (focus decide +kernel); (focus rfl); (focus (intro w hSw; (try dsimp only at hSw); go_simp; (try (with_reducible rfl)); done)); (focus assumption); (try simp only [Act.put, List.setIfInBounds_toArray, List.set_cons_zero, List.set_cons_succ, List.getElem_toArray, List.getElem_cons_succ, List.getElem_cons_zero]))
        (refine wpAnyH_take (i := 14) (v := ?_) rfl ?_ ?_ ?_ (fun _ _ _ h => h) (Or.inl ⟨?_, ?_⟩) ?_ ?_; rotate_left 1; (focus decide +kernel); (focus decide +kernel); (focus decide +kernel); (focus rfl); (focus (intro w hSw; (try dsimp only at hSw); go_simp; (try (with_reducible rfl)); done)); (focus assumption); (try simp only [Act.put, List.setIfInBounds_toArray, List.set_cons_zero, List.set_cons_succ, List.getElem_toArray, List.getElem_cons_succ, List.getElem_cons_zero]))
        refine wpAnyH_ready (rs := [15]) ?_ (by simp) ?_
        · decide +kernel
        refine AllReadyH.cons rfl (fun K hK => ?_) AllReadyH.nil
        have s0 := ab.cell (i := (p * 26)) (by rw [HL9.out]; omega)
        have s0f := ab.free (p * 26)
        go_simp
        have ab2 := ab.set (p * 26) x0
        have g2 := g_set g (p * 26) (.int .i64 x0)
        refine hK.out _ _ ?_ (fun hHeld5 => ?_)
        · (try dsimp only); obtain ⟨h0, h1, h2, h3⟩ := hHeld; exact ⟨h0.setCell HLoF.out _, set_cell h1 HNF.out, set_cell h2 HNB.out, set_cell h3 HNB.out⟩
        clear hK K hHeld
        obtain ⟨wz1, hz⟩ : ∃ wz1, wz1 = wD.setCell ⟨FB, (p * 26), none⟩ (.int .i64 x0) := ⟨_, rfl⟩
        (try dsimp only at hHeld5)
        rw [← hz] at ab2 g2
        try simp only [← hz] at hHeld5
        try simp only [← hz]
        clear hz s0 s0f ab g
        have ab := ab2
        have g := g2
        clear ab2 g2
        have hHeld := hHeld5
        clear hHeld5
        (try simp only [Act.put, List.setIfInBounds_toArray, List.set_cons_zero, List.set_cons_succ, List.getElem_toArray, List.getElem_cons_succ, List.getElem_cons_zero])
        (refine wpAnyH_take (i := 16) (v := ?_) rfl ?_ ?_ ?_ (fun _ _ _ h => h) (Or.inl ⟨?_, ?_⟩) ?_ ?_; rotate_left 1; (focus decide +kernel); (focus decide +kernel); (focus decide +kernel); (focus rfl); (focus (intro w hSw; (try dsimp only at hSw); go_simp; (try (with_reducible rfl)); done)); (focus assumption); (try simp only [Act.put, List.setIfInBounds_toArray, List.set_cons_zero, List.set_cons_succ, List.getElem_toArray, List.getElem_cons_succ, List.getElem_cons_zero]))
        refine wpAnyH_ready (rs := [17]) ?_ (by simp) ?_
        · decide +kernel
        refine AllReadyH.cons rfl (fun K hK => ?_) AllReadyH.nil
        have s0 := ab.cell (i := (p * 26 + (C + 1))) (by rw [List.length_set, HL9.out]; omega)
        have s0f := ab.free (p * 26 + (C + 1))
        go_simp
        have ab2 := ab.set (p * 26 + (C + 1)) x1
        have g2 := g_set g (p * 26 + (C + 1)) (.int .i64 x1)
        refine hK.out _ _ ?_ (fun hHeld5 => ?_)
        · (try dsimp only); obtain ⟨h0, h1, h2, h3⟩ := hHeld; exact ⟨h0.setCell HLoF.out _, set_cell h1 HNF.out, set_cell h2 HNB.out, set_cell h3 HNB.out⟩
        clear hK K hHeld
        obtain ⟨wz2, hz⟩ : ∃ wz2, wz2 = wz1.setCell ⟨FB, (p * 26 + (C + 1)), none⟩ (.int .i64 x1) := ⟨_, rfl⟩
        (try dsimp only at hHeld5)
        rw [← hz] at ab2 g2
        try simp only [← hz] at hHeld5
        try simp only [← hz]
        clear hz s0 s0f ab g
        have ab := ab2
        have g := g2
        clear ab2 g2
        have hHeld := hHeld5
        clear hHeld5
        (try simp only [Act.put, List.setIfInBounds_toArray, List.set_cons_zero, List.set_cons_succ, List.getElem_toArray, List.getElem_cons_succ, List.getElem_cons_zero])
        refine wpAnyH_done (by kernel_rfl) ?_ _
        have HAz := hid ab
        have HGz := hid g
        clear ab g hHeld
        go_wp2
        go_roundw
        case rel =>
          refine ⟨p + 1, by omega, by go_num, ?_, HGz.out⟩
          have he := row_rd (zs := zs) (C := C) (X := X) (show p ≤ R + 1 by omega) HR.out HC.out HX.out
          rw [← HX01.out.1, ← HX01.out.2] at he
          rw [← he]
          exact HAz.out
        case measure => simp [intOf]; omega
      | false =>
        by_cases hin : 0 ≤ (p : Int) - 1 ∧ (p : Int) - 1 ≤ (R : Int) - 1
        · have d1 : Hid (decide (0 ≤ (p : Int) - 1 ∧ (p : Int) - 1 ≤ (R : Int) - 1) = true) := decide_eq_true hin
          have HPR : Hid (1 ≤ p ∧ p ≤ R) := ⟨by omega, by omega⟩
          have HX1 : Hid (X = p - 1) := by simp only [Hid]; rw [hX, Int.emod_eq_of_lt (by omega) (by omega)]; omega
          clear hin
          go_wp2_with fail
          go_at_call 58
          refine isCountB.mono ?_
          rw [d1.out]
          rintro e w3 ⟨rfl, rfl⟩
          have HXI : Hid (((p : Int) - 1) % (R : Int) = (X : Int)) := by simp only [Hid]; rw [hX]; exact (rnd_lt _ HR.out.1).1.symm
          have HXR : Hid (X < R) := by simp only [Hid]; rw [hX]; exact (rnd_lt _ HR.out.1).2
          obtain ⟨L, hL⟩ : ∃ L, L = X * C := ⟨_, rfl⟩
          have HL := hid hL
          have hLn : L + C ≤ n := by rw [hL, HN.out]; exact Row.row_in HXR.out
          clear hL hX
          go_wp2_with fail

          refine wp_region_held_drew (S := (fun ww => Below w.heap.size w ww ∧ ww.cell? ⟨N, 0, none⟩ = some (.int .i64 R) ∧ ww.cell? ⟨N, 1, none⟩ = some (.int .i64 C) ∧ ww.cell? ⟨N, 2, none⟩ = some (.slice (some ⟨b, off, none⟩) n cap) ∧ w.heap.size ≤ ww.heap.size)) (by kernel_rfl) ?_ (fun hHeld => ?_)
          · ((try dsimp only); exact ⟨HBW.out.drew, c0, c1, c2, HBW.out.drew.size⟩)
          have hsl := fun w => sliceFrom w (FB := FB) (o := p * 26) (C := C) (by omega)
          have ab : AB 140 wr.drew FB (fzL zs R C false p) := HAB0.out
          have g : w1.grownBy wr.drew (some FB) := g_drew HG0.out
          clear c0 c1 c2
          (refine wpAnyH_take (i := 0) (v := ?_) rfl ?_ ?_ ?_ (fun _ _ _ h => h) (Or.inl ⟨?_, ?_⟩) ?_ ?_; rotate_left 1; (focus decide +kernel); (focus decide +kernel); (focus decide +kernel); (focus rfl); (focus (intro w hSw; (try dsimp only at hSw); go_simp; (try (with_reducible rfl)); done)); (focus assumption); (try simp only [Act.put, List.setIfInBounds_toArray, List.set_cons_zero, List.set_cons_succ, List.getElem_toArray, List.getElem_cons_succ, List.getElem_cons_zero]))
          (refine wpAnyH_take (i := 1) (v := ?_) rfl ?_ ?_ ?_ (fun _ _ _ h => h) (Or.inl ⟨?_, ?_⟩) ?_ ?_; rotate_left 1; (focus decide +kernel); (focus decide +kernel); (focus decide +kernel); (focus rfl); (focus (intro w hSw; (try dsimp only at hSw); go_simp; (try (with_reducible rfl)); done)); (focus assumption); (try simp only [Act.put, List.setIfInBounds_toArray, List.set_cons_zero, List.set_cons_succ, List.getElem_toArray, List.getElem_cons_succ, List.getElem_cons_zero]))
          (refine wpAnyH_take (i := 2) (v := ?_) rfl ?_ ?_ ?_ (fun _ _ _ h => h) (Or.inl ⟨?_, ?_⟩) ?_ ?_; rotate_left 1; (focus decide +kernel); (focus decide +kernel); (focus decide +kernel); (focus rfl); (focus (intro w hSw; (try dsimp only at hSw); go_simp; (try (with_reducible rfl)); done)); (focus assumption); (try simp only [Act.put, List.setIfInBounds_toArray, List.set_cons_zero, List.set_cons_succ, List.getElem_toArray, List.getElem_cons_succ, List.getElem_cons_zero]))
          (refine wpAnyH_take (i := 3) (v := ?_) rfl ?_ ?_ ?_ (fun _ _ _ h => h) (Or.inl ⟨?_, ?_⟩) ?_ ?_; rotate_left 1; (focus decide +kernel); (focus decide +kernel); (focus decide +kernel); (focus rfl); (focus (intro w hSw; (try dsimp only at hSw); go_simp; (try (with_reducible rfl)); done)); (focus assumption); (try simp only [Act.put, List.setIfInBounds_toArray, List.set_cons_zero, List.set_cons_succ, List.getElem_toArray, List.getElem_cons_succ, List.getElem_cons_zero]))
          (refine wpAnyH_take (i := 6) (v := ?_) rfl ?_ ?_ ?_ (fun _ _ _ h => h) (Or.inl ⟨?_, ?_⟩) ?_ ?_; rotate_left 1; (focus decide +kernel); (focus decide +kernel); (focus decide +kernel); (focus rfl); (focus (intro w hSw; (try dsimp only at hSw); go_simp; (try (with_reducible rfl)); done)); (focus assumption); (try simp only [Act.put, List.setIfInBounds_toArray, List.set_cons_zero, List.set_cons_succ, List.getElem_toArray, List.getElem_cons_succ, List.getElem_cons_zero]))
          (refine wpAnyH_take (i := 7) (v := ?_) rfl ?_ ?_ ?_ (fun _ _ _ h => h) (Or.inl ⟨?_, ?_⟩) ?_ ?_; rotate_left 1; (focus decide +kernel); (focus decide +kernel); (focus decide +kernel); (focus rfl); (focus (intro w hSw; (try dsimp only at hSw); go_simp; (try (with_reducible rfl)); done)); (focus assumption); (try simp only [Act.put, List.setIfInBounds_toArray, List.set_cons_zero, List.set_cons_succ, List.getElem_toArray, List.getElem_cons_succ, List.getElem_cons_zero]))
          (refine wpAnyH_take (i := 8) (v := ?_) rfl ?_ ?_ ?_ (fun _ _ _ h => h) (Or.inl ⟨?_, ?_⟩) ?_ ?_; rotate_left 1; (focus decide +kernel); (focus decide +kernel); (focus decide +kernel); (focus rfl); (focus (intro w hSw; (try dsimp only at hSw); go_simp; (try (with_reducible rfl)); done)); (focus assumption); (try simp only [Act.put, List.setIfInBounds_toArray, List.set_cons_zero, List.set_cons_succ, List.getElem_toArray, List.getElem_cons_succ, List.getElem_cons_zero]))
          (refine wpAnyH_take (i := 9) (v := ?_) rfl ?_ ?_ ?_ (fun _ _ _ h => h) (Or.inl ⟨?_, ?_⟩) ?_ ?_; rotate_left 1; (focus decide +kernel); (focus decide +kernel); (focus decide +kernel); (focus rfl); (focus (intro w hSw; (try dsimp only at hSw); go_simp; (try (with_reducible rfl)); done)); (focus assumption); (try simp only [Act.put, List.setIfInBounds_toArray, List.set_cons_zero, List.set_cons_succ, List.getElem_toArray, List.getElem_cons_succ, List.getElem_cons_zero]))
          (refine wpAnyH_take (i := 10) (v := ?_) rfl ?_ ?_ ?_ (fun _ _ _ h => h) (Or.inl ⟨?_, ?_⟩) ?_ ?_; rotate_left 1; (focus decide +kernel); (focus decide +kernel); (focus decide +kernel); (focus rfl); (focus (intro w hSw; (try dsimp only at hSw); go_simp; (try (with_reducible rfl)); done)); (focus assumption); (try simp only [Act.put, List.setIfInBounds_toArray, List.set_cons_zero, List.set_cons_succ, List.getElem_toArray, List.getElem_cons_succ, List.getElem_cons_zero]))
          (refine wpAnyH_take (i := 11) (v := ?_) rfl ?_ ?_ ?_ (fun _ _ _ h => h) (Or.inl ⟨?_, ?_⟩) ?_ ?_; rotate_left 1; (focus decide +kernel); (focus decide +kernel); (focus decide +kernel); (focus rfl); (focus (intro w hSw; (try dsimp only at hSw); go_simp; (try (with_reducible rfl)); done)); (focus assumption); (try simp only [Act.put, List.setIfInBounds_toArray, List.set_cons_zero, List.set_cons_succ, List.getElem_toArray, List.getElem_cons_succ, List.getElem_cons_zero]))
          (refine wpAnyH_take (i := 12) (v := ?_) rfl ?_ ?_ ?_ (fun _ _ _ h => h) (Or.inl ⟨?_, ?_⟩) ?_ ?_; rotate_left 1; (focus decide +kernel); (focus decide +kernel); (focus decide +kernel); (focus rfl); (focus (intro w hSw; (try dsimp only at hSw); go_simp; (try (with_reducible rfl)); done)); (focus assumption); (try simp only [Act.put, List.setIfInBounds_toArray, List.set_cons_zero, List.set_cons_succ, List.getElem_toArray, List.getElem_cons_succ, List.getElem_cons_zero]))
          refine wpAnyH_ready (rs := [4]) ?_ (by simp) ?_
          · decide +kernel
          refine AllReadyH.cons rfl (fun K hK => ?_) AllReadyH.nil
          go_simp
          go_at_call 135
          refine (Round.onRound (by omega) (by omega)).mono ?_
          rw [HXI.out]
          rintro e w3 ⟨rfl, rfl⟩
          refine hK.out _ _ ?_ (fun hHeld2 => ?_)
          · (try dsimp only); exact hHeld
          clear hK K hHeld
          have hHeld := hHeld2
          clear hHeld2
          (try simp only [Act.put, List.setIfInBounds_toArray, List.set_cons_zero, List.set_cons_succ, List.getElem_toArray, List.getElem_cons_succ, List.getElem_cons_zero])
          refine wpAnyH_ready (rs := [5]) ?_ (by simp) ?_
          · decide +kernel
          refine AllReadyH.cons rfl (fun K hK => ?_) AllReadyH.nil
          go_simp
          go_at_call 126
          refine (rowOfP HL.out HN.out HLE.out HXR.out HR.out.2 HC.out HCap.out.1 HCap.out.2).mono ?_
          rintro e wb ⟨rfl, bel⟩
          replace ab := ab.keep bel
          replace g := g_bel g bel
          refine hK.out _ _ ?_ (fun hHeld2 => ?_)
          · (try dsimp only); exact next3_0 bel hHeld
          clear hK K hHeld bel
          have hHeld := hHeld2
          clear hHeld2
          (try simp only [Act.put, List.setIfInBounds_toArray, List.set_cons_zero, List.set_cons_succ, List.getElem_toArray, List.getElem_cons_succ, List.getElem_cons_zero])
          (refine wpAnyH_take (i := 13) (v := ?_) rfl ?_ ?_ ?_ (fun _ _ _ h => h) (Or.inl ⟨?_, ?_⟩) ?_ ?_; rotate_left 1; (focus decide +kernel); (focus decide +kernel); (focus decide +kernel); (focus rfl); (focus (intro w hSw; (try dsimp only at hSw); go_simp; (try (with_reducible rfl)); done)); (focus assumption); (try simp only [Act.put, List.setIfInBounds_toArray, List.set_cons_zero, List.set_cons_succ, List.getElem_toArray, List.getElem_cons_succ, List.getElem_cons_zero]))
          (refine wpAnyH_take (i := 14) (v := ?_) rfl ?_ ?_ ?_ (fun _ _ _ h => h) (Or.inl ⟨?_, ?_⟩) ?_ ?_; rotate_left 1; (focus decide +kernel); (focus decide +kernel); (focus decide +kernel); (focus rfl); (focus (intro w hSw; (try dsimp only at hSw); go_simp; (try (with_reducible rfl)); done)); (focus assumption); (try simp only [Act.put, List.setIfInBounds_toArray, List.set_cons_zero, List.set_cons_succ, List.getElem_toArray, List.getElem_cons_succ, List.getElem_cons_zero]))
          refine wpAnyH_done (by kernel_rfl) ?_ _
          have c0 := hHeld.2.1
          have c1 := hHeld.2.2.1
          have c2 := hHeld.2.2.2.1
          have HAB := hid ab
          have HG := hid g
          clear ab g hHeld
          go_wp2_with (refine copyA (xs := rowX zs C X) rfl _ _ rfl HAB.out (p * 26 + 1) (C + 1) 25 b (off + L) C C rfl rfl ?k1 ?k2 ?k3 ?_)
          case k1 => rw [rowX_len]; show C = min C (C + 1); omega
          case k2 => intro i hi; rw [rowX_len] at hi; rw [rowX_get zs hi, show off + L + i = off + (X * C + i) by have := HL.out; omega]; exact g_cell HG.out (HCLX.out (X * C + i) (by rw [HN.out]; exact pos_bd HXR.out hi)) HNB.out
          case k3 => rw [rowX_len, fzL_len]; omega
          intro w9 ab9 g9
          have HA9 := hid ab9
          have HG9 := hid (gTr HG.out g9)
          clear ab9 g9 c0 c1 c2 HAB HG
          go_wp2
          go_roundw
          case rel =>
            refine ⟨p + 1, by omega, by go_num, ?_, HG9.out⟩
            rw [← row_in HPR.out HR.out.2 HC.out.2, ← HX1.out]
            exact HA9.out
          case measure => simp [intOf]; omega
        · have d1 : Hid (decide (0 ≤ (p : Int) - 1 ∧ (p : Int) - 1 ≤ (R : Int) - 1) = false) := decide_eq_false hin
          have HPR : Hid (¬ (1 ≤ p ∧ p ≤ R)) := by simp only [Hid]; omega
          clear hin hX HX
          go_wp2_with fail
          go_at_call 58
          refine isCountB.mono ?_
          rw [d1.out]
          rintro e w3 ⟨rfl, rfl⟩
          go_wp2
          go_roundw
          case rel =>
            refine ⟨p + 1, by omega, by go_num, ?_, HG0.out⟩
            rw [← row_out HPR.out]
            exact HAB0.out
          case measure => simp [intOf]; omega
    · have hpe : p = R + 2 := by omega
      subst hpe
      have hd : decide (((R + 2 : Nat) : Int) - 1 ≤ (R : Int)) = false := by simp; omega
      go_upto_region 10 with fail
      have kR := HRb.out.grown HG0.out HNRF.out.1
      refine wp_region_lit ?_
      refine wpList_load_row rfl 140 _ rfl FB rfl 140 _ (0, 0) _ HAB0.out Try.underlying140 rfl (by rw [cellsA_size, fzL_len]; kernel_rfl) ?_
      refine wpList_store_row rfl 140 _ _ rfl NR _ rfl rfl 140 _ kR (by rw [cellsA_size, fzL_len]; kernel_rfl) (by rw [cellsA_size, cellsA_size, fzL_len]; rfl) (cellsA_one _) ?_
      have kR2 := setRow_heap _ NR _ (cellsA (fzL zs R C rd (R + 2))) 140 (0, 0) kR
      have B5 := below_setRow (cs := cellsA (fzL zs R C rd (R + 2))) HBW.out HNRF.out.2
      obtain ⟨W5, hW5⟩ : ∃ W5, W5 = wr.setRow NR (cellsA (fzL zs R C rd (R + 2))) := ⟨_, rfl⟩
      rw [← hW5] at kR2 B5 ⊢
      clear hW5 kR
      go_wp2
      refine bodyPost_ret (results_cell_row rfl _ _ NR 140 _ (0, 0) _ rfl kR2 Try.underlying140 rfl (by rw [cellsA_size, fzL_len]; kernel_rfl)) rfl ?_
      exact ⟨rfl, B5⟩


end Go.Proofs.Ythcbhbdgbiiagaa.Frm
