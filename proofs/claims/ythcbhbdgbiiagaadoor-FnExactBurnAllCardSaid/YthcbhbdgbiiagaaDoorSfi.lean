/- spec.l04Fire: a fire that spreads once, the model. -/
import Derived.Test.YthcbhbdgbiiagaaDoorSbe
import Derived.Test.YthcbhbdgbiiagaaDoorSOwn
import Derived.Test.YthcbhbdgbiiagaaDoorFMir
import Derived.Test.YthcbhbdgbiiagaaDoorFSpec
import Derived.Deep.Cut
import Derived.Deep.QuietTactic
import Derived.BigQuiet
namespace Go.Proofs.YthcbhbdgbiiagaaDoor.Sfi
open Go.RowKit Go.Proofs.YthcbhbdgbiiagaaDoor.Rd Go.Proofs.YthcbhbdgbiiagaaDoor.Help Go.Proofs.YthcbhbdgbiiagaaDoor.Small Go.Proofs.YthcbhbdgbiiagaaDoor.FVal Go.Proofs.YthcbhbdgbiiagaaDoor.Keep Go.Proofs.YthcbhbdgbiiagaaDoor.Rule Go.Proofs.YthcbhbdgbiiagaaDoor.Grow Go.Proofs.YthcbhbdgbiiagaaDoor.Sbe Go.Proofs.YthcbhbdgbiiagaaDoor.FMir
set_option linter.unusedVariables false
set_option linter.unusedSimpArgs false

theorem heap_keep {w w' : World} {n : Nat} {o : Obj} (bel : Below w.heap.size w w') (h : w.heap[n]? = some o) : w'.heap[n]? = some o :=
  (bel.block n (Array.getElem?_eq_some_iff.1 h).1).trans h
theorem heap_lt {w : World} {n : Nat} {o : Obj} (h : w.heap[n]? = some o) : n < w.heap.size := (Array.getElem?_eq_some_iff.1 h).1
theorem at_list {ys : List Int} {n : Nat} {F : Nat → Int} (h : FMir.At ys n F) : ys = (List.range n).map F := by
  apply List.ext_getElem
  · simp [h.1]
  · intro i h1 h2
    have := h.2 i (by have := h.1; omega)
    rw [List.getD_eq_getElem?_getD, List.getElem?_eq_getElem h1] at this
    simpa using this
def near2 (zs : List Int) (L : List Nat) : Bool := L.any fun j => decide (zs.getD j 0 = 2)
/-- A cell behind the fire. -/
def sfin (zs : List Int) (R C i : Nat) : Int := if zs.getD i 0 = 2 then 0 else if zs.getD i 0 = 1 ∧ near2 zs (sbL R C i) = true then 2 else zs.getD i 0
def sv (zs : List Int) (R C p i : Nat) : Int := if i < p then sfin zs R C i else zs.getD i 0
def svI (zs : List Int) (R C p k i : Nat) : Int := if i = p then (if near2 zs ((sbL R C p).take k) = true then 2 else 1) else sv zs R C p i
theorem sv_zero (zs : List Int) (R C i : Nat) : sv zs R C 0 i = zs.getD i 0 := by unfold sv; rw [if_neg (by omega)]
theorem sv_two {zs : List Int} {R C p : Nat} (h : zs.getD p 0 = 2) (i : Nat) : (if i = p then 0 else sv zs R C p i) = sv zs R C (p + 1) i := by
  unfold sv
  by_cases hp : i = p
  · subst hp; rw [if_pos rfl, if_pos (by omega)]; unfold sfin; rw [if_pos h]
  · rw [if_neg hp]
    by_cases hq : i < p
    · rw [if_pos hq, if_pos (by omega)]
    · rw [if_neg hq, if_neg (by omega)]
theorem sv_skip {zs : List Int} {R C p : Nat} (h : zs.getD p 0 ≠ 2) (h1 : zs.getD p 0 ≠ 1) (i : Nat) : sv zs R C p i = sv zs R C (p + 1) i := by
  unfold sv
  by_cases hp : i = p
  · subst hp; rw [if_neg (by omega), if_pos (by omega)]; unfold sfin; rw [if_neg h, if_neg (fun e => h1 e.1)]
  · by_cases hq : i < p
    · rw [if_pos hq, if_pos (by omega)]
    · rw [if_neg hq, if_neg (by omega)]
theorem svI_zero {zs : List Int} {R C p : Nat} (h : zs.getD p 0 = 1) (i : Nat) : sv zs R C p i = svI zs R C p 0 i := by
  unfold svI
  by_cases hp : i = p
  · subst hp; rw [if_pos rfl]; unfold sv; rw [if_neg (by omega), h]; simp [near2]
  · rw [if_neg hp]
theorem near_succ {zs : List Int} {L : List Nat} {k : Nat} (hk : k < L.length) : near2 zs (L.take (k + 1)) = (near2 zs (L.take k) || decide (zs.getD (L.getD k 0) 0 = 2)) := by
  unfold near2
  rw [List.take_add_one, List.any_append]
  simp [List.getElem?_eq_getElem hk, List.getD_eq_getElem?_getD]
theorem svI_yes {zs : List Int} {R C p k : Nat} (hk : k < (sbL R C p).length) (h : zs.getD ((sbL R C p).getD k 0) 0 = 2) (i : Nat) : (if i = p then 2 else svI zs R C p k i) = svI zs R C p (k + 1) i := by
  unfold svI
  rw [near_succ hk, decide_eq_true h, Bool.or_true]
  by_cases hp : i = p
  · rw [if_pos hp, if_pos hp, if_pos rfl]
  · rw [if_neg hp, if_neg hp, if_neg hp]
theorem svI_no {zs : List Int} {R C p k : Nat} (hk : k < (sbL R C p).length) (h : zs.getD ((sbL R C p).getD k 0) 0 ≠ 2) (i : Nat) : svI zs R C p k i = svI zs R C p (k + 1) i := by
  unfold svI
  rw [near_succ hk, decide_eq_false h, Bool.or_false]
theorem sfin_one {zs : List Int} {R C i : Nat} (h : zs.getD i 0 = 1) : sfin zs R C i = if near2 zs (sbL R C i) = true then 2 else 1 := by
  unfold sfin; rw [h]
  by_cases hn : near2 zs (sbL R C i) = true <;> simp [hn]
theorem svI_end {zs : List Int} {R C p : Nat} (h : zs.getD p 0 = 1) (i : Nat) : svI zs R C p (sbL R C p).length i = sv zs R C (p + 1) i := by
  unfold svI
  rw [List.take_length]
  by_cases hp : i = p
  · subst hp
    have hs : sv zs R C (i + 1) i = sfin zs R C i := by unfold sv; rw [if_pos (by omega)]
    rw [if_pos rfl, hs, sfin_one h]
  · rw [if_neg hp]; unfold sv
    by_cases hq : i < p
    · rw [if_pos hq, if_pos (by omega)]
    · rw [if_neg hq, if_neg (by omega)]
theorem mem_sb {c : Prop} [Decidable c] {x y : Nat} {L : List Nat} (h : x ∈ sb c y L) : (c ∧ x = y) ∨ x ∈ L := by
  unfold sb at h
  split at h
  · rcases List.mem_append.1 h with h | h
    · exact .inr h
    · exact .inl ⟨‹_›, by simpa using h⟩
  · exact .inr h
theorem sb_mem {R C A x : Nat} (hC : 1 ≤ C) (hA : A < R * C) (h : x ∈ sbL R C A) : x < R * C := by
  have hd := Nat.div_add_mod A C
  have hm := Nat.mod_lt A (show 0 < C by omega)
  have hq : A / C < R := Nat.div_lt_of_lt_mul (by rw [Nat.mul_comm]; exact hA)
  have hrow : ∀ r, r < R → C * r + C ≤ R * C := fun r hr => by
    have : (r + 1) * C ≤ R * C := Nat.mul_le_mul_right C hr
    rw [Nat.succ_mul, Nat.mul_comm r C] at this; exact this
  generalize hqq : A / C = q at hd hq
  generalize hmm : A % C = m at hd hm
  have h0 := hrow q hq
  have key : x = A - C ∨ (q + 1 < R ∧ x = A + C) ∨ x = A - 1 ∨ (m + 1 < C ∧ x = A + 1) := by
    rcases mem_sb h with ⟨h1, h2⟩ | h
    · exact .inr (.inr (.inr ⟨by rw [← hmm]; exact h1, h2⟩))
    rcases mem_sb h with ⟨_, h2⟩ | h
    · exact .inr (.inr (.inl h2))
    rcases mem_sb h with ⟨h1, h2⟩ | h
    · exact .inr (.inl ⟨by rw [← hqq]; exact h1, h2⟩)
    rcases mem_sb h with ⟨_, h2⟩ | h
    · exact .inl h2
    · simp at h
  rcases key with rfl | ⟨h1, rfl⟩ | rfl | ⟨h1, rfl⟩
  · omega
  · have := hrow (q + 1) h1
    rw [Nat.mul_succ] at this; omega
  · omega
  · omega
def fireS (zs : List Int) (R C n : Nat) : List Int := (List.range n).map (sfin zs R C)
theorem sv_end {zs ys : List Int} {R C n : Nat} (h : At ys n (sv zs R C n)) : ys = fireS zs R C n := by
  refine at_list (at_congr h (fun i hi => ?_))
  unfold sv; rw [if_pos hi]

set_option maxHeartbeats 8000000 in
theorem l04Fire {w : World} {N R C n : Nat} {b : Nat} {v : Value} {zs : List Int} (k0 : w.cell? ⟨N, 0, none⟩ = some (.int .i64 R)) (k1 : w.cell? ⟨N, 1, none⟩ = some (.int .i64 C)) (k2 : w.cell? ⟨N, 2, none⟩ = some v) (h : Rd w b v zs) (hq : fieldB R C zs = true) (hn : n = R * C) :
    Calls Tryd.prog 35 #[.pointer (some ⟨N, 0, none⟩)] w fun e w' => ∃ b' k, e = .returned (ruleV R C (.slice (some ⟨b', 0, none⟩) n k)) ∧ Own 2 w' b' (.slice (some ⟨b', 0, none⟩) n k) (fireS zs R C n) ∧ w.heap.size ≤ b' ∧ Below w.heap.size w w' := by
  obtain ⟨hR, hC, hl, hle⟩ := field_nat hq
  have HHv := hid h
  obtain ⟨ao, cap, rfl, hc, hm, h4⟩ := h
  rw [← hn] at hle
  have hpos : 0 < zs.length := by rw [hl]; exact Nat.mul_pos hR.1 hC.1
  obtain ⟨off, rfl, hb, hcell⟩ := h4 hpos
  have hln : zs.length = n := by rw [hn]; exact hl
  have HH : Hid (Rd w b (.slice (some ⟨b, off, none⟩) n cap) zs) := by simp only [Hid]; rw [← hln]; exact HHv.out
  clear HHv
  rw [hln] at hc hcell k2
  have hsz : n ≤ cap ∧ cap ≤ 9223372036854775807 := by unfold maxLen at hm; omega
  have HL := hid hln
  have HZ : Hid (1 ≤ zs.length ∧ zs.length ≤ 1048576) := by simp only [Hid]; omega
  have HK := hid (And.intro k0 (And.intro k1 k2))
  have HN := hid hn
  have HB0 := hid hb
  have HCell := hid hcell
  have hn5 : 1 ≤ n ∧ n ≤ 576 := by omega
  have hNw : N < w.heap.size := World.block_lt_of_cell? w _ k0
  have HNw := hid hNw
  clear hc hm h4 hq hn hl hpos hb hcell hln hle k0 k1 k2 hNw
  go_enter Tryd.func35, Tryd.ntmps35
  go_wp2_with fail
  obtain ⟨w1, hW⟩ : ∃ w1, w1 = w.alloc (Obj.cells #[.int .i64 0, .int .i64 0, .slice none 0 0] 26) := ⟨_, rfl⟩
  obtain ⟨NT, hT⟩ : ∃ NT, NT = w.heap.size := ⟨_, rfl⟩
  have bw : Below w.heap.size w w1 := by rw [hW]; exact below1 _ _
  have kT : w1.heap[NT]? = some (Obj.cells #[.int .i64 0, .int .i64 0, .slice none 0 0] 26) := by rw [hW]; exact FNew.heap_top hT
  have HNT : Hid (w.heap.size ≤ NT) := by simp only [Hid]; omega
  simp only [← hW, ← hT]
  clear hW hT
  go_at_call 28
  refine (SOwn.l04Own (cell_keep bw HK.out.1) (cell_keep bw HK.out.2.1) (cell_keep bw HK.out.2.2) (HH.out.keep bw (Nat.le_refl _)) HZ.out).mono ?_
  rw [HL.out]
  rintro e w2 ⟨b', k, rfl, ow, lo, hk1, hk2, bel⟩
  have HNTb : Hid (NT ≠ b') := Nat.ne_of_lt (Nat.lt_of_lt_of_le (heap_lt kT) lo)
  have HLO : Hid (w.heap.size ≤ b') := Nat.le_trans bw.size lo
  replace kT := heap_keep bel kT
  have HB2 := hid (bw.trans (bel.mono bw.size))
  have HOW := hid ow
  have HKT := hid kT
  clear bel bw lo ow kT hk1 hk2
  go_wp2_with fail
  obtain ⟨w4, hW⟩ : ∃ w4, w4 = w2.alloc (Obj.cells #[.int .i64 R, .int .i64 C, .slice (some ⟨b', 0, none⟩) n k] 26) := ⟨_, rfl⟩
  obtain ⟨NX, hN⟩ : ∃ NX, NX = w2.heap.size := ⟨_, rfl⟩
  have bel : Below w2.heap.size w2 w4 := by rw [hW]; exact below1 _ _
  have HKX : Hid (w4.heap[NX]? = some (Obj.cells #[.int .i64 R, .int .i64 C, .slice (some ⟨b', 0, none⟩) n k] 26)) := by simp only [Hid]; rw [hW]; exact FNew.heap_top hN
  have HWb : Hid (NX ≠ b') := by simp only [Hid]; rw [hN]; exact Nat.ne_of_gt HOW.out.lt
  have HKT4 := hid (heap_keep bel HKT.out)
  have HOW4 := hid (HOW.out.keep bel)
  have HB4 := hid (HB2.out.trans (bel.mono HB2.out.size))
  have HNb : Hid (N ≠ b') := Nat.ne_of_lt (Nat.lt_of_lt_of_le HNw.out HLO.out)
  simp only [← hW, ← hN]
  clear hW hN bel HKT HOW HB2
  go_loopw [4] (fun t wr => ∃ p : Nat, p ≤ n ∧ t = .int .i64 (p : Int) ∧ w4.grownBy wr (some b') ∧ ∃ ys, At ys n (sv zs R C p) ∧ Own 2 wr b' (.slice (some ⟨b', 0, none⟩) n k) ys) (fun t _ => n - (intOf t).toNat)
  case atStart => exact ⟨0, Nat.zero_le _, rfl, g_refl _ _, zs, ⟨HL.out, fun i _ => (sv_zero zs R C i).symm⟩, HOW4.out⟩
  case round =>
    obtain ⟨p, hp, rfl, hg, ys, hat, hown⟩ := hrel
    have HG := hid hg
    have HAT := hid hat
    have HOW := hid hown
    have HBW := hid (g_below HB4.out hg HLO.out)
    have c0 := cell_keep HBW.out HK.out.1
    have c1 := cell_keep HBW.out HK.out.2.1
    have c2 := cell_keep HBW.out HK.out.2.2
    clear hg hat hown
    by_cases hlt : p < n
    · have zc : wr.cell? ⟨b, off + p, none⟩ = some (.int .i64 (zs.getD p 0)) := (HBW.out.cell (p := ⟨b, off + p, none⟩) HB0.out).trans (HCell.out p hlt)
      by_cases hz : zs.getD p 0 = 2
      · have HZ2 := hid hz
        rw [hz] at zc
        clear hz
        have x2 : wr.cell? ⟨NX, 2, none⟩ = some (.slice (some ⟨b', 0, none⟩) n k) := g_cell HG.out (Go.Joins.cell_of_block HKX.out 2) HWb.out
        have oc := HOW.out.cell (i := p) (by rw [HAT.out.1]; exact hlt)
        have of := HOW.out.free p
        have HSet := hid (And.intro (HOW.out.set p 0) (And.intro (g_set HG.out p (.int .i64 0)) (cell_keep HBW.out HK.out.2.2)))
        have c2' : (wr.setCell ⟨b', p, none⟩ (.int .i64 0)).cell? ⟨N, 2, none⟩ = some (.slice (some ⟨b, off, none⟩) n cap) := set_cell c2 HNb.out
        have zc' : (wr.setCell ⟨b', p, none⟩ (.int .i64 0)).cell? ⟨b, off + p, none⟩ = some (.int .i64 2) := set_cell zc (Nat.ne_of_lt (Nat.lt_of_lt_of_le HB0.out HLO.out))
        go_wp2
        go_roundw
        case rel => exact ⟨p + 1, by omega, by go_num, HSet.out.2.1, ys.set p 0, at_congr (at_set HAT.out hlt 0) (fun i _ => sv_two HZ2.out i), HSet.out.1⟩
        case measure => simp [intOf]; omega
      · by_cases hz1 : zs.getD p 0 = 1
        · have HZ1 := hid hz1
          rw [hz1] at zc
          clear hz hz1
          go_wp2_with fail
          go_at_call 51
          refine (Sbe.l04Beside c0 c1 hR hC (by have := HN.out; omega)).mono ?_
          rintro e w5 ⟨vs, bs, rfl, ows, los, bel⟩
          have HG5 := hid (g_bel HG.out bel)
          have HO5 := hid (HOW.out.keep bel)
          have HBb : Hid (bs ≠ b') := Nat.ne_of_gt (Nat.lt_of_lt_of_le HOW.out.lt los)
          obtain ⟨aos, caps, hvs, hcs, hms, h4s⟩ := ows.rd
          rw [ints_len] at hvs hcs h4s
          obtain ⟨L, hL⟩ : ∃ L, L = (sbL R C p).length := ⟨_, rfl⟩
          rw [← hL] at hvs hcs h4s
          subst hvs
          have hms5 : caps ≤ 9223372036854775807 := by unfold maxLen at hms; omega
          have hL4 : L ≤ 4 := by rw [hL]; exact sbL_len _ _ _
          have HLL := hid hL
          have HS := hid h4s
          clear bel ows los hL h4s c0 c1 c2 zc
          go_wp2
          go_loopw [6] (fun t wx => ∃ j : Nat, j ≤ L ∧ t = .int .i64 (j : Int) ∧ w5.grownBy wx (some b') ∧ ∃ ys, At ys n (svI zs R C p j) ∧ Own 2 wx b' (.slice (some ⟨b', 0, none⟩) n k) ys) (fun t _ => L - (intOf t).toNat)
          case atStart => exact ⟨0, Nat.zero_le _, rfl, g_refl _ _, ys, at_congr HAT.out (fun i _ => svI_zero HZ1.out i), HO5.out⟩
          case round =>
            obtain ⟨j, hj, rfl, hg2, ys2, hat2, hown2⟩ := hrel
            have HGx := hid hg2
            have HG2 := hid (g_trans HG5.out hg2)
            have HAT2 := hid hat2
            have HOW2 := hid hown2
            have HBW2 := hid (g_below HB4.out HG2.out HLO.out)
            clear hg2 hat2 hown2
            by_cases hlt2 : j < L
            · obtain ⟨offs, hao, hbs, hcells⟩ := HS.out (by omega)
              subst hao
              obtain ⟨x, hx⟩ : ∃ x, x = (sbL R C p).getD j 0 := ⟨_, rfl⟩
              have hjL : j < (sbL R C p).length := by rw [← HLL.out]; exact hlt2
              have hxn : x < n := by
                have h1 : x ∈ sbL R C p := by rw [hx, List.getD_eq_getElem?_getD, List.getElem?_eq_getElem hjL]; exact List.getElem_mem hjL
                have h2 := sb_mem hC.1 (by have := HN.out; omega) h1
                have := HN.out; omega
              have hgx : (ints (sbL R C p)).getD j 0 = (x : Int) := by rw [hx]; simp [ints, List.getD_eq_getElem?_getD, hjL]
              have sc : wr.cell? ⟨bs, offs + j, none⟩ = some (.int .i64 (x : Int)) := g_cell HGx.out (by rw [← hgx]; exact hcells j hlt2) HBb.out
              have c2 := cell_keep HBW2.out HK.out.2.2
              have zc : wr.cell? ⟨b, off + x, none⟩ = some (.int .i64 (zs.getD x 0)) := (HBW2.out.cell (p := ⟨b, off + x, none⟩) HB0.out).trans (HCell.out x hxn)
              have HX := hid hx
              have HJ := hid hjL
              clear hx hgx hjL hcells hbs
              have hxi : (x : Int) < (n : Int) := by omega
              by_cases hz : zs.getD x 0 = 2
              · have HZX := hid hz
                rw [hz] at zc
                clear hz
                go_upto_region 12 with fail
                go_quiet (fail)
                have bel := FSpec.below_drewN' wr.heap.size wr nq
                obtain ⟨wd, hwd⟩ : ∃ wd, wd = wr.drewN nq := ⟨_, rfl⟩
                rw [← hwd] at bel ⊢
                clear hwd
                have HOd := hid (HOW2.out.keep bel)
                have HGd := hid (g_bel HGx.out bel)
                have x2 : wd.cell? ⟨NX, 2, none⟩ = some (.slice (some ⟨b', 0, none⟩) n k) := g_cell (g_bel HG2.out bel) (Go.Joins.cell_of_block HKX.out 2) HWb.out
                have oc := HOd.out.cell (i := p) (by rw [HAT2.out.1]; exact hlt)
                have of := HOd.out.free p
                clear bel sc zc c2
                go_wp2
                go_roundw
                case rel => exact ⟨j + 1, by omega, by go_num, g_set HGd.out p _, ys2.set p 2, at_congr (at_set HAT2.out hlt 2) (fun i _ => svI_yes HJ.out (by rw [← HX.out]; exact HZX.out) i), HOd.out.set p 2⟩
                case measure => simp [intOf]; omega
              · have HZX := hid hz
                obtain ⟨z, hzv⟩ : ∃ z, z = zs.getD x 0 := ⟨_, rfl⟩
                rw [← hzv] at zc hz
                have hzi : (z == 2) = false := by simpa using hz
                clear hz hzv
                go_upto_region 12 with fail
                go_quiet (fail)
                have bel := FSpec.below_drewN' wr.heap.size wr nq
                obtain ⟨wd, hwd⟩ : ∃ wd, wd = wr.drewN nq := ⟨_, rfl⟩
                rw [← hwd] at bel ⊢
                clear hwd
                have HOd := hid (HOW2.out.keep bel)
                have HGd := hid (g_bel HGx.out bel)
                clear bel sc zc c2
                go_wp2
                go_roundw
                case rel => exact ⟨j + 1, by omega, by go_num, HGd.out, ys2, at_congr HAT2.out (fun i _ => svI_no HJ.out (by rw [← HX.out]; exact HZX.out) i), HOd.out⟩
                case measure => simp [intOf]; omega
            · have hjL : j = L := by omega
              subst hjL
              go_wp2
              go_roundw
              case rel => exact ⟨p + 1, by omega, by go_num, HG2.out, ys2, at_congr HAT2.out (fun i _ => by rw [HLL.out]; exact svI_end HZ1.out i), HOW2.out⟩
              case measure => simp [intOf]; omega
        · have HZ2 := hid (And.intro hz hz1)
          obtain ⟨z, hzv⟩ : ∃ z, z = zs.getD p 0 := ⟨_, rfl⟩
          rw [← hzv] at zc hz hz1
          have hzi : (z == 2) = false := by simpa using hz
          have hzi1 : (z != 1) = true := by simpa using hz1
          clear hz hz1 hzv
          go_wp2
          go_roundw
          case rel => exact ⟨p + 1, by omega, by go_num, HG.out, ys, at_congr HAT.out (fun i _ => sv_skip HZ2.out.1 HZ2.out.2 i), HOW.out⟩
          case measure => simp [intOf]; omega
    · have hpn : p = n := by omega
      subst hpn
      have hfl := sv_end HAT.out
      subst hfl
      have x0 : wr.cell? ⟨NX, 0, none⟩ = some (.int .i64 R) := g_cell HG.out (Go.Joins.cell_of_block HKX.out 0) HWb.out
      have x1 : wr.cell? ⟨NX, 1, none⟩ = some (.int .i64 C) := g_cell HG.out (Go.Joins.cell_of_block HKX.out 1) HWb.out
      have x2 : wr.cell? ⟨NX, 2, none⟩ = some (.slice (some ⟨b', 0, none⟩) p k) := g_cell HG.out (Go.Joins.cell_of_block HKX.out 2) HWb.out
      have kT := g_heap HG.out HKT4.out HNTb.out
      have HNB : Hid (NT ≠ b') := HNTb.out
      have HB : Hid (Below w.heap.size w wr) := HBW.out
      clear c0 c1
      have y0 : wr.cell? ⟨NT, 0, none⟩ = some (.int .i64 0) := Go.Joins.cell_of_block kT 0
      have y1 : wr.cell? ⟨NT, 1, none⟩ = some (.int .i64 0) := Go.Joins.cell_of_block kT 1
      have y2 : wr.cell? ⟨NT, 2, none⟩ = some (.slice none 0 0) := Go.Joins.cell_of_block kT 2
      have g0 : wr.frozen? ⟨NT, 0, none⟩ = false := Go.Joins.unfrozen_of_block kT 0
      have g1 : wr.frozen? ⟨NT, 1, none⟩ = false := Go.Joins.unfrozen_of_block kT 1
      have g2 : wr.frozen? ⟨NT, 2, none⟩ = false := Go.Joins.unfrozen_of_block kT 2
      have HKx := hid kT
      clear kT
      go_wp2
      obtain ⟨W5, hW⟩ : ∃ W5, W5 = (((wr.setCell ⟨NT, 0, none⟩ (.int .i64 R)).setCell ⟨NT, 1, none⟩ (.int .i64 C)).setCell ⟨NT, 2, none⟩ (.slice (some ⟨b', 0, none⟩) p k)) := ⟨_, rfl⟩
      have q0 := (Go.Joins.block_setCell (i := 2) (Go.Joins.block_setCell (i := 1) (Go.Joins.block_setCell (i := 0) HKx.out (.int .i64 R)) (.int .i64 C)) (.slice (some ⟨b', 0, none⟩) p k))
      rw [← hW] at q0
      have z0 : W5.cell? ⟨NT, 0, none⟩ = some (.int .i64 R) := Go.Joins.cell_of_block q0 0
      have z1 : W5.cell? ⟨NT, 1, none⟩ = some (.int .i64 C) := Go.Joins.cell_of_block q0 1
      have z2 : W5.cell? ⟨NT, 2, none⟩ = some (.slice (some ⟨b', 0, none⟩) p k) := Go.Joins.cell_of_block q0 2
      have O5 := (own_set (own_set (own_set HOW.out ⟨NT, 0, none⟩ (.int .i64 R) HNB.out) ⟨NT, 1, none⟩ (.int .i64 C) HNB.out) ⟨NT, 2, none⟩ (.slice (some ⟨b', 0, none⟩) p k) HNB.out)
      rw [← hW] at O5
      have B5 : Below w.heap.size w W5 := by
        have h1 := HNT.out
        rw [hW]
        exact ((HB.out.setCell (by simp; omega) _).setCell (by simp; omega) _).setCell (by simp; omega) _
      simp only [← hW]
      clear hW q0
      simp [bodyPost, results, Tryd.results35, go_sem, z0, z1, z2]
      exact ⟨b', k, ⟨rfl, rfl⟩, O5, HLO.out, B5⟩

end Go.Proofs.YthcbhbdgbiiagaaDoor.Sfi
