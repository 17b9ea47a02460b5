/- FlowOf of both sides. -/
import Derived.Test.YtiijabiijkdhcaaKeeps
import Derived.Test.YtiijabiijkdhcaaApp
import Derived.Test.YtiijabiijkdhcaaWeigh
namespace Go.Proofs.Ytiijabiijkdhcaa.Flow
open Go.RowKit Go.Proofs.Ytiijabiijkdhcaa.Rd Go.Proofs.Ytiijabiijkdhcaa.Help Go.Proofs.Ytiijabiijkdhcaa.App Go.Proofs.Ytiijabiijkdhcaa.Ring Go.Proofs.Ytiijabiijkdhcaa.Small Go.Proofs.Ytiijabiijkdhcaa.Num Go.Proofs.Ytiijabiijkdhcaa.Keep Go.Proofs.Ytiijabiijkdhcaa.Rule Go.Proofs.Ytiijabiijkdhcaa.Dig Go.Proofs.Ytiijabiijkdhcaa.DigP Go.Proofs.Ytiijabiijkdhcaa.Tell Go.Proofs.Ytiijabiijkdhcaa.Keeps
set_option linter.unusedVariables false
set_option linter.unusedSimpArgs false

theorem partG {s : Int} (hs : 2 ≤ s ∧ s ≤ 3) {tbl cs : List Int} {L from_ k : Nat} (hl : (tbl.length : Int) = s ^ L) (hca : allB cs s = true) (hf : from_ + (L - k) ≤ cs.length) (hk : k ≤ L) :
    ((cs.drop from_).take (L - k)).length = L - k ∧ allB ((cs.drop from_).take (L - k)) s = true ∧ numL ((cs.drop from_).take (L - k)) s < (tbl.length : Int) := by
  have h1 : ((cs.drop from_).take (L - k)).length = L - k := by simp; omega
  have h2 : allB ((cs.drop from_).take (L - k)) s = true := all_take (all_drop hca _) _
  have h3 := (numL_bd hs h2).2
  rw [h1] at h3
  have h4 := pow_le' hs (show L - k ≤ L by omega)
  exact ⟨h1, h2, by omega⟩
theorem behG_bd {s : Int} (hs : 2 ≤ s ∧ s ≤ 3) {tbl cs : List Int} {L from_ k : Nat} (hl : (tbl.length : Int) = s ^ L) (ha : allB tbl s = true) (hca : allB cs s = true) (hf : from_ + (L - k) ≤ cs.length) (hk : k ≤ L) : 0 ≤ beh s tbl cs L from_ k ∧ beh s tbl cs L from_ k ≤ 2 := by
  obtain ⟨_, f2, f3⟩ := partG hs hl hca hf hk
  have := all_get ha (i := (numL ((cs.drop from_).take (L - k)) s).toNat) (by have := (numL_bd hs f2).1; omega)
  unfold beh
  omega

/-- What flows through the middle of a row. -/
def flow (s : Int) (tbl cs : List Int) (L R : Nat) : Nat → Int
  | 0 => sumL (cs.take R)
  | q + 1 => flow s tbl cs L R q - beh s tbl cs L 0 (q + 1)
theorem flow_bd {s : Int} (hs : 2 ≤ s ∧ s ≤ 3) {tbl cs : List Int} {L R : Nat} (hl : (tbl.length : Int) = s ^ L) (ha : allB tbl s = true) (hca : allB cs s = true) (hc : cs.length + 1 = L) (hL : L ≤ 5) : ∀ q, q + 1 ≤ L → -2 * (q : Int) ≤ flow s tbl cs L R q ∧ flow s tbl cs L R q ≤ 100 := by
  intro q
  induction q with
  | zero =>
    intro _
    have := sumL_take_bd hs hca R
    simp only [flow]
    rcases (show s = 2 ∨ s = 3 by omega) with rfl | rfl <;> omega
  | succ q ih =>
    intro hq
    have h1 := ih (by omega)
    have h2 := behG_bd hs hl ha hca (from_ := 0) (show 0 + (L - (q + 1)) ≤ cs.length by omega) (show q + 1 ≤ L by omega)
    simp only [flow]; omega
def flowT (s : Int) (tbl : List Int) (L R : Nat) (k : Nat) : Int := flow s tbl (dig s k (L - 1)) L R (L - 1)

set_option maxHeartbeats 4000000 in
theorem behindG {w : World} {g bt bd : Nat} {s r : Int} {L C from_ k : Nat} {vt : Value} {tbl cs : List Int} (c0 : w.cell? ⟨g, 0, none⟩ = some (.int .i64 s)) (c1 : w.cell? ⟨g, 1, none⟩ = some (.int .i64 r)) (c2 : w.cell? ⟨g, 2, none⟩ = some vt) (ht : Rd w bt vt tbl) (hd : Own 2 w bd (.slice (some ⟨bd, 0, none⟩) C C) cs)
    (hs : 2 ≤ s ∧ s ≤ 3) (hr : 0 ≤ r ∧ r ≤ 2) (hL : (L : Int) = 2 * r + 1) (hl : (tbl.length : Int) = s ^ L) (hc : cs.length = C) (hca : allB cs s = true) (hf : from_ + (L - k) ≤ C) (hk : k ≤ L) (hC9 : C ≤ 9) :
    Calls Try.prog 106 #[.pointer (some ⟨g, 0, none⟩), .slice (some ⟨bd, 0, none⟩) C C, .int .i64 k, .int .i64 from_] w fun e w' => e = .returned (.int .i64 (beh s tbl cs L from_ k)) ∧ ∃ m, w' = w.drewN m := by
  obtain ⟨f1, f2, f3⟩ := partG (L := L) (from_ := from_) hs hl hca (by omega) hk
  obtain ⟨zs, hzs⟩ : ∃ zs, zs = (cs.drop from_).take (L - k) := ⟨_, rfl⟩
  rw [← hzs] at f1 f2 f3
  obtain ⟨mi, hmi⟩ : ∃ mi : Nat, numL zs s = mi := ⟨_, (Int.toNat_of_nonneg (numL_bd hs f2).1).symm⟩
  obtain ⟨x, hx⟩ : ∃ x, x = tbl.getD mi 0 := ⟨_, rfl⟩
  have HT : Hid (beh s tbl cs L from_ k = x) := by simp only [Hid, beh]; rw [← hzs, hmi, hx]; simp
  rw [HT.out]
  have HG : Hid (∀ i, i < L - k → cs.getD (from_ + i) 0 = zs.getD i 0) := by
    intro i hi
    rw [hzs]
    simp [List.getD, hi]
  have HNB : Hid (∀ q, 0 ≤ numL (zs.take q) s ∧ numL (zs.take q) s ≤ 43046721) := by
    intro q
    have h1 := numL_take_bd hs f2 q
    have h2 := pow_16 hs (show zs.length ≤ 16 by omega)
    omega
  have HZB : Hid (∀ q, q < zs.length → 0 ≤ zs.getD q 0 ∧ zs.getD q 0 ≤ s - 1) := fun q hq => all_get f2 hq
  obtain ⟨ao, cap, rfl, _, _, h4⟩ := ht
  obtain ⟨off, rfl, hb, hcell⟩ := h4 (by omega)
  have hcx : w.cell? ⟨bt, off + mi, none⟩ = some (.int .i64 x) := by rw [hx]; exact hcell mi (by omega)
  obtain ⟨n, hn⟩ : ∃ n, n = tbl.length := ⟨_, rfl⟩
  rw [← hn] at c2
  have hmn : (mi : Int) < (n : Int) := by omega
  have HM := hid hmi
  have HD := hid hd
  have HCl := hid hc
  have HZl := hid f1
  have HR := hid hr
  have HC0 := hid c0
  have HC1 := hid c1
  have HC2 := hid c2
  have HCX := hid hcx
  have hLr : 2 * r + 1 = (L : Int) := by omega
  have hL5 : L ≤ 5 := by omega
  have HLr := hid hLr
  obtain ⟨s1, s2⟩ := hs
  clear h4 hcell hb hn hmi hd hc f1 f2 f3 hr hL hl hca hzs hx c0 c1 c2 hcx hLr
  go_enter Try.func106, Try.ntmps106
  go_wp2
  go_loopw [9, 10] (fun y t wr => ∃ q : Nat, q ≤ L - k ∧ t = .int .i64 q ∧ y = .int .i64 (numL (zs.take q) s) ∧ ∃ dn, wr = w.drewN dn) (fun _ t _ => L - k - (intOf t).toNat)
  case atStart => exact ⟨0, Nat.zero_le _, rfl, rfl, 0, rfl⟩
  case round =>
    obtain ⟨q, hq, rfl, rfl, dn, hdn⟩ := hrel
    have HDn := hid hdn
    have d1 : wr.cell? ⟨g, 1, none⟩ = some (.int .i64 r) := by rw [hdn]; exact HC1.out
    have d0 : wr.cell? ⟨g, 0, none⟩ = some (.int .i64 s) := by rw [hdn]; exact HC0.out
    have hsub : (L : Int) - k = ((L - k : Nat) : Int) := by omega
    have hq2 : (q : Int) ≤ ((L - k : Nat) : Int) := by omega
    by_cases hlt : q < L - k
    · obtain ⟨j, hj⟩ : ∃ j : Nat, (from_ : Int) + q = j := ⟨from_ + q, by omega⟩
      have hjn : from_ + q = j := by omega
      have hcx : wr.cell? ⟨bd, j, none⟩ = some (.int .i64 (zs.getD q 0)) := by rw [hdn, ← HG.out q hlt, hjn]; exact HD.out.cell (by rw [HCl.out]; omega)
      have hki : (q : Int) < (L : Int) - k := by omega
      have hfi : (j : Int) < (C : Int) := by omega
      have hnx := numL_take zs s q (by rw [HZl.out]; exact hlt)
      obtain ⟨x1, x2⟩ := HNB.out q
      obtain ⟨z1, z2⟩ := HZB.out q (by rw [HZl.out]; exact hlt)
      obtain ⟨X, hX⟩ : ∃ X, X = numL (zs.take q) s := ⟨_, rfl⟩
      obtain ⟨Y, hY⟩ : ∃ Y, Y = zs.getD q 0 := ⟨_, rfl⟩
      rw [← hX] at x1 x2 hnx ⊢
      rw [← hY] at z1 z2 hcx hnx
      obtain ⟨Z, hZ⟩ : ∃ Z, X * s = Z := ⟨_, rfl⟩
      have b7 : 0 ≤ Z ∧ Z ≤ 129140163 := by rw [← hZ]; rcases (show s = 2 ∨ s = 3 by omega) with rfl | rfl <;> omega
      obtain ⟨b8, b9⟩ := b7
      have HNX : Hid (numL (zs.take (q + 1)) s = Z + Y) := by rw [hZ] at hnx; exact hnx
      clear hX hY hnx hdn hsub hjn
      go_wp2_with fail
      go_at_call 92
      refine (Terms.wide3 d1 HR.out).mono ?_
      rw [HLr.out]
      rintro e w' ⟨rfl, rfl⟩
      go_wp2_with fail
      go_quiet (fail)
      go_wp2
      go_roundw
      case rel => exact ⟨q + 1, by omega, by go_num, by rw [HNX.out], dn + nq, by rw [HDn.out, World.drewN_drewN]⟩
      case measure => simp [intOf]; omega
    · have hqk : q = L - k := by omega
      have hki : ¬ (q : Int) < (L : Int) - k := by omega
      have e : zs.take q = zs := by rw [hqk, ← HZl.out]; exact List.take_length
      rw [e, HM.out]
      have d2 : wr.cell? ⟨g, 2, none⟩ = some (.slice (some ⟨bt, off, none⟩) n cap) := by rw [hdn]; exact HC2.out
      have hcx : wr.cell? ⟨bt, off + mi, none⟩ = some (.int .i64 x) := by rw [hdn]; exact HCX.out
      clear hdn hqk e hsub
      go_wp2_with fail
      go_at_call 92
      refine (Terms.wide3 d1 HR.out).mono ?_
      rw [HLr.out]
      rintro e w' ⟨rfl, rfl⟩
      go_wp2
      go_ret
      exact ⟨rfl, dn, HDn.out⟩



theorem nextg3_2 {N : Nat} {w0 w w' : World} {p0 p1 p2 : Addr} {c0 c1 c2 : Value} {b0 : Nat} {v0 : Value} {z0 : List Int} {b1 : Nat} {v1 : Value} {z1 : List Int} {row : Option Nat} (g : w.grownBy w' row) (bel : Below N w w') (h0 : some p0.block ≠ row) (h1 : some p1.block ≠ row) (h2 : some p2.block ≠ row) (hb : some b0 ≠ row) (hb1 : some b1 ≠ row)
    (h : Below N w0 w ∧ w.cell? p0 = some c0 ∧ w.cell? p1 = some c1 ∧ w.cell? p2 = some c2 ∧ Rd w b0 v0 z0 ∧ Rd w b1 v1 z1 ∧ N ≤ w.heap.size) :
    Below N w0 w' ∧ w'.cell? p0 = some c0 ∧ w'.cell? p1 = some c1 ∧ w'.cell? p2 = some c2 ∧ Rd w' b0 v0 z0 ∧ Rd w' b1 v1 z1 ∧ N ≤ w'.heap.size := by
  have gc : ∀ {p : Addr} {c : Value}, some p.block ≠ row → w.cell? p = some c → w'.cell? p = some c := fun hp hc => (World.cell?_of_block (w := w) (g.block _ (World.block_lt_of_cell? _ _ hc) hp)).trans hc
  have gr : ∀ {b : Nat} {v : Value} {z : List Int}, some b ≠ row → Rd w b v z → Rd w' b v z := by
    intro b v z hp hr
    obtain ⟨ao, cap, e1, e2, e3, e4⟩ := hr
    refine ⟨ao, cap, e1, e2, e3, fun hz => ?_⟩
    obtain ⟨off, e5, e6, e7⟩ := e4 hz
    exact ⟨off, e5, Nat.lt_of_lt_of_le e6 g.size, fun i hi => gc (p := ⟨b, off + i, none⟩) hp (e7 i hi)⟩
  obtain ⟨a0, a1, a2, a3, a4, a5, a6⟩ := h
  exact ⟨a0.trans bel, gc h0 a1, gc h1 a2, gc h2 a3, gr hb a4, gr hb1 a5, Nat.le_trans a6 g.size⟩

theorem ends {w : World} {s r : Int} (hs : 2 ≤ s ∧ s ≤ 3) (hr : 0 ≤ r ∧ r ≤ 2) :
    Calls Try.prog 107 #[shapeV s r] w fun e w' => e = .returned (.int .i64 (s ^ (2 * r).toNat)) ∧ Below w.heap.size w w' := by
  have HS := hid hs
  obtain ⟨r1, r2⟩ := hr
  clear hs
  go_enter Try.func107, Try.ntmps107
  go_wp2_with fail
  go_at_call 116
  refine (implPowerI HS.out (by omega)).mono ?_
  rintro e w' ⟨rfl, rfl⟩
  go_wp2
  go_ret
  exact ⟨rfl, below1 _ _⟩

set_option maxHeartbeats 8000000 in
theorem implOk {w : World} {s : Int} {L R C E bt : Nat} {vt : Value} {tbl : List Int} (hL : L = 2 * R + 1) (hC : C = 2 * R) (hR1 : 1 ≤ R) (hE : (E : Int) = s ^ C) (hk : keepsB s tbl L = true) (h : Rd w bt vt tbl) (hv : validB s R tbl = true) :
    Calls Try.prog 56 #[ruleV s R vt] w fun e w' => ∃ b', e = .returned (.tuple #[.slice (some ⟨b', 0, none⟩) E E, .bool true]) ∧
      Own 2 w' b' (.slice (some ⟨b', 0, none⟩) E E) (tab (flowT s tbl L R) E) ∧ w.heap.size ≤ b' ∧ Below w.heap.size w w' := by
  have HV := hid hv
  obtain ⟨hs, hr, hl, ha⟩ := Al.valid_parts hv
  have HKp := hid hk
  have HS := hid hs
  have HR := hid hr
  have HA := hid ha
  have HRd := hid h
  have hR2 : R ≤ 2 := by omega
  have HLi : Hid (2 * (R : Int) + 1 = (L : Int)) := by simp only [Hid]; omega
  have HLen : Hid ((tbl.length : Int) = s ^ L) := by simp only [Hid]; rw [hl]; congr 1; omega
  have HE : Hid (s ^ (2 * (R : Int)).toNat = (E : Int)) := by simp only [Hid]; rw [hE]; congr 1; omega
  have hE2 : 1 ≤ E ∧ E ≤ 243 := by have := pow_bd hs (show C ≤ 5 by omega); omega
  obtain ⟨e1, e2⟩ := hE2
  have hmk := run_make_row' (P := Try.prog) 22 2 (.int .i64 0) 8 Try.underlying22 infoI rfl .i64 .i64 E (by omega) (by omega)
  have h00 : ((R : Int) == 0) = false := by simp; omega
  have HLC : Hid (L = C + 1) := by simp only [Hid]; omega
  have hLC : (L : Int) - 1 = (C : Int) := by omega
  have hCb : 2 ≤ C ∧ C ≤ 4 := by omega
  have HCR : Hid (C = 2 * R) := hC
  obtain ⟨cb1, cb2⟩ := hCb
  obtain ⟨ao, cap, rfl, _, _, h4⟩ := h
  obtain ⟨off, rfl, hb, _⟩ := h4 (by have := pow_pos' hs (2 * (R : Int) + 1).toNat; omega)
  obtain ⟨n, hn⟩ : ∃ n, n = tbl.length := ⟨_, rfl⟩
  rw [← hn] at HRd
  rw [← hn]
  have HBt := hid hb
  clear hv hl ha hk h4 hb hn hL hC hs hr hE
  go_enter Try.func56, Try.ntmps56
  go_wp2_with fail
  obtain ⟨w1, hW⟩ : ∃ w1, w1 = w.alloc (Obj.cells #[.int .i64 s, .int .i64 R, (Value.slice (some ⟨bt, off, none⟩) n cap)] 24) := ⟨_, rfl⟩
  obtain ⟨NR, hN⟩ : ∃ NR, NR = w.heap.size := ⟨_, rfl⟩
  have st : Below w.heap.size w w1 ∧ w1.cell? ⟨NR, 0, none⟩ = some (.int .i64 s) ∧ w1.cell? ⟨NR, 1, none⟩ = some (.int .i64 R) ∧ w1.cell? ⟨NR, 2, none⟩ = some (Value.slice (some ⟨bt, off, none⟩) n cap) ∧ Rd w1 bt (Value.slice (some ⟨bt, off, none⟩) n cap) tbl ∧ w.heap.size ≤ w1.heap.size := by
    rw [hW, hN]
    exact ⟨below1 _ _, by simp, by simp, by simp, HRd.out.keep (below1 _ _) (Nat.le_refl _), by simp⟩
  simp only [← hW, ← hN]
  clear hW hN
  go_at_call 54
  refine (Keeps.implOk (qb := true) (L := L) HKp.out.symm HLi.out.symm (rd3_1_0 st) HV.out).mono ?_
  rintro e w2 ⟨rfl, bel⟩
  replace st := next3_1 bel st
  clear bel
  go_wp2_with fail
  go_at_call 78
  refine shapeOf.mono ?_
  rintro e w3 ⟨rfl, bel⟩
  replace st := next3_1 bel st
  clear bel
  go_wp2_with fail
  go_at_call 67
  refine (wide HR.out).mono ?_
  rw [HLi.out]
  rintro e w3 ⟨rfl, bel⟩
  replace st := next3_1 bel st
  clear bel
  go_wp2_with fail
  go_at_call 78
  refine shapeOf.mono ?_
  rintro e w3 ⟨rfl, bel⟩
  replace st := next3_1 bel st
  clear bel
  go_wp2_with fail
  go_at_call 107
  refine (ends HS.out HR.out).mono ?_
  rw [HE.out]
  rintro e w2 ⟨rfl, bel⟩
  replace st := next3_1 bel st
  clear bel
  go_wp2
  have ST := hid st
  obtain ⟨b0, hb0⟩ : ∃ b0, b0 = w2.heap.size := ⟨_, rfl⟩
  have hb0' : w2.heap.size = b0 := hb0.symm
  have hown0 : Own 2 (w2.alloc (.cells (madeCells #[.int .i64 0] E) 2)) b0 (.slice (some ⟨b0, 0, none⟩) E E) (List.replicate E 0) := by
    have := Own.made 2 w2 E (by unfold maxLen; omega)
    rw [hb0'] at this; exact this
  have hbel0 : Below b0 w2 (w2.alloc (.cells (madeCells #[.int .i64 0] E) 2)) := (Below.refl _ _).alloc (by omega) _
  have HN0 : Hid (w.heap.size ≤ b0) := by simp only [Hid]; rw [hb0]; exact st.2.2.2.2.2
  have HBb : Hid (bt < b0) := by simp only [Hid]; rw [hb0]; exact Nat.lt_of_lt_of_le HBt.out st.2.2.2.2.2
  have HNb : Hid (NR < b0) := by simp only [Hid]; rw [hb0]; exact World.block_lt_of_cell? _ _ st.2.1
  simp only [hb0']
  clear hb0 st hmk hb0'
  go_loopw [32] (fun t wr => ∃ m : Nat, m ≤ E ∧ t = .int .i64 m ∧ Own 2 wr b0 (.slice (some ⟨b0, 0, none⟩) E E) (tab (flowT s tbl L R) m ++ List.replicate (E - m) 0) ∧ Below b0 w2 wr) (fun t _ => E - (intOf t).toNat)
  case atStart => exact ⟨0, Nat.zero_le _, rfl, by simpa [tab] using hown0, hbel0⟩
  case round =>
    clear hown0 hbel0
    obtain ⟨m, hm, rfl, hown, hbel⟩ := hrel
    by_cases hlt : m < E
    · have hmi : (m : Int) < (E : Int) := by omega
      have hsz := hown.lt
      have st3 : Below w.heap.size w wr ∧ wr.cell? ⟨NR, 0, none⟩ = some (.int .i64 s) ∧ wr.cell? ⟨NR, 1, none⟩ = some (.int .i64 R) ∧ wr.cell? ⟨NR, 2, none⟩ = some (Value.slice (some ⟨bt, off, none⟩) n cap) ∧ Rd wr bt (Value.slice (some ⟨bt, off, none⟩) n cap) tbl ∧ w.heap.size ≤ wr.heap.size := ⟨ST.out.1.trans (hbel.mono HN0.out), (hbel.cell (p := ⟨NR, 0, none⟩) HNb.out).trans ST.out.2.1, (hbel.cell (p := ⟨NR, 1, none⟩) HNb.out).trans ST.out.2.2.1, (hbel.cell (p := ⟨NR, 2, none⟩) HNb.out).trans ST.out.2.2.2.1, ST.out.2.2.2.2.1.keepAt hbel HBb.out, Nat.le_trans ST.out.2.2.2.2.2 hbel.size⟩
      have HO := hid hown
      have HB := hid hbel
      clear hown hbel
      go_wp2_with fail
      go_at_call 86
      refine (implDigits HS.out (by omega) (by omega)).mono ?_
      rw [dig_length, Int.toNat_natCast]
      rintro e w4 ⟨bd, rfl, od, lo, bel⟩
      obtain ⟨cs, hcs⟩ : ∃ cs, cs = dig s m C := ⟨_, rfl⟩
      have HCs := hid hcs
      have hcl : cs.length = C := by rw [hcs]; exact dig_length _ _ _
      have hca : allB cs s = true := by rw [hcs]; exact dig_all HS.out _ _
      rw [← hcs] at od
      have HCl := hid hcl
      have HCa := hid hca
      have st4 := next3_1 bel st3
      have HNE : Hid ((some NR : Option Nat) ≠ some b0 ∧ (some bt : Option Nat) ≠ some b0 ∧ (some bd : Option Nat) ≠ some b0) := by
        have h1 := HNb.out; have h2 := HBb.out
        exact ⟨by simp; omega, by simp; omega, by simp; omega⟩
      have HS4 : Hid (Below w.heap.size w w4 ∧ w4.cell? ⟨NR, 0, none⟩ = some (.int .i64 s) ∧ w4.cell? ⟨NR, 1, none⟩ = some (.int .i64 R) ∧ w4.cell? ⟨NR, 2, none⟩ = some (Value.slice (some ⟨bt, off, none⟩) n cap) ∧ Rd w4 bt (Value.slice (some ⟨bt, off, none⟩) n cap) tbl ∧ Rd w4 bd (.slice (some ⟨bd, 0, none⟩) C C) cs ∧ w.heap.size ≤ w4.heap.size) := ⟨st4.1, st4.2.1, st4.2.2.1, st4.2.2.2.1, st4.2.2.2.2.1, od.rd, st4.2.2.2.2.2⟩
      have r1 := st4.2.2.1
      have hp : Rd w4 bd (.slice (some ⟨bd, 0, none⟩) R C) (cs.take R) := by
        have := Told.rd_part od.rd 0 R (by have := HCR.out; omega)
        simpa using this
      have HP := hid hp
      have HO4 := hid (HO.out.keep bel)
      have HB4 := hid (HB.out.trans (bel.mono (Nat.le_of_lt hsz)))
      have HL4 : Hid (b0 < w4.heap.size) := Nat.lt_of_lt_of_le hsz bel.size
      have u1 : (0 : Int) ≤ (R : Int) := by omega
      have u2 : (R : Int) ≤ (C : Int) := by have := HCR.out; omega
      have u3 : ¬ C = 0 := by omega
      clear st3 st4 od lo bel hcs hcl hca hp hsz
      go_wp2_with fail
      go_at_call 70
      refine (implSum HP.out HS.out (by have := HCl.out; simp; omega) (all_take HCa.out R)).mono ?_
      rintro e w5 ⟨rfl, hw5⟩
      subst hw5
      obtain ⟨BL, hBL⟩ : ∃ BL, BL = tab (flowT s tbl L R) m ++ List.replicate (E - m) 0 := ⟨_, rfl⟩
      have HBL := hid hBL
      have hbl : BL.length = E := by rw [hBL]; simp [tab_length]; omega
      have HBl := hid hbl
      have o4 := HO4.out
      rw [← hBL] at o4
      have hox := o4.cell (i := m) (by omega)
      have hof := o4.free m
      obtain ⟨F0, hF0⟩ : ∃ F0, F0 = sumL (cs.take R) := ⟨_, rfl⟩
      have HF0 : Hid (flow s tbl cs L R 0 = F0) := hF0.symm
      rw [← hF0]
      have oS := o4.set m F0
      have bS := HB4.out.setCell (p := ⟨b0, m, none⟩) (Nat.le_refl _) (.int .i64 F0)
      have lS : b0 < (w4.setCell ⟨b0, m, none⟩ (.int .i64 F0)).heap.size := by simpa [World.setCell] using HL4.out
      have sS := nextg3_2 (setCell_grown w4 ⟨b0, m, none⟩ (.int .i64 F0)) ((Below.refl _ _).setCell HN0.out _) HNE.out.1 HNE.out.1 HNE.out.1 HNE.out.2.1 HNE.out.2.2 HS4.out
      have OS := hid oS
      have BS := hid bS
      have LS := hid lS
      have SS := hid sS
      clear hBL hbl o4 hF0 oS bS lS sS r1
      go_wp2
      clear hox hof
      go_loopw [10] (fun t wx => ∃ q : Nat, q + 1 ≤ L ∧ t = .int .i64 ((q : Int) + 1) ∧ (Below w.heap.size w wx ∧ wx.cell? ⟨NR, 0, none⟩ = some (.int .i64 s) ∧ wx.cell? ⟨NR, 1, none⟩ = some (.int .i64 R) ∧ wx.cell? ⟨NR, 2, none⟩ = some (Value.slice (some ⟨bt, off, none⟩) n cap) ∧ Rd wx bt (Value.slice (some ⟨bt, off, none⟩) n cap) tbl ∧ Rd wx bd (.slice (some ⟨bd, 0, none⟩) C C) cs ∧ w.heap.size ≤ wx.heap.size) ∧ Below b0 w2 wx ∧ b0 < wx.heap.size ∧ Own 2 wx b0 (.slice (some ⟨b0, 0, none⟩) E E) (BL.set m (flow s tbl cs L R q))) (fun t _ => L - (intOf t).toNat)
      case atStart => exact ⟨0, by omega, by simp, SS.out, BS.out, LS.out, by rw [HF0.out]; exact OS.out⟩
      case round =>
        obtain ⟨q, hq, rfl, s4, hbF, lF, oF⟩ := hrel
        obtain ⟨x1, x2⟩ := flow_bd (R := R) HS.out HLen.out HA.out HCa.out (by have := HCl.out; have := HLC.out; omega) (by have := HLC.out; omega) q hq
        by_cases hlt3 : q + 1 < L
        · have hqi : (q : Int) + 1 < (L : Int) := by omega
          have hC1 := HLC.out
          obtain ⟨g1, g2, g3⟩ := partG (L := L) (from_ := 0) (k := q + 1) HS.out HLen.out HCa.out (by have := HCl.out; omega) (by omega)
          obtain ⟨z1, z2⟩ := behG_bd (L := L) (from_ := 0) (k := q + 1) HS.out HLen.out HA.out HCa.out (by have := HCl.out; omega) (by omega)
          have hnx : flow s tbl cs L R (q + 1) = flow s tbl cs L R q - beh s tbl cs L 0 (q + 1) := rfl
          have e0 : beh s tbl cs L 0 (q + 1) = tbl.getD (numL ((cs.drop 0).take (L - (q + 1))) s).toNat 0 := rfl
          obtain ⟨X, hX⟩ : ∃ X, X = flow s tbl cs L R q := ⟨_, rfl⟩
          obtain ⟨Z, hZ⟩ : ∃ Z, Z = beh s tbl cs L 0 (q + 1) := ⟨_, rfl⟩
          obtain ⟨j, hj⟩ : ∃ j : Nat, L - (q + 1) = j := ⟨_, rfl⟩
          rw [← hZ] at z1 z2 hnx e0
          rw [← hX] at x1 x2 hnx oF
          rw [hj] at g1 g2 g3 e0
          have HJ := hid hj
          have QZ : Hid (((cs.drop 0).take j).length ≤ 16) := by simp only [Hid]; omega
          have QA := hid g2
          have QL := hid g3
          have QT : Hid (tbl.getD (numL ((cs.drop 0).take j) s).toNat 0 = Z) := e0.symm
          have HNX := hid hnx
          obtain ⟨fl, hfl⟩ : ∃ fl, fl = BL.set m X := ⟨_, rfl⟩
          have HFl : Hid (fl.length = E) := by simp only [Hid]; rw [hfl, List.length_set]; exact HBl.out
          have HFx : Hid (fl.getD m 0 = X) := by simp only [Hid]; rw [hfl]; simp [List.getD, HBl.out, hlt]
          have HSet : Hid (fl.set m (X - Z) = BL.set m (X - Z)) := by simp only [Hid]; rw [hfl, List.set_set]
          rw [← hfl] at oF
          have HoF := hid oF
          have HbF := hid hbF
          have HlF := hid lF
          have hmE : m < E := hlt
          have u4 : IntKind.i64.wrap ((L : Int) - ((q : Int) + 1)) = (j : Int) := by rw [IntKind.wrap_i64]; omega
          have u9 : (0 : Int) ≤ (j : Int) := by omega
          have ua : (j : Int) ≤ (C : Int) := by omega
          have ud : IntKind.i64.wrap (X - Z) = X - Z := by rw [IntKind.wrap_i64]; omega
          clear hX hZ hnx hj g1 g2 g3 e0 hfl oF hbF lF hC1
          go_wp2_with fail
          refine wp_region_held_drew (S := (fun ww => Below w.heap.size w ww ∧ ww.cell? ⟨NR, 0, none⟩ = some (.int .i64 s) ∧ ww.cell? ⟨NR, 1, none⟩ = some (.int .i64 R) ∧ ww.cell? ⟨NR, 2, none⟩ = some (Value.slice (some ⟨bt, off, none⟩) n cap) ∧ Rd ww bt (Value.slice (some ⟨bt, off, none⟩) n cap) tbl ∧ Rd ww bd (.slice (some ⟨bd, 0, none⟩) C C) cs ∧ w.heap.size ≤ ww.heap.size)) (by kernel_rfl) ?_ (fun hHeld => ?_)
          · ((try dsimp only); exact drew3_2 s4)
          generalize hD : wr.drew = wD at hHeld ⊢
          have oF : Own 2 wD b0 (.slice (some ⟨b0, 0, none⟩) E E) fl := by rw [← hD]; exact HoF.out
          have hbF : Below b0 w2 wD := by rw [← hD]; exact HbF.out.drew
          have lF : b0 < wD.heap.size := by rw [← hD]; exact HlF.out
          clear hD s4
          (refine wpAnyH_take (i := 0) (v := ?_) rfl ?_ ?_ ?_ (fun _ _ _ h => h) (Or.inl ⟨?_, ?_⟩) ?_ ?_; rotate_left 1; (focus decide +kernel); (focus decide +kernel); (focus decide +kernel); (focus rfl); (focus (intro w hSw; (try dsimp only at hSw); go_simp; (try (with_reducible rfl)); done)); (focus assumption); (try simp only [Act.put, List.setIfInBounds_toArray, List.set_cons_zero, List.set_cons_succ, List.getElem_toArray, List.getElem_cons_succ, List.getElem_cons_zero]))
          (refine wpAnyH_take (i := 1) (v := ?_) rfl ?_ ?_ ?_ (fun _ _ _ h => h) (Or.inl ⟨?_, ?_⟩) ?_ ?_; rotate_left 1; (focus decide +kernel); (focus decide +kernel); (focus decide +kernel); (focus rfl); (focus (intro w hSw; (try dsimp only at hSw); go_simp; (try (with_reducible rfl)); done)); (focus assumption); (try simp only [Act.put, List.setIfInBounds_toArray, List.set_cons_zero, List.set_cons_succ, List.getElem_toArray, List.getElem_cons_succ, List.getElem_cons_zero]))
          (refine wpAnyH_take (i := 2) (v := ?_) rfl ?_ ?_ ?_ (fun _ _ _ h => h) (Or.inl ⟨?_, ?_⟩) ?_ ?_; rotate_left 1; (focus decide +kernel); (focus decide +kernel); (focus decide +kernel); (focus rfl); (focus (intro w hSw; (try dsimp only at hSw); go_simp; (try (with_reducible rfl)); done)); (focus assumption); (try simp only [Act.put, List.setIfInBounds_toArray, List.set_cons_zero, List.set_cons_succ, List.getElem_toArray, List.getElem_cons_succ, List.getElem_cons_zero]))
          (refine wpAnyH_take (i := 4) (v := ?_) rfl ?_ ?_ ?_ (fun _ _ _ h => h) (Or.inl ⟨?_, ?_⟩) ?_ ?_; rotate_left 1; (focus decide +kernel); (focus decide +kernel); (focus decide +kernel); (focus rfl); (focus (intro w hSw; (try dsimp only at hSw); go_simp; (try (with_reducible rfl)); done)); (focus assumption); (try simp only [Act.put, List.setIfInBounds_toArray, List.set_cons_zero, List.set_cons_succ, List.getElem_toArray, List.getElem_cons_succ, List.getElem_cons_zero]))
          (refine wpAnyH_take (i := 5) (v := ?_) rfl ?_ ?_ ?_ (fun _ _ _ h => h) (Or.inl ⟨?_, ?_⟩) ?_ ?_; rotate_left 1; (focus decide +kernel); (focus decide +kernel); (focus decide +kernel); (focus rfl); (focus (intro w hSw; (try dsimp only at hSw); go_simp; (try (with_reducible rfl)); done)); (focus assumption); (try simp only [Act.put, List.setIfInBounds_toArray, List.set_cons_zero, List.set_cons_succ, List.getElem_toArray, List.getElem_cons_succ, List.getElem_cons_zero]))
          (refine wpAnyH_take (i := 6) (v := ?_) rfl ?_ ?_ ?_ (fun _ _ _ h => h) (Or.inl ⟨?_, ?_⟩) ?_ ?_; rotate_left 1; (focus decide +kernel); (focus decide +kernel); (focus decide +kernel); (focus rfl); (focus (intro w hSw; (try dsimp only at hSw); go_simp; (try (with_reducible rfl)); done)); (focus assumption); (try simp only [Act.put, List.setIfInBounds_toArray, List.set_cons_zero, List.set_cons_succ, List.getElem_toArray, List.getElem_cons_succ, List.getElem_cons_zero]))
          (refine wpAnyH_take (i := 7) (v := ?_) rfl ?_ ?_ ?_ (fun _ _ _ h => h) (Or.inl ⟨?_, ?_⟩) ?_ ?_; rotate_left 1; (focus decide +kernel); (focus decide +kernel); (focus decide +kernel); (focus rfl); (focus (intro w hSw; (try dsimp only at hSw); go_simp; (try (with_reducible rfl)); done)); (focus assumption); (try simp only [Act.put, List.setIfInBounds_toArray, List.set_cons_zero, List.set_cons_succ, List.getElem_toArray, List.getElem_cons_succ, List.getElem_cons_zero]))
          (refine wpAnyH_take (i := 8) (v := ?_) rfl ?_ ?_ ?_ (fun _ _ _ h => h) (Or.inl ⟨?_, ?_⟩) ?_ ?_; rotate_left 1; (focus decide +kernel); (focus decide +kernel); (focus decide +kernel); (focus rfl); (focus (intro w hSw; (try dsimp only at hSw); go_simp; (try (with_reducible rfl)); done)); (focus assumption); (try simp only [Act.put, List.setIfInBounds_toArray, List.set_cons_zero, List.set_cons_succ, List.getElem_toArray, List.getElem_cons_succ, List.getElem_cons_zero]))
          (refine wpAnyH_take (i := 9) (v := ?_) rfl ?_ ?_ ?_ (fun _ _ _ h => h) (Or.inl ⟨?_, ?_⟩) ?_ ?_; rotate_left 1; (focus decide +kernel); (focus decide +kernel); (focus decide +kernel); (focus rfl); (focus (intro w hSw; (try dsimp only at hSw); go_simp; (try (with_reducible rfl)); done)); (focus assumption); (try simp only [Act.put, List.setIfInBounds_toArray, List.set_cons_zero, List.set_cons_succ, List.getElem_toArray, List.getElem_cons_succ, List.getElem_cons_zero]))
          refine wpAnyH_ready (rs := [3, 10]) ?_ (by simp) ?_
          · decide +kernel
          refine AllReadyH.cons rfl (fun K hK => ?_) (AllReadyH.cons rfl (fun K hK => ?_) AllReadyH.nil)
          · have kv : wD.cell? ⟨b0, m, none⟩ = some (.int .i64 X) := by have := oF.cell (i := m) (by rw [HFl.out]; exact hmE); rw [HFx.out] at this; exact this
            go_simp
            refine hK.out _ _ ?_ (fun hHeld => ?_)
            · (try dsimp only); exact hHeld
            clear hK K kv
            (try simp only [Act.put, List.setIfInBounds_toArray, List.set_cons_zero, List.set_cons_succ, List.getElem_toArray, List.getElem_cons_succ, List.getElem_cons_zero])
            refine wpAnyH_ready (rs := [10]) ?_ (by simp) ?_
            · decide +kernel
            refine AllReadyH.cons rfl (fun K hK => ?_) AllReadyH.nil
            go_simp
            go_at_call 103
            refine (zerosFirst (rd3_2_0 hHeld) (by have := Told.rd_part (rd3_2_1 hHeld) 0 j (by have := HCl.out; omega); simpa using this) HS.out QZ.out QA.out QL.out).mono ?_
            rw [QT.out]
            rintro e w7 ⟨rfl, bel⟩
            have oF' := oF.keep bel
            clear oF
            have oF := oF'
            clear oF'
            have bF := lF
            replace lF := Nat.lt_of_lt_of_le lF bel.size
            have bb := hbF.trans (bel.mono (Nat.le_of_lt bF))
            clear hbF
            have hbF := bb
            clear bb bF
            refine hK.out _ _ ?_ (fun hHeld => ?_)
            · (try dsimp only); exact next3_2 bel hHeld
            clear hK K
            (try simp only [Act.put, List.setIfInBounds_toArray, List.set_cons_zero, List.set_cons_succ, List.getElem_toArray, List.getElem_cons_succ, List.getElem_cons_zero])
            (refine wpAnyH_take (i := 11) (v := ?_) rfl ?_ ?_ ?_ (fun _ _ _ h => h) (Or.inl ⟨?_, ?_⟩) ?_ ?_; rotate_left 1; (focus decide +kernel); (focus decide +kernel); (focus decide +kernel); (focus rfl); (focus (intro w hSw; (try dsimp only at hSw); go_simp; (try (with_reducible rfl)); done)); (focus assumption); (try simp only [Act.put, List.setIfInBounds_toArray, List.set_cons_zero, List.set_cons_succ, List.getElem_toArray, List.getElem_cons_succ, List.getElem_cons_zero]))
            (refine wpAnyH_take (i := 12) (v := ?_) rfl ?_ ?_ ?_ (fun _ _ _ h => h) (Or.inl ⟨?_, ?_⟩) ?_ ?_; rotate_left 1; (focus decide +kernel); (focus decide +kernel); (focus decide +kernel); (focus rfl); (focus (intro w hSw; (try dsimp only at hSw); go_simp; (try (with_reducible rfl)); done)); (focus assumption); (try simp only [Act.put, List.setIfInBounds_toArray, List.set_cons_zero, List.set_cons_succ, List.getElem_toArray, List.getElem_cons_succ, List.getElem_cons_zero]))
            refine wpAnyH_ready (rs := [13]) ?_ (by simp) ?_
            · decide +kernel
            refine AllReadyH.cons rfl (fun K hK => ?_) AllReadyH.nil
            have kv : w7.cell? ⟨b0, m, none⟩ = some (.int .i64 X) := by have := oF.cell (i := m) (by rw [HFl.out]; exact hmE); rw [HFx.out] at this; exact this
            have kf := oF.free m
            go_simp
            have oS := oF.set m (X - Z)
            have bS := hbF.setCell (p := ⟨b0, m, none⟩) (Nat.le_refl _) (.int .i64 (X - Z))
            have lS : b0 < (w7.setCell ⟨b0, m, none⟩ (.int .i64 (X - Z))).heap.size := by simpa [World.setCell] using lF
            have sS := nextg3_2 (setCell_grown w7 ⟨b0, m, none⟩ (.int .i64 (X - Z))) ((Below.refl _ _).setCell HN0.out _) HNE.out.1 HNE.out.1 HNE.out.1 HNE.out.2.1 HNE.out.2.2 hHeld
            refine hK.out _ _ ?_ (fun hHeld2 => ?_)
            · (try dsimp only); exact sS
            clear hK K
            (try simp only [Act.put, List.setIfInBounds_toArray, List.set_cons_zero, List.set_cons_succ, List.getElem_toArray, List.getElem_cons_succ, List.getElem_cons_zero])
            refine wpAnyH_done (by kernel_rfl) ?_ _
            clear hHeld hHeld2 oF hbF
            go_wp2
            go_roundw
            case rel => exact ⟨q + 1, by omega, by have := HJ.out; go_num, sS, bS, lS, by rw [HNX.out, ← HSet.out]; exact oS⟩
            case measure => simp [intOf]; omega
          · go_simp
            go_at_call 103
            refine (zerosFirst (rd3_2_0 hHeld) (by have := Told.rd_part (rd3_2_1 hHeld) 0 j (by have := HCl.out; omega); simpa using this) HS.out QZ.out QA.out QL.out).mono ?_
            rw [QT.out]
            rintro e w7 ⟨rfl, bel⟩
            have oF' := oF.keep bel
            clear oF
            have oF := oF'
            clear oF'
            have bF := lF
            replace lF := Nat.lt_of_lt_of_le lF bel.size
            have bb := hbF.trans (bel.mono (Nat.le_of_lt bF))
            clear hbF
            have hbF := bb
            clear bb bF
            refine hK.out _ _ ?_ (fun hHeld => ?_)
            · (try dsimp only); exact next3_2 bel hHeld
            clear hK K
            (try simp only [Act.put, List.setIfInBounds_toArray, List.set_cons_zero, List.set_cons_succ, List.getElem_toArray, List.getElem_cons_succ, List.getElem_cons_zero])
            refine wpAnyH_ready (rs := [3]) ?_ (by simp) ?_
            · decide +kernel
            refine AllReadyH.cons rfl (fun K hK => ?_) AllReadyH.nil
            have kv : w7.cell? ⟨b0, m, none⟩ = some (.int .i64 X) := by have := oF.cell (i := m) (by rw [HFl.out]; exact hmE); rw [HFx.out] at this; exact this
            go_simp
            refine hK.out _ _ ?_ (fun hHeld => ?_)
            · (try dsimp only); exact hHeld
            clear hK K kv
            (try simp only [Act.put, List.setIfInBounds_toArray, List.set_cons_zero, List.set_cons_succ, List.getElem_toArray, List.getElem_cons_succ, List.getElem_cons_zero])
            (refine wpAnyH_take (i := 11) (v := ?_) rfl ?_ ?_ ?_ (fun _ _ _ h => h) (Or.inl ⟨?_, ?_⟩) ?_ ?_; rotate_left 1; (focus decide +kernel); (focus decide +kernel); (focus decide +kernel); (focus rfl); (focus (intro w hSw; (try dsimp only at hSw); go_simp; (try (with_reducible rfl)); done)); (focus assumption); (try simp only [Act.put, List.setIfInBounds_toArray, List.set_cons_zero, List.set_cons_succ, List.getElem_toArray, List.getElem_cons_succ, List.getElem_cons_zero]))
            (refine wpAnyH_take (i := 12) (v := ?_) rfl ?_ ?_ ?_ (fun _ _ _ h => h) (Or.inl ⟨?_, ?_⟩) ?_ ?_; rotate_left 1; (focus decide +kernel); (focus decide +kernel); (focus decide +kernel); (focus rfl); (focus (intro w hSw; (try dsimp only at hSw); go_simp; (try (with_reducible rfl)); done)); (focus assumption); (try simp only [Act.put, List.setIfInBounds_toArray, List.set_cons_zero, List.set_cons_succ, List.getElem_toArray, List.getElem_cons_succ, List.getElem_cons_zero]))
            refine wpAnyH_ready (rs := [13]) ?_ (by simp) ?_
            · decide +kernel
            refine AllReadyH.cons rfl (fun K hK => ?_) AllReadyH.nil
            have kv : w7.cell? ⟨b0, m, none⟩ = some (.int .i64 X) := by have := oF.cell (i := m) (by rw [HFl.out]; exact hmE); rw [HFx.out] at this; exact this
            have kf := oF.free m
            go_simp
            have oS := oF.set m (X - Z)
            have bS := hbF.setCell (p := ⟨b0, m, none⟩) (Nat.le_refl _) (.int .i64 (X - Z))
            have lS : b0 < (w7.setCell ⟨b0, m, none⟩ (.int .i64 (X - Z))).heap.size := by simpa [World.setCell] using lF
            have sS := nextg3_2 (setCell_grown w7 ⟨b0, m, none⟩ (.int .i64 (X - Z))) ((Below.refl _ _).setCell HN0.out _) HNE.out.1 HNE.out.1 HNE.out.1 HNE.out.2.1 HNE.out.2.2 hHeld
            refine hK.out _ _ ?_ (fun hHeld2 => ?_)
            · (try dsimp only); exact sS
            clear hK K
            (try simp only [Act.put, List.setIfInBounds_toArray, List.set_cons_zero, List.set_cons_succ, List.getElem_toArray, List.getElem_cons_succ, List.getElem_cons_zero])
            refine wpAnyH_done (by kernel_rfl) ?_ _
            clear hHeld hHeld2 oF hbF
            go_wp2
            go_roundw
            case rel => exact ⟨q + 1, by omega, by have := HJ.out; go_num, sS, bS, lS, by rw [HNX.out, ← HSet.out]; exact oS⟩
            case measure => simp [intOf]; omega
        · have hqL : q = L - 1 := by omega
          have hqi : ¬ (q : Int) + 1 < (L : Int) := by omega
          have HFin : Hid (BL.set m (flow s tbl cs L R q) = tab (flowT s tbl L R) (m + 1) ++ List.replicate (E - (m + 1)) 0) := by
            simp only [Hid]
            rw [← set_tab (flowT s tbl L R) E m hlt, HBL.out]
            congr 1
            unfold flowT
            rw [hqL, HCs.out, show L - 1 = C by have := HLC.out; omega]
          have OF := hid oF
          have BF := hid hbF
          clear s4 hbF lF oF hqL
          go_wp2
          go_roundw
          case rel => exact ⟨m + 1, by omega, by go_num, by rw [← HFin.out]; exact OF.out, BF.out⟩
          case measure => simp [intOf]; omega
    · have hmE : m = E := by omega
      subst hmE
      have HO : Hid (Own 2 wr b0 (.slice (some ⟨b0, 0, none⟩) m m) (tab (flowT s tbl L R) m)) := by simp only [Hid]; simpa using hown
      have HBw := hid (ST.out.1.trans (hbel.mono HN0.out))
      clear hown hbel
      go_wp2
      go_ret2
      exact ⟨b0, rfl, HO.out, HN0.out, HBw.out⟩


theorem implNo {w : World} {s r : Int} {L bt : Nat} {vt : Value} {tbl : List Int} (hL : validB s r tbl = true → (L : Int) = 2 * r + 1) (hbad : (validB s r tbl && keepsB s tbl L) = false ∨ r = 0) (h : Rd w bt vt tbl) :
    Calls Try.prog 56 #[ruleV s r vt] w fun e w' => e = .returned (.tuple #[.slice none 0 0, .bool false]) ∧ Below w.heap.size w w' := by
  have HRd := hid h
  have hcall : ∀ (w : World) (b : Nat) (v : Value), Rd w b v tbl → Calls Try.prog 54 #[ruleV s r v] w fun e w' => e = .returned (.tuple #[.bool (validB s r tbl && keepsB s tbl L), .bool (validB s r tbl)]) ∧ Below w.heap.size w w' := by
    intro w b v h
    cases hv : validB s r tbl with
    | false => rw [Bool.false_and]; exact Keeps.implNo h hv
    | true => rw [Bool.true_and]; exact Keeps.implOk rfl (hL hv) h hv
  obtain ⟨q0, hq0⟩ : ∃ q0, q0 = (validB s r tbl && keepsB s tbl L) := ⟨_, rfl⟩
  obtain ⟨q1, hq1⟩ : ∃ q1, q1 = validB s r tbl := ⟨_, rfl⟩
  rw [← hq0, ← hq1] at hcall
  rw [← hq0] at hbad
  have HCall := hid hcall
  obtain ⟨ao, cap, rfl, _, _, _⟩ := h
  clear hcall hq0 hq1 hL
  have go : ∀ (q : Bool), (q = false ∨ (r == 0) = true) → q = q0 → Calls Try.prog 56 #[ruleV s r (Value.slice ao tbl.length cap)] w fun e w' => e = .returned (.tuple #[.slice none 0 0, .bool false]) ∧ Below w.heap.size w w' := by
    intro q hq hqq
    subst hqq
    rcases hq with rfl | hr0
    · go_enter Try.func56, Try.ntmps56
      go_wp2_with fail
      go_at_call 54
      refine (HCall.out _ _ _ (HRd.out.keep (below1 _ _) (Nat.le_refl _))).mono ?_
      rintro e w2 ⟨rfl, bel⟩
      go_wp2
      go_ret2
      exact ⟨rfl, (below1 _ _).trans (bel.mono (below1 _ _).size)⟩
    · cases q with
      | false =>
        clear hr0
        go_enter Try.func56, Try.ntmps56
        go_wp2_with fail
        go_at_call 54
        refine (HCall.out _ _ _ (HRd.out.keep (below1 _ _) (Nat.le_refl _))).mono ?_
        rintro e w2 ⟨rfl, bel⟩
        go_wp2
        go_ret2
        exact ⟨rfl, (below1 _ _).trans (bel.mono (below1 _ _).size)⟩
      | true =>
        go_enter Try.func56, Try.ntmps56
        go_wp2_with fail
        obtain ⟨w1, hW⟩ : ∃ w1, w1 = w.alloc (Obj.cells #[.int .i64 s, .int .i64 r, (Value.slice ao tbl.length cap)] 24) := ⟨_, rfl⟩
        obtain ⟨NR, hN⟩ : ∃ NR, NR = w.heap.size := ⟨_, rfl⟩
        have st : Below w.heap.size w w1 ∧ w1.cell? ⟨NR, 0, none⟩ = some (.int .i64 s) ∧ w1.cell? ⟨NR, 1, none⟩ = some (.int .i64 r) ∧ w1.cell? ⟨NR, 2, none⟩ = some (Value.slice ao tbl.length cap) ∧ Rd w1 bt (Value.slice ao tbl.length cap) tbl ∧ w.heap.size ≤ w1.heap.size := by
          rw [hW, hN]
          exact ⟨below1 _ _, by simp, by simp, by simp, HRd.out.keep (below1 _ _) (Nat.le_refl _), by simp⟩
        simp only [← hW, ← hN]
        clear hW hN
        go_at_call 54
        refine (HCall.out _ _ _ (rd3_1_0 st)).mono ?_
        rintro e w2 ⟨rfl, bel⟩
        replace st := next3_1 bel st
        clear bel
        go_wp2
        go_ret2
        exact ⟨rfl, st.1⟩
  exact go q0 (hbad.imp id (fun h => by simp [h])) rfl


theorem ends3 {w : World} {g : Nat} {s r : Int} (c0 : w.cell? ⟨g, 0, none⟩ = some (.int .i64 s)) (c1 : w.cell? ⟨g, 1, none⟩ = some (.int .i64 r)) (hs : 2 ≤ s ∧ s ≤ 3) (hr : 0 ≤ r ∧ r ≤ 2) :
    Calls Try.prog 104 #[.pointer (some ⟨g, 0, none⟩)] w fun e w' => e = .returned (.int .i64 (s ^ (2 * r).toNat)) ∧ ∃ m, w' = w.drewN m := by
  obtain ⟨k, hk⟩ : ∃ k : Nat, 2 * r = k := ⟨(2 * r).toNat, by omega⟩
  have hk4 : k ≤ 4 := by omega
  obtain ⟨P, hP⟩ : ∃ P, P = s ^ k := ⟨_, rfl⟩
  have hw : ∀ m, Calls Try.prog 92 #[.pointer (some ⟨g, 0, none⟩)] (w.drewN m) fun e w' => e = .returned (.int .i64 ((k : Int) + 1)) ∧ w' = w.drewN m := fun m => by
    refine (Terms.wide3 (show (w.drewN m).cell? ⟨g, 1, none⟩ = some (.int .i64 r) from c1) hr).mono ?_
    rintro e w' ⟨rfl, rfl⟩
    exact ⟨by rw [hk], rfl⟩
  have hp : ∀ m, Calls Try.prog 114 #[.int .i64 s, .int .i64 k] (w.drewN m) fun e w' => e = .returned (.int .i64 P) ∧ w' = w.drewN m := fun m => by
    refine (Terms.power3 hs (by omega)).mono ?_
    rintro e w' ⟨rfl, rfl⟩
    exact ⟨by rw [hP], rfl⟩
  have HP : Hid (s ^ (2 * r).toNat = P) := by simp only [Hid]; rw [hk, hP]; simp
  rw [HP.out]
  have HW := hid hw
  have HPw := hid hp
  clear hw hp hP hk c1 hs hr
  go_enter Try.func104, Try.ntmps104
  go_wp2_with fail
  go_quiet (first | (go_at_call 92; refine Calls.quiet_of_same (HW.out _)) | (go_at_call 114; refine Calls.quiet_of_same (HPw.out _)))
  go_wp2
  go_ret
  exact ⟨rfl, _, rfl⟩

set_option maxHeartbeats 8000000 in
theorem specOk {w : World} {s : Int} {L R C E bt : Nat} {vt : Value} {tbl : List Int} (hL : L = 2 * R + 1) (hC : C = 2 * R) (hR1 : 1 ≤ R) (hE : (E : Int) = s ^ C) (hk : keepsB s tbl L = true) (h : Rd w bt vt tbl) (hv : validB s R tbl = true) :
    Calls Try.prog 55 #[ruleV s R vt] w fun e w' => ∃ v' b', e = .returned (.tuple #[v', .bool true]) ∧
      Own 2 w' b' v' (tab (flowT s tbl L R) E) ∧ w.heap.size ≤ b' ∧ Below w.heap.size w w' := by
  have HV := hid hv
  obtain ⟨hs, hr, hl, ha⟩ := Al.valid_parts hv
  have HKp := hid hk
  have HS := hid hs
  have HR := hid hr
  have HA := hid ha
  have HRd := hid h
  have hR2 : R ≤ 2 := by omega
  have HLi : Hid (2 * (R : Int) + 1 = (L : Int)) := by simp only [Hid]; omega
  have HLen : Hid ((tbl.length : Int) = s ^ L) := by simp only [Hid]; rw [hl]; congr 1; omega
  have HE : Hid (s ^ (2 * (R : Int)).toNat = (E : Int)) := by simp only [Hid]; rw [hE]; congr 1; omega
  have hE2 : 1 ≤ E ∧ E ≤ 243 := by have := pow_bd hs (show C ≤ 5 by omega); omega
  obtain ⟨e1, e2⟩ := hE2
  have h00 : decide ((R : Int) < 1) = false := by simp; omega
  have HLC : Hid (L = C + 1) := by simp only [Hid]; omega
  have hLC : (L : Int) - 1 = (C : Int) := by omega
  have hCb : 2 ≤ C ∧ C ≤ 4 := by omega
  have HCR : Hid (C = 2 * R) := hC
  obtain ⟨cb1, cb2⟩ := hCb
  obtain ⟨ao, cap, rfl, _, _, h4⟩ := h
  obtain ⟨off, rfl, hb, _⟩ := h4 (by have := pow_pos' hs (2 * (R : Int) + 1).toNat; omega)
  obtain ⟨n, hn⟩ : ∃ n, n = tbl.length := ⟨_, rfl⟩
  rw [← hn] at HRd
  rw [← hn]
  have HBt := hid hb
  clear hv hl ha hk h4 hb hn hL hC hs hr hE
  go_enter Try.func55, Try.ntmps55
  go_wp2_with fail
  obtain ⟨w1, hW⟩ : ∃ w1, w1 = w.alloc (Obj.cells #[.int .i64 s, .int .i64 R, (Value.slice (some ⟨bt, off, none⟩) n cap)] 24) := ⟨_, rfl⟩
  obtain ⟨NR, hN⟩ : ∃ NR, NR = w.heap.size := ⟨_, rfl⟩
  have st : Below w.heap.size w w1 ∧ w1.cell? ⟨NR, 0, none⟩ = some (.int .i64 s) ∧ w1.cell? ⟨NR, 1, none⟩ = some (.int .i64 R) ∧ w1.cell? ⟨NR, 2, none⟩ = some (Value.slice (some ⟨bt, off, none⟩) n cap) ∧ Rd w1 bt (Value.slice (some ⟨bt, off, none⟩) n cap) tbl ∧ w.heap.size ≤ w1.heap.size := by
    rw [hW, hN]
    exact ⟨below1 _ _, by simp, by simp, by simp, HRd.out.keep (below1 _ _) (Nat.le_refl _), by simp⟩
  simp only [← hW, ← hN]
  clear hW hN
  go_at_call 74
  refine (Spec.is (rd3_1_0 st) st.2.1 st.2.2.1 st.2.2.2.1).mono ?_
  rw [HV.out]
  rintro e w2 ⟨rfl, mm, hw2⟩
  have bel : Below w1.heap.size w1 w2 := by rw [hw2]; exact Spec.below_drewN' _ _ _
  replace st := next3_1 bel st
  clear bel hw2
  go_wp2_with fail
  go_at_call 102
  refine (Keeps.keeps (qb := true) (L := L) HKp.out.symm HLi.out.symm st.2.1 st.2.2.1 st.2.2.2.1 (rd3_1_0 st) HV.out).mono ?_
  rintro e w0 ⟨rfl, bel⟩
  replace st := next3_1 bel st
  clear bel
  have c1' := st.2.2.1
  go_wp2_with fail
  go_at_call 92
  refine (Terms.wide3 c1' HR.out).mono ?_
  rw [HLi.out]
  rintro e w' ⟨rfl, rfl⟩
  have HB0 := hid st.1
  have ST : Hid (Below w0.heap.size w0 w0 ∧ w0.cell? ⟨NR, 0, none⟩ = some (.int .i64 s) ∧ w0.cell? ⟨NR, 1, none⟩ = some (.int .i64 R) ∧ w0.cell? ⟨NR, 2, none⟩ = some (Value.slice (some ⟨bt, off, none⟩) n cap) ∧ Rd w0 bt (Value.slice (some ⟨bt, off, none⟩) n cap) tbl ∧ w0.heap.size ≤ w0.heap.size) := ⟨Below.refl _ _, st.2.1, st.2.2.1, st.2.2.2.1, st.2.2.2.2.1, Nat.le_refl _⟩
  clear st c1'
  go_wp2
  go_loopw [5, 6] (fun v5 t wr => ∃ m : Nat, m ≤ E ∧ t = .int .i64 m ∧ wr.ownsRow w0.heap.size 2 1 v5 (tab (flowT s tbl L R) m).length ((tab (flowT s tbl L R) m).map (Value.int .i64)) ∧ Below w0.heap.size w0 wr) (fun _ t _ => E - (intOf t).toNat)
  case atStart => exact ⟨0, Nat.zero_le _, rfl, by simpa [tab] using World.ownsRow_lit (base := w0.heap.size) (e := 2) (size := 1) w0 #[] 0 (Nat.le_refl _) (by simp) (by simp), (Below.refl _ _).alloc (Nat.le_refl _) _⟩
  case round =>
    obtain ⟨m, hm, rfl, hown, hbel⟩ := hrel
    have s3 := next3_1 hbel ST.out
    have HO := hid hown
    have HB := hid hbel
    have hend := ends3 s3.2.1 s3.2.2.1 HS.out HR.out
    rw [HE.out] at hend
    have HEnd := hid hend
    clear hown hbel hend
    by_cases hlt : m < E
    · have hmi : (m : Int) < (E : Int) := by omega
      go_wp2_with fail
      go_at_call 104
      refine HEnd.out.mono ?_
      rintro e w3 ⟨rfl, d3, hd3⟩
      have bel : Below wr.heap.size wr w3 := by rw [hd3]; exact Go.Proofs.Ytiijabiijkdhcaa.Help.below_drewN _ _ _
      replace s3 := next3_1 bel s3
      have HO3 := hid (Weigh.rows_keep HO.out bel)
      clear bel hd3
      go_wp2_with fail
      go_at_call 105
      refine (specCells HS.out (by omega) (by omega)).mono ?_
      rw [dig_length, Int.toNat_natCast]
      rintro e w4 ⟨bd, rfl, od, lo, bel⟩
      obtain ⟨cs, hcs⟩ : ∃ cs, cs = dig s m C := ⟨_, rfl⟩
      have HCs := hid hcs
      have hcl : cs.length = C := by rw [hcs]; exact dig_length _ _ _
      have hca : allB cs s = true := by rw [hcs]; exact dig_all HS.out _ _
      rw [← hcs] at od
      have HCl := hid hcl
      have HCa := hid hca
      have s4 := next3_1 bel s3
      have HB4 := hid s4.1
      have HS4 : Hid (Below w4.heap.size w4 w4 ∧ w4.cell? ⟨NR, 0, none⟩ = some (.int .i64 s) ∧ w4.cell? ⟨NR, 1, none⟩ = some (.int .i64 R) ∧ w4.cell? ⟨NR, 2, none⟩ = some (Value.slice (some ⟨bt, off, none⟩) n cap) ∧ Rd w4 bt (Value.slice (some ⟨bt, off, none⟩) n cap) tbl ∧ w4.heap.size ≤ w4.heap.size) := ⟨Below.refl _ _, s4.2.1, s4.2.2.1, s4.2.2.2.1, s4.2.2.2.2.1, Nat.le_refl _⟩
      have HO4 := hid (Weigh.rows_keep HO3.out bel)
      have HOD := hid od
      have r1 := s4.2.2.1
      have HF : Hid (∀ i, i < R → cs.getD i 0 = (cs.take R).getD i 0) := by
        intro i hi
        simp [List.getD, hi]
      have HFL : Hid ((cs.take R).length = R) := by have := HCR.out; simp only [Hid]; simp; omega
      clear s3 s4 od lo bel hcs hcl hca
      go_wp2
      go_loop [8, 9] (fun x t => ∃ q : Nat, q ≤ R ∧ t = .int .i64 q ∧ x = .int .i64 (sumL ((cs.take R).take q))) (fun _ t => R - (intOf t).toNat)
      case atStart => exact ⟨0, Nat.zero_le _, rfl, rfl⟩
      case round =>
        obtain ⟨q, hq, rfl, rfl⟩ := hrel
        obtain ⟨x1, x2⟩ := sumL_take_bd HS.out (all_take HCa.out R) q
        rw [HFL.out] at x2
        have x3 : sumL ((cs.take R).take q) ≤ 4 := by
          have := HS.out
          rcases (show s = 2 ∨ s = 3 by omega) with rfl | rfl <;> omega
        by_cases hlt3 : q < R
        · have hqi : (q : Int) < (R : Int) := by omega
          have hqc : (q : Int) < (C : Int) := by have := HCR.out; omega
          have hcx : w4.cell? ⟨bd, q, none⟩ = some (.int .i64 (cs.getD q 0)) := HOD.out.cell (by rw [HCl.out]; omega)
          obtain ⟨z1, z2⟩ := all_get HCa.out (i := q) (by rw [HCl.out]; omega)
          have hz2 : cs.getD q 0 ≤ 2 := by have := HS.out; omega
          have hnx := sumL_take (cs.take R) q (by rw [HFL.out]; exact hlt3)
          rw [← HF.out q hlt3] at hnx
          obtain ⟨X, hX⟩ : ∃ X, X = sumL ((cs.take R).take q) := ⟨_, rfl⟩
          obtain ⟨Y, hY⟩ : ∃ Y, Y = cs.getD q 0 := ⟨_, rfl⟩
          rw [← hX] at x1 x3 hnx ⊢
          rw [← hY] at z1 hz2 hcx hnx
          have HNX := hid hnx
          clear hX hY hnx x2 z2
          go_wp2
          go_round
          case rel => exact ⟨q + 1, by omega, by go_num, by rw [HNX.out]⟩
          case measure => simp [intOf]; omega
        · have hqR : q = R := by omega
          have e : (cs.take R).take q = cs.take R := by rw [hqR, List.take_take, Nat.min_self]
          rw [e]
          obtain ⟨F0, hF0⟩ : ∃ F0, F0 = sumL (cs.take R) := ⟨_, rfl⟩
          have HF0 : Hid (flow s tbl cs L R 0 = F0) := hF0.symm
          rw [← hF0]
          have hqi : ¬ (q : Int) < (R : Int) := by omega
          clear x1 x2 x3 e hF0 hqR
          go_wp2
          go_loopw [8, 10] (fun x t wx => ∃ q : Nat, q + 1 ≤ L ∧ t = .int .i64 ((q : Int) + 1) ∧ x = .int .i64 (flow s tbl cs L R q) ∧ ∃ dn, wx = w4.drewN dn) (fun _ t _ => L - (intOf t).toNat)
          case atStart => exact ⟨0, by have := HLC.out; omega, by simp, by rw [HF0.out], 0, rfl⟩
          case round =>
            obtain ⟨p, hp, rfl, rfl, dn, hdn⟩ := hrel
            obtain ⟨x1, x2⟩ := flow_bd (R := R) HS.out HLen.out HA.out HCa.out (by have := HCl.out; have := HLC.out; omega) (by have := HLC.out; omega) p hp
            by_cases hlt4 : p + 1 < L
            · have hpi : (p : Int) + 1 < (L : Int) := by omega
              have hC1 := HLC.out
              obtain ⟨z1, z2⟩ := behG_bd (L := L) (from_ := 0) (k := p + 1) HS.out HLen.out HA.out HCa.out (by have := HCl.out; omega) (by omega)
              have hnx : flow s tbl cs L R (p + 1) = flow s tbl cs L R p - beh s tbl cs L 0 (p + 1) := rfl
              obtain ⟨X, hX⟩ : ∃ X, X = flow s tbl cs L R p := ⟨_, rfl⟩
              obtain ⟨Z, hZ⟩ : ∃ Z, Z = beh s tbl cs L 0 (p + 1) := ⟨_, rfl⟩
              have hc0 : Calls Try.prog 106 #[.pointer (some ⟨NR, 0, none⟩), .slice (some ⟨bd, 0, none⟩) C C, .int .i64 ((p : Int) + 1), .int .i64 0] (w4.drewN dn) fun e w' => e = .returned (.int .i64 Z) ∧ ∃ m, w' = w4.drewN m := by
                have st := next3_1 (Go.Proofs.Ytiijabiijkdhcaa.Help.below_drewN w4.heap.size w4 dn) HS4.out
                have hb := behindG (k := p + 1) (from_ := 0) (cs := cs) (L := L) (C := C) st.2.1 st.2.2.1 st.2.2.2.1 st.2.2.2.2.1 (HOD.out.keep (Go.Proofs.Ytiijabiijkdhcaa.Help.below_drewN _ _ _)) HS.out HR.out HLi.out.symm HLen.out HCl.out HCa.out (by omega) (by omega) (by omega)
                rw [← hZ] at hb
                refine hb.mono ?_
                rintro e w' ⟨rfl, mm, rfl⟩
                exact ⟨rfl, _, World.drewN_drewN _ _ _⟩
              have HC2 := hid hc0
              rw [← hZ] at z1 z2 hnx
              rw [← hX] at x1 x2 hnx ⊢
              have HNX := hid hnx
              subst hdn
              clear hX hZ hnx hc0 hC1
              go_wp2_with fail
              go_at_call 106
              refine HC2.out.mono ?_
              rintro e w8 ⟨rfl, d8, hd8⟩
              subst hd8
              go_wp2
              go_roundw
              case rel => exact ⟨p + 1, by omega, by go_num, by rw [HNX.out], d8, rfl⟩
              case measure => simp [intOf]; omega
            · have hpL : p = L - 1 := by omega
              obtain ⟨X, hX⟩ : ∃ X, X = flow s tbl cs L R p := ⟨_, rfl⟩
              have HT : Hid (tab (flowT s tbl L R) (m + 1) = tab (flowT s tbl L R) m ++ [X]) := by
                simp only [Hid]; rw [tab_succ, hX, hpL]; unfold flowT
                rw [HCs.out, show L - 1 = C by have := HLC.out; omega]
              rw [← hX]
              rw [← hX] at x1 x2
              have hpi : ¬ (p : Int) + 1 < (L : Int) := by omega
              have bw : Below w4.heap.size w4 wr := by rw [hdn]; exact Go.Proofs.Ytiijabiijkdhcaa.Help.below_drewN _ _ _
              have HOw := hid (Weigh.rows_keep HO4.out bw)
              have HBw := hid (HB4.out.trans (bw.mono HB4.out.size))
              clear hX hpL hdn bw
              go_wp2_with (first | (at_builtin; refine append1 rfl _ _ rfl w0.heap.size _ _ rfl HOw.out _ rfl ?c1 ?c2 ?_) | go_in)
              case c1 => rw [tab_length]; omega
              case c2 => exact HBw.out.size
              · intro v' w9 hown9 hbel9
                have HO9 := hid hown9
                have HB9 := hid (HBw.out.trans hbel9)
                clear hown9 hbel9
                go_wp2
                go_roundw
                case rel =>
                  refine ⟨m + 1, by omega, by go_num, ?_, HB9.out⟩
                  rw [HT.out, List.map_append, List.length_append]
                  exact HO9.out
                case measure => simp [intOf]; omega
    · have hmE : m = E := by omega
      subst hmE
      go_wp2_with fail
      go_at_call 104
      refine HEnd.out.mono ?_
      rintro e w3 ⟨rfl, d3, hd3⟩
      have bel : Below wr.heap.size wr w3 := by rw [hd3]; exact Go.Proofs.Ytiijabiijkdhcaa.Help.below_drewN _ _ _
      have ho := Weigh.rows_keep HO.out bel
      obtain ⟨b', hb', o'⟩ := Own.of ho
      have HO' := hid o'
      have HLo : Hid (w.heap.size ≤ b') := Nat.le_trans HB0.out.size hb'
      have HBf := hid (HB0.out.trans ((HB.out.trans (bel.mono HB.out.size)).mono HB0.out.size))
      rcases o'.form with ⟨rfl, _⟩ | ⟨c', rfl, _⟩
      all_goals
        clear bel hd3 ho o' hb' s3
        go_wp2
        go_ret2
        exact ⟨_, b', rfl, HO'.out, HLo.out, HBf.out⟩


theorem specNo {w : World} {s r : Int} {L bt : Nat} {vt : Value} {tbl : List Int} (hL : validB s r tbl = true → (L : Int) = 2 * r + 1) (hbad : (validB s r tbl && keepsB s tbl L) = false ∨ r = 0) (h : Rd w bt vt tbl) :
    Calls Try.prog 55 #[ruleV s r vt] w fun e w' => e = .returned (.tuple #[.slice none 0 0, .bool false]) ∧ Below w.heap.size w w' := by
  have HRd := hid h
  obtain ⟨ao, cap, rfl, _, _, _⟩ := h
  cases hv : validB s r tbl with
  | false =>
    have HV := hid hv
    clear hv hL hbad
    go_enter Try.func55, Try.ntmps55
    go_wp2_with fail
    obtain ⟨w1, hW⟩ : ∃ w1, w1 = w.alloc (Obj.cells #[.int .i64 s, .int .i64 r, (Value.slice ao tbl.length cap)] 24) := ⟨_, rfl⟩
    obtain ⟨NR, hN⟩ : ∃ NR, NR = w.heap.size := ⟨_, rfl⟩
    have st : Below w.heap.size w w1 ∧ w1.cell? ⟨NR, 0, none⟩ = some (.int .i64 s) ∧ w1.cell? ⟨NR, 1, none⟩ = some (.int .i64 r) ∧ w1.cell? ⟨NR, 2, none⟩ = some (Value.slice ao tbl.length cap) ∧ Rd w1 bt (Value.slice ao tbl.length cap) tbl ∧ w.heap.size ≤ w1.heap.size := by
      rw [hW, hN]
      exact ⟨below1 _ _, by simp, by simp, by simp, HRd.out.keep (below1 _ _) (Nat.le_refl _), by simp⟩
    simp only [← hW, ← hN]
    clear hW hN
    go_at_call 74
    refine (Spec.is (rd3_1_0 st) st.2.1 st.2.2.1 st.2.2.2.1).mono ?_
    rw [HV.out]
    rintro e w2 ⟨rfl, mm, hw2⟩
    have bel : Below w1.heap.size w1 w2 := by rw [hw2]; exact Spec.below_drewN' _ _ _
    replace st := next3_1 bel st
    clear bel hw2
    go_wp2
    go_ret2
    exact ⟨rfl, st.1⟩
  | true =>
    obtain ⟨_, hr, _, _⟩ := Al.valid_parts hv
    have HV := hid hv
    have HL := hid (hL hv)
    rw [hv, Bool.true_and] at hbad
    by_cases h0 : r = 0
    · have h00 : decide (r < 1) = true := by simp; omega
      clear hv hL hbad hr h0
      go_enter Try.func55, Try.ntmps55
      go_wp2_with fail
      obtain ⟨w1, hW⟩ : ∃ w1, w1 = w.alloc (Obj.cells #[.int .i64 s, .int .i64 r, (Value.slice ao tbl.length cap)] 24) := ⟨_, rfl⟩
      obtain ⟨NR, hN⟩ : ∃ NR, NR = w.heap.size := ⟨_, rfl⟩
      have st : Below w.heap.size w w1 ∧ w1.cell? ⟨NR, 0, none⟩ = some (.int .i64 s) ∧ w1.cell? ⟨NR, 1, none⟩ = some (.int .i64 r) ∧ w1.cell? ⟨NR, 2, none⟩ = some (Value.slice ao tbl.length cap) ∧ Rd w1 bt (Value.slice ao tbl.length cap) tbl ∧ w.heap.size ≤ w1.heap.size := by
        rw [hW, hN]
        exact ⟨below1 _ _, by simp, by simp, by simp, HRd.out.keep (below1 _ _) (Nat.le_refl _), by simp⟩
      simp only [← hW, ← hN]
      clear hW hN
      go_at_call 74
      refine (Spec.is (rd3_1_0 st) st.2.1 st.2.2.1 st.2.2.2.1).mono ?_
      rw [HV.out]
      rintro e w2 ⟨rfl, mm, hw2⟩
      have bel : Below w1.heap.size w1 w2 := by rw [hw2]; exact Spec.below_drewN' _ _ _
      replace st := next3_1 bel st
      clear bel hw2
      go_wp2
      go_ret2
      exact ⟨rfl, st.1⟩
    · have h00 : decide (r < 1) = false := by simp; omega
      have HQ : Hid (keepsB s tbl L = false) := hbad.resolve_right h0
      clear hv hL hbad hr h0
      go_enter Try.func55, Try.ntmps55
      go_wp2_with fail
      obtain ⟨w1, hW⟩ : ∃ w1, w1 = w.alloc (Obj.cells #[.int .i64 s, .int .i64 r, (Value.slice ao tbl.length cap)] 24) := ⟨_, rfl⟩
      obtain ⟨NR, hN⟩ : ∃ NR, NR = w.heap.size := ⟨_, rfl⟩
      have st : Below w.heap.size w w1 ∧ w1.cell? ⟨NR, 0, none⟩ = some (.int .i64 s) ∧ w1.cell? ⟨NR, 1, none⟩ = some (.int .i64 r) ∧ w1.cell? ⟨NR, 2, none⟩ = some (Value.slice ao tbl.length cap) ∧ Rd w1 bt (Value.slice ao tbl.length cap) tbl ∧ w.heap.size ≤ w1.heap.size := by
        rw [hW, hN]
        exact ⟨below1 _ _, by simp, by simp, by simp, HRd.out.keep (below1 _ _) (Nat.le_refl _), by simp⟩
      simp only [← hW, ← hN]
      clear hW hN
      go_at_call 74
      refine (Spec.is (rd3_1_0 st) st.2.1 st.2.2.1 st.2.2.2.1).mono ?_
      rw [HV.out]
      rintro e w2 ⟨rfl, mm, hw2⟩
      have bel : Below w1.heap.size w1 w2 := by rw [hw2]; exact Spec.below_drewN' _ _ _
      replace st := next3_1 bel st
      clear bel hw2
      go_wp2_with fail
      go_at_call 102
      refine (Keeps.keeps (qb := false) HQ.out.symm HL.out st.2.1 st.2.2.1 st.2.2.2.1 (rd3_1_0 st) HV.out).mono ?_
      rintro e w3 ⟨rfl, bel⟩
      replace st := next3_1 bel st
      clear bel
      go_wp2
      go_ret2
      exact ⟨rfl, st.1⟩

theorem agree (s r : Int) (tbl : List Int) (hz : tbl.length ≤ 1048576) : ∃ (rs : List Int) (ok : Bool), rs.length ≤ 1000000 ∧
    (∀ (w : World) (b : Nat) (v : Value), Rd w b v tbl → Calls Try.prog 55 #[ruleV s r v] w fun e w' => ∃ v' b', e = .returned (.tuple #[v', .bool ok]) ∧ Own 2 w' b' v' rs ∧ w.heap.size ≤ b' ∧ Below w.heap.size w w') ∧
    (∀ (w : World) (b : Nat) (v : Value), Rd w b v tbl → Calls Try.prog 56 #[ruleV s r v] w fun e w' => ∃ v' b', e = .returned (.tuple #[v', .bool ok]) ∧ Own 2 w' b' v' rs ∧ w.heap.size ≤ b' ∧ Below w.heap.size w w') := by
  have no : ∀ {f : FuncId} {w : World} {v : Value}, Calls Try.prog f #[ruleV s r v] w (fun e w' => e = .returned (.tuple #[.slice none 0 0, .bool false]) ∧ Below w.heap.size w w') →
      Calls Try.prog f #[ruleV s r v] w fun e w' => ∃ v' b', e = .returned (.tuple #[v', .bool false]) ∧ Own 2 w' b' v' [] ∧ w.heap.size ≤ b' ∧ Below w.heap.size w w' := by
    intro f w v hc
    refine hc.mono ?_
    rintro e w' ⟨rfl, bel⟩
    exact ⟨_, w.heap.size, rfl, Own.nil _ _ _, Nat.le_refl _, bel⟩
  obtain ⟨L, hL⟩ : ∃ L, L = (2 * r + 1).toNat := ⟨_, rfl⟩
  have hLv : validB s r tbl = true → (L : Int) = 2 * r + 1 := fun hv => by
    obtain ⟨_, hr, _, _⟩ := Al.valid_parts hv
    omega
  by_cases hg : (validB s r tbl && keepsB s tbl L) = true ∧ r ≠ 0
  · obtain ⟨hq, hr0⟩ := hg
    simp only [Bool.and_eq_true] at hq
    obtain ⟨hv, hk⟩ := hq
    obtain ⟨hs, hr, _, _⟩ := Al.valid_parts hv
    obtain ⟨R, rfl⟩ : ∃ R : Nat, r = R := ⟨r.toNat, by omega⟩
    obtain ⟨E, hE⟩ : ∃ E : Nat, (E : Int) = s ^ (2 * R) := ⟨(s ^ (2 * R)).toNat, by have := pow_pos' hs (2 * R); omega⟩
    have hE2 : E ≤ 243 := by have := (pow_bd hs (show 2 * R ≤ 5 by omega)).2; omega
    refine ⟨tab (flowT s tbl L R) E, true, by rw [tab_length]; omega, fun w b v h => specOk (by omega) rfl (by omega) hE hk h hv, fun w b v h => ?_⟩
    refine (implOk (by omega) rfl (by omega) hE hk h hv).mono ?_
    rintro e w' ⟨b', rfl, own, lo, bel⟩
    exact ⟨_, b', rfl, own, lo, bel⟩
  · have hbad : (validB s r tbl && keepsB s tbl L) = false ∨ r = 0 := by
      cases hq : (validB s r tbl && keepsB s tbl L) with
      | false => exact .inl rfl
      | true => right; exact Decidable.byContradiction fun h => hg ⟨hq, h⟩
    exact ⟨[], false, by simp, fun w b v h => no (specNo hLv hbad h), fun w b v h => no (implNo hLv hbad h)⟩

end Go.Proofs.Ytiijabiijkdhcaa.Flow
