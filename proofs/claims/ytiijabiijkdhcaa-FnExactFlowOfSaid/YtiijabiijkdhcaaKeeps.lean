/- KeepsSum of both sides. -/
import Derived.Test.YtiijabiijkdhcaaTold
import Derived.Test.YtiijabiijkdhcaaAl
import Derived.Test.YtiijabiijkdhcaaTerms
import Derived.Test.YtiijabiijkdhcaaSpec
import Derived.BigQuiet
namespace Go.Proofs.Ytiijabiijkdhcaa.Keeps
open Go.RowKit Go.Proofs.Ytiijabiijkdhcaa.Rd Go.Proofs.Ytiijabiijkdhcaa.Help Go.Proofs.Ytiijabiijkdhcaa.Ring Go.Proofs.Ytiijabiijkdhcaa.Small Go.Proofs.Ytiijabiijkdhcaa.Num Go.Proofs.Ytiijabiijkdhcaa.Keep Go.Proofs.Ytiijabiijkdhcaa.Rule Go.Proofs.Ytiijabiijkdhcaa.Dig Go.Proofs.Ytiijabiijkdhcaa.DigP Go.Proofs.Ytiijabiijkdhcaa.Tell
set_option linter.unusedVariables false
set_option linter.unusedSimpArgs false

/-- What is told behind k zeros. -/
def beh (s : Int) (tbl cs : List Int) (L from_ k : Nat) : Int := tbl.getD (numL ((cs.drop from_).take (L - k)) s).toNat 0
def ksum (s : Int) (tbl cs : List Int) (L : Nat) : Nat → Int
  | 0 => cs.getD 0 0
  | q + 1 => ksum s tbl cs L q + (beh s tbl cs L 1 (q + 1) - beh s tbl cs L 0 (q + 1))
def keepsB (s : Int) (tbl : List Int) (L : Nat) : Bool := (List.range tbl.length).all fun i => decide (ksum s tbl (dig s i L) L (L - 1) = tbl.getD i 0)

theorem part_facts {s : Int} (hs : 2 ≤ s ∧ s ≤ 3) {tbl cs : List Int} {L from_ k : Nat} (hl : (tbl.length : Int) = s ^ L) (hc : cs.length = L) (hca : allB cs s = true) (hf : from_ ≤ k) (hk : k ≤ L) :
    ((cs.drop from_).take (L - k)).length = L - k ∧ allB ((cs.drop from_).take (L - k)) s = true ∧ numL ((cs.drop from_).take (L - k)) s < (tbl.length : Int) := by
  have h1 : ((cs.drop from_).take (L - k)).length = L - k := by simp; omega
  have h2 : allB ((cs.drop from_).take (L - k)) s = true := all_take (all_drop hca _) _
  have h3 := (numL_bd hs h2).2
  rw [h1] at h3
  have h4 := pow_le' hs (show L - k ≤ L by omega)
  exact ⟨h1, h2, by omega⟩
theorem beh_bd {s : Int} (hs : 2 ≤ s ∧ s ≤ 3) {tbl cs : List Int} {L from_ k : Nat} (hl : (tbl.length : Int) = s ^ L) (ha : allB tbl s = true) (hc : cs.length = L) (hca : allB cs s = true) (hf : from_ ≤ k) (hk : k ≤ L) : 0 ≤ beh s tbl cs L from_ k ∧ beh s tbl cs L from_ k ≤ 2 := by
  obtain ⟨_, f2, f3⟩ := part_facts hs hl hc hca hf hk
  have := all_get ha (i := (numL ((cs.drop from_).take (L - k)) s).toNat) (by have := (numL_bd hs f2).1; omega)
  unfold beh
  omega
theorem ksum_bd {s : Int} (hs : 2 ≤ s ∧ s ≤ 3) {tbl cs : List Int} {L : Nat} (hl : (tbl.length : Int) = s ^ L) (ha : allB tbl s = true) (hc : cs.length = L) (hL : 1 ≤ L) (hca : allB cs s = true) : ∀ q, q + 1 ≤ L → -2 * (q : Int) ≤ ksum s tbl cs L q ∧ ksum s tbl cs L q ≤ 2 * q + 2 := by
  intro q
  induction q with
  | zero =>
    intro _
    have := all_get hca (i := 0) (by omega)
    simp only [ksum]; omega
  | succ q ih =>
    intro hq
    have h1 := ih (by omega)
    have h2 := beh_bd hs hl ha hc hca (show 1 ≤ q + 1 by omega) (show q + 1 ≤ L by omega)
    have h3 := beh_bd hs hl ha hc hca (show 0 ≤ q + 1 by omega) (show q + 1 ≤ L by omega)
    simp only [ksum]; omega
theorem keeps_iff {s : Int} {tbl : List Int} {L : Nat} : keepsB s tbl L = true ↔ ∀ i, i < tbl.length → ksum s tbl (dig s i L) L (L - 1) = tbl.getD i 0 := by
  unfold keepsB
  rw [List.all_eq_true]
  constructor
  · intro h i hi
    exact of_decide_eq_true (h i (List.mem_range.2 hi))
  · intro h i hi
    exact decide_eq_true (h i (List.mem_range.1 hi))

theorem zerosFirst {w : World} {s r : Int} {bt b : Nat} {vt v : Value} {tbl zs : List Int} (ht : Rd w bt vt tbl) (h : Rd w b v zs) (hs : 2 ≤ s ∧ s ≤ 3) (hz : zs.length ≤ 16) (ha : allB zs s = true) (hlt : numL zs s < (tbl.length : Int)) :
    Calls Try.prog 103 #[ruleV s r vt, v] w fun e w' => e = .returned (.int .i64 (tbl.getD (numL zs s).toNat 0)) ∧ Below w.heap.size w w' := by
  have HT := hid ht
  have HH := hid h
  have HS := hid hs
  have HZ := hid hz
  have HA := hid ha
  have HL := hid hlt
  obtain ⟨ao, cap, rfl, _, _, _⟩ := ht
  clear h hs hz ha hlt
  go_enter Try.func103, Try.ntmps103
  go_wp2_with fail
  go_at_call 81
  refine (Told.toldOf (HT.out.keep (below1 _ _) (Nat.le_refl _)) (HH.out.keep (below1 _ _) (Nat.le_refl _)) HS.out HZ.out HA.out HL.out).mono ?_
  rintro e w' ⟨rfl, bel⟩
  go_wp2
  go_ret
  exact ⟨rfl, (below1 _ _).trans (bel.mono (below1 _ _).size)⟩

set_option maxHeartbeats 4000000 in
theorem implOk {w : World} {s r : Int} {L bt : Nat} {vt : Value} {tbl : List Int} {qb : Bool} (hqb : qb = keepsB s tbl L) (hL : (L : Int) = 2 * r + 1) (h : Rd w bt vt tbl) (hv : validB s r tbl = true) :
    Calls Try.prog 54 #[ruleV s r vt] w fun e w' => e = .returned (.tuple #[.bool qb, .bool true]) ∧ Below w.heap.size w w' := by
  have HV := hid hv
  obtain ⟨hs, hr, hl, ha⟩ := Al.valid_parts hv
  have HQ := hid hqb
  have HS := hid hs
  have HR := hid hr
  have HA := hid ha
  have HRd := hid h
  have HLr := hid hL.symm
  have hL5 : 1 ≤ L ∧ L ≤ 5 := by omega
  have HLen : Hid ((tbl.length : Int) = s ^ L) := by simp only [Hid]; rw [hl]; congr 1; omega
  obtain ⟨ao, cap, rfl, hc, hm, h4⟩ := h
  obtain ⟨off, rfl, hb, hcell⟩ := h4 (by have := pow_pos' hs (2 * r + 1).toNat; omega)
  obtain ⟨n, hn⟩ : ∃ n, n = tbl.length := ⟨_, rfl⟩
  have Hn := hid hn
  have hn243 : n ≤ 243 := by have := (pow_bd hs (show (2 * r + 1).toNat ≤ 5 by omega)).2; omega
  rw [← hn] at HRd hcell
  rw [← hn]
  have HC := hid hcell
  have HBt := hid hb
  obtain ⟨l1, l2⟩ := hL5
  clear hv hl ha hqb hc hm h4 hcell hb hn hL hs hr
  go_enter Try.func54, Try.ntmps54
  go_wp2_with fail
  obtain ⟨w1, hW⟩ : ∃ w1, w1 = w.alloc (Obj.cells #[.int .i64 s, .int .i64 r, (Value.slice (some ⟨bt, off, none⟩) n cap)] 24) := ⟨_, rfl⟩
  obtain ⟨NR, hN⟩ : ∃ NR, NR = w.heap.size := ⟨_, rfl⟩
  have st : Below w.heap.size w w1 ∧ w1.cell? ⟨NR, 0, none⟩ = some (.int .i64 s) ∧ w1.cell? ⟨NR, 1, none⟩ = some (.int .i64 r) ∧ w1.cell? ⟨NR, 2, none⟩ = some (Value.slice (some ⟨bt, off, none⟩) n cap) ∧ Rd w1 bt (Value.slice (some ⟨bt, off, none⟩) n cap) tbl ∧ w.heap.size ≤ w1.heap.size := by
    rw [hW, hN]
    exact ⟨below1 _ _, by simp, by simp, by simp, HRd.out.keep (below1 _ _) (Nat.le_refl _), by simp⟩
  simp only [← hW, ← hN]
  clear hW hN
  go_at_call 77
  refine (implValid (rd3_1_0 st)).mono ?_
  rw [HV.out]
  rintro e w2 ⟨rfl, bel⟩
  replace st := next3_1 bel st
  clear bel
  go_wp2_with fail
  go_at_call 78
  refine shapeOf.mono ?_
  rintro e w3 ⟨rfl, bel⟩
  replace st := next3_1 bel st
  clear bel
  go_wp2_with fail
  go_at_call 67
  refine (wide HR.out).mono ?_
  rw [HLr.out]
  rintro e w0 ⟨rfl, bel⟩
  replace st := next3_1 bel st
  clear bel
  have HB0 := hid st.1
  have HBt0 : Hid (bt < w0.heap.size) := Nat.lt_of_lt_of_le HBt.out st.2.2.2.2.2
  have HC0 : Hid (∀ i, i < n → w0.cell? ⟨bt, off + i, none⟩ = some (.int .i64 (tbl.getD i 0))) := fun i hi => (st.1.cell (p := ⟨bt, off + i, none⟩) HBt.out).trans (HC.out i hi)
  have ST : Hid (Below w0.heap.size w0 w0 ∧ w0.cell? ⟨NR, 0, none⟩ = some (.int .i64 s) ∧ w0.cell? ⟨NR, 1, none⟩ = some (.int .i64 r) ∧ w0.cell? ⟨NR, 2, none⟩ = some (Value.slice (some ⟨bt, off, none⟩) n cap) ∧ Rd w0 bt (Value.slice (some ⟨bt, off, none⟩) n cap) tbl ∧ w0.heap.size ≤ w0.heap.size) := ⟨Below.refl _ _, st.2.1, st.2.2.1, st.2.2.2.1, st.2.2.2.2.1, Nat.le_refl _⟩
  have d2 := st.2.2.2.1
  clear st
  go_wp2
  clear d2
  go_loopw [19] (fun t wr => ∃ m : Nat, m ≤ n ∧ t = .int .i64 m ∧ Hid (∀ i, i < m → ksum s tbl (dig s i L) L (L - 1) = tbl.getD i 0) ∧ Below w0.heap.size w0 wr) (fun t _ => n - (intOf t).toNat)
  case atStart => exact ⟨0, Nat.zero_le _, rfl, fun i hi => absurd hi (by omega), Below.refl _ _⟩
  case round =>
    obtain ⟨m, hm, rfl, hall, hb2⟩ := hrel
    have s3 := next3_1 hb2 ST.out
    have r0 := s3.2.1
    have HALL := hid hall
    have HB2 := hid hb2
    by_cases hlt : m < n
    · have hmi : (m : Int) < (n : Int) := by omega
      obtain ⟨y, hy⟩ : ∃ y, y = tbl.getD m 0 := ⟨_, rfl⟩
      have HY := hid hy
      have hcx : wr.cell? ⟨bt, off + m, none⟩ = some (.int .i64 y) := by rw [hy]; exact (hb2.cell (p := ⟨bt, off + m, none⟩) HBt0.out).trans (HC0.out m hlt)
      clear hall hb2 hy
      go_wp2_with fail
      go_at_call 86
      refine (implDigits HS.out (by omega) (by omega)).mono ?_
      rw [dig_length, Int.toNat_natCast]
      rintro e w4 ⟨bd, rfl, od, lo, bel⟩
      obtain ⟨cs, hcs⟩ : ∃ cs, cs = dig s m L := ⟨_, rfl⟩
      have HCs := hid hcs
      have hcl : cs.length = L := by rw [hcs]; exact dig_length _ _ _
      have hca : allB cs s = true := by rw [hcs]; exact dig_all HS.out _ _
      rw [← hcs] at od
      have HCl := hid hcl
      have HCa := hid hca
      have s3' := next3_1 bel s3
      have HB4 := hid s3'.1
      have S4 : Hid (Below w4.heap.size w4 w4 ∧ w4.cell? ⟨NR, 0, none⟩ = some (.int .i64 s) ∧ w4.cell? ⟨NR, 1, none⟩ = some (.int .i64 r) ∧ w4.cell? ⟨NR, 2, none⟩ = some (Value.slice (some ⟨bt, off, none⟩) n cap) ∧ Rd w4 bt (Value.slice (some ⟨bt, off, none⟩) n cap) tbl ∧ Rd w4 bd (.slice (some ⟨bd, 0, none⟩) L L) cs ∧ w4.heap.size ≤ w4.heap.size) := ⟨Below.refl _ _, s3'.2.1, s3'.2.2.1, s3'.2.2.2.1, s3'.2.2.2.2.1, od.rd, Nat.le_refl _⟩
      have h00 := od.cell (i := 0) (by omega)
      have l0 : (0 : Int) < (L : Int) := by omega
      clear s3 s3' od lo bel hcs hcl hca r0 hcx
      go_wp2
      clear h00
      go_loopw [8, 9] (fun x t wx => ∃ q : Nat, q + 1 ≤ L ∧ t = .int .i64 ((q : Int) + 1) ∧ x = .int .i64 (ksum s tbl cs L q) ∧ Below w4.heap.size w4 wx ∧ wx.cell? ⟨NR, 0, none⟩ = some (.int .i64 s) ∧ wx.cell? ⟨NR, 1, none⟩ = some (.int .i64 r) ∧ wx.cell? ⟨NR, 2, none⟩ = some (Value.slice (some ⟨bt, off, none⟩) n cap) ∧ Rd wx bt (Value.slice (some ⟨bt, off, none⟩) n cap) tbl ∧ Rd wx bd (.slice (some ⟨bd, 0, none⟩) L L) cs ∧ w4.heap.size ≤ wx.heap.size) (fun _ t _ => L - (intOf t).toNat)
      case atStart => exact ⟨0, by omega, by simp, rfl, S4.out⟩
      case round =>
        obtain ⟨q, hq, rfl, rfl, s4⟩ := hrel
        obtain ⟨x1, x2⟩ := ksum_bd HS.out HLen.out HA.out HCl.out l1 HCa.out q hq
        by_cases hlt3 : q + 1 < L
        · have hqi : (q : Int) + 1 < (L : Int) := by omega
          obtain ⟨f1, f2, f3⟩ := part_facts HS.out HLen.out HCl.out HCa.out (show 1 ≤ q + 1 by omega) (show q + 1 ≤ L by omega)
          obtain ⟨g1, g2, g3⟩ := part_facts HS.out HLen.out HCl.out HCa.out (show 0 ≤ q + 1 by omega) (show q + 1 ≤ L by omega)
          obtain ⟨y1, y2⟩ := beh_bd HS.out HLen.out HA.out HCl.out HCa.out (show 1 ≤ q + 1 by omega) (show q + 1 ≤ L by omega)
          obtain ⟨z1, z2⟩ := beh_bd HS.out HLen.out HA.out HCl.out HCa.out (show 0 ≤ q + 1 by omega) (show q + 1 ≤ L by omega)
          have hnx : ksum s tbl cs L (q + 1) = ksum s tbl cs L q + (beh s tbl cs L 1 (q + 1) - beh s tbl cs L 0 (q + 1)) := rfl
          have e1 : beh s tbl cs L 1 (q + 1) = tbl.getD (numL ((cs.drop 1).take (L - (q + 1))) s).toNat 0 := rfl
          have e0 : beh s tbl cs L 0 (q + 1) = tbl.getD (numL ((cs.drop 0).take (L - (q + 1))) s).toNat 0 := rfl
          obtain ⟨X, hX⟩ : ∃ X, X = ksum s tbl cs L q := ⟨_, rfl⟩
          obtain ⟨Y, hY⟩ : ∃ Y, Y = beh s tbl cs L 1 (q + 1) := ⟨_, rfl⟩
          obtain ⟨Z, hZ⟩ : ∃ Z, Z = beh s tbl cs L 0 (q + 1) := ⟨_, rfl⟩
          obtain ⟨j, hj⟩ : ∃ j : Nat, L - (q + 1) = j := ⟨_, rfl⟩
          rw [← hY] at y1 y2 hnx e1
          rw [← hZ] at z1 z2 hnx e0
          rw [← hX] at x1 x2 hnx ⊢
          rw [hj] at f1 f2 f3 g1 g2 g3 e1 e0
          have HJ := hid hj
          have PZ : Hid (((cs.drop 1).take j).length ≤ 16) := by simp only [Hid]; omega
          have PA := hid f2
          have PL := hid f3
          have PT : Hid (tbl.getD (numL ((cs.drop 1).take j) s).toNat 0 = Y) := e1.symm
          have QZ : Hid (((cs.drop 0).take j).length ≤ 16) := by simp only [Hid]; omega
          have QA := hid g2
          have QL := hid g3
          have QT : Hid (tbl.getD (numL ((cs.drop 0).take j) s).toNat 0 = Z) := e0.symm
          have HNX := hid hnx
          have u1 : IntKind.i64.wrap ((L : Int) - ((q : Int) + 1)) = (j : Int) := by rw [IntKind.wrap_i64]; omega
          have u2 : IntKind.i64.wrap ((j : Int) + 1) = (j : Int) + 1 := by rw [IntKind.wrap_i64]; omega
          have u3 : max ((j : Int) + 1) 0 = (j : Int) + 1 := by omega
          have u4 : ((j : Int) + 1).toNat - 1 = j := by omega
          have u5 : (0 : Int) ≤ (j : Int) + 1 := by omega
          have u6 : (j : Int) + 1 ≤ (L : Int) := by omega
          have u7 : (1 : Int) ≤ (j : Int) + 1 := by omega
          have u8 : ¬ L = 1 := by omega
          have u9 : (0 : Int) ≤ (j : Int) := by omega
          have ua : (j : Int) ≤ (L : Int) := by omega
          have ub : ¬ L = 0 := by omega
          have ud : IntKind.i64.wrap (Y - Z) = Y - Z := by rw [IntKind.wrap_i64]; omega
          have ue : IntKind.i64.wrap (X + (Y - Z)) = X + (Y - Z) := by rw [IntKind.wrap_i64]; omega
          clear hX hY hZ hnx hj f1 f2 f3 g1 g2 g3 e1 e0
          go_wp2_with fail
          refine wp_region_held_drew (S := (fun ww => Below w4.heap.size w4 ww ∧ ww.cell? ⟨NR, 0, none⟩ = some (.int .i64 s) ∧ ww.cell? ⟨NR, 1, none⟩ = some (.int .i64 r) ∧ ww.cell? ⟨NR, 2, none⟩ = some (Value.slice (some ⟨bt, off, none⟩) n cap) ∧ Rd ww bt (Value.slice (some ⟨bt, off, none⟩) n cap) tbl ∧ Rd ww bd (.slice (some ⟨bd, 0, none⟩) L L) cs ∧ w4.heap.size ≤ ww.heap.size)) (by kernel_rfl) ?_ (fun hHeld => ?_)
          · ((try dsimp only); exact drew3_2 s4)
          (refine wpAnyH_take (i := 0) (v := ?_) rfl ?_ ?_ ?_ (fun _ _ _ h => h) (Or.inl ⟨?_, ?_⟩) ?_ ?_; rotate_left 1; (focus decide +kernel); (focus decide +kernel); (focus decide +kernel); (focus rfl); (focus (intro w hSw; (try dsimp only at hSw); go_simp; (try (with_reducible rfl)); done)); (focus assumption); (try simp only [Act.put, List.setIfInBounds_toArray, List.set_cons_zero, List.set_cons_succ, List.getElem_toArray, List.getElem_cons_succ, List.getElem_cons_zero]))
          (refine wpAnyH_take (i := 1) (v := ?_) rfl ?_ ?_ ?_ (fun _ _ _ h => h) (Or.inl ⟨?_, ?_⟩) ?_ ?_; rotate_left 1; (focus decide +kernel); (focus decide +kernel); (focus decide +kernel); (focus rfl); (focus (intro w hSw; (try dsimp only at hSw); go_simp; (try (with_reducible rfl)); done)); (focus assumption); (try simp only [Act.put, List.setIfInBounds_toArray, List.set_cons_zero, List.set_cons_succ, List.getElem_toArray, List.getElem_cons_succ, List.getElem_cons_zero]))
          (refine wpAnyH_take (i := 2) (v := ?_) rfl ?_ ?_ ?_ (fun _ _ _ h => h) (Or.inl ⟨?_, ?_⟩) ?_ ?_; rotate_left 1; (focus decide +kernel); (focus decide +kernel); (focus decide +kernel); (focus rfl); (focus (intro w hSw; (try dsimp only at hSw); go_simp; (try (with_reducible rfl)); done)); (focus assumption); (try simp only [Act.put, List.setIfInBounds_toArray, List.set_cons_zero, List.set_cons_succ, List.getElem_toArray, List.getElem_cons_succ, List.getElem_cons_zero]))
          (refine wpAnyH_take (i := 3) (v := ?_) rfl ?_ ?_ ?_ (fun _ _ _ h => h) (Or.inl ⟨?_, ?_⟩) ?_ ?_; rotate_left 1; (focus decide +kernel); (focus decide +kernel); (focus decide +kernel); (focus rfl); (focus (intro w hSw; (try dsimp only at hSw); go_simp; (try (with_reducible rfl)); done)); (focus assumption); (try simp only [Act.put, List.setIfInBounds_toArray, List.set_cons_zero, List.set_cons_succ, List.getElem_toArray, List.getElem_cons_succ, List.getElem_cons_zero]))
          (refine wpAnyH_take (i := 4) (v := ?_) rfl ?_ ?_ ?_ (fun _ _ _ h => h) (Or.inl ⟨?_, ?_⟩) ?_ ?_; rotate_left 1; (focus decide +kernel); (focus decide +kernel); (focus decide +kernel); (focus rfl); (focus (intro w hSw; (try dsimp only at hSw); go_simp; (try (with_reducible rfl)); done)); (focus assumption); (try simp only [Act.put, List.setIfInBounds_toArray, List.set_cons_zero, List.set_cons_succ, List.getElem_toArray, List.getElem_cons_succ, List.getElem_cons_zero]))
          (refine wpAnyH_take (i := 5) (v := ?_) rfl ?_ ?_ ?_ (fun _ _ _ h => h) (Or.inl ⟨?_, ?_⟩) ?_ ?_; rotate_left 1; (focus decide +kernel); (focus decide +kernel); (focus decide +kernel); (focus rfl); (focus (intro w hSw; (try dsimp only at hSw); go_simp; (try (with_reducible rfl)); done)); (focus assumption); (try simp only [Act.put, List.setIfInBounds_toArray, List.set_cons_zero, List.set_cons_succ, List.getElem_toArray, List.getElem_cons_succ, List.getElem_cons_zero]))
          (refine wpAnyH_take (i := 6) (v := ?_) rfl ?_ ?_ ?_ (fun _ _ _ h => h) (Or.inl ⟨?_, ?_⟩) ?_ ?_; rotate_left 1; (focus decide +kernel); (focus decide +kernel); (focus decide +kernel); (focus rfl); (focus (intro w hSw; (try dsimp only at hSw); go_simp; (try (with_reducible rfl)); done)); (focus assumption); (try simp only [Act.put, List.setIfInBounds_toArray, List.set_cons_zero, List.set_cons_succ, List.getElem_toArray, List.getElem_cons_succ, List.getElem_cons_zero]))
          (refine wpAnyH_take (i := 7) (v := ?_) rfl ?_ ?_ ?_ (fun _ _ _ h => h) (Or.inl ⟨?_, ?_⟩) ?_ ?_; rotate_left 1; (focus decide +kernel); (focus decide +kernel); (focus decide +kernel); (focus rfl); (focus (intro w hSw; (try dsimp only at hSw); go_simp; (try (with_reducible rfl)); done)); (focus assumption); (try simp only [Act.put, List.setIfInBounds_toArray, List.set_cons_zero, List.set_cons_succ, List.getElem_toArray, List.getElem_cons_succ, List.getElem_cons_zero]))
          (refine wpAnyH_take (i := 9) (v := ?_) rfl ?_ ?_ ?_ (fun _ _ _ h => h) (Or.inl ⟨?_, ?_⟩) ?_ ?_; rotate_left 1; (focus decide +kernel); (focus decide +kernel); (focus decide +kernel); (focus rfl); (focus (intro w hSw; (try dsimp only at hSw); go_simp; (try (with_reducible rfl)); done)); (focus assumption); (try simp only [Act.put, List.setIfInBounds_toArray, List.set_cons_zero, List.set_cons_succ, List.getElem_toArray, List.getElem_cons_succ, List.getElem_cons_zero]))
          (refine wpAnyH_take (i := 10) (v := ?_) rfl ?_ ?_ ?_ (fun _ _ _ h => h) (Or.inl ⟨?_, ?_⟩) ?_ ?_; rotate_left 1; (focus decide +kernel); (focus decide +kernel); (focus decide +kernel); (focus rfl); (focus (intro w hSw; (try dsimp only at hSw); go_simp; (try (with_reducible rfl)); done)); (focus assumption); (try simp only [Act.put, List.setIfInBounds_toArray, List.set_cons_zero, List.set_cons_succ, List.getElem_toArray, List.getElem_cons_succ, List.getElem_cons_zero]))
          (refine wpAnyH_take (i := 11) (v := ?_) rfl ?_ ?_ ?_ (fun _ _ _ h => h) (Or.inl ⟨?_, ?_⟩) ?_ ?_; rotate_left 1; (focus decide +kernel); (focus decide +kernel); (focus decide +kernel); (focus rfl); (focus (intro w hSw; (try dsimp only at hSw); go_simp; (try (with_reducible rfl)); done)); (focus assumption); (try simp only [Act.put, List.setIfInBounds_toArray, List.set_cons_zero, List.set_cons_succ, List.getElem_toArray, List.getElem_cons_succ, List.getElem_cons_zero]))
          (refine wpAnyH_take (i := 12) (v := ?_) rfl ?_ ?_ ?_ (fun _ _ _ h => h) (Or.inl ⟨?_, ?_⟩) ?_ ?_; rotate_left 1; (focus decide +kernel); (focus decide +kernel); (focus decide +kernel); (focus rfl); (focus (intro w hSw; (try dsimp only at hSw); go_simp; (try (with_reducible rfl)); done)); (focus assumption); (try simp only [Act.put, List.setIfInBounds_toArray, List.set_cons_zero, List.set_cons_succ, List.getElem_toArray, List.getElem_cons_succ, List.getElem_cons_zero]))
          (refine wpAnyH_take (i := 13) (v := ?_) rfl ?_ ?_ ?_ (fun _ _ _ h => h) (Or.inl ⟨?_, ?_⟩) ?_ ?_; rotate_left 1; (focus decide +kernel); (focus decide +kernel); (focus decide +kernel); (focus rfl); (focus (intro w hSw; (try dsimp only at hSw); go_simp; (try (with_reducible rfl)); done)); (focus assumption); (try simp only [Act.put, List.setIfInBounds_toArray, List.set_cons_zero, List.set_cons_succ, List.getElem_toArray, List.getElem_cons_succ, List.getElem_cons_zero]))
          (refine wpAnyH_take (i := 14) (v := ?_) rfl ?_ ?_ ?_ (fun _ _ _ h => h) (Or.inl ⟨?_, ?_⟩) ?_ ?_; rotate_left 1; (focus decide +kernel); (focus decide +kernel); (focus decide +kernel); (focus rfl); (focus (intro w hSw; (try dsimp only at hSw); go_simp; (try (with_reducible rfl)); done)); (focus assumption); (try simp only [Act.put, List.setIfInBounds_toArray, List.set_cons_zero, List.set_cons_succ, List.getElem_toArray, List.getElem_cons_succ, List.getElem_cons_zero]))
          refine wpAnyH_ready (rs := [8]) ?_ (by simp) ?_
          · decide +kernel
          refine AllReadyH.cons rfl (fun K hK => ?_) AllReadyH.nil
          go_simp
          go_at_call 103
          refine (zerosFirst (rd3_2_0 hHeld) (by have := Told.rd_part (rd3_2_1 hHeld) 1 j (by have := HCl.out; omega); simpa using this) HS.out PZ.out PA.out PL.out).mono ?_
          rw [PT.out]
          rintro e w7 ⟨rfl, bel⟩
          refine hK.out _ _ ?_ (fun hHeld => ?_)
          · (try dsimp only); exact next3_2 bel hHeld
          clear hK K
          (try simp only [Act.put, List.setIfInBounds_toArray, List.set_cons_zero, List.set_cons_succ, List.getElem_toArray, List.getElem_cons_succ, List.getElem_cons_zero])
          refine wpAnyH_ready (rs := [15]) ?_ (by simp) ?_
          · decide +kernel
          refine AllReadyH.cons rfl (fun K hK => ?_) AllReadyH.nil
          go_simp
          go_at_call 103
          refine (zerosFirst (rd3_2_0 hHeld) (by have := Told.rd_part (rd3_2_1 hHeld) 0 j (by have := HCl.out; omega); simpa using this) HS.out QZ.out QA.out QL.out).mono ?_
          rw [QT.out]
          rintro e w7 ⟨rfl, bel⟩
          refine hK.out _ _ ?_ (fun hHeld => ?_)
          · (try dsimp only); exact next3_2 bel hHeld
          clear hK K
          (try simp only [Act.put, List.setIfInBounds_toArray, List.set_cons_zero, List.set_cons_succ, List.getElem_toArray, List.getElem_cons_succ, List.getElem_cons_zero])
          (refine wpAnyH_take (i := 16) (v := ?_) rfl ?_ ?_ ?_ (fun _ _ _ h => h) (Or.inl ⟨?_, ?_⟩) ?_ ?_; rotate_left 1; (focus decide +kernel); (focus decide +kernel); (focus decide +kernel); (focus rfl); (focus (intro w hSw; (try dsimp only at hSw); go_simp; (try (with_reducible rfl)); done)); (focus assumption); (try simp only [Act.put, List.setIfInBounds_toArray, List.set_cons_zero, List.set_cons_succ, List.getElem_toArray, List.getElem_cons_succ, List.getElem_cons_zero]))
          (refine wpAnyH_take (i := 17) (v := ?_) rfl ?_ ?_ ?_ (fun _ _ _ h => h) (Or.inl ⟨?_, ?_⟩) ?_ ?_; rotate_left 1; (focus decide +kernel); (focus decide +kernel); (focus decide +kernel); (focus rfl); (focus (intro w hSw; (try dsimp only at hSw); go_simp; (try (with_reducible rfl)); done)); (focus assumption); (try simp only [Act.put, List.setIfInBounds_toArray, List.set_cons_zero, List.set_cons_succ, List.getElem_toArray, List.getElem_cons_succ, List.getElem_cons_zero]))
          (refine wpAnyH_take (i := 18) (v := ?_) rfl ?_ ?_ ?_ (fun _ _ _ h => h) (Or.inl ⟨?_, ?_⟩) ?_ ?_; rotate_left 1; (focus decide +kernel); (focus decide +kernel); (focus decide +kernel); (focus rfl); (focus (intro w hSw; (try dsimp only at hSw); go_simp; (try (with_reducible rfl)); done)); (focus assumption); (try simp only [Act.put, List.setIfInBounds_toArray, List.set_cons_zero, List.set_cons_succ, List.getElem_toArray, List.getElem_cons_succ, List.getElem_cons_zero]))
          refine wpAnyH_done (by kernel_rfl) ?_ _
          have HBx := hid hHeld.1
          have HSx := hid hHeld
          clear hHeld
          go_wp2
          go_roundw
          case rel => exact ⟨q + 1, by omega, by have := HJ.out; go_num, by rw [HNX.out], HSx.out⟩
          case measure => simp [intOf]; omega
        · have hqL : L = q + 1 := by omega
          have hk1 : L - 1 = q := by omega
          obtain ⟨X, hX⟩ : ∃ X, X = ksum s tbl cs L q := ⟨_, rfl⟩
          have HX : Hid (X = ksum s tbl (dig s m L) L (L - 1)) := by simp only [Hid]; rw [hX, hk1, HCs.out]
          rw [← hX]
          rw [← hX] at x1 x2
          have hqi : ¬ (q : Int) + 1 < (L : Int) := by omega
          have HBw := hid (HB4.out.trans (s4.1.mono HB4.out.size))
          clear hX hk1 hqL s4
          by_cases he : X = y
          · have hne : (X != y) = false := by rw [he]; simp
            have HE := hid he
            clear he
            go_wp2
            go_roundw
            case rel =>
              refine ⟨m + 1, by omega, by go_num, ?_, HBw.out⟩
              intro i hi
              by_cases him : i = m
              · rw [him, ← HX.out, HE.out, HY.out]
              · exact HALL.out.out i (by omega)
            case measure => simp [intOf]; omega
          · have hne : (X != y) = true := by simpa using he
            have hf : qb = false := by
              rw [HQ.out]
              cases hk : keepsB s tbl L with
              | false => rfl
              | true => exact absurd (by rw [HX.out, keeps_iff.1 hk m (by have := Hn.out; omega), HY.out]) he
            subst hf
            clear he
            go_wp2
            go_ret2
            exact ⟨rfl, HB0.out.trans (HBw.out.mono HB0.out.size)⟩
    · have hmn : m = n := by omega
      have ht : qb = true := by
        rw [HQ.out]
        exact keeps_iff.2 (fun i hi => HALL.out.out i (by have := Hn.out; omega))
      subst ht
      subst hmn
      clear hall hb2 s3 r0
      go_wp2
      go_ret2
      exact ⟨rfl, HB0.out.trans (HB2.out.mono HB0.out.size)⟩

theorem implNo {w : World} {s r : Int} {bt : Nat} {vt : Value} {tbl : List Int} (h : Rd w bt vt tbl) (hv : validB s r tbl = false) :
    Calls Try.prog 54 #[ruleV s r vt] w fun e w' => e = .returned (.tuple #[.bool false, .bool false]) ∧ Below w.heap.size w w' := by
  have HV := hid hv
  have HRd := hid h
  obtain ⟨ao, cap, rfl, _, _, _⟩ := h
  clear hv
  go_enter Try.func54, Try.ntmps54
  go_wp2_with fail
  go_at_call 77
  refine (implValid (HRd.out.keep (below1 _ _) (Nat.le_refl _))).mono ?_
  rw [HV.out]
  rintro e w2 ⟨rfl, bel⟩
  go_wp2
  go_ret2
  exact ⟨rfl, (below1 _ _).trans (bel.mono (below1 _ _).size)⟩

set_option maxHeartbeats 4000000 in
theorem behind {w : World} {g bt bd : Nat} {s r : Int} {L from_ k : Nat} {vt : Value} {tbl cs : List Int} (c0 : w.cell? ⟨g, 0, none⟩ = some (.int .i64 s)) (c1 : w.cell? ⟨g, 1, none⟩ = some (.int .i64 r)) (c2 : w.cell? ⟨g, 2, none⟩ = some vt) (ht : Rd w bt vt tbl) (hd : Own 2 w bd (.slice (some ⟨bd, 0, none⟩) L L) cs)
    (hs : 2 ≤ s ∧ s ≤ 3) (hr : 0 ≤ r ∧ r ≤ 2) (hL : (L : Int) = 2 * r + 1) (hl : (tbl.length : Int) = s ^ L) (hc : cs.length = L) (hca : allB cs s = true) (hf : from_ ≤ k) (hk : k ≤ L) :
    Calls Try.prog 106 #[.pointer (some ⟨g, 0, none⟩), .slice (some ⟨bd, 0, none⟩) L L, .int .i64 k, .int .i64 from_] w fun e w' => e = .returned (.int .i64 (beh s tbl cs L from_ k)) ∧ ∃ m, w' = w.drewN m := by
  obtain ⟨f1, f2, f3⟩ := part_facts hs hl hc hca hf hk
  obtain ⟨zs, hzs⟩ : ∃ zs, zs = (cs.drop from_).take (L - k) := ⟨_, rfl⟩
  rw [← hzs] at f1 f2 f3
  obtain ⟨mi, hmi⟩ : ∃ mi : Nat, numL zs s = mi := ⟨_, (Int.toNat_of_nonneg (numL_bd hs f2).1).symm⟩
  obtain ⟨x, hx⟩ : ∃ x, x = tbl.getD mi 0 := ⟨_, rfl⟩
  have HT : Hid (beh s tbl cs L from_ k = x) := by simp only [Hid, beh]; rw [← hzs, hmi, hx]; simp
  rw [HT.out]
  have HG : Hid (∀ i, i < L - k → cs.getD (from_ + i) 0 = zs.getD i 0) := by
    intro i hi
    rw [hzs]
    simp [List.getD, hi]
  have HNB : Hid (∀ q, 0 ≤ numL (zs.take q) s ∧ numL (zs.take q) s ≤ 43046721) := by
    intro q
    have h1 := numL_take_bd hs f2 q
    have h2 := pow_16 hs (show zs.length ≤ 16 by omega)
    omega
  have HZB : Hid (∀ q, q < zs.length → 0 ≤ zs.getD q 0 ∧ zs.getD q 0 ≤ s - 1) := fun q hq => all_get f2 hq
  obtain ⟨ao, cap, rfl, _, _, h4⟩ := ht
  obtain ⟨off, rfl, hb, hcell⟩ := h4 (by omega)
  have hcx : w.cell? ⟨bt, off + mi, none⟩ = some (.int .i64 x) := by rw [hx]; exact hcell mi (by omega)
  obtain ⟨n, hn⟩ : ∃ n, n = tbl.length := ⟨_, rfl⟩
  rw [← hn] at c2
  have hmn : (mi : Int) < (n : Int) := by omega
  have HM := hid hmi
  have HD := hid hd
  have HCl := hid hc
  have HZl := hid f1
  have HR := hid hr
  have HC0 := hid c0
  have HC1 := hid c1
  have HC2 := hid c2
  have HCX := hid hcx
  have hLr : 2 * r + 1 = (L : Int) := by omega
  have hL5 : L ≤ 5 := by omega
  have HLr := hid hLr
  obtain ⟨s1, s2⟩ := hs
  clear h4 hcell hb hn hmi hd hc f1 f2 f3 hr hL hl hca hzs hx c0 c1 c2 hcx hLr
  go_enter Try.func106, Try.ntmps106
  go_wp2
  go_loopw [9, 10] (fun y t wr => ∃ q : Nat, q ≤ L - k ∧ t = .int .i64 q ∧ y = .int .i64 (numL (zs.take q) s) ∧ ∃ dn, wr = w.drewN dn) (fun _ t _ => L - k - (intOf t).toNat)
  case atStart => exact ⟨0, Nat.zero_le _, rfl, rfl, 0, rfl⟩
  case round =>
    obtain ⟨q, hq, rfl, rfl, dn, hdn⟩ := hrel
    have HDn := hid hdn
    have d1 : wr.cell? ⟨g, 1, none⟩ = some (.int .i64 r) := by rw [hdn]; exact HC1.out
    have d0 : wr.cell? ⟨g, 0, none⟩ = some (.int .i64 s) := by rw [hdn]; exact HC0.out
    have hsub : (L : Int) - k = ((L - k : Nat) : Int) := by omega
    have hq2 : (q : Int) ≤ ((L - k : Nat) : Int) := by omega
    by_cases hlt : q < L - k
    · obtain ⟨j, hj⟩ : ∃ j : Nat, (from_ : Int) + q = j := ⟨from_ + q, by omega⟩
      have hjn : from_ + q = j := by omega
      have hcx : wr.cell? ⟨bd, j, none⟩ = some (.int .i64 (zs.getD q 0)) := by rw [hdn, ← HG.out q hlt, hjn]; exact HD.out.cell (by rw [HCl.out]; omega)
      have hki : (q : Int) < (L : Int) - k := by omega
      have hfi : (j : Int) < (L : Int) := by omega
      have hnx := numL_take zs s q (by rw [HZl.out]; exact hlt)
      obtain ⟨x1, x2⟩ := HNB.out q
      obtain ⟨z1, z2⟩ := HZB.out q (by rw [HZl.out]; exact hlt)
      obtain ⟨X, hX⟩ : ∃ X, X = numL (zs.take q) s := ⟨_, rfl⟩
      obtain ⟨Y, hY⟩ : ∃ Y, Y = zs.getD q 0 := ⟨_, rfl⟩
      rw [← hX] at x1 x2 hnx ⊢
      rw [← hY] at z1 z2 hcx hnx
      obtain ⟨Z, hZ⟩ : ∃ Z, X * s = Z := ⟨_, rfl⟩
      have b7 : 0 ≤ Z ∧ Z ≤ 129140163 := by rw [← hZ]; rcases (show s = 2 ∨ s = 3 by omega) with rfl | rfl <;> omega
      obtain ⟨b8, b9⟩ := b7
      have HNX : Hid (numL (zs.take (q + 1)) s = Z + Y) := by rw [hZ] at hnx; exact hnx
      clear hX hY hnx hdn hsub hjn
      go_wp2_with fail
      go_at_call 92
      refine (Terms.wide3 d1 HR.out).mono ?_
      rw [HLr.out]
      rintro e w' ⟨rfl, rfl⟩
      go_wp2_with fail
      go_quiet (fail)
      go_wp2
      go_roundw
      case rel => exact ⟨q + 1, by omega, by go_num, by rw [HNX.out], dn + nq, by rw [HDn.out, World.drewN_drewN]⟩
      case measure => simp [intOf]; omega
    · have hqk : q = L - k := by omega
      have hki : ¬ (q : Int) < (L : Int) - k := by omega
      have e : zs.take q = zs := by rw [hqk, ← HZl.out]; exact List.take_length
      rw [e, HM.out]
      have d2 : wr.cell? ⟨g, 2, none⟩ = some (.slice (some ⟨bt, off, none⟩) n cap) := by rw [hdn]; exact HC2.out
      have hcx : wr.cell? ⟨bt, off + mi, none⟩ = some (.int .i64 x) := by rw [hdn]; exact HCX.out
      clear hdn hqk e hsub
      go_wp2_with fail
      go_at_call 92
      refine (Terms.wide3 d1 HR.out).mono ?_
      rw [HLr.out]
      rintro e w' ⟨rfl, rfl⟩
      go_wp2
      go_ret
      exact ⟨rfl, dn, HDn.out⟩


set_option maxHeartbeats 4000000 in
theorem keeps {w : World} {NR bt : Nat} {s r : Int} {L : Nat} {vt : Value} {tbl : List Int} {qb : Bool} (hqb : qb = keepsB s tbl L) (hL : (L : Int) = 2 * r + 1) (c0 : w.cell? ⟨NR, 0, none⟩ = some (.int .i64 s)) (c1 : w.cell? ⟨NR, 1, none⟩ = some (.int .i64 r)) (c2 : w.cell? ⟨NR, 2, none⟩ = some vt) (h : Rd w bt vt tbl) (hv : validB s r tbl = true) :
    Calls Try.prog 102 #[.pointer (some ⟨NR, 0, none⟩)] w fun e w' => e = .returned (.bool qb) ∧ Below w.heap.size w w' := by
  obtain ⟨hs, hr, hl, ha⟩ := Al.valid_parts hv
  have HQ := hid hqb
  have HS := hid hs
  have HR := hid hr
  have HA := hid ha
  have HRd := hid h
  have HL := hid hL
  have HLr := hid hL.symm
  have hL5 : 1 ≤ L ∧ L ≤ 5 := by omega
  have HLen : Hid ((tbl.length : Int) = s ^ L) := by simp only [Hid]; rw [hl]; congr 1; omega
  obtain ⟨ao, cap, rfl, hc, hm, h4⟩ := h
  obtain ⟨off, rfl, hb, hcell⟩ := h4 (by have := pow_pos' hs (2 * r + 1).toNat; omega)
  obtain ⟨n, hn⟩ : ∃ n, n = tbl.length := ⟨_, rfl⟩
  have Hn := hid hn
  have hn243 : n ≤ 243 := by have := (pow_bd hs (show (2 * r + 1).toNat ≤ 5 by omega)).2; omega
  rw [← hn] at HRd hcell c2
  have HC0 := hid hcell
  have HBt0 := hid hb
  obtain ⟨l1, l2⟩ := hL5
  have ST : Hid (Below w.heap.size w w ∧ w.cell? ⟨NR, 0, none⟩ = some (.int .i64 s) ∧ w.cell? ⟨NR, 1, none⟩ = some (.int .i64 r) ∧ w.cell? ⟨NR, 2, none⟩ = some (Value.slice (some ⟨bt, off, none⟩) n cap) ∧ Rd w bt (Value.slice (some ⟨bt, off, none⟩) n cap) tbl ∧ w.heap.size ≤ w.heap.size) := ⟨Below.refl _ _, c0, c1, c2, HRd.out, Nat.le_refl _⟩
  clear hv hl ha hqb hc hm h4 hcell hb hn hL hs hr
  go_enter Try.func102, Try.ntmps102
  go_wp2_with fail
  go_at_call 92
  refine (Terms.wide3 c1 HR.out).mono ?_
  rw [HLr.out]
  rintro e w' ⟨rfl, rfl⟩
  go_wp2
  clear c0 c1 c2
  go_loopw [15] (fun t wr => ∃ m : Nat, m ≤ n ∧ t = .int .i64 m ∧ Hid (∀ i, i < m → ksum s tbl (dig s i L) L (L - 1) = tbl.getD i 0) ∧ Below w.heap.size w wr) (fun t _ => n - (intOf t).toNat)
  case atStart => exact ⟨0, Nat.zero_le _, rfl, fun i hi => absurd hi (by omega), Below.refl _ _⟩
  case round =>
    obtain ⟨m, hm, rfl, hall, hb2⟩ := hrel
    have s3 := next3_1 hb2 ST.out
    have r0 := s3.2.1
    have HALL := hid hall
    have HB2 := hid hb2
    by_cases hlt : m < n
    · have hmi : (m : Int) < (n : Int) := by omega
      obtain ⟨y, hy⟩ : ∃ y, y = tbl.getD m 0 := ⟨_, rfl⟩
      have HY := hid hy
      clear hall hb2 hy
      go_wp2_with fail
      go_at_call 105
      refine (specCells HS.out (by omega) (by omega)).mono ?_
      rw [dig_length, Int.toNat_natCast]
      rintro e w4 ⟨bd, rfl, od, lo, bel⟩
      obtain ⟨cs, hcs⟩ : ∃ cs, cs = dig s m L := ⟨_, rfl⟩
      have HCs := hid hcs
      have hcl : cs.length = L := by rw [hcs]; exact dig_length _ _ _
      have hca : allB cs s = true := by rw [hcs]; exact dig_all HS.out _ _
      rw [← hcs] at od
      have HCl := hid hcl
      have HCa := hid hca
      have s3' := next3_1 bel s3
      have HB4 := hid s3'.1
      have HS4 := hid s3'
      have HOD := hid od
      have hcx : Hid (w4.cell? ⟨bt, off + m, none⟩ = some (.int .i64 y)) := by simp only [Hid]; rw [HY.out]; exact (s3'.1.cell (p := ⟨bt, off + m, none⟩) HBt0.out).trans (HC0.out m hlt)
      have h00 := od.cell (i := 0) (by omega)
      have l0 : (0 : Int) < (L : Int) := by omega
      clear s3 s3' od lo bel hcs hcl hca r0
      go_wp2
      clear h00
      go_loopw [6, 7] (fun x t wx => ∃ q : Nat, q + 1 ≤ L ∧ t = .int .i64 ((q : Int) + 1) ∧ x = .int .i64 (ksum s tbl cs L q) ∧ ∃ dn, wx = w4.drewN dn) (fun _ t _ => L - (intOf t).toNat)
      case atStart => exact ⟨0, by omega, by simp, rfl, 0, rfl⟩
      case round =>
        obtain ⟨q, hq, rfl, rfl, dn, hdn⟩ := hrel
        have HDn := hid hdn
        have hbw : Below w4.heap.size w4 wr := by rw [hdn]; exact Go.Proofs.Ytiijabiijkdhcaa.Help.below_drewN _ _ _
        have s4 := next3_1 hbw (⟨Below.refl _ _, HS4.out.2.1, HS4.out.2.2.1, HS4.out.2.2.2.1, HS4.out.2.2.2.2.1, Nat.le_refl _⟩ : Below w4.heap.size w4 w4 ∧ w4.cell? ⟨NR, 0, none⟩ = some (.int .i64 s) ∧ w4.cell? ⟨NR, 1, none⟩ = some (.int .i64 r) ∧ w4.cell? ⟨NR, 2, none⟩ = some (Value.slice (some ⟨bt, off, none⟩) n cap) ∧ Rd w4 bt (Value.slice (some ⟨bt, off, none⟩) n cap) tbl ∧ w4.heap.size ≤ w4.heap.size)
        obtain ⟨x1, x2⟩ := ksum_bd HS.out HLen.out HA.out HCl.out l1 HCa.out q hq
        by_cases hlt3 : q + 1 < L
        · have hqi : (q : Int) + 1 < (L : Int) := by omega
          obtain ⟨y1, y2⟩ := beh_bd HS.out HLen.out HA.out HCl.out HCa.out (show 1 ≤ q + 1 by omega) (show q + 1 ≤ L by omega)
          obtain ⟨z1, z2⟩ := beh_bd HS.out HLen.out HA.out HCl.out HCa.out (show 0 ≤ q + 1 by omega) (show q + 1 ≤ L by omega)
          have hnx : ksum s tbl cs L (q + 1) = ksum s tbl cs L q + (beh s tbl cs L 1 (q + 1) - beh s tbl cs L 0 (q + 1)) := rfl
          obtain ⟨X, hX⟩ : ∃ X, X = ksum s tbl cs L q := ⟨_, rfl⟩
          obtain ⟨Y, hY⟩ : ∃ Y, Y = beh s tbl cs L 1 (q + 1) := ⟨_, rfl⟩
          obtain ⟨Z, hZ⟩ : ∃ Z, Z = beh s tbl cs L 0 (q + 1) := ⟨_, rfl⟩
          have hc1 : ∀ dm, Calls Try.prog 106 #[.pointer (some ⟨NR, 0, none⟩), .slice (some ⟨bd, 0, none⟩) L L, .int .i64 ((q : Int) + 1), .int .i64 1] (w4.drewN dm) fun e w' => e = .returned (.int .i64 Y) ∧ ∃ m, w' = w4.drewN m := fun dm => by
            have st := next3_1 (Go.Proofs.Ytiijabiijkdhcaa.Help.below_drewN w4.heap.size w4 dm) (⟨Below.refl _ _, HS4.out.2.1, HS4.out.2.2.1, HS4.out.2.2.2.1, HS4.out.2.2.2.2.1, Nat.le_refl _⟩ : Below w4.heap.size w4 w4 ∧ w4.cell? ⟨NR, 0, none⟩ = some (.int .i64 s) ∧ w4.cell? ⟨NR, 1, none⟩ = some (.int .i64 r) ∧ w4.cell? ⟨NR, 2, none⟩ = some (Value.slice (some ⟨bt, off, none⟩) n cap) ∧ Rd w4 bt (Value.slice (some ⟨bt, off, none⟩) n cap) tbl ∧ w4.heap.size ≤ w4.heap.size)
            have hb := behind (k := q + 1) (from_ := 1) (cs := cs) (L := L) st.2.1 st.2.2.1 st.2.2.2.1 st.2.2.2.2.1 (HOD.out.keep (Go.Proofs.Ytiijabiijkdhcaa.Help.below_drewN _ _ _)) HS.out HR.out HL.out HLen.out HCl.out HCa.out (by omega) (by omega)
            rw [← hY] at hb
            refine hb.mono ?_
            rintro e w' ⟨rfl, mm, rfl⟩
            exact ⟨rfl, _, World.drewN_drewN _ _ _⟩
          have hc0 : ∀ dm, Calls Try.prog 106 #[.pointer (some ⟨NR, 0, none⟩), .slice (some ⟨bd, 0, none⟩) L L, .int .i64 ((q : Int) + 1), .int .i64 0] (w4.drewN dm) fun e w' => e = .returned (.int .i64 Z) ∧ ∃ m, w' = w4.drewN m := fun dm => by
            have st := next3_1 (Go.Proofs.Ytiijabiijkdhcaa.Help.below_drewN w4.heap.size w4 dm) (⟨Below.refl _ _, HS4.out.2.1, HS4.out.2.2.1, HS4.out.2.2.2.1, HS4.out.2.2.2.2.1, Nat.le_refl _⟩ : Below w4.heap.size w4 w4 ∧ w4.cell? ⟨NR, 0, none⟩ = some (.int .i64 s) ∧ w4.cell? ⟨NR, 1, none⟩ = some (.int .i64 r) ∧ w4.cell? ⟨NR, 2, none⟩ = some (Value.slice (some ⟨bt, off, none⟩) n cap) ∧ Rd w4 bt (Value.slice (some ⟨bt, off, none⟩) n cap) tbl ∧ w4.heap.size ≤ w4.heap.size)
            have hb := behind (k := q + 1) (from_ := 0) (cs := cs) (L := L) st.2.1 st.2.2.1 st.2.2.2.1 st.2.2.2.2.1 (HOD.out.keep (Go.Proofs.Ytiijabiijkdhcaa.Help.below_drewN _ _ _)) HS.out HR.out HL.out HLen.out HCl.out HCa.out (by omega) (by omega)
            rw [← hZ] at hb
            refine hb.mono ?_
            rintro e w' ⟨rfl, mm, rfl⟩
            exact ⟨rfl, _, World.drewN_drewN _ _ _⟩
          have HC1 := hid hc1
          have HC2 := hid hc0
          rw [← hY] at y1 y2 hnx
          rw [← hZ] at z1 z2 hnx
          rw [← hX] at x1 x2 hnx ⊢
          have HNX := hid hnx
          subst hdn
          clear hX hY hZ hnx hc1 hc0 s4 hbw
          go_wp2_with fail
          go_at_call_of 106 (Value.int IntKind.i64 1)
          refine (HC1.out dn).mono ?_
          rintro e w7 ⟨rfl, d7, hd7⟩
          subst hd7
          go_wp2_with fail
          go_at_call_of 106 (Value.int IntKind.i64 0)
          refine (HC2.out d7).mono ?_
          rintro e w8 ⟨rfl, d8, hd8⟩
          subst hd8
          go_wp2
          go_roundw
          case rel => exact ⟨q + 1, by omega, by go_num, by rw [HNX.out], d8, rfl⟩
          case measure => simp [intOf]; omega
        · have hqL : L = q + 1 := by omega
          have hk1 : L - 1 = q := by omega
          obtain ⟨X, hX⟩ : ∃ X, X = ksum s tbl cs L q := ⟨_, rfl⟩
          have HX : Hid (X = ksum s tbl (dig s m L) L (L - 1)) := by simp only [Hid]; rw [hX, hk1, HCs.out]
          rw [← hX]
          rw [← hX] at x1 x2
          have hqi : ¬ (q : Int) + 1 < (L : Int) := by omega
          have HBw := hid (HB4.out.trans (hbw.mono HB4.out.size))
          have d2 := s4.2.2.2.1
          have hcy : wr.cell? ⟨bt, off + m, none⟩ = some (.int .i64 y) := by rw [hdn]; exact hcx.out
          clear hX hk1 hqL s4 hbw hdn
          by_cases he : X = y
          · have hne : (X != y) = false := by rw [he]; simp
            have HE := hid he
            clear he
            go_wp2
            go_roundw
            case rel =>
              refine ⟨m + 1, by omega, by go_num, ?_, HBw.out⟩
              intro i hi
              by_cases him : i = m
              · rw [him, ← HX.out, HE.out, HY.out]
              · exact HALL.out.out i (by omega)
            case measure => simp [intOf]; omega
          · have hne : (X != y) = true := by simpa using he
            have hf : qb = false := by
              rw [HQ.out]
              cases hk : keepsB s tbl L with
              | false => rfl
              | true => exact absurd (by rw [HX.out, keeps_iff.1 hk m (by have := Hn.out; omega), HY.out]) he
            subst hf
            clear he
            go_wp2
            go_ret
            exact ⟨rfl, HBw.out⟩
    · have hmn : m = n := by omega
      have ht : qb = true := by
        rw [HQ.out]
        exact keeps_iff.2 (fun i hi => HALL.out.out i (by have := Hn.out; omega))
      subst ht
      subst hmn
      clear hall hb2 s3 r0
      go_wp2
      go_ret
      exact ⟨rfl, HB2.out⟩

theorem specKeeps {w : World} {s r : Int} {L bt : Nat} {vt : Value} {tbl : List Int} {q0 q1 : Bool} (hL : L = (2 * r + 1).toNat) (hq0 : q0 = (validB s r tbl && keepsB s tbl L)) (hq1 : q1 = validB s r tbl) (h : Rd w bt vt tbl) :
    Calls Try.prog 53 #[ruleV s r vt] w fun e w' => e = .returned (.tuple #[.bool q0, .bool q1]) ∧ Below w.heap.size w w' := by
  have HRd := hid h
  obtain ⟨ao, cap, rfl, _, _, _⟩ := h
  cases hv : validB s r tbl with
  | false =>
    have HV := hid hv
    rw [hv, Bool.false_and] at hq0
    rw [hv] at hq1
    subst hq0 hq1
    clear hv
    go_enter Try.func53, Try.ntmps53
    go_wp2_with fail
    obtain ⟨w1, hW⟩ : ∃ w1, w1 = w.alloc (Obj.cells #[.int .i64 s, .int .i64 r, (Value.slice ao tbl.length cap)] 24) := ⟨_, rfl⟩
    obtain ⟨NR, hN⟩ : ∃ NR, NR = w.heap.size := ⟨_, rfl⟩
    have st : Below w.heap.size w w1 ∧ w1.cell? ⟨NR, 0, none⟩ = some (.int .i64 s) ∧ w1.cell? ⟨NR, 1, none⟩ = some (.int .i64 r) ∧ w1.cell? ⟨NR, 2, none⟩ = some (Value.slice ao tbl.length cap) ∧ Rd w1 bt (Value.slice ao tbl.length cap) tbl ∧ w.heap.size ≤ w1.heap.size := by
      rw [hW, hN]
      exact ⟨below1 _ _, by simp, by simp, by simp, HRd.out.keep (below1 _ _) (Nat.le_refl _), by simp⟩
    simp only [← hW, ← hN]
    clear hW hN
    go_at_call 74
    refine (Spec.is (rd3_1_0 st) st.2.1 st.2.2.1 st.2.2.2.1).mono ?_
    rw [HV.out]
    rintro e w2 ⟨rfl, mm, hw2⟩
    have bel : Below w1.heap.size w1 w2 := by rw [hw2]; exact Spec.below_drewN' _ _ _
    replace st := next3_1 bel st
    clear bel hw2
    go_wp2
    go_ret2
    exact ⟨rfl, st.1⟩
  | true =>
    have HV := hid hv
    rw [hv, Bool.true_and] at hq0
    rw [hv] at hq1
    subst hq1
    obtain ⟨_, hr, _, _⟩ := Al.valid_parts hv
    have HL : Hid ((L : Int) = 2 * r + 1) := by simp only [Hid]; omega
    have HQ := hid hq0
    clear hv hq0 hr hL
    go_enter Try.func53, Try.ntmps53
    go_wp2_with fail
    obtain ⟨w1, hW⟩ : ∃ w1, w1 = w.alloc (Obj.cells #[.int .i64 s, .int .i64 r, (Value.slice ao tbl.length cap)] 24) := ⟨_, rfl⟩
    obtain ⟨NR, hN⟩ : ∃ NR, NR = w.heap.size := ⟨_, rfl⟩
    have st : Below w.heap.size w w1 ∧ w1.cell? ⟨NR, 0, none⟩ = some (.int .i64 s) ∧ w1.cell? ⟨NR, 1, none⟩ = some (.int .i64 r) ∧ w1.cell? ⟨NR, 2, none⟩ = some (Value.slice ao tbl.length cap) ∧ Rd w1 bt (Value.slice ao tbl.length cap) tbl ∧ w.heap.size ≤ w1.heap.size := by
      rw [hW, hN]
      exact ⟨below1 _ _, by simp, by simp, by simp, HRd.out.keep (below1 _ _) (Nat.le_refl _), by simp⟩
    simp only [← hW, ← hN]
    clear hW hN
    go_at_call 74
    refine (Spec.is (rd3_1_0 st) st.2.1 st.2.2.1 st.2.2.2.1).mono ?_
    rw [HV.out]
    rintro e w2 ⟨rfl, mm, hw2⟩
    have bel : Below w1.heap.size w1 w2 := by rw [hw2]; exact Spec.below_drewN' _ _ _
    replace st := next3_1 bel st
    clear bel hw2
    go_wp2_with fail
    go_at_call 102
    refine (keeps HQ.out HL.out st.2.1 st.2.2.1 st.2.2.2.1 (rd3_1_0 st) HV.out).mono ?_
    rintro e w3 ⟨rfl, bel⟩
    replace st := next3_1 bel st
    clear bel
    go_wp2
    go_ret2
    exact ⟨rfl, st.1⟩

theorem agree (s r : Int) (tbl : List Int) : ∃ (q0 q1 : Bool),
    (∀ (w : World) (b : Nat) (v : Value), Rd w b v tbl → Calls Try.prog 53 #[ruleV s r v] w fun e w' => e = .returned (.tuple #[.bool q0, .bool q1]) ∧ Below w.heap.size w w') ∧
    (∀ (w : World) (b : Nat) (v : Value), Rd w b v tbl → Calls Try.prog 54 #[ruleV s r v] w fun e w' => e = .returned (.tuple #[.bool q0, .bool q1]) ∧ Below w.heap.size w w') := by
  refine ⟨_, _, fun w b v h => specKeeps rfl rfl rfl h, fun w b v h => ?_⟩
  cases hv : validB s r tbl with
  | false => rw [Bool.false_and]; exact implNo h hv
  | true =>
    obtain ⟨_, hr, _, _⟩ := Al.valid_parts hv
    rw [Bool.true_and]
    exact implOk rfl (by omega) h hv

end Go.Proofs.Ytiijabiijkdhcaa.Keeps
