/- How many rings lead to a ring: the model's side. -/
import Derived.Test.YtjeoccjemkdbiaaCbi
import Derived.Test.YtjeoccjemkdbiaaWbs
namespace Go.Proofs.Ytjeoccjemkdbiaa.Cbs
open Go.RowKit Go.Shelf Go.Proofs.Ytjeoccjemkdbiaa.Rd Go.Proofs.Ytjeoccjemkdbiaa.Help Go.Proofs.Ytjeoccjemkdbiaa.Ring Go.Proofs.Ytjeoccjemkdbiaa.Small Go.Proofs.Ytjeoccjemkdbiaa.Num Go.Proofs.Ytjeoccjemkdbiaa.Keep Go.Proofs.Ytjeoccjemkdbiaa.Rule Go.Proofs.Ytjeoccjemkdbiaa.Lnk Go.Proofs.Ytjeoccjemkdbiaa.LnkP Go.Proofs.Ytjeoccjemkdbiaa.LnkI Go.Proofs.Ytjeoccjemkdbiaa.Box Go.Proofs.Ytjeoccjemkdbiaa.Bkw Go.Proofs.Ytjeoccjemkdbiaa.FVal Go.Proofs.Ytjeoccjemkdbiaa.Wbi Go.Proofs.Ytjeoccjemkdbiaa.Wbs Go.Proofs.Ytjeoccjemkdbiaa.Wto Go.Proofs.Ytjeoccjemkdbiaa.Cbi Go.Proofs.Ytjeoccjemkdbiaa.Spec Go.Proofs.Ytjeoccjemkdbiaa.Step
set_option linter.unusedVariables false
set_option linter.unusedSimpArgs false
attribute [local go_sem] Oper.semAt_some

set_option maxHeartbeats 2000000 in
theorem l03Ring {w : World} {g : Nat} {s r : Int} {b bw : Nat} {v vw : Value} {tbl zs : List Int} (h : Rd w b v tbl) (hw : Rd w bw vw zs) (c0 : w.cell? ⟨g, 0, none⟩ = some (.int .i64 s)) (c1 : w.cell? ⟨g, 1, none⟩ = some (.int .i64 r)) (c2 : w.cell? ⟨g, 2, none⟩ = some v) :
    Calls Try.prog 46 #[.pointer (some ⟨g, 0, none⟩), vw] w fun e w' => e = .returned (.bool (backB s r tbl zs)) ∧ ∃ m, w' = w.drewN m := by
  have hIs := SpO.is (o := 0) h c0 c1 c2
  have HW := hid hw
  obtain ⟨ao, cap, rfl, hc, hm, h4⟩ := hw
  obtain ⟨n, hn⟩ : ∃ n, n = zs.length := ⟨_, rfl⟩
  rw [← hn] at hc HW ⊢
  have hsz : n ≤ 9223372036854775807 := by unfold maxLen at hm; omega
  have Hn := hid hn
  have HIS := hid hIs
  have HC0 := hid c0
  have HC1 := hid c1
  clear hc hm hIs c1 c2 h4
  cases hq : validB s r tbl with
  | false =>
    have HQ := hid hq
    have e : backB s r tbl zs = false := by unfold backB fitB; rw [hq]; rfl
    rw [e]
    clear hq h c0 e hn
    go_enter Try.func46, Try.ntmps46
    go_wp2_with fail
    go_at_call 53
    refine HIS.out.mono ?_
    rw [HQ.out]
    rintro e w2 ⟨rfl, m, hm⟩
    have HM := hid hm
    clear hm
    go_wp2
    go_ret
    exact ⟨rfl, m, HM.out⟩
  | true =>
    have HQ := hid hq
    obtain ⟨hs, hr, _, _⟩ := Al.valid_parts hq
    have HS := hid hs
    have HR := hid hr
    cases hb : ringB zs s with
    | false =>
      have HBq := hid hb
      have e : backB s r tbl zs = false := by unfold backB fitB isRingB; rw [hb]; simp
      rw [e]
      clear hq h c0 e hn hs hr hb
      go_enter Try.func46, Try.ntmps46
      go_wp2_with fail
      go_at_call 53
      refine HIS.out.mono ?_
      rw [HQ.out]
      rintro e w2 ⟨rfl, m, hm⟩
      have a0 : w2.cell? ⟨g, 0, none⟩ = some (.int .i64 s) := by rw [hm]; exact HC0.out
      have HW2 := hid (HW.out.keep (show Below w.heap.size w w2 by rw [hm]; exact Spec.below_drewN' _ _ _) (Nat.le_refl _))
      have HM := hid hm
      clear hm
      go_wp2_with fail
      go_at_call 69
      refine (specL02Ring HW2.out HS.out).mono ?_
      rw [HBq.out]
      rintro e w3 ⟨rfl, rfl⟩
      go_wp2
      go_ret
      exact ⟨rfl, m, HM.out⟩
    | true =>
      have HBq := hid hb
      obtain ⟨q, hqq⟩ : ∃ q, q = decide (2 * r + 1 ≤ (n : Int) ∧ (n : Int) ≤ 16) := ⟨_, rfl⟩
      have e : backB s r tbl zs = q := by unfold backB fitB isRingB; rw [hq, hb, decide_eq_true hs, ← hn, ← hqq]; rfl
      rw [e]
      have HE := hid hqq
      clear hq h c0 e hn hs hr hb hqq
      go_enter Try.func46, Try.ntmps46
      go_wp2_with fail
      go_at_call 53
      refine HIS.out.mono ?_
      rw [HQ.out]
      rintro e w2 ⟨rfl, m, hm⟩
      have a0 : w2.cell? ⟨g, 0, none⟩ = some (.int .i64 s) := by rw [hm]; exact HC0.out
      have HA1 : Hid (w2.cell? ⟨g, 1, none⟩ = some (.int .i64 r)) := by simp only [Hid]; rw [hm]; exact HC1.out
      have HW2 := hid (HW.out.keep (show Below w.heap.size w w2 by rw [hm]; exact Spec.below_drewN' _ _ _) (Nat.le_refl _))
      have HM := hid hm
      clear hm
      go_wp2_with fail
      go_at_call 69
      refine (specL02Ring HW2.out HS.out).mono ?_
      rw [HBq.out]
      rintro e w3 ⟨rfl, rfl⟩
      go_wp2_with fail
      go_at_call 55
      refine (Terms.wide3 HA1.out HR.out).mono ?_
      rintro e w4 ⟨rfl, rfl⟩
      by_cases h1 : 2 * r + 1 ≤ (n : Int)
      · by_cases h2 : (n : Int) ≤ 16
        · have eq : q = true := by rw [HE.out]; exact decide_eq_true ⟨h1, h2⟩
          have EQ := hid eq
          clear eq
          have h1' : decide (2 * r + 1 ≤ (n : Int)) = true := decide_eq_true h1
          have h2' : decide ((n : Int) ≤ 16) = true := decide_eq_true h2
          go_wp2
          go_ret
          exact ⟨by rw [EQ.out]; rfl, m, HM.out⟩
        · have eq : q = false := by rw [HE.out]; exact decide_eq_false (fun h => h2 h.2)
          have EQ := hid eq
          clear eq
          have h1' : decide (2 * r + 1 ≤ (n : Int)) = true := decide_eq_true h1
          have h2' : decide ((n : Int) ≤ 16) = false := decide_eq_false h2
          go_wp2
          go_ret
          exact ⟨by rw [EQ.out]; rfl, m, HM.out⟩
      · have eq : q = false := by rw [HE.out]; exact decide_eq_false (fun h => h1 h.1)
        have EQ := hid eq
        clear eq
        have h1' : decide (2 * r + 1 ≤ (n : Int)) = false := decide_eq_false h1
        go_wp2
        go_ret
        exact ⟨by rw [EQ.out]; rfl, m, HM.out⟩
/-- In how many ways one can go around from an end, counted from its beginning. -/
def wf (T : List Int) (S n : Nat) (zs : List Int) (e : Nat) : Int := (fwds T S n zs (unitL n e)).getD e 0
theorem wf_bd {T : List Int} {S n : Nat} {zs : List Int} {e : Nat} (hS : S ≤ 3) (hS0 : 0 < S) (hz : zs.length ≤ 16) (hn : 0 < n) (he : e < n) : 0 ≤ wf T S n zs e ∧ wf T S n zs e ≤ 3486784401 := by
  have := (Sm.le (fwds_sm T S n hn hS0 zs _ _ (unit_len n e) (unit_sm he)) (pow_bd hS hz (by decide))).bd e
  exact this
theorem fwd_still {T : List Int} {S n : Nat} {t : Int} {now : List Int} {a : Nat} (hS : 0 < S) (h : now.getD a 0 = 0) : ∀ x, x ≤ S → fwdL T S n t now (a * S + x) = fwdL T S n t now (a * S)
  | 0, _ => rfl
  | x + 1, hx => by
    have ih := fwd_still (T := T) (n := n) (t := t) hS h x (by omega)
    have hd : (a * S + x) / S = a := by rw [Nat.add_comm, Nat.add_mul_div_right _ _ hS, Nat.div_eq_of_lt (by omega), Nat.zero_add]
    show (if T.getD (a * S + x) 0 = t then updL (fwdL T S n t now (a * S + x)) ((a * S + x) % n) (now.getD ((a * S + x) / S) 0) else fwdL T S n t now (a * S + x)) = _
    rw [hd, h, updL_zero, ih]; split <;> rfl

set_option maxHeartbeats 8000000 in
set_option maxRecDepth 100000 in
theorem l03Count {w : World} {S n bt bw NR : Nat} {r : Int} {N off cap : Nat} {vw : Value} {tbl zs : List Int} (hk : Lk S n r tbl) (hN : N = tbl.length) (h : Rd w bt (.slice (some ⟨bt, off, none⟩) N cap) tbl) (hw : Rd w bw vw zs) (hz : 1 ≤ zs.length ∧ zs.length ≤ 16) (kR : w.heap[NR]? = some (Obj.cells #[.int .i64 (S : Int), .int .i64 r, (.slice (some ⟨bt, off, none⟩) N cap)] 28)) :
    Calls Try.prog 47 #[.pointer (some ⟨NR, 0, none⟩), vw] w fun e w' => e = .returned (.int .i64 (gsum (wf tbl S n zs) n)) ∧ Below w.heap.size w w' := by
  have HK := hid hk
  have HH := hid h
  have HW := hid hw
  have KR0 := hid kR
  obtain ⟨hS, hr, hn, hl, hn1⟩ := hk
  obtain ⟨ao, cw, rfl, hcw, hmw, hw4⟩ := hw
  obtain ⟨ow, rfl, hbw, hwcell⟩ := hw4 (by omega)
  obtain ⟨L, hLe⟩ : ∃ L, L = zs.length := ⟨_, rfl⟩
  rw [← hLe] at HW hcw hwcell hz ⊢
  have HL : Hid (1 ≤ L ∧ L ≤ 16 ∧ L = zs.length) := ⟨hz.1, hz.2, hLe⟩
  have HCW : Hid (bw < w.heap.size ∧ ∀ i, i < L → w.cell? ⟨bw, ow + i, none⟩ = some (.int .i64 (zs.getD i 0))) := ⟨hbw, hwcell⟩
  have HS : Hid ((2 ≤ (S : Int) ∧ (S : Int) ≤ 3) ∧ (0 ≤ r ∧ r ≤ 2)) := ⟨⟨Int.ofNat_le.2 hS.1, Int.ofNat_le.2 hS.2⟩, hr⟩
  have HSn : Hid ((2 ≤ S ∧ S ≤ 3) ∧ (1 ≤ n ∧ n ≤ 81)) := ⟨hS, hn1⟩
  have HEn := hid hn
  have HNR : Hid (NR < w.heap.size) := Box.heap_lt kR
  have HMK : Hid (∀ w : World, _) := run_make_row' (P := Try.prog) 22 2 (.int .i64 0) 8 Try.underlying22 infoI rfl .i64 .i64 n (by omega) (by omega)
  obtain ⟨q, hq⟩ : ∃ q, q = gsum (wf tbl S n zs) n := ⟨_, rfl⟩
  have HQ := hid hq
  rw [← hq]
  obtain ⟨sb1, sb2⟩ := HS.out.1
  have hLi : (L : Int) ≤ 16 := by omega
  have hn81 : n ≤ 81 := hn1.2
  have hNkeep : ∀ W : World, Below w.heap.size w W → W.heap[NR]? = some (Obj.cells #[.int .i64 (S : Int), .int .i64 r, (.slice (some ⟨bt, off, none⟩) N cap)] 28) := fun W hb => (hb.block NR HNR.out).trans KR0.out
  have HNK := hid hNkeep
  clear hS hr hn hl hn1 hcw hmw hw4 hbw hwcell hLe hq kR hNkeep hN hz h
  go_enter Try.func47, Try.ntmps47
  go_wp2_with fail
  go_at_call 39
  refine (ends3 (Go.Joins.cell_of_block KR0.out 0) (Go.Joins.cell_of_block KR0.out 1) HS.out.1 HS.out.2).mono ?_
  rw [← HEn.out]
  rintro e w4 ⟨rfl, m, hm⟩
  have HB4 : Hid (Below w.heap.size w w4) := by simp only [Hid]; rw [hm]; exact Spec.below_drewN' _ _ _
  clear hm
  go_wp2
  go_loopw [6, 7] (fun acc i wr => ∃ k : Nat, k ≤ n ∧ i = .int .i64 (k : Int) ∧ acc = .int .i64 (gsum (wf tbl S n zs) k) ∧ Below w.heap.size w wr) (fun acc i _ => n - (intOf i).toNat)
  case atStart => exact ⟨0, Nat.zero_le _, rfl, rfl, HB4.out⟩
  case round =>
    clear HB4
    obtain ⟨e, he, rfl, rfl, hB⟩ := hrel
    have KB0 := hid hB
    clear hB
    by_cases hlte : e < n
    · obtain ⟨X, hX⟩ : ∃ X, X = gsum (wf tbl S n zs) e := ⟨_, rfl⟩
      have HXe := hid hX
      rw [← hX]
      have HE := hid hlte
      have hei : (e : Int) < (n : Int) := by omega
      have hmk := HMK.out
      obtain ⟨wn, hwn⟩ : ∃ x, x = wr := ⟨_, rfl⟩
      rw [← hwn] at KB0 ⊢
      clear hwn hX he
      have ON : Hid (Rd.Own 2 (wn.alloc (Obj.cells (madeCells #[.int .i64 0] n) 2)) wn.heap.size (.slice (some ⟨wn.heap.size, 0, none⟩) n n) (List.replicate n 0)) := Own.made 2 wn n (by have := HSn.out; unfold maxLen; omega)
      have q4 := ON.out.cell (i := e) (by simp; exact HE.out)
      have q5 := ON.out.free e
      have q6 : (List.replicate n (0 : Int)).getD e 0 = 0 := by simp only [List.getD_eq_getElem?_getD, List.getElem?_replicate]; split <;> simp
      rw [q6] at q4
      clear q6
      go_wp2
      clear q4 q5 hmk
      obtain ⟨w8, hW⟩ : ∃ x, x = wn.alloc (Obj.cells ((madeCells #[.int .i64 0] n).setIfInBounds e (.int .i64 1)) 2) := ⟨_, rfl⟩
      obtain ⟨b0, hb0⟩ : ∃ x, x = wn.heap.size := ⟨_, rfl⟩
      have OU : Hid (Rd.Own 2 w8 b0 (.slice (some ⟨b0, 0, none⟩) n n) (unitL n e)) := by
        have h1 := ON.out.set e 1
        rw [World.setCell_alloc_at _ _ _ _ _ rfl, ← hW, ← hb0] at h1
        have e1 : (List.replicate n (0 : Int)).set e 1 = unitL n e := by
          unfold unitL updL
          have q6 : (List.replicate n (0 : Int)).getD e 0 = 0 := by simp only [List.getD_eq_getElem?_getD, List.getElem?_replicate]; split <;> simp
          rw [q6]; rfl
        rw [e1] at h1
        exact h1
      have HB8 : Hid (Below w.heap.size w w8) := by simp only [Hid]; rw [hW]; exact KB0.out.alloc KB0.out.size _
      have HL0 : Hid (w.heap.size ≤ b0) := by simp only [Hid]; rw [hb0]; exact KB0.out.size
      simp only [← hW, ← hb0]
      clear hW hb0 ON KB0
      go_loopw [8, 29] (fun vN i wr => ∃ (k bN : Nat), k ≤ L ∧ i = .int .i64 (k : Int) ∧ vN = (.slice (some ⟨bN, 0, none⟩) n n) ∧ Below w.heap.size w wr ∧ w.heap.size ≤ bN ∧ Rd.Own 2 wr bN (.slice (some ⟨bN, 0, none⟩) n n) (fwds tbl S n (zs.take k) (unitL n e))) (fun vN i _ => L - (intOf i).toNat)
      case atStart => exact ⟨0, b0, Nat.zero_le _, rfl, rfl, HB8.out, HL0.out, OU.out⟩
      case round =>
        clear HB8 OU
        obtain ⟨k, bN, hk, rfl, rfl, hB, hlo, hO⟩ := hrel
        have KB := hid hB
        have KO := hid hO
        have HLN := hid hlo
        clear hB hO hlo
        by_cases hlt : k < L
        · obtain ⟨Aw, hAw⟩ : ∃ Aw, Aw = fwds tbl S n (zs.take k) (unitL n e) := ⟨_, rfl⟩
          have hAl : Aw.length = n := by rw [hAw]; exact fwds_len tbl S n _ _ (unit_len n e)
          have hAs : Sm 3486784401 Aw := by
            rw [hAw]
            exact Sm.le (fwds_sm tbl S n (by have := HSn.out; omega) (by have := HSn.out; omega) _ _ _ (unit_len n e) (unit_sm HE.out)) (pow_bd HSn.out.1.2 (by simp; have := HL.out; omega) (by decide))
          obtain ⟨c, hc⟩ : ∃ c, c = zs.getD k 0 := ⟨_, rfl⟩
          have HNX : Hid (fwdA tbl S n c Aw = fwds tbl S n (zs.take (k + 1)) (unitL n e)) := by
            simp only [Hid]
            rw [take_snoc zs k (by have := HL.out; omega), fwds_snoc, ← hAw, ← hc]
          have HCc := hid hc
          have HAL := hid hAl
          have HAS := hid hAs
          rw [← hAw] at KO
          have hki : (k : Int) < (L : Int) := by omega
          have hmk := HMK.out
          clear hAl hAs hAw hc
          obtain ⟨wn2, hwn⟩ : ∃ x, x = wr := ⟨_, rfl⟩
          rw [← hwn] at KB KO ⊢
          clear hwn
          go_wp2
          obtain ⟨w9, hW⟩ : ∃ x, x = wn2.alloc (Obj.cells (madeCells #[.int .i64 0] n) 2) := ⟨_, rfl⟩
          obtain ⟨bT, hbT⟩ : ∃ x, x = wn2.heap.size := ⟨_, rfl⟩
          have oT : Rd.Own 2 w9 bT (.slice (some ⟨bT, 0, none⟩) n n) (List.replicate n 0) := by
            have := Own.made 2 wn2 n (by have := HSn.out; unfold maxLen; omega)
            rw [hW, hbT]; exact this
          have bel : Below wn2.heap.size wn2 w9 := by rw [hW]; exact (Below.refl _ _).alloc (Nat.le_refl _) _
          have HNT : Hid (bN ≠ bT) := by have h1 := KO.out.lt; simp only [Hid]; omega
          have HLO : Hid (w.heap.size ≤ bT) := by have h2 := KB.out.size; simp only [Hid]; omega
          have KN8 := hid (KO.out.keep bel)
          have KB8 := hid (KB.out.trans (bel.mono KB.out.size))
          have OT : Hid (Rd.Own 2 w9 bT (.slice (some ⟨bT, 0, none⟩) n n) (fwdL tbl S n c Aw 0)) := oT
          simp only [← hW, ← hbT]
          clear hW hbT oT bel hmk KB KO
          go_loopw [11] (fun i wx => ∃ a : Nat, a ≤ n ∧ i = .int .i64 (a : Int) ∧ Below w.heap.size w wx ∧ Rd.Own 2 wx bN (.slice (some ⟨bN, 0, none⟩) n n) Aw ∧ Rd.Own 2 wx bT (.slice (some ⟨bT, 0, none⟩) n n) (fwdL tbl S n c Aw (a * S))) (fun i _ => n - (intOf i).toNat)
          case atStart => exact ⟨0, Nat.zero_le _, rfl, KB8.out, KN8.out, by rw [Nat.zero_mul]; exact OT.out⟩
          case round =>
            clear KB8 KN8 OT
            obtain ⟨a, ha, rfl, hB, hN, hO⟩ := hrel
            have KB := hid hB
            have KN := hid hN
            have KO := hid hO
            clear hB hN hO
            by_cases hlta : a < n
            · obtain ⟨wn3, hwn⟩ : ∃ x, x = wr := ⟨_, rfl⟩
              rw [← hwn] at KB KN KO ⊢
              clear hwn
              go_wp2
              go_loopw [12] (fun i wx => ∃ x : Nat, x ≤ S ∧ i = .int .i64 (x : Int) ∧ Below w.heap.size w wx ∧ Rd.Own 2 wx bN (.slice (some ⟨bN, 0, none⟩) n n) Aw ∧ Rd.Own 2 wx bT (.slice (some ⟨bT, 0, none⟩) n n) (fwdL tbl S n c Aw (a * S + x))) (fun i _ => S - (intOf i).toNat)
              case atStart => exact ⟨0, Nat.zero_le _, rfl, KB.out, KN.out, KO.out⟩
              case round =>
                clear KB KN KO
                obtain ⟨x, hx, rfl, hB, hN, hO⟩ := hrel
                have KB := hid hB
                have KN := hid hN
                have KO := hid hO
                have KR := hid (HNK.out _ hB)
                have c0 := Go.Joins.cell_of_block KR.out 0
                simp only [List.getElem?_toArray, List.getElem?_cons_zero, List.getElem?_cons_succ] at c0
                have n3 := hN.cell (i := a) (by rw [HAL.out]; exact hlta)
                have hai : (a : Int) < (n : Int) := by omega
                clear hB hN hO
                by_cases hxS : x < S
                · obtain ⟨y, hy⟩ : ∃ y, y = Aw.getD a 0 := ⟨_, rfl⟩
                  have hyb := HAS.out.bd a
                  rw [← hy] at hyb n3
                  rcases Int.lt_or_le 0 y with hy0 | hy0
                  · obtain ⟨i, hi⟩ : ∃ i, i = a * S + x := ⟨_, rfl⟩
                    obtain ⟨b2, hb2⟩ : ∃ b2, b2 = i % n := ⟨_, rfl⟩
                    obtain ⟨tv, htv⟩ : ∃ tv, tv = tbl.getD i 0 := ⟨_, rfl⟩
                    have hin : i < n * S := by
                      have h3 : (a + 1) * S ≤ n * S := Nat.mul_le_mul_right _ hlta
                      rw [Nat.add_mul] at h3; omega
                    have hdiv : i / S = a := by rw [hi, Nat.add_comm, Nat.add_mul_div_right _ _ (by have := HSn.out.1.1; omega), Nat.div_eq_of_lt hxS, Nat.zero_add]
                    have hbn : b2 < n := by rw [hb2]; exact Nat.mod_lt _ (by omega)
                    obtain ⟨z, hz⟩ : ∃ z, z = (fwdL tbl S n c Aw i).getD b2 0 := ⟨_, rfl⟩
                    have hzb := (fwd_bd tbl S n (t := c) (by omega) (by decide) HAS.out.bd i (by omega)).1 b2
                    rw [← hz] at hzb
                    have hN243 : n * S ≤ 243 := Nat.le_trans (Nat.mul_le_mul HSn.out.2.2 HSn.out.1.2) (by decide)
                    have hi9 : (i : Int) * 3486784401 ≤ 243 * 3486784401 := Int.mul_le_mul_of_nonneg_right (by omega) (by decide)
                    have HW3 : Hid (IntKind.i64.wrap (z + y) = z + y) := by
                      have hw3 : wrap64 (z + y) = z + y := wrap_id (by omega) (by omega)
                      simp only [Hid]
                      rw [IntKind.wrap_i64]; unfold wrap64 at hw3; exact hw3
                    have HSU : Hid (a * S + (x + 1) = i + 1) := by simp only [Hid]; omega
                    have HKO : Hid (Rd.Own 2 wr bT (.slice (some ⟨bT, 0, none⟩) n n) (fwdL tbl S n c Aw i)) := by simp only [Hid]; rw [hi]; exact KO.out
                    have HFY : Hid (tv = c → fwdL tbl S n c Aw (i + 1) = (fwdL tbl S n c Aw i).set b2 (z + y)) := by
                      simp only [Hid]
                      intro e
                      show (if tbl.getD i 0 = c then updL (fwdL tbl S n c Aw i) (i % n) (Aw.getD (i / S) 0) else fwdL tbl S n c Aw i) = _
                      rw [if_pos (by rw [← htv]; exact e), hdiv, ← hb2, ← hy, hz]; rfl
                    have HFN : Hid (¬ tv = c → fwdL tbl S n c Aw (i + 1) = fwdL tbl S n c Aw i) := by
                      simp only [Hid]
                      intro e
                      show (if tbl.getD i 0 = c then updL (fwdL tbl S n c Aw i) (i % n) (Aw.getD (i / S) 0) else fwdL tbl S n c Aw i) = _
                      rw [if_neg (by rw [← htv]; exact e)]
                    have hPairs : Calls Try.prog 40 #[.pointer (some ⟨NR, 0, none⟩), .int .i64 (a : Int), .int .i64 (x : Int)] wr fun e w' => e = .returned (.tuple #[.int .i64 (b2 : Int), .int .i64 tv]) ∧ ∃ m, w' = wr.drewN m := by
                      rw [hb2, htv, hi]
                      exact pairs3 HK.out (HH.out.keep KB.out (Nat.le_refl _)) (Go.Joins.cell_of_block KR.out 0) (Go.Joins.cell_of_block KR.out 1) (Go.Joins.cell_of_block KR.out 2) hlta hxS
                    have HPr := hid hPairs
                    have HX1 : Hid (a < n ∧ x < S) := ⟨hlta, hxS⟩
                    have HBN := hid hbn
                    have HZ := hid hz
                    have HY := hid hy
                    clear hPairs hi hb2 htv hin hdiv hz hy hzb hyb hN243 hi9 KO hbn
                    go_wp2_with fail
                    go_at_call 40
                    refine HPr.out.mono ?_
                    rintro e w6 ⟨rfl, m, hm⟩
                    have bel : Below wr.heap.size wr w6 := by rw [hm]; exact Spec.below_drewN' _ _ _
                    have H1n := hid (HKO.out.keep bel)
                    have H2n := hid (KN.out.keep bel)
                    have KB6 := hid (KB.out.trans (bel.mono KB.out.size))
                    have y0 : w6.cell? ⟨bw, ow + k, none⟩ = some (.int .i64 c) := by rw [HCc.out]; exact (KB6.out.cell (p := ⟨bw, ow + k, none⟩) HCW.out.1).trans (HCW.out.2 k hlt)
                    clear hm bel c0 n3
                    by_cases hyt : tv = c
                    · have HFY2 := hid (HFY.out hyt)
                      subst hyt
                      have y1 := H1n.out.cell (i := b2) (by rw [fwd_len]; exact HBN.out)
                      rw [← HZ.out] at y1
                      have y2 := H1n.out.free b2
                      have y3 := H2n.out.cell (i := a) (by rw [HAL.out]; exact HX1.out.1)
                      rw [← HY.out] at y3
                      have hw3 := HW3.out
                      have hb2i : (b2 : Int) < (n : Int) := by have := HBN.out; omega
                      have hai : (a : Int) < (n : Int) := by omega
                      clear HFY HFN
                      go_upto_region 20 with fail
                      refine (wpIn_wide (n := 0)).1 ?_
                      refine wpIn_region_any (by kernel_rfl) ?_
                      (try (change wpAnyIn _ _ _ _ _ _ _ _ _ (World.drew _)))
                      (refine wpAnyIn_take (i := 0) (v := ?_) rfl rfl ?_ ?_ ?_ (fun _ _ _ h => h) ⟨Or.inl ⟨?_, ?_⟩, fun _ => rfl⟩ ?_; rotate_left 1; (focus kernel_rfl); (focus kernel_rfl); (focus kernel_rfl); (focus rfl); (focus (intro w; go_simp; (try (with_reducible rfl)); done)); (try simp only [Act.put, List.setIfInBounds_toArray, List.set_cons_zero, List.set_cons_succ, List.getElem_toArray, List.getElem_cons_succ, List.getElem_cons_zero]))
                      (refine wpAnyIn_take (i := 1) (v := ?_) rfl rfl ?_ ?_ ?_ (fun _ _ _ h => h) ⟨Or.inl ⟨?_, ?_⟩, fun _ => rfl⟩ ?_; rotate_left 1; (focus kernel_rfl); (focus kernel_rfl); (focus kernel_rfl); (focus rfl); (focus (intro w; go_simp; (try (with_reducible rfl)); done)); (try simp only [Act.put, List.setIfInBounds_toArray, List.set_cons_zero, List.set_cons_succ, List.getElem_toArray, List.getElem_cons_succ, List.getElem_cons_zero]))
                      (refine wpAnyIn_take (i := 2) (v := ?_) rfl rfl ?_ ?_ ?_ (fun _ _ _ h => h) ⟨Or.inl ⟨?_, ?_⟩, fun _ => rfl⟩ ?_; rotate_left 1; (focus kernel_rfl); (focus kernel_rfl); (focus kernel_rfl); (focus rfl); (focus (intro w; go_simp; (try (with_reducible rfl)); done)); (try simp only [Act.put, List.setIfInBounds_toArray, List.set_cons_zero, List.set_cons_succ, List.getElem_toArray, List.getElem_cons_succ, List.getElem_cons_zero]))
                      (refine wpAnyIn_take (i := 4) (v := ?_) rfl rfl ?_ ?_ ?_ (fun _ _ _ h => h) ⟨Or.inl ⟨?_, ?_⟩, fun _ => rfl⟩ ?_; rotate_left 1; (focus kernel_rfl); (focus kernel_rfl); (focus kernel_rfl); (focus rfl); (focus (intro w; go_simp; (try (with_reducible rfl)); done)); (try simp only [Act.put, List.setIfInBounds_toArray, List.set_cons_zero, List.set_cons_succ, List.getElem_toArray, List.getElem_cons_succ, List.getElem_cons_zero]))
                      (refine wpAnyIn_take (i := 5) (v := ?_) rfl rfl ?_ ?_ ?_ (fun _ _ _ h => h) ⟨Or.inl ⟨?_, ?_⟩, fun _ => rfl⟩ ?_; rotate_left 1; (focus kernel_rfl); (focus kernel_rfl); (focus kernel_rfl); (focus rfl); (focus (intro w; go_simp; (try (with_reducible rfl)); done)); (try simp only [Act.put, List.setIfInBounds_toArray, List.set_cons_zero, List.set_cons_succ, List.getElem_toArray, List.getElem_cons_succ, List.getElem_cons_zero]))
                      (refine wpAnyIn_take (i := 6) (v := ?_) rfl rfl ?_ ?_ ?_ (fun _ _ _ h => h) ⟨Or.inl ⟨?_, ?_⟩, fun _ => rfl⟩ ?_; rotate_left 1; (focus kernel_rfl); (focus kernel_rfl); (focus kernel_rfl); (focus rfl); (focus (intro w; go_simp; (try (with_reducible rfl)); done)); (try simp only [Act.put, List.setIfInBounds_toArray, List.set_cons_zero, List.set_cons_succ, List.getElem_toArray, List.getElem_cons_succ, List.getElem_cons_zero]))
                      refine wpAnyIn_ready (rs := [3, 7]) (by kernel_rfl) (by simp) (AllReadyIn.cons rfl (fun K hK => ?_) (AllReadyIn.cons rfl (fun K hK => ?_) AllReadyIn.nil))
                      · go_simp
                        refine hK _ _ ?_
                        clear hK K
                        (try simp only [Act.put, List.setIfInBounds_toArray, List.set_cons_zero, List.set_cons_succ, List.getElem_toArray, List.getElem_cons_succ, List.getElem_cons_zero])
                        refine wpAnyIn_ready (rs := [7]) (by kernel_rfl) (by simp) (AllReadyIn.cons rfl (fun K hK => ?_) AllReadyIn.nil)
                        go_simp
                        refine hK _ _ ?_
                        clear hK K
                        (try simp only [Act.put, List.setIfInBounds_toArray, List.set_cons_zero, List.set_cons_succ, List.getElem_toArray, List.getElem_cons_succ, List.getElem_cons_zero])
                        (refine wpAnyIn_take (i := 8) (v := ?_) rfl rfl ?_ ?_ ?_ (fun _ _ _ h => h) ⟨Or.inl ⟨?_, ?_⟩, fun _ => rfl⟩ ?_; rotate_left 1; (focus kernel_rfl); (focus kernel_rfl); (focus kernel_rfl); (focus rfl); (focus (intro w; go_simp; (try (with_reducible rfl)); done)); (try simp only [Act.put, List.setIfInBounds_toArray, List.set_cons_zero, List.set_cons_succ, List.getElem_toArray, List.getElem_cons_succ, List.getElem_cons_zero]))
                        (refine wpAnyIn_take (i := 9) (v := ?_) rfl rfl ?_ ?_ ?_ (fun _ _ _ h => h) ⟨Or.inl ⟨?_, ?_⟩, fun _ => rfl⟩ ?_; rotate_left 1; (focus kernel_rfl); (focus kernel_rfl); (focus kernel_rfl); (focus rfl); (focus (intro w; go_simp; (try (with_reducible rfl)); done)); (try simp only [Act.put, List.setIfInBounds_toArray, List.set_cons_zero, List.set_cons_succ, List.getElem_toArray, List.getElem_cons_succ, List.getElem_cons_zero]))
                        refine wpAnyIn_ready (rs := [10]) (by kernel_rfl) (by simp) (AllReadyIn.cons rfl (fun K hK => ?_) AllReadyIn.nil)
                        go_simp
                        refine hK _ _ ?_
                        clear hK K
                        (try simp only [Act.put, List.setIfInBounds_toArray, List.set_cons_zero, List.set_cons_succ, List.getElem_toArray, List.getElem_cons_succ, List.getElem_cons_zero])
                        refine wpAnyIn_done (by kernel_rfl) ?_ _
                        have oS := (H1n.out.set b2 (z + y)).keep (Go.Proofs.Ytjeoccjemkdbiaa.Help.below_drewN _ _ 1)
                        have nS := (Wbi.own_set H2n.out ⟨bT, b2, none⟩ (.int .i64 (z + y)) HNT.out).keep (Go.Proofs.Ytjeoccjemkdbiaa.Help.below_drewN _ _ 1)
                        have bS := (KB6.out.setCell (p := ⟨bT, b2, none⟩) HLO.out (.int .i64 (z + y))).trans (Go.Proofs.Ytjeoccjemkdbiaa.Help.below_drewN _ _ 1)
                        have HO : Hid (Rd.Own 2 ((w6.setCell ⟨bT, b2, none⟩ (.int .i64 (z + y))).drewN 1) bT (.slice (some ⟨bT, 0, none⟩) n n) (fwdL tbl S n tv Aw (a * S + (x + 1)))) := by simp only [Hid]; rw [HSU.out, HFY2.out]; exact oS
                        clear y0 y1 y2 y3 hw3 oS
                        go_wp2
                        go_roundw
                        case rel => exact ⟨x + 1, HX1.out.2, by go_num, bS, nS, HO.out⟩
                        case measure => have := HX1.out.2; simp [intOf]; omega
                      · go_simp
                        refine hK _ _ ?_
                        clear hK K
                        (try simp only [Act.put, List.setIfInBounds_toArray, List.set_cons_zero, List.set_cons_succ, List.getElem_toArray, List.getElem_cons_succ, List.getElem_cons_zero])
                        refine wpAnyIn_ready (rs := [3]) (by kernel_rfl) (by simp) (AllReadyIn.cons rfl (fun K hK => ?_) AllReadyIn.nil)
                        go_simp
                        refine hK _ _ ?_
                        clear hK K
                        (try simp only [Act.put, List.setIfInBounds_toArray, List.set_cons_zero, List.set_cons_succ, List.getElem_toArray, List.getElem_cons_succ, List.getElem_cons_zero])
                        (refine wpAnyIn_take (i := 8) (v := ?_) rfl rfl ?_ ?_ ?_ (fun _ _ _ h => h) ⟨Or.inl ⟨?_, ?_⟩, fun _ => rfl⟩ ?_; rotate_left 1; (focus kernel_rfl); (focus kernel_rfl); (focus kernel_rfl); (focus rfl); (focus (intro w; go_simp; (try (with_reducible rfl)); done)); (try simp only [Act.put, List.setIfInBounds_toArray, List.set_cons_zero, List.set_cons_succ, List.getElem_toArray, List.getElem_cons_succ, List.getElem_cons_zero]))
                        (refine wpAnyIn_take (i := 9) (v := ?_) rfl rfl ?_ ?_ ?_ (fun _ _ _ h => h) ⟨Or.inl ⟨?_, ?_⟩, fun _ => rfl⟩ ?_; rotate_left 1; (focus kernel_rfl); (focus kernel_rfl); (focus kernel_rfl); (focus rfl); (focus (intro w; go_simp; (try (with_reducible rfl)); done)); (try simp only [Act.put, List.setIfInBounds_toArray, List.set_cons_zero, List.set_cons_succ, List.getElem_toArray, List.getElem_cons_succ, List.getElem_cons_zero]))
                        refine wpAnyIn_ready (rs := [10]) (by kernel_rfl) (by simp) (AllReadyIn.cons rfl (fun K hK => ?_) AllReadyIn.nil)
                        go_simp
                        refine hK _ _ ?_
                        clear hK K
                        (try simp only [Act.put, List.setIfInBounds_toArray, List.set_cons_zero, List.set_cons_succ, List.getElem_toArray, List.getElem_cons_succ, List.getElem_cons_zero])
                        refine wpAnyIn_done (by kernel_rfl) ?_ _
                        have oS := (H1n.out.set b2 (z + y)).keep (Go.Proofs.Ytjeoccjemkdbiaa.Help.below_drewN _ _ 1)
                        have nS := (Wbi.own_set H2n.out ⟨bT, b2, none⟩ (.int .i64 (z + y)) HNT.out).keep (Go.Proofs.Ytjeoccjemkdbiaa.Help.below_drewN _ _ 1)
                        have bS := (KB6.out.setCell (p := ⟨bT, b2, none⟩) HLO.out (.int .i64 (z + y))).trans (Go.Proofs.Ytjeoccjemkdbiaa.Help.below_drewN _ _ 1)
                        have HO : Hid (Rd.Own 2 ((w6.setCell ⟨bT, b2, none⟩ (.int .i64 (z + y))).drewN 1) bT (.slice (some ⟨bT, 0, none⟩) n n) (fwdL tbl S n tv Aw (a * S + (x + 1)))) := by simp only [Hid]; rw [HSU.out, HFY2.out]; exact oS
                        clear y0 y1 y2 y3 hw3 oS
                        go_wp2
                        go_roundw
                        case rel => exact ⟨x + 1, HX1.out.2, by go_num, bS, nS, HO.out⟩
                        case measure => have := HX1.out.2; simp [intOf]; omega

                    · have hne : (tv == c) = false := by simpa using hyt
                      have HO : Hid (Rd.Own 2 w6 bT (.slice (some ⟨bT, 0, none⟩) n n) (fwdL tbl S n c Aw (a * S + (x + 1)))) := by
                        simp only [Hid]
                        rw [HSU.out, HFN.out hyt]; exact H1n.out
                      clear hyt
                      go_wp2
                      go_roundw
                      case rel => exact ⟨x + 1, HX1.out.2, by go_num, KB6.out, H2n.out, HO.out⟩
                      case measure => have := HX1.out.2; simp [intOf]; omega
                  · have hye : y = 0 := by omega
                    have HF : Hid (Rd.Own 2 wr bT (.slice (some ⟨bT, 0, none⟩) n n) (fwdL tbl S n c Aw ((a + 1) * S))) := by
                      have e1 := fwd_still (T := tbl) (n := n) (t := c) (S := S) (now := Aw) (a := a) (by omega) (by rw [← hy]; exact hye) x (by omega)
                      have e2 := fwd_still (T := tbl) (n := n) (t := c) (S := S) (now := Aw) (a := a) (by omega) (by rw [← hy]; exact hye) S (Nat.le_refl _)
                      simp only [Hid]
                      rw [Nat.add_mul, Nat.one_mul, e2, ← e1]
                      exact KO.out
                    have hyd : ¬ (0 : Int) < y := by omega
                    have hxSi : (x : Int) < (S : Int) := by omega
                    clear hye hy0 hyb KO hy
                    go_wp2
                    go_roundw
                    case rel => exact ⟨a + 1, by omega, by go_num, KB.out, KN.out, HF.out⟩
                    case measure => simp [intOf]; omega
                · have hxe : S = x := by omega
                  subst hxe
                  go_wp2
                  go_roundw
                  case rel => exact ⟨a + 1, by omega, by go_num, KB.out, KN.out, by rw [Nat.add_mul, Nat.one_mul]; exact KO.out⟩
                  case measure => simp [intOf]; omega
            · have han : n = a := by omega
              subst han
              have HF : Hid (Rd.Own 2 wr bT (.slice (some ⟨bT, 0, none⟩) n n) (fwds tbl S n (zs.take (k + 1)) (unitL n e))) := by simp only [Hid]; rw [← HNX.out]; exact KO.out
              clear KO
              go_wp2
              go_roundw
              case rel => exact ⟨k + 1, bT, hlt, by go_num, rfl, KB.out, HLO.out, HF.out⟩
              case measure => simp [intOf]; omega
        · have hkL : L = k := by omega
          subst hkL
          have hfe : fwds tbl S n (zs.take L) (unitL n e) = fwds tbl S n zs (unitL n e) := by rw [List.take_of_length_le (by have := HL.out; omega)]
          rw [hfe] at KO
          have hc1 := KO.out.cell (i := e) (by rw [fwds_len tbl S n _ _ (unit_len n e)]; exact HE.out)
          obtain ⟨Y, hY⟩ : ∃ Y, Y = wf tbl S n zs e := ⟨_, rfl⟩
          rw [show (fwds tbl S n zs (unitL n e)).getD e 0 = Y from hY.symm] at hc1
          have hx := gsum_lt e (fun j hj => wf_bd (T := tbl) (zs := zs) HSn.out.1.2 (by have := HSn.out; omega) (by have := HL.out; omega) (by have := HE.out; omega : 0 < n) (by have := HE.out; omega : j < n))
          have hy := wf_bd (T := tbl) (zs := zs) HSn.out.1.2 (by have := HSn.out; omega) (by have := HL.out; omega) (by have := HE.out; omega : 0 < n) HE.out
          rw [← HXe.out] at hx
          rw [← hY] at hy
          have hx2 : (e : Int) * 3486784401 ≤ 81 * 3486784401 := Int.mul_le_mul_of_nonneg_right (by have := HE.out; omega) (by decide)
          have hw3 : wrap64 (X + Y) = X + Y := wrap_id (by omega) (by omega)
          have HW3 := hid hw3
          have HNX : Hid (gsum (wf tbl S n zs) (e + 1) = X + Y) := by simp only [Hid]; rw [HXe.out, hY]; rfl
          clear hfe hx hy hx2 hY hlt KO
          go_wp2
          go_roundw
          case rel => exact ⟨e + 1, HE.out, by go_num, by rw [HNX.out]; exact congrArg _ HW3.out, KB.out⟩
          case measure => have := HE.out; simp [intOf]; omega
    · have hkn : n = e := by omega
      subst hkn
      rw [← HQ.out]
      go_wp2
      go_ret
      exact ⟨rfl, KB0.out⟩

theorem specNo {w : World} {s r : Int} {b bw : Nat} {v vw : Value} {tbl zs : List Int} (h : Rd w b v tbl) (hw : Rd w bw vw zs) (hv : backB s r tbl zs = false) :
    Calls Try.prog 17 #[ruleV s r v, vw] w fun e w' => e = .returned (.tuple #[.int .i64 0, .bool false]) ∧ Below w.heap.size w w' := by
  have HH := hid h
  have HW := hid hw
  have HF := hid hv
  obtain ⟨ao, cap, rfl, _, _, _⟩ := h
  clear hv
  go_enter Try.func17, Try.ntmps17
  go_wp2_with fail
  obtain ⟨w1, hW⟩ : ∃ x, x = w.alloc (Obj.cells #[.int .i64 s, .int .i64 r, (.slice ao tbl.length cap)] 28) := ⟨_, rfl⟩
  obtain ⟨NR, hN⟩ : ∃ x, x = w.heap.size := ⟨_, rfl⟩
  have HB1 : Hid (Below w.heap.size w w1) := by simp only [Hid]; rw [hW]; exact below1 _ _
  have kR : w1.heap[NR]? = some (Obj.cells #[.int .i64 s, .int .i64 r, (.slice ao tbl.length cap)] 28) := by rw [hW]; exact FNew.heap_top hN
  simp only [← hW, ← hN]
  clear hW hN
  go_at_call 46
  refine (l03Ring (HH.out.keep HB1.out (Nat.le_refl _)) (HW.out.keep HB1.out (Nat.le_refl _)) (Go.Joins.cell_of_block kR 0) (Go.Joins.cell_of_block kR 1) (Go.Joins.cell_of_block kR 2)).mono ?_
  rw [HF.out]
  rintro e w2 ⟨rfl, m, hm⟩
  have HZ : Hid (Below w.heap.size w w2) := by simp only [Hid]; rw [hm]; exact HB1.out.trans (Spec.below_drewN' _ _ _)
  clear hm kR
  go_wp2
  go_ret2
  exact ⟨rfl, HZ.out⟩

theorem specOk {w : World} {S n bt bw : Nat} {r : Int} {vt vw : Value} {tbl zs : List Int} (hk : Lk S n r tbl) (h : Rd w bt vt tbl) (hw : Rd w bw vw zs) (hv : backB (S : Int) r tbl zs = true) :
    Calls Try.prog 17 #[ruleV (S : Int) r vt, vw] w fun e w' => e = .returned (.tuple #[.int .i64 (gsum (wf tbl S n zs) n), .bool true]) ∧ Below w.heap.size w w' := by
  have HK := hid hk
  have HF := hid hv
  have HH := hid h
  have HW := hid hw
  obtain ⟨hS, hr, hn, hl, hn1⟩ := hk
  obtain ⟨ao, cap, rfl, hc, hm, h4⟩ := h
  obtain ⟨off, rfl, hb, hcell⟩ := h4 (by rw [hl]; exact Nat.mul_pos hn1.1 (by omega))
  have hL : 1 ≤ zs.length ∧ zs.length ≤ 16 := by
    unfold backB at hv
    rw [Bool.and_eq_true] at hv
    have h2 := of_decide_eq_true hv.2
    omega
  have HL := hid hL
  obtain ⟨N, hN⟩ : ∃ N, N = tbl.length := ⟨_, rfl⟩
  have HN := hid hN
  rw [← hN] at HH ⊢
  clear hv hS hr hn hl hn1 hc hm h4 hb hcell hN hL
  go_enter Try.func17, Try.ntmps17
  go_wp2_with fail
  obtain ⟨w1, hW⟩ : ∃ x, x = w.alloc (Obj.cells #[.int .i64 (S : Int), .int .i64 r, (.slice (some ⟨bt, off, none⟩) N cap)] 28) := ⟨_, rfl⟩
  obtain ⟨NR, hN⟩ : ∃ x, x = w.heap.size := ⟨_, rfl⟩
  have HB1 : Hid (Below w.heap.size w w1) := by simp only [Hid]; rw [hW]; exact below1 _ _
  have kR : w1.heap[NR]? = some (Obj.cells #[.int .i64 (S : Int), .int .i64 r, (.slice (some ⟨bt, off, none⟩) N cap)] 28) := by rw [hW]; exact FNew.heap_top hN
  simp only [← hW, ← hN]
  clear hW hN
  go_at_call 46
  refine (l03Ring (HH.out.keep HB1.out (Nat.le_refl _)) (HW.out.keep HB1.out (Nat.le_refl _)) (Go.Joins.cell_of_block kR 0) (Go.Joins.cell_of_block kR 1) (Go.Joins.cell_of_block kR 2)).mono ?_
  rw [HF.out]
  rintro e w2 ⟨rfl, m, hm⟩
  have bel : Below w1.heap.size w1 w2 := by rw [hm]; exact Spec.below_drewN' _ _ _
  have KR := hid (Box.heap_keep bel kR)
  have HB2 := hid (HB1.out.trans (bel.mono HB1.out.size))
  clear bel hm kR
  go_wp2_with fail
  go_at_call 47
  refine (l03Count HK.out HN.out (HH.out.keep HB2.out (Nat.le_refl _)) (HW.out.keep HB2.out (Nat.le_refl _)) HL.out KR.out).mono ?_
  rintro e w3 ⟨rfl, bel⟩
  have HB3 := hid (HB2.out.trans (bel.mono HB2.out.size))
  clear bel
  go_wp2
  go_ret2
  exact ⟨rfl, HB3.out⟩

theorem agree (s r : Int) (tbl zs : List Int) : ∃ (q0 : Int) (q1 : Bool),
    (∀ (w : World) (b : Nat) (v : Value), Rd w b v tbl → ∀ (bw : Nat) (vw : Value), Rd w bw vw zs → Calls Try.prog 17 #[ruleV s r v, vw] w fun e w' => e = .returned (.tuple #[.int .i64 q0, .bool q1]) ∧ Below w.heap.size w w') ∧
    (∀ (w : World) (b : Nat) (v : Value), Rd w b v tbl → ∀ (bw : Nat) (vw : Value), Rd w bw vw zs → Calls Try.prog 18 #[ruleV s r v, vw] w fun e w' => e = .returned (.tuple #[.int .i64 q0, .bool q1]) ∧ Below w.heap.size w w') := by
  cases hv : backB s r tbl zs with
  | true =>
    have hval : validB s r tbl = true := by
      unfold backB fitB at hv
      rw [Bool.and_eq_true, Bool.and_eq_true] at hv
      exact hv.1.1
    obtain ⟨S, n, rfl, hk, _⟩ := lk_of hval
    refine ⟨gsum (wf tbl S n zs) n, true, fun w b v h bw vw hw => specOk hk h hw hv, fun w b v h bw vw hw => ?_⟩
    have e : gsum (wf tbl S n zs) n = gsum (wb tbl S n zs) n := (tr_bwd tbl S n (by obtain ⟨_, _, _, _, h5⟩ := hk; omega) zs).symm
    rw [e]
    exact implOk hk h hw hv
  | false => exact ⟨0, false, fun w b v h bw vw hw => specNo h hw hv, fun w b v h bw vw hw => implNo h hw hv⟩
end Go.Proofs.Ytjeoccjemkdbiaa.Cbs
