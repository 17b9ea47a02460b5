/- The sum of turns of a ring: both sides. -/
import Derived.Test.YtonghkooncmjgaaSpec
import Derived.Test.YtonghkooncmjgaaFNew
import Derived.WalkKit
import Derived.IntWalk
import Derived.StillTailTactics
namespace Go.Proofs.Ytonghkooncmjgaa.Aro
open Go.RowKit Go.Proofs.Ytonghkooncmjgaa.Rd Go.Proofs.Ytonghkooncmjgaa.Help Go.Proofs.Ytonghkooncmjgaa.Ring Go.Proofs.Ytonghkooncmjgaa.Small Go.Proofs.Ytonghkooncmjgaa.Keep
set_option linter.unusedVariables false
set_option linter.unusedSimpArgs false

def pt (zs : List Int) (n d i : Nat) (o x : Int) : List Int := zs.set ((i + d) % n) (IntKind.i64.wrap (zs.getD ((i + d) % n) 0 + IntKind.i64.wrap (x * o)))
def inn (xs : List Int) (n d : Nat) (o : Int) (zs : List Int) : Nat → List Int
  | 0 => zs
  | k + 1 => pt (inn xs n d o zs k) n d k o (xs.getD k 0)
def ouL (xs ys : List Int) (n : Nat) : Nat → List Int
  | 0 => List.replicate n 0
  | m + 1 => inn xs n m (ys.getD m 0) (ouL xs ys n m) n
def md (zs : List Int) (S : Int) : Nat → List Int
  | 0 => zs
  | k + 1 => (md zs S k).set k ((zs.getD k 0).tmod S)
def aro (xs ys : List Int) (n : Nat) (S : Int) : List Int := md (ouL xs ys n n) S n
theorem inn_len (xs : List Int) (n d : Nat) (o : Int) (zs : List Int) (k : Nat) : (inn xs n d o zs k).length = zs.length := by
  induction k with
  | zero => rfl
  | succ k ih => simp [inn, pt, ih]
theorem ou_len (xs ys : List Int) (n m : Nat) : (ouL xs ys n m).length = n := by
  induction m with
  | zero => simp [ouL]
  | succ m ih => simp [ouL, inn_len, ih]
theorem md_len (zs : List Int) (S : Int) (k : Nat) : (md zs S k).length = zs.length := by
  induction k with
  | zero => rfl
  | succ k ih => simp [md, ih]
theorem aro_len (xs ys : List Int) (n : Nat) (S : Int) : (aro xs ys n S).length = n := by unfold aro; rw [md_len, ou_len]
theorem md_get (zs : List Int) (S : Int) (k : Nat) : ∀ j, k ≤ j → (md zs S k).getD j 0 = zs.getD j 0 := by
  induction k with
  | zero => intro j _; rfl
  | succ k ih =>
    intro j hj
    have := ih j (by omega)
    rw [List.getD_eq_getElem?_getD] at this ⊢
    simp only [md]
    rw [List.getElem?_set_ne (by omega)]
    exact this
def R64 (zs : List Int) : Prop := ∀ j, j < zs.length → -9223372036854775808 ≤ zs.getD j 0 ∧ zs.getD j 0 ≤ 9223372036854775807
theorem wr_bd (x : Int) : -9223372036854775808 ≤ IntKind.i64.wrap x ∧ IntKind.i64.wrap x ≤ 9223372036854775807 := by
  rw [IntKind.wrap_i64]; omega
theorem wr {x : Int} (h1 : -9223372036854775808 ≤ x) (h2 : x ≤ 9223372036854775807) : IntKind.i64.wrap x = x := by
  rw [IntKind.wrap_i64]; omega
theorem wr64 (x : Int) : wrap64 x = IntKind.i64.wrap x := by rw [IntKind.wrap_i64]; unfold wrap64; omega
theorem pt_R (zs : List Int) (n d i : Nat) (o x : Int) (h : R64 zs) : R64 (pt zs n d i o x) := by
  intro j hj
  simp only [pt, List.length_set] at hj
  have h1 := h j hj
  rw [List.getD_eq_getElem?_getD] at h1 ⊢
  unfold pt
  by_cases e : (i + d) % n = j
  · subst e
    rw [List.getElem?_set_self hj]
    exact wr_bd _
  · rw [List.getElem?_set_ne e]; exact h1
theorem inn_R (xs : List Int) (n d : Nat) (o : Int) (zs : List Int) (h : R64 zs) (k : Nat) : R64 (inn xs n d o zs k) := by
  induction k with
  | zero => exact h
  | succ k ih => exact pt_R _ _ _ _ _ _ ih
theorem ou_R (xs ys : List Int) (n m : Nat) : R64 (ouL xs ys n m) := by
  induction m with
  | zero =>
    intro j hj
    simp only [ouL, List.length_replicate] at hj ⊢
    rw [List.getD_eq_getElem?_getD, List.getElem?_replicate, if_pos hj]; simp
  | succ m ih => exact inn_R _ _ _ _ _ ih _
theorem pt_zero (zs : List Int) (n d i : Nat) (x : Int) (h : R64 zs) : pt zs n d i 0 x = zs := by
  unfold pt
  rw [Int.mul_zero, show IntKind.i64.wrap 0 = 0 from wr (by omega) (by omega), Int.add_zero]
  by_cases hj : (i + d) % n < zs.length
  · have h1 := h _ hj
    rw [wr h1.1 h1.2, List.getD_eq_getElem?_getD, List.getElem?_eq_getElem hj]
    simp
  · rw [List.set_eq_of_length_le (by omega)]
theorem inn_zero (xs : List Int) (n d : Nat) (zs : List Int) (h : R64 zs) (k : Nat) : inn xs n d 0 zs k = zs := by
  induction k with
  | zero => rfl
  | succ k ih => simp only [inn]; rw [ih, pt_zero _ _ _ _ _ h]
set_option maxRecDepth 100000 in
set_option maxHeartbeats 8000000 in
theorem spec {w : World} {b1 b2 : Nat} {v1 v2 : Value} {xs ys : List Int} {n : Nat} {S : Int} (h1 : Rd w b1 v1 xs) (h2 : Rd w b2 v2 ys) (hx : xs.length = n) (hy : ys.length = n) (hn : 1 ≤ n ∧ n ≤ 64) (hS : 2 ≤ S ∧ S ≤ 3) :
    Calls Try.prog 116 #[v1, v2, .int .i64 S] w fun e w' => ∃ b', e = .returned (.slice (some ⟨b', 0, none⟩) n n) ∧
      Own 2 w' b' (.slice (some ⟨b', 0, none⟩) n n) (aro xs ys n S) ∧ w.heap.size ≤ b' ∧ Below w.heap.size w w' := by
  have hmk := run_make_row' (P := Try.prog) 22 2 (.int .i64 0) 8 Try.underlying22 infoI rfl .i64 .i64 n (by omega) (by omega)
  obtain ⟨ao1, cap1, rfl, hc1, hm1, k1⟩ := h1
  obtain ⟨ao2, cap2, rfl, hc2, hm2, k2⟩ := h2
  obtain ⟨off1, rfl, hb1, cx⟩ := k1 (by omega)
  obtain ⟨off2, rfl, hb2, cy⟩ := k2 (by omega)
  rw [hx] at hc1 cx ⊢
  rw [hy] at hc2 cy ⊢
  unfold maxLen at hm1 hm2
  have HX := hid cx
  have HY := hid cy
  obtain ⟨n1, n2⟩ := hn
  obtain ⟨s1, s2⟩ := hS
  clear k1 k2 hx hy cx cy
  go_enter Try.func116, Try.ntmps116
  go_wp2
  go_loopw [9, 18] (fun _ t wr => ∃ m : Nat, m ≤ n ∧ t = .int .i64 m ∧ Own 2 wr w.heap.size (Value.slice (some ⟨w.heap.size, 0, none⟩) n n) (ouL xs ys n m) ∧ Below w.heap.size w wr) (fun _ t _ => n - (intOf t).toNat)
  case atStart => exact ⟨0, Nat.zero_le _, rfl, by simpa [ouL] using Own.made 2 w n (by unfold maxLen; omega), (Below.refl _ _).alloc (Nat.le_refl _) _⟩
  case round =>
    obtain ⟨m, hm, rfl, hown, hbel⟩ := hrel
    by_cases hltm : m < n
    · obtain ⟨o, ho⟩ : ∃ o, o = ys.getD m 0 := ⟨_, rfl⟩
      have hcy : wr.cell? ⟨b2, off2 + m, none⟩ = some (.int .i64 o) := by rw [ho]; exact (hbel.cell (p := ⟨b2, off2 + m, none⟩) hb2).trans (HY.out m hltm)
      have HO := hid ho
      have HO1 := hid hown
      have HB := hid hbel
      clear ho hown hbel
      go_wp2
      clear hcy
      go_loopw [10] (fun k wx => ∃ q : Nat, q ≤ n ∧ k = .int .i64 q ∧ (o = 0 → q = 0) ∧ Own 2 wx w.heap.size (Value.slice (some ⟨w.heap.size, 0, none⟩) n n) (inn xs n m o (ouL xs ys n m) q) ∧ Below w.heap.size w wx) (fun k _ => n - (intOf k).toNat)
      case atStart => exact ⟨0, Nat.zero_le _, rfl, fun _ => rfl, HO1.out, HB.out⟩
      case round =>
        clear HO1 HB
        obtain ⟨q, hq, rfl, hz, hown, hbel⟩ := hrel
        by_cases hltq : q < n
        · obtain ⟨x, hx⟩ : ∃ x, x = xs.getD q 0 := ⟨_, rfl⟩
          obtain ⟨j, hj⟩ : ∃ j, j = (q + m) % n := ⟨_, rfl⟩
          have hjn : j < n := by rw [hj]; exact Nat.mod_lt _ (by omega)
          have hcx : wr.cell? ⟨b1, off1 + q, none⟩ = some (.int .i64 x) := by rw [hx]; exact (hbel.cell (p := ⟨b1, off1 + q, none⟩) hb1).trans (HX.out q hltq)
          have hcy : wr.cell? ⟨b2, off2 + m, none⟩ = some (.int .i64 o) := by rw [HO.out]; exact (hbel.cell (p := ⟨b2, off2 + m, none⟩) hb2).trans (HY.out m hltm)
          have hmod : ((q : Int) + (m : Int)).tmod n = (j : Int) := by rw [Int.tmod_eq_emod_of_nonneg (by omega), hj]; simp
          have hox := hown.cell (i := j) (by rw [inn_len, ou_len]; exact hjn)
          have hof := hown.free j
          obtain ⟨Z, hZ⟩ : ∃ Z, Z = (inn xs n m o (ouL xs ys n m) q).getD j 0 := ⟨_, rfl⟩
          rw [← hZ] at hox
          have e1 : IntKind.i64.wrap ((q : Int) + (m : Int)) = (q : Int) + (m : Int) := Aro.wr (by omega) (by omega)
          have HZ := hid hZ
          have HJ := hid hj
          have HXQ := hid hx
          have HO1 := hid hown
          have HB1 := hid hbel
          clear hx hj hZ hown hbel
          by_cases ho0 : o = 0
          · have hq0 := hz ho0
            have hne : (o != 0) = false := by simp [ho0]
            have HF : Hid (Own 2 wr w.heap.size (Value.slice (some ⟨w.heap.size, 0, none⟩) n n) (ouL xs ys n (m + 1))) := by
              have h := HO1.out
              simp only [Hid, ouL]
              rw [← HO.out, ho0, inn_zero _ _ _ _ (ou_R _ _ _ _)]
              rw [ho0, inn_zero _ _ _ _ (ou_R _ _ _ _)] at h
              exact h
            clear hmod e1 hox hof hcx HO1
            go_wp2
            go_roundw
            case rel => exact ⟨m + 1, by omega, by go_num, HF.out, HB1.out⟩
            case measure => simp [intOf]; omega
          have hne : (o != 0) = true := by simp [ho0]
          have hn0 : ¬ (n : Int) = 0 := by omega
          have hn00 : ¬ n = 0 := by omega
          go_wp2_with fail
          go_still_tail 19, (by kernel_rfl)
          change wpList _ _ _ _ _ wr.drew
          have hoxd : wr.drew.cell? ⟨w.heap.size, j, none⟩ = some (.int .i64 Z) := hox
          have hofd : wr.drew.frozen? ⟨w.heap.size, j, none⟩ = false := hof
          obtain ⟨wd, hwd⟩ : ∃ wd, wd = wr.drew := ⟨_, rfl⟩
          have HB2 : Hid (Below w.heap.size w wd) := by rw [hwd]; exact HB1.out.drew
          have HO2 : Hid (Own 2 wd w.heap.size (Value.slice (some ⟨w.heap.size, 0, none⟩) n n) (inn xs n m o (ouL xs ys n m) q)) := by rw [hwd]; exact HO1.out
          rw [← hwd] at hoxd hofd ⊢
          clear hwd hox hof hcx hcy
          go_wp2
          go_roundw
          case rel =>
            refine ⟨q + 1, by omega, by go_num, fun h => absurd h ho0, ?_, HB2.out.setCell (Nat.le_refl _) _⟩
            have := HO2.out.set j (IntKind.i64.wrap (Z + IntKind.i64.wrap (x * o)))
            simp only [inn, pt]
            rw [← HXQ.out, ← HJ.out, ← HZ.out]
            simp only [wr64]
            exact this
          case measure => simp [intOf]; omega
        · have hqn : q = n := by omega
          have HF : Hid (Own 2 wr w.heap.size (Value.slice (some ⟨w.heap.size, 0, none⟩) n n) (ouL xs ys n (m + 1))) := by simp only [Hid, ouL]; rw [← HO.out, ← hqn]; rw [hqn] at hown; rw [hqn]; exact hown
          have HB2 := hid hbel
          clear hown hbel
          go_wp2
          go_roundw
          case rel => exact ⟨m + 1, by omega, by go_num, HF.out, HB2.out⟩
          case measure => simp [intOf]; omega
    · have hmn : n = m := by omega
      subst hmn
      have HO1 := hid hown
      have HB := hid hbel
      clear hown hbel
      go_wp2
      go_loopw [11, 55] (fun _ t wr => ∃ k : Nat, k ≤ n ∧ t = .int .i64 k ∧ Own 2 wr w.heap.size (Value.slice (some ⟨w.heap.size, 0, none⟩) n n) (md (ouL xs ys n n) S k) ∧ Below w.heap.size w wr) (fun _ t _ => n - (intOf t).toNat)
      case atStart => exact ⟨0, Nat.zero_le _, rfl, HO1.out, HB.out⟩
      case round =>
        clear HO1 HB
        obtain ⟨k, hk, rfl, hown, hbel⟩ := hrel
        by_cases hlt : k < n
        · have hox := hown.cell (i := k) (by rw [md_len, ou_len]; exact hlt)
          have hof := hown.free k
          rw [md_get _ _ _ _ (Nat.le_refl k)] at hox
          have HO2 := hid hown
          have HB2 := hid hbel
          obtain ⟨X, hX⟩ : ∃ X, X = (ouL xs ys n n).getD k 0 := ⟨_, rfl⟩
          rw [← hX] at hox
          have HXX := hid hX
          clear hown hbel hX
          go_wp2
          go_roundw
          case rel =>
            refine ⟨k + 1, by omega, by go_num, ?_, HB2.out.setCell (Nat.le_refl _) _⟩
            simp only [md]
            rw [← HXX.out]
            exact HO2.out.set k _
          case measure => simp [intOf]; omega
        · have hkn : n = k := by omega
          subst hkn
          go_wp2
          go_ret
          exact ⟨_, rfl, hown, Nat.le_refl _, hbel⟩

set_option maxRecDepth 100000 in
set_option maxHeartbeats 8000000 in
theorem impl {w : World} {b1 b2 : Nat} {v1 v2 : Value} {xs ys : List Int} {n : Nat} {S : Int} (h1 : Rd w b1 v1 xs) (h2 : Rd w b2 v2 ys) (hx : xs.length = n) (hy : ys.length = n) (hn : 1 ≤ n ∧ n ≤ 64) (hS : 2 ≤ S ∧ S ≤ 3) :
    Calls Try.prog 123 #[v1, v2, .int .i64 S] w fun e w' => ∃ b', e = .returned (.slice (some ⟨b', 0, none⟩) n n) ∧
      Own 2 w' b' (.slice (some ⟨b', 0, none⟩) n n) (aro xs ys n S) ∧ w.heap.size ≤ b' ∧ Below w.heap.size w w' := by
  have hmk := run_make_row' (P := Try.prog) 22 2 (.int .i64 0) 8 Try.underlying22 infoI rfl .i64 .i64 n (by omega) (by omega)
  obtain ⟨ao1, cap1, rfl, hc1, hm1, k1⟩ := h1
  obtain ⟨ao2, cap2, rfl, hc2, hm2, k2⟩ := h2
  obtain ⟨off1, rfl, hb1, cx⟩ := k1 (by omega)
  obtain ⟨off2, rfl, hb2, cy⟩ := k2 (by omega)
  rw [hx] at hc1 cx ⊢
  rw [hy] at hc2 cy ⊢
  unfold maxLen at hm1 hm2
  have HX := hid cx
  have HY := hid cy
  obtain ⟨n1, n2⟩ := hn
  obtain ⟨s1, s2⟩ := hS
  clear k1 k2 hx hy cx cy
  go_enter Try.func123, Try.ntmps123
  go_wp2
  go_loopw [8, 9, 18] (fun _ _ t wr => ∃ m : Nat, m ≤ n ∧ t = .int .i64 m ∧ Own 2 wr w.heap.size (Value.slice (some ⟨w.heap.size, 0, none⟩) n n) (ouL xs ys n m) ∧ Below w.heap.size w wr) (fun _ _ t _ => n - (intOf t).toNat)
  case atStart => exact ⟨0, Nat.zero_le _, rfl, by simpa [ouL] using Own.made 2 w n (by unfold maxLen; omega), (Below.refl _ _).alloc (Nat.le_refl _) _⟩
  case round =>
    obtain ⟨m, hm, rfl, hown, hbel⟩ := hrel
    by_cases hltm : m < n
    · obtain ⟨o, ho⟩ : ∃ o, o = ys.getD m 0 := ⟨_, rfl⟩
      have hcy : wr.cell? ⟨b2, off2 + m, none⟩ = some (.int .i64 o) := by rw [ho]; exact (hbel.cell (p := ⟨b2, off2 + m, none⟩) hb2).trans (HY.out m hltm)
      have HO := hid ho
      have HO1 := hid hown
      have HB := hid hbel
      clear ho hown hbel
      go_wp2
      clear hcy
      go_loopw [10, 11, 25] (fun _ _ k wx => ∃ q : Nat, q ≤ n ∧ k = .int .i64 q ∧ Own 2 wx w.heap.size (Value.slice (some ⟨w.heap.size, 0, none⟩) n n) (inn xs n m o (ouL xs ys n m) q) ∧ Below w.heap.size w wx) (fun _ _ k _ => n - (intOf k).toNat)
      case atStart => exact ⟨0, Nat.zero_le _, rfl, HO1.out, HB.out⟩
      case round =>
        clear HO1 HB
        obtain ⟨q, hq, rfl, hown, hbel⟩ := hrel
        by_cases hltq : q < n
        · obtain ⟨x, hx⟩ : ∃ x, x = xs.getD q 0 := ⟨_, rfl⟩
          obtain ⟨j, hj⟩ : ∃ j, j = (q + m) % n := ⟨_, rfl⟩
          have hjn : j < n := by rw [hj]; exact Nat.mod_lt _ (by omega)
          have hcx : wr.cell? ⟨b1, off1 + q, none⟩ = some (.int .i64 x) := by rw [hx]; exact (hbel.cell (p := ⟨b1, off1 + q, none⟩) hb1).trans (HX.out q hltq)
          have hcy : wr.cell? ⟨b2, off2 + m, none⟩ = some (.int .i64 o) := by rw [HO.out]; exact (hbel.cell (p := ⟨b2, off2 + m, none⟩) hb2).trans (HY.out m hltm)
          have hmod : ((q : Int) + (m : Int)).tmod n = (j : Int) := by rw [Int.tmod_eq_emod_of_nonneg (by omega), hj]; simp
          have hox := hown.cell (i := j) (by rw [inn_len, ou_len]; exact hjn)
          have hof := hown.free j
          obtain ⟨Z, hZ⟩ : ∃ Z, Z = (inn xs n m o (ouL xs ys n m) q).getD j 0 := ⟨_, rfl⟩
          rw [← hZ] at hox
          have e1 : IntKind.i64.wrap ((q : Int) + (m : Int)) = (q : Int) + (m : Int) := Aro.wr (by omega) (by omega)
          have HZ := hid hZ
          have HJ := hid hj
          have HXQ := hid hx
          have HO1 := hid hown
          have HB1 := hid hbel
          clear hx hj hZ hown hbel
          clear hcy
          go_wp2
          have HB2 := HB1
          have HO2 := HO1
          rw [Int.mul_comm o x]
          go_roundw
          case rel =>
            refine ⟨q + 1, by omega, by go_num, ?_, HB2.out.setCell (Nat.le_refl _) _⟩
            have := HO2.out.set j (IntKind.i64.wrap (Z + IntKind.i64.wrap (x * o)))
            simp only [inn, pt]
            rw [← HXQ.out, ← HJ.out, ← HZ.out]
            simp only [wr64]
            exact this
          case measure => simp [intOf]; omega
        · have hqn : q = n := by omega
          have HF : Hid (Own 2 wr w.heap.size (Value.slice (some ⟨w.heap.size, 0, none⟩) n n) (ouL xs ys n (m + 1))) := by simp only [Hid, ouL]; rw [← HO.out, ← hqn]; rw [hqn] at hown; rw [hqn]; exact hown
          have HB2 := hid hbel
          clear hown hbel
          go_wp2
          go_roundw
          case rel => exact ⟨m + 1, by omega, by go_num, HF.out, HB2.out⟩
          case measure => simp [intOf]; omega
    · have hmn : n = m := by omega
      subst hmn
      have HO1 := hid hown
      have HB := hid hbel
      clear hown hbel
      go_wp2
      go_loopw [12, 48] (fun _ t wr => ∃ k : Nat, k ≤ n ∧ t = .int .i64 k ∧ Own 2 wr w.heap.size (Value.slice (some ⟨w.heap.size, 0, none⟩) n n) (md (ouL xs ys n n) S k) ∧ Below w.heap.size w wr) (fun _ t _ => n - (intOf t).toNat)
      case atStart => exact ⟨0, Nat.zero_le _, rfl, HO1.out, HB.out⟩
      case round =>
        clear HO1 HB
        obtain ⟨k, hk, rfl, hown, hbel⟩ := hrel
        by_cases hlt : k < n
        · have hox := hown.cell (i := k) (by rw [md_len, ou_len]; exact hlt)
          have hof := hown.free k
          rw [md_get _ _ _ _ (Nat.le_refl k)] at hox
          have HO2 := hid hown
          have HB2 := hid hbel
          obtain ⟨X, hX⟩ : ∃ X, X = (ouL xs ys n n).getD k 0 := ⟨_, rfl⟩
          rw [← hX] at hox
          have HXX := hid hX
          clear hown hbel hX
          go_wp2
          go_roundw
          case rel =>
            refine ⟨k + 1, by omega, by go_num, ?_, HB2.out.setCell (Nat.le_refl _) _⟩
            simp only [md]
            rw [← HXX.out]
            exact HO2.out.set k _
          case measure => simp [intOf]; omega
        · have hkn : n = k := by omega
          subst hkn
          go_wp2
          go_ret
          exact ⟨_, rfl, hown, Nat.le_refl _, hbel⟩

end Go.Proofs.Ytonghkooncmjgaa.Aro
