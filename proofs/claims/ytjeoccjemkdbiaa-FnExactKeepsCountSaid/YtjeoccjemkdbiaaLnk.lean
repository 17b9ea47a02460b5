/- Neighbourhoods that join ends: the ends, the model's pairs. -/
import Derived.Test.YtjeoccjemkdbiaaLnkP
import Derived.Test.YtjeoccjemkdbiaaTerms
import Derived.Test.YtjeoccjemkdbiaaFSpec
namespace Go.Proofs.Ytjeoccjemkdbiaa.Lnk
open Go.RowKit Go.Proofs.Ytjeoccjemkdbiaa.Rd Go.Proofs.Ytjeoccjemkdbiaa.Help Go.Proofs.Ytjeoccjemkdbiaa.Ring Go.Proofs.Ytjeoccjemkdbiaa.Small Go.Proofs.Ytjeoccjemkdbiaa.Num Go.Proofs.Ytjeoccjemkdbiaa.Keep Go.Proofs.Ytjeoccjemkdbiaa.Rule Go.Proofs.Ytjeoccjemkdbiaa.LnkP
set_option linter.unusedVariables false
set_option linter.unusedSimpArgs false

theorem ends3 {w : World} {g : Nat} {s r : Int} (c0 : w.cell? ⟨g, 0, none⟩ = some (.int .i64 s)) (c1 : w.cell? ⟨g, 1, none⟩ = some (.int .i64 r)) (hs : 2 ≤ s ∧ s ≤ 3) (hr : 0 ≤ r ∧ r ≤ 2) :
    Calls Try.prog 39 #[.pointer (some ⟨g, 0, none⟩)] w fun e w' => e = .returned (.int .i64 (s ^ (2 * r).toNat)) ∧ ∃ m, w' = w.drewN m := by
  obtain ⟨k, hk⟩ : ∃ k : Nat, 2 * r = k := ⟨(2 * r).toNat, by omega⟩
  have hk4 : k ≤ 4 := by omega
  obtain ⟨P, hP⟩ : ∃ P, P = s ^ k := ⟨_, rfl⟩
  have hw : ∀ m, Calls Try.prog 55 #[.pointer (some ⟨g, 0, none⟩)] (w.drewN m) fun e w' => e = .returned (.int .i64 ((k : Int) + 1)) ∧ w' = w.drewN m := fun m => by
    refine (Terms.wide3 (show (w.drewN m).cell? ⟨g, 1, none⟩ = some (.int .i64 r) from c1) hr).mono ?_
    rintro e w' ⟨rfl, rfl⟩
    exact ⟨by rw [hk], rfl⟩
  have hp : ∀ m, Calls Try.prog 26 #[.int .i64 s, .int .i64 k] (w.drewN m) fun e w' => e = .returned (.int .i64 P) ∧ w' = w.drewN m := fun m => by
    refine (Terms.power3 hs (by omega)).mono ?_
    rintro e w' ⟨rfl, rfl⟩
    exact ⟨by rw [hP], rfl⟩
  have HP : Hid (s ^ (2 * r).toNat = P) := by simp only [Hid]; rw [hk, hP]; simp
  rw [HP.out]
  have HW := hid hw
  have HPw := hid hp
  clear hw hp hP hk c1 hs hr
  go_enter Try.func39, Try.ntmps39
  go_wp2_with fail
  go_quiet (first | (go_at_call 55; refine Calls.quiet_of_same (HW.out _)) | (go_at_call 26; refine Calls.quiet_of_same (HPw.out _)))
  go_wp2
  go_ret
  exact ⟨rfl, _, rfl⟩

theorem ends {w : World} {s r : Int} (hs : 2 ≤ s ∧ s ≤ 3) (hr : 0 ≤ r ∧ r ≤ 2) :
    Calls Try.prog 42 #[shapeV s r] w fun e w' => e = .returned (.int .i64 (s ^ (2 * r).toNat)) ∧ Below w.heap.size w w' := by
  have HS := hid hs
  obtain ⟨r1, r2⟩ := hr
  clear hs
  go_enter Try.func42, Try.ntmps42
  go_wp2_with fail
  go_at_call 61
  refine (implPowerI HS.out (by omega)).mono ?_
  rintro e w' ⟨rfl, rfl⟩
  go_wp2
  go_ret
  exact ⟨rfl, below1 _ _⟩

/-- A rule whose neighbourhoods join n ends. -/
def Lk (S n : Nat) (r : Int) (tbl : List Int) : Prop := (2 ≤ S ∧ S ≤ 3) ∧ (0 ≤ r ∧ r ≤ 2) ∧ (n : Int) = (S : Int) ^ (2 * r).toNat ∧ tbl.length = n * S ∧ (1 ≤ n ∧ n ≤ 81)
theorem lk_of {s r : Int} {tbl : List Int} (h : validB s r tbl = true) : ∃ S n : Nat, s = (S : Int) ∧ Lk S n r tbl ∧ allB tbl s = true := by
  obtain ⟨hs, hr, hl, ha⟩ := Al.valid_parts h
  have key : ∀ (k : Nat) (N : Int) (M : Nat), (2 * r).toNat = k → s ^ k = N → N = (M : Int) → 1 ≤ M → M ≤ 81 → (2 * r + 1).toNat = k + 1 → ∃ S n : Nat, s = (S : Int) ∧ Lk S n r tbl ∧ allB tbl s = true := by
    intro k N M h1 h2 h3 h4 h5 h6
    have e : ((s.toNat : Nat) : Int) = s := by omega
    refine ⟨s.toNat, M, e.symm, ⟨by omega, hr, ?_, ?_, h4, h5⟩, ha⟩
    · rw [e, h1, h2, h3]
    · rw [h6, Int.pow_succ, h2, h3, ← e] at hl
      rw [← Int.natCast_mul] at hl
      exact Int.ofNat.inj hl
  have hr' : r = 0 ∨ r = 1 ∨ r = 2 := by omega
  have hs' : s = 2 ∨ s = 3 := by omega
  rcases hr' with rfl | rfl | rfl <;> rcases hs' with rfl | rfl
  · exact key 0 1 1 rfl rfl rfl (by decide) (by decide) rfl
  · exact key 0 1 1 rfl rfl rfl (by decide) (by decide) rfl
  · exact key 2 4 4 rfl rfl rfl (by decide) (by decide) rfl
  · exact key 2 9 9 rfl rfl rfl (by decide) (by decide) rfl
  · exact key 4 16 16 rfl rfl rfl (by decide) (by decide) rfl
  · exact key 4 81 81 rfl rfl rfl (by decide) (by decide) rfl
theorem nz {n : Nat} (h : 1 ≤ n) : ¬ (n : Int) = 0 := by omega
theorem np {n : Nat} (h : 1 ≤ n) : (0 : Int) < n := by omega
set_option maxHeartbeats 2000000 in
theorem pairs3 {w : World} {g S n a x bt : Nat} {r : Int} {vt : Value} {tbl : List Int} (hk : Lk S n r tbl) (h : Rd w bt vt tbl) (c0 : w.cell? ⟨g, 0, none⟩ = some (.int .i64 (S : Int))) (c1 : w.cell? ⟨g, 1, none⟩ = some (.int .i64 r)) (c2 : w.cell? ⟨g, 2, none⟩ = some vt) (ha : a < n) (hx : x < S) :
    Calls Try.prog 40 #[.pointer (some ⟨g, 0, none⟩), .int .i64 (a : Int), .int .i64 (x : Int)] w fun e w' => e = .returned (.tuple #[.int .i64 ((((a * S + x) % n : Nat)) : Int), .int .i64 (tbl.getD (a * S + x) 0)]) ∧ ∃ m, w' = w.drewN m := by
  obtain ⟨hS, hr, hn, hl, hn1⟩ := hk
  have hE : ∀ m, Calls Try.prog 39 #[.pointer (some ⟨g, 0, none⟩)] (w.drewN m) fun e w' => e = .returned (.int .i64 (n : Int)) ∧ ∃ k, w' = (w.drewN m).drewN k := fun m => by
    rw [hn]
    exact ends3 (show (w.drewN m).cell? ⟨g, 0, none⟩ = _ from c0) (show (w.drewN m).cell? ⟨g, 1, none⟩ = _ from c1) ⟨Int.ofNat_le.2 hS.1, Int.ofNat_le.2 hS.2⟩ hr
  clear hn hr
  obtain ⟨ao, cap, rfl, hc, hm, h4⟩ := h
  have hlt : a * S + x < n * S := by
    have : (a + 1) * S ≤ n * S := Nat.mul_le_mul_right _ ha
    rw [Nat.add_mul] at this; omega
  have hbd : n * S ≤ 243 := Nat.le_trans (Nat.mul_le_mul hn1.2 hS.2) (by decide)
  have hI0 : a * S + x < tbl.length := by rw [hl]; exact hlt
  obtain ⟨off, rfl, hb, hcell⟩ := h4 (Nat.lt_of_le_of_lt (Nat.zero_le _) hI0)
  obtain ⟨I, hI⟩ : ∃ I, I = a * S + x := ⟨_, rfl⟩
  have hIi : (a : Int) * (S : Int) + (x : Int) = (I : Int) := by rw [hI]; simp
  have hI1 : I < tbl.length := by rw [hI]; exact hI0
  have hcx := hcell I hI1
  obtain ⟨y, hy⟩ : ∃ y, y = tbl.getD I 0 := ⟨_, rfl⟩
  rw [← hy] at hcx
  have hIb : I < 243 := by rw [hI]; exact Nat.lt_of_lt_of_le hlt hbd
  have haS : (0 : Int) ≤ (a : Int) * (S : Int) ∧ (a : Int) * (S : Int) ≤ 243 := by
    have : a * S ≤ 243 := by omega
    have e : (a : Int) * (S : Int) = ((a * S : Nat) : Int) := by simp
    rw [e]; omega
  have hw1 : wrap64 ((a : Int) * (S : Int)) = (a : Int) * (S : Int) := wrap_id (by omega) (by omega)
  have hw2 : wrap64 ((a : Int) * (S : Int) + (x : Int)) = (I : Int) := by rw [hIi]; exact wrap_id (by omega) (by omega)
  have hsz : tbl.length ≤ 9223372036854775807 := by rw [hl]; omega
  have HE := hid hE
  obtain ⟨L, hL⟩ : ∃ L, L = tbl.length := ⟨_, rfl⟩
  rw [← hL] at c2 hI1 hsz
  have hn0 : ¬ (n : Int) = 0 := nz hn1.1
  have hnn : (0 : Int) < n := np hn1.1
  have hIn : (0 : Int) ≤ (I : Int) := Int.natCast_nonneg I
  have HR : Hid (((I % n : Nat) : Int) = (I : Int) % (n : Int)) := Int.natCast_emod I n
  rw [← hI, HR.out, ← hy]
  clear hE hl hcell h4 hc hm hb hI hy hlt hbd hS c1 ha hx hL HR hI0 hIi haS hIb
  go_enter Try.func40, Try.ntmps40
  go_wp2_with fail
  try simp only [hw1, hw2]
  go_quiet (first | (go_at_call 39; refine Calls.quiet_of (HE.out _)))
  go_wp2
  go_ret2
  exact ⟨rfl, _, rfl⟩

end Go.Proofs.Ytjeoccjemkdbiaa.Lnk
