/- Digits as a text: both sides. -/
import Derived.Test.YtonghkooncmjgaaBld
import Derived.Test.YtonghkooncmjgaaRing
import Derived.Test.YtonghkooncmjgaaSmall
import Derived.Test.YtonghkooncmjgaaFNew
import Derived.Test.YtonghkooncmjgaaRule
import Derived.Laws.IdiomStrings
namespace Go.Proofs.Ytonghkooncmjgaa.Dgt
open Go.RowKit Go.Proofs.Ytonghkooncmjgaa.Rd Go.Proofs.Ytonghkooncmjgaa.Help Go.Proofs.Ytonghkooncmjgaa.Ring Go.Proofs.Ytonghkooncmjgaa.Small Go.Proofs.Ytonghkooncmjgaa.Keep
set_option linter.unusedVariables false
set_option linter.unusedSimpArgs false

/-- The digit of a number from 0 to 9. -/
def dgB (x : Int) : UInt8 := UInt8.ofNat (48 + x.toNat)
def dgL (zs : List Int) : List UInt8 := zs.map dgB
theorem dgL_len (zs : List Int) : (dgL zs).length = zs.length := by simp [dgL]
theorem dg_val {x : Int} (h : 0 ≤ x ∧ x ≤ 9) : ((dgB x).toNat : Int) = 48 + x := by
  unfold dgB
  rw [UInt8.toNat_ofNat']
  rw [Nat.mod_eq_of_lt (by omega)]; omega
theorem dgL_take (zs : List Int) (k : Nat) (h : k < zs.length) : dgL (zs.take (k + 1)) = dgL (zs.take k) ++ [dgB (zs.getD k 0)] := by
  unfold dgL
  rw [List.take_add_one, List.getElem?_eq_getElem h, List.getD_eq_getElem?_getD, List.getElem?_eq_getElem h, List.map_append]; rfl
/-- All are from 0 to 9. -/
def D9 (zs : List Int) : Prop := ∀ i, i < zs.length → 0 ≤ zs.getD i 0 ∧ zs.getD i 0 ≤ 9
set_option maxHeartbeats 4000000 in
theorem impl {w : World} {b : Nat} {v : Value} {zs : List Int} (h : Rd w b v zs) (h9 : D9 zs) (hl : zs.length ≤ 1048576) :
    Calls Try.prog 90 #[v] w fun e w' => e = .returned (.string ⟨(dgL zs).toArray⟩) ∧ Below w.heap.size w w' := by
  have HH := hid h
  have H9 := hid h9
  obtain ⟨ao, cap, rfl, hc, hm, h4⟩ := h
  obtain ⟨n, hn⟩ : ∃ n, n = zs.length := ⟨_, rfl⟩
  rw [← hn] at hl h4 hc
  rw [← hn]
  have hnl : n ≤ 9223372036854775807 := by omega
  have HN := hid hn
  clear h9 hc hm hn
  go_enter Try.func90, Try.ntmps90
  go_wp2_with fail
  obtain ⟨w1, hW⟩ : ∃ w1, w1 = w.alloc (Obj.cells #[.pointer none, .slice none 0 0] 174) := ⟨_, rfl⟩
  obtain ⟨B, hB⟩ : ∃ B, B = w.heap.size := ⟨_, rfl⟩
  have b1 : Below B w w1 := by rw [hW, hB]; exact Rule.below1 _ _
  have i1 : Bld.IsB B B [] w1 := by
    refine .inl ⟨Nat.le_refl _, .slice none 0 0, ?_, ⟨rfl, .inl ⟨rfl, rfl⟩⟩, by simp [Value.ownBlock]⟩
    rw [hW]; exact FNew.heap_top hB
  have HB : Hid (B = w.heap.size) := hB
  simp only [← hW, ← hB]
  clear hW hB
  have hbw : w.heap.size ≤ B := by have := HB.out; omega
  have b1' : Below w.heap.size w w1 := HB.out ▸ b1
  have HB0 := hid b1'
  have HI := hid i1
  clear b1 i1 b1'
  go_loopw [8] (fun i wr => ∃ k : Nat, k ≤ n ∧ i = .int .i64 (k : Int) ∧ Bld.IsB B B (dgL (zs.take k)) wr ∧ Below w.heap.size w wr) (fun i _ => n - (intOf i).toNat)
  case atStart => exact ⟨0, Nat.zero_le _, rfl, HI.out, HB0.out⟩
  case round =>
    obtain ⟨k, hk, rfl, hi, hbel⟩ := hrel
    have HI2 := hid hi
    have HB2 := hid hbel
    clear hi
    by_cases hlt : k < n
    · obtain ⟨off, rfl, hb, hcell⟩ := h4 (by omega)
      obtain ⟨x, hx⟩ : ∃ x, x = zs.getD k 0 := ⟨_, rfl⟩
      have hcx : wr.cell? ⟨b, off + k, none⟩ = some (.int .i64 x) := by rw [hx]; exact (hbel.cell (p := ⟨b, off + k, none⟩) hb).trans (hcell k hlt)
      have h9x := H9.out k (by have := HN.out; omega)
      rw [← hx] at h9x
      have HX : Hid (x = zs.getD k 0) := hx
      have HX9 := hid h9x
      obtain ⟨x0, x1⟩ := h9x
      clear hx hcell hbel
      go_wp2_with fail
      have e48 := dg_val HX9.out
      rw [← e48]
      go_at_call 162
      refine (Bld.byte B B (dgL (zs.take k)) (dgB x) wr HI2.out (by rw [dgL_len]; simp; omega) (by rw [HB.out]; exact HB2.out.size)).mono ?_
      rintro e w2 ⟨rfl, i2, bel2⟩
      have HI3 : Hid (Bld.IsB B B (dgL (zs.take (k + 1))) w2) := by
        simp only [Hid]; rw [dgL_take zs k (by have := HN.out; omega), ← HX.out]; exact i2
      have HB3 : Hid (Below w.heap.size w w2) := by simp only [Hid]; rw [← HB.out] at *; exact HB2.out.trans bel2
      clear i2 bel2 e48
      go_wp2
      go_roundw
      case rel => exact ⟨k + 1, by omega, by go_num, HI3.out, HB3.out⟩
      case measure => simp [intOf]; omega
    · have hkn : k = n := by omega
      subst hkn
      have HI4 : Hid (Bld.IsB B B (dgL zs) wr) := by
        have h := HI2.out
        rw [HN.out, List.take_length] at h
        exact h
      clear hbel
      go_wp2_with fail
      go_at_call 163
      refine (Bld.text B B (dgL zs) wr HI4.out (by rw [HB.out]; exact HB2.out.size)).mono ?_
      rintro e w2 ⟨rfl, bel2⟩
      have HB3 : Hid (Below w.heap.size w w2) := by simp only [Hid]; rw [← HB.out] at *; exact HB2.out.trans bel2
      clear bel2
      go_wp2
      go_ret
      exact ⟨rfl, HB3.out⟩

set_option maxHeartbeats 4000000 in
theorem spec {w : World} {b : Nat} {v : Value} {zs : List Int} (h : Rd w b v zs) (h9 : D9 zs) (hl : zs.length ≤ 1048576) :
    Calls Try.prog 89 #[v] w fun e w' => e = .returned (.string ⟨(dgL zs).toArray⟩) ∧ Below w.heap.size w w' := by
  have HH := hid h
  have H9 := hid h9
  obtain ⟨i0, hi0, hz0, hz1, hz2⟩ := info_parts Bld.extra.infoByte
  obtain ⟨ao, cap, rfl, hc, hm, h4⟩ := h
  obtain ⟨n, hn⟩ : ∃ n, n = zs.length := ⟨_, rfl⟩
  rw [← hn] at hl h4 hc
  rw [← hn]
  have hnl : n ≤ 9223372036854775807 := by omega
  have HN := hid hn
  clear h9 hc hm hn
  go_enter Try.func89, Try.ntmps89
  go_wp2_with fail
  obtain ⟨w1, hW⟩ : ∃ w1, w1 = w.alloc (Obj.cells #[] 5) := ⟨_, rfl⟩
  obtain ⟨B, hB⟩ : ∃ B, B = w.heap.size := ⟨_, rfl⟩
  have b1 : Below w.heap.size w w1 := by rw [hW]; exact Rule.below1 _ _
  have i1 : w1.ownsRow w.heap.size 5 1 (.slice (some ⟨B, 0, none⟩) 0 0) 0 (Lib.byteCells (dgL (zs.take 0))) := by
    refine ⟨rfl, .inr ⟨B, 0, #[], rfl, by omega, ?_, Nat.le_refl _, by unfold maxLen; omega, rfl, rfl⟩⟩
    rw [hW]; exact FNew.heap_top hB
  simp only [← hW, ← hB]
  clear hW hB
  have HB0 := hid b1
  have HI := hid i1
  clear b1 i1
  go_loopw [3, 4] (fun v i wr => ∃ (k gg cc : Nat), k ≤ n ∧ i = .int .i64 (k : Int) ∧ v = .slice (some ⟨gg, 0, none⟩) k cc ∧ wr.ownsRow w.heap.size 5 1 v k (Lib.byteCells (dgL (zs.take k))) ∧ Below w.heap.size w wr) (fun _ i _ => n - (intOf i).toNat)
  case atStart => exact ⟨0, B, 0, Nat.zero_le _, rfl, rfl, HI.out, HB0.out⟩
  case round =>
    obtain ⟨k, gg, cc, hk, rfl, rfl, hi, hbel⟩ := hrel
    have HI2 := hid hi
    have HB2 := hid hbel
    by_cases hlt : k < n
    · obtain ⟨off, rfl, hb, hcell⟩ := h4 (by omega)
      obtain ⟨x, hx⟩ : ∃ x, x = zs.getD k 0 := ⟨_, rfl⟩
      have hcx : wr.cell? ⟨b, off + k, none⟩ = some (.int .i64 x) := by rw [hx]; exact (hbel.cell (p := ⟨b, off + k, none⟩) hb).trans (hcell k hlt)
      have h9x := H9.out k (by have := HN.out; omega)
      rw [← hx] at h9x
      have HX : Hid (x = zs.getD k 0) := hx
      have HX9 := hid h9x
      obtain ⟨x0, x1⟩ := h9x
      have hkl : (Lib.byteCells (dgL (zs.take k))).length = k := by rw [Lib.byteCells_length, dgL_len]; have := HN.out; simp; omega
      have HKL := hid hkl
      clear hx hcell hbel hkl hi
      go_wp2_with (at_builtin; refine wpList_append_own _ rfl _ _ 171 rfl w.heap.size 5 i0 (.int .u8 0) 1 1 Try.underlying171 hi0 hz0 hz1 hz2 rfl (by decide) _ _ _ rfl (HI2.out.alloc _) ⟨wr.heap.size, 0, none⟩ 1 1 [.int .u8 (48 + x)] rfl rfl ?c1 ?c2 ?c3 ?c4 ?c5 ?_)
      case c1 =>
        intro j u hj
        match j, hj with
        | 0, hj => simp at hj; subst hj; simp [Addr.add]
      case c2 => intro u hu; simp at hu; subst hu; rfl
      case c3 => unfold maxLen; omega
      case c4 => omega
      case c5 => have := HB2.out.size; simp; omega
      intro v' w2 hown' hgrow _
      obtain ⟨g2, cap2, rfl⟩ : ∃ g cap, v' = .slice (some ⟨g, 0, none⟩) (k + 1) cap := by
        rcases hown'.2 with ⟨_, h0⟩ | ⟨g, cap, cur, hv, _⟩
        · omega
        · exact ⟨g, cap, hv⟩
      have HI3 : Hid (w2.ownsRow w.heap.size 5 1 (.slice (some ⟨g2, 0, none⟩) (k + 1) cap2) (k + 1) (Lib.byteCells (dgL (zs.take (k + 1))))) := by
        simp only [Hid]
        rw [dgL_take zs k (by have := HN.out; omega), ← HX.out, Lib.byteCells_append]
        have e : Lib.byteCells [dgB x] = [Value.int .u8 (48 + x)] := by show [Value.int .u8 ((dgB x).toNat : Int)] = _; rw [dg_val HX9.out]
        rw [e]; exact hown'
      have HB3 : Hid (Below w.heap.size w w2) := (HB2.out.alloc (HB2.out.size) _).grown hgrow (by have := HB2.out.size; simp; omega) (fun k hk => (HI2.out.lt k hk).1)
      clear hown' hgrow
      go_wp2
      go_roundw
      case rel => exact ⟨k + 1, g2, cap2, by omega, by go_num, rfl, HI3.out, HB3.out⟩
      case measure => simp [intOf]; omega
    · have hkn : k = n := by omega
      subst hkn
      have hall : dgL (zs.take k) = dgL zs := by rw [HN.out, List.take_length]
      rw [hall] at hi
      have hlen : (dgL zs).length = k := by rw [dgL_len, HN.out]
      have hcv : (convert 171 9 (.slice (some ⟨gg, 0, none⟩) k cc)).run Try.prog wr = .ok (.string ⟨(dgL zs).toArray⟩) wr := by
        rw [← hlen]
        refine run_convert_bytes_back wr 171 9 5 ⟨gg, 0, none⟩ cc (dgL zs) Try.underlying171 Try.underlying5 Try.underlying9 (fun j hj => ?_)
        obtain ⟨_, h | ⟨g3, cap3, cur, he, _, hg, h1, h2, h3, h5⟩⟩ := hi
        · exact absurd h.1 (by simp)
        · simp at he
          obtain ⟨rfl, rfl⟩ := he
          have hj2 : j < k := by omega
          have hq : cur[j]? = some (Value.int .u8 ((dgL zs)[j].toNat : Int)) := by
            have e1 : (cur.toList.take (k * 1))[j]? = (Lib.byteCells (dgL zs))[j]? := by rw [h5]
            rw [List.getElem?_take_of_lt (by omega)] at e1
            rw [← Array.getElem?_toList, e1]
            unfold Lib.byteCells
            rw [List.getElem?_map, List.getElem?_eq_getElem hj]; rfl
          have ea : (⟨gg, 0, none⟩ : Addr).add j = ⟨gg, j, none⟩ := by unfold Addr.add; by_cases h0 : j = 0 <;> simp [h0]
          rw [ea, Go.Joins.cell_of_block hg, hq]
      clear hi hbel hall hlen
      go_wp2
      go_ret
      exact ⟨rfl, HB2.out⟩

end Go.Proofs.Ytonghkooncmjgaa.Dgt
