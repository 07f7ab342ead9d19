/- Contracts of corrodyref01: plus, minus. -/
import Derived.Test.YtmccmgplgdmjbaaDoorRef1
namespace Corr
set_option maxRecDepth 8000
open Go Go.RowKit
/-- What a call leaves that tells a row. -/
def RetRow (w : World) (P : List Nat → Prop) (e : Ending) (w' : World) : Prop :=
  ∃ A k c o, e = .returned (.slice A k c) ∧ Row w' A k c o ∧ P o ∧ Below w.heap.size w w'
/-- A place of a row, in a world that is as it was below. -/
theorem Row.get {w : World} {A : Option Addr} {n c : Nat} {xs : List Nat} (h : Row w A n c xs) (hd : ∀ x ∈ xs, x < 1000) {k : Nat} (hk : k < n) :
    ∃ g off x, A = some ⟨g, off, none⟩ ∧ xs[k]? = some x ∧ x < 1000 ∧ ∀ w', Below w.heap.size w w' → w'.cell? ⟨g, off + k, none⟩ = some (.int .i64 (x : Int)) := by
  obtain ⟨g, off, hA, hg, hc⟩ := h.at_ (by omega)
  have hl : k < xs.length := by rw [h.len]; exact hk
  refine ⟨g, off, xs[k], hA, List.getElem?_eq_getElem hl, hd _ (List.getElem_mem hl), fun w' hb => ?_⟩
  rw [hb.cell (p := ⟨g, off + k, none⟩) hg]
  exact hc k _ (List.getElem?_eq_getElem hl)
theorem dv_snoc (o : List Nat) (x : Nat) : dv (o ++ [x]) = dv o + 1000 ^ o.length * x := by rw [dv_append]; simp [dv]
theorem dv_take {xs : List Nat} {k x : Nat} (h : xs[k]? = some x) : dv (xs.take (k + 1)) = dv (xs.take k) + 1000 ^ k * x := by
  have hl : k < xs.length := (List.getElem?_eq_some_iff.1 h).1
  rw [List.take_add_one, h]
  simp only [Option.toList_some]
  rw [dv_snoc, List.length_take, Nat.min_eq_left (by omega)]
theorem dv_past {xs : List Nat} {k : Nat} (h : xs.length ≤ k) : dv (xs.take (k + 1)) = dv (xs.take k) := by
  rw [List.take_of_length_le (by omega), List.take_of_length_le h]
/-- One place of a sum. -/
theorem plus_step {p c t s : Nat} (h : s + p * c = t) (x y : Nat) : (s + p * ((c + x + y) % 1000)) + p * 1000 * ((c + x + y) / 1000) = t + p * x + p * y := by
  have h1 := Nat.div_add_mod (c + x + y) 1000
  have h2 : p * (1000 * ((c + x + y) / 1000) + (c + x + y) % 1000) = p * (c + x + y) := by rw [h1]
  rw [Nat.mul_add, ← Nat.mul_assoc, Nat.mul_add, Nat.mul_add] at h2
  omega
theorem mem_snoc {o : List Nat} {x : Nat} (h : ∀ y ∈ o, y < 1000) (hx : x < 1000) : ∀ y ∈ o ++ [x], y < 1000 := by
  intro y hy
  rcases List.mem_append.1 hy with h1 | h1
  · exact h y h1
  · have : y = x := by simpa using h1
    omega
end Corr
namespace Go.Proofs.YtmccmgplgdmjbaaDoor
set_option maxRecDepth 8000
open Go.RowKit Corr
set_option linter.unusedVariables false

set_option maxHeartbeats 2000000 in
theorem plus_any (A B : Option Addr) (n m ca cb : Nat) (xs ys : List Nat) (w : World) (hx : Row w A n ca xs) (hy : Row w B m cb ys) (dx : ∀ x ∈ xs, x < 1000) (dy : ∀ y ∈ ys, y < 1000) (hn : n ≤ 10000) (hm : m ≤ 10000) :
    Calls Tryd.prog 35 #[.slice A n ca, .slice B m cb] w (RetRow w fun o => dv o = dv xs + dv ys ∧ (∀ x ∈ o, x < 1000) ∧ o.length ≤ n + m + 1 ∧ (o.length ≤ max n m ∨ o.getLast? = some 1)) := by
  obtain ⟨i0, hi, hz0, hz1, hz2⟩ := info_parts info_int
  go_enter Tryd.func35, Tryd.ntmps35
  go_wp2_with fail
  go_loopw [5, 6, 7] (fun v s t wr => ∃ (k c : Nat) (acc : List Nat), t = .int .i64 (k : Int) ∧ s = .int .i64 (c : Int) ∧ c ≤ 1 ∧ acc.length = k ∧ wr.ownsRow w.heap.size 3 1 v acc.length (acc.map encN) ∧ (∀ x ∈ acc, x < 1000) ∧ dv acc + 1000 ^ k * c = dv (xs.take k) + dv (ys.take k) ∧ Below w.heap.size w wr ∧ (k ≤ n + m ∨ k ≤ n + m + 1 ∧ c = 0) ∧ (k ≤ max n m ∨ k = max n m + 1 ∧ c = 0 ∧ acc.getLast? = some 1)) (fun _ s t _ => (n + m - (intOf t).toNat) * 2 + (intOf s).toNat)
  case atStart => exact ⟨0, 0, [], rfl, rfl, by omega, rfl, ⟨rfl, .inl ⟨rfl, rfl⟩⟩, (fun x hx => by cases hx), by simp [dv], Below.refl _ _, .inl (by omega), .inl (by omega)⟩
  case round =>
    obtain ⟨k, c, acc, rfl, rfl, hc1, hl, hown, hd, hs, hbel, hkb, hkm⟩ := hrel
    have HL := Lib.hid hl
    have HD := Lib.hid hd
    have HS := Lib.hid hs
    have HBEL := Lib.hid hbel
    have hbel0 := hbel.size
    have hal : acc.length ≤ n + m + 1 := by omega
    have HKB := Lib.hid hkb
    have HKM := Lib.hid hkm
    have hkb1 : k ≤ n + m + 1 := by omega
    clear hl hd hs hbel hkb hkm
    have HDX := Lib.hid dx
    have HDY := Lib.hid dy
    clear dx dy
    by_cases ha : k < n
    · by_cases hb : k < m
      · obtain ⟨ga, oa, x, hA, hxk, hx1, hxc⟩ := hx.get HDX.out ha
        subst hA
        have cx := hxc wr HBEL.out
        clear hxc
        obtain ⟨gb, ob, y, hB, hyk, hy1, hyc⟩ := hy.get HDY.out hb
        subst hB
        have cy := hyc wr HBEL.out
        clear hyc
        have HST := Lib.hid (plus_step HS.out x y)
        have HTX := Lib.hid (dv_take hxk)
        have HTY := Lib.hid (dv_take hyk)
        clear hxk
        clear hyk
        go_wp2_with (at_builtin; refine wpList_append_own _ rfl _ _ 39 rfl w.heap.size 3 i0 (.int .i64 0) 1 8 Tryd.underlying39 hi hz0 hz1 hz2 rfl (by decide) _ _ _ rfl (hown.alloc _) ⟨wr.heap.size, 0, none⟩ 1 1 [.int .i64 (((c : Int) + (x : Int) + (y : Int)) % 1000)] rfl rfl ?c1 ?c2 ?c3 ?c4 ?c5 ?_)
        case c1 => exact new_one _ _ _
        case c2 => simp [Value.oneCell']
        case c3 => unfold maxLen; omega
        case c4 => omega
        case c5 => simp; omega
        intro v' w1 hown1 hgrow _
        have HB1 := Lib.hid ((HBEL.out.alloc hbel0 _).grown hgrow (by simp; omega) (own_block hown))
        have HO1 := Lib.hid (own_snoc (x := (c + x + y) % 1000) (by rw [show encN ((c + x + y) % 1000) = .int .i64 (((c : Int) + (x : Int) + (y : Int)) % 1000) by unfold encN; congr 1]; exact hown1))
        clear hown1 hgrow hown HBEL
        go_wp2_with fail
        go_roundw
        case rel => exact ⟨k + 1, (c + x + y) / 1000, acc ++ [(c + x + y) % 1000], by go_num, val_int (by omega), by omega, by simp [HL.out], HO1.out, mem_snoc HD.out (Nat.mod_lt _ (by omega)), (by rw [dv_snoc, HL.out, HTX.out, HTY.out, Nat.pow_succ]; have := HST.out; omega), HB1.out, (by have := HKB.out; omega), (by have := HKM.out; omega)⟩
        case measure => simp [intOf]; omega
      · obtain ⟨ga, oa, x, hA, hxk, hx1, hxc⟩ := hx.get HDX.out ha
        subst hA
        have cx := hxc wr HBEL.out
        clear hxc
        have HST := Lib.hid (plus_step HS.out x 0)
        have HTX := Lib.hid (dv_take hxk)
        have HTY := Lib.hid (dv_past (xs := ys) (k := k) (by rw [hy.len]; omega))
        clear hxk
        go_wp2_with (at_builtin; refine wpList_append_own _ rfl _ _ 39 rfl w.heap.size 3 i0 (.int .i64 0) 1 8 Tryd.underlying39 hi hz0 hz1 hz2 rfl (by decide) _ _ _ rfl (hown.alloc _) ⟨wr.heap.size, 0, none⟩ 1 1 [.int .i64 (((c : Int) + (x : Int)) % 1000)] rfl rfl ?c1 ?c2 ?c3 ?c4 ?c5 ?_)
        case c1 => exact new_one _ _ _
        case c2 => simp [Value.oneCell']
        case c3 => unfold maxLen; omega
        case c4 => omega
        case c5 => simp; omega
        intro v' w1 hown1 hgrow _
        have HB1 := Lib.hid ((HBEL.out.alloc hbel0 _).grown hgrow (by simp; omega) (own_block hown))
        have HO1 := Lib.hid (own_snoc (x := (c + x + 0) % 1000) (by rw [show encN ((c + x + 0) % 1000) = .int .i64 (((c : Int) + (x : Int)) % 1000) by unfold encN; congr 1]; exact hown1))
        clear hown1 hgrow hown HBEL
        go_wp2_with fail
        go_roundw
        case rel => exact ⟨k + 1, (c + x + 0) / 1000, acc ++ [(c + x + 0) % 1000], by go_num, val_int (by omega), by omega, by simp [HL.out], HO1.out, mem_snoc HD.out (Nat.mod_lt _ (by omega)), (by rw [dv_snoc, HL.out, HTX.out, HTY.out, Nat.pow_succ]; have := HST.out; omega), HB1.out, (by have := HKB.out; omega), (by have := HKM.out; omega)⟩
        case measure => simp [intOf]; omega
    · by_cases hb : k < m
      · obtain ⟨gb, ob, y, hB, hyk, hy1, hyc⟩ := hy.get HDY.out hb
        subst hB
        have cy := hyc wr HBEL.out
        clear hyc
        have HST := Lib.hid (plus_step HS.out 0 y)
        have HTX := Lib.hid (dv_past (xs := xs) (k := k) (by rw [hx.len]; omega))
        have HTY := Lib.hid (dv_take hyk)
        clear hyk
        go_wp2_with (at_builtin; refine wpList_append_own _ rfl _ _ 39 rfl w.heap.size 3 i0 (.int .i64 0) 1 8 Tryd.underlying39 hi hz0 hz1 hz2 rfl (by decide) _ _ _ rfl (hown.alloc _) ⟨wr.heap.size, 0, none⟩ 1 1 [.int .i64 (((c : Int) + (y : Int)) % 1000)] rfl rfl ?c1 ?c2 ?c3 ?c4 ?c5 ?_)
        case c1 => exact new_one _ _ _
        case c2 => simp [Value.oneCell']
        case c3 => unfold maxLen; omega
        case c4 => omega
        case c5 => simp; omega
        intro v' w1 hown1 hgrow _
        have HB1 := Lib.hid ((HBEL.out.alloc hbel0 _).grown hgrow (by simp; omega) (own_block hown))
        have HO1 := Lib.hid (own_snoc (x := (c + 0 + y) % 1000) (by rw [show encN ((c + 0 + y) % 1000) = .int .i64 (((c : Int) + (y : Int)) % 1000) by unfold encN; congr 1]; exact hown1))
        clear hown1 hgrow hown HBEL
        go_wp2_with fail
        go_roundw
        case rel => exact ⟨k + 1, (c + 0 + y) / 1000, acc ++ [(c + 0 + y) % 1000], by go_num, val_int (by omega), by omega, by simp [HL.out], HO1.out, mem_snoc HD.out (Nat.mod_lt _ (by omega)), (by rw [dv_snoc, HL.out, HTX.out, HTY.out, Nat.pow_succ]; have := HST.out; omega), HB1.out, (by have := HKB.out; omega), (by have := HKM.out; omega)⟩
        case measure => simp [intOf]; omega
      · by_cases hc : 0 < c
        · have HST := Lib.hid (plus_step HS.out 0 0)
          have HTX := Lib.hid (dv_past (xs := xs) (k := k) (by rw [hx.len]; omega))
          have HTY := Lib.hid (dv_past (xs := ys) (k := k) (by rw [hy.len]; omega))
          go_wp2_with (at_builtin; refine wpList_append_own _ rfl _ _ 39 rfl w.heap.size 3 i0 (.int .i64 0) 1 8 Tryd.underlying39 hi hz0 hz1 hz2 rfl (by decide) _ _ _ rfl (hown.alloc _) ⟨wr.heap.size, 0, none⟩ 1 1 [.int .i64 (((c : Int)) % 1000)] rfl rfl ?c1 ?c2 ?c3 ?c4 ?c5 ?_)
          case c1 => exact new_one _ _ _
          case c2 => simp [Value.oneCell']
          case c3 => unfold maxLen; omega
          case c4 => omega
          case c5 => simp; omega
          intro v' w1 hown1 hgrow _
          have HB1 := Lib.hid ((HBEL.out.alloc hbel0 _).grown hgrow (by simp; omega) (own_block hown))
          have HO1 := Lib.hid (own_snoc (x := (c + 0 + 0) % 1000) (by rw [show encN ((c + 0 + 0) % 1000) = .int .i64 (((c : Int)) % 1000) by unfold encN; congr 1]; exact hown1))
          clear hown1 hgrow hown HBEL
          go_wp2_with fail
          go_roundw
          case rel => exact ⟨k + 1, (c + 0 + 0) / 1000, acc ++ [(c + 0 + 0) % 1000], by go_num, val_int (by omega), by omega, by simp [HL.out], HO1.out, mem_snoc HD.out (Nat.mod_lt _ (by omega)), (by rw [dv_snoc, HL.out, HTX.out, HTY.out, Nat.pow_succ]; have := HST.out; omega), HB1.out, (by have := HKB.out; omega), (.inr ⟨by have := HKM.out; omega, by omega, by rw [List.getLast?_concat, show (c + 0 + 0) % 1000 = 1 by omega]⟩)⟩
          case measure => simp [intOf]; omega
        · obtain ⟨A', c', rfl, R⟩ := Row.of_own hown
          have HR := Lib.hid R
          have HE := Lib.hid (show dv acc = dv xs + dv ys by
            have := HS.out
            rw [List.take_of_length_le (by rw [hx.len]; omega), List.take_of_length_le (by rw [hy.len]; omega), show c = 0 by omega] at this
            omega)
          have HKX := Lib.hid (show acc.length ≤ max n m ∨ acc.getLast? = some 1 by
            rcases HKM.out with h | ⟨_, _, h⟩
            · exact .inl (by have := HL.out; omega)
            · exact .inr h)
          clear hown R
          go_wp2_with fail
          go_ret
          exact ⟨A', _, c', acc, rfl, HR.out, ⟨HE.out, HD.out, by have := HL.out; omega, HKX.out⟩, HBEL.out⟩
end Go.Proofs.YtmccmgplgdmjbaaDoor
