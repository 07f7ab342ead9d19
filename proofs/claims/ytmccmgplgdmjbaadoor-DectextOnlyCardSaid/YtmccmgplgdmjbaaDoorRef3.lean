/- Contracts of corrodyref01: minus, short. -/
import Derived.Test.YtmccmgplgdmjbaaDoorRef2
namespace Corr
set_option maxRecDepth 8000
open Go Go.RowKit
theorem dv_lt {o : List Nat} (h : ∀ x ∈ o, x < 1000) : dv o < 1000 ^ o.length := by
  induction o with
  | nil => simp [dv]
  | cons x r ih =>
    have h1 := h x List.mem_cons_self
    have h2 := ih (fun y hy => h y (List.mem_cons_of_mem _ hy))
    simp only [dv, List.length_cons, Nat.pow_succ]
    omega
/-- One place of a difference: d is due, x above, y below. -/
theorem minus_step {p d s a b : Nat} (h : s + b = a + p * d) (x y r d' : Nat) (hr : r + d + y = x + 1000 * d') : (s + p * r) + (b + p * y) = (a + p * x) + p * 1000 * d' := by
  have h2 : p * (r + d + y) = p * (x + 1000 * d') := by rw [hr]
  rw [Nat.mul_add, Nat.mul_add, Nat.mul_add, ← Nat.mul_assoc] at h2
  omega
/-- A sign, but not of nought. -/
def nzB (s : Bool) (n : Nat) : Bool := s && decide (n ≠ 0)
/-- A row without a nought at its end is its number's row. -/
theorem digs_dv : ∀ (l : List Nat), (∀ x ∈ l, x < 1000) → (∀ x, l.getLast? = some x → x ≠ 0) → l = digs (dv l)
  | [], _, _ => by rw [show dv [] = 0 from rfl, digs_zero]
  | x :: r, h, hl => by
    have h1 := h x List.mem_cons_self
    have ih : r = digs (dv r) := by
      refine digs_dv r (fun y hy => h y (List.mem_cons_of_mem _ hy)) (fun y hy => ?_)
      cases r with
      | nil => cases hy
      | cons z t => exact hl y (by rw [List.getLast?_cons_cons]; exact hy)
    have hpos : 0 < dv (x :: r) := by
      cases r with
      | nil =>
        have := hl x rfl
        simp only [dv]; omega
      | cons z t =>
        have hz : 0 < dv (z :: t) := by
          rcases Nat.eq_zero_or_pos (dv (z :: t)) with h0 | h0
          · rw [h0, digs_zero] at ih; cases ih
          · exact h0
        simp only [dv] at hz ⊢; omega
    rw [digs_pos hpos]
    simp only [dv]
    rw [show (x + 1000 * dv r) % 1000 = x by omega, show (x + 1000 * dv r) / 1000 = dv r by omega, ← ih]
end Corr
namespace Go.Proofs.YtmccmgplgdmjbaaDoor
set_option maxRecDepth 8000
open Go.RowKit Corr
set_option linter.unusedVariables false

set_option maxRecDepth 4000 in
set_option maxHeartbeats 2000000 in
theorem minus_any (A B : Option Addr) (n m ca cb : Nat) (xs ys : List Nat) (w : World) (hx : Row w A n ca xs) (hy : Row w B m cb ys) (dx : ∀ x ∈ xs, x < 1000) (dy : ∀ y ∈ ys, y < 1000) (hn : n ≤ 10000) (hmn : m ≤ n) (hle : dv ys ≤ dv xs) :
    Calls Tryd.prog 37 #[.slice A n ca, .slice B m cb] w (RetRow w fun o => dv o = dv xs - dv ys ∧ (∀ x ∈ o, x < 1000) ∧ o.length = n) := by
  obtain ⟨i0, hi, hz0, hz1, hz2⟩ := info_parts info_int
  have HLE := Lib.hid hle
  clear hle
  go_enter Tryd.func37, Tryd.ntmps37
  go_wp2_with fail
  go_loopw [5, 6, 7] (fun v s t wr => ∃ (k c : Nat) (acc : List Nat), t = .int .i64 (k : Int) ∧ s = .int .i64 (c : Int) ∧ c ≤ 1 ∧ acc.length = k ∧ wr.ownsRow w.heap.size 3 1 v acc.length (acc.map encN) ∧ (∀ x ∈ acc, x < 1000) ∧ dv acc + dv (ys.take k) = dv (xs.take k) + 1000 ^ k * c ∧ Below w.heap.size w wr ∧ k ≤ n) (fun _ _ t _ => n - (intOf t).toNat)
  case atStart => exact ⟨0, 0, [], rfl, rfl, by omega, rfl, ⟨rfl, .inl ⟨rfl, rfl⟩⟩, (fun x hx => by cases hx), by simp [dv], Below.refl _ _, by omega⟩
  case round =>
    obtain ⟨k, c, acc, rfl, rfl, hc1, hl, hown, hd, hs, hbel, hkb⟩ := hrel
    have HL := Lib.hid hl
    have HD := Lib.hid hd
    have HS := Lib.hid hs
    have HBEL := Lib.hid hbel
    have hbel0 := hbel.size
    have hal : acc.length ≤ n := by omega
    have HDX := Lib.hid dx
    have HDY := Lib.hid dy
    clear hl hd hs hbel dx dy
    by_cases ha : k < n
    · by_cases hb : k < m
      · obtain ⟨ga, oa, x, hA, hxk, hx1, hxc⟩ := hx.get HDX.out ha
        subst hA
        have cx := hxc wr HBEL.out
        clear hxc
        obtain ⟨gb, ob, y, hB, hyk, hy1, hyc⟩ := hy.get HDY.out hb
        subst hB
        have cy := hyc wr HBEL.out
        clear hyc
        by_cases ht : (x : Int) - (c : Int) - (y : Int) < 0
        · have HST := Lib.hid (minus_step HS.out x y (x + 1000 - (c + y)) 1 (by omega))
          have HTX := Lib.hid (dv_take hxk)
          have HTY := Lib.hid (dv_take hyk)
          have hlt : x + 1000 - (c + y) < 1000 := by omega
          have HDN := Lib.hid (show ((x + 1000 - (c + y) : Nat) : Int) = (x : Int) - (c : Int) - (y : Int) + 1000 by omega)
          clear hxk
          clear hyk
          go_wp2_with (at_builtin; refine wpList_append_own _ rfl _ _ 39 rfl w.heap.size 3 i0 (.int .i64 0) 1 8 Tryd.underlying39 hi hz0 hz1 hz2 rfl (by decide) _ _ _ rfl (hown.alloc _) ⟨wr.heap.size, 0, none⟩ 1 1 [.int .i64 ((x : Int) - (c : Int) - (y : Int) + 1000)] rfl rfl ?_ ?_ ?_ ?_ ?_ ?_)
          any_goals first
            | with_reducible exact new_one _ _ _
            | (simp [Value.oneCell']; done)
            | (unfold maxLen; omega)
            | omega
            | (simp; omega)
          intro v' w1 hown1 hgrow _
          have HB1 := Lib.hid ((HBEL.out.alloc hbel0 _).grown hgrow (by simp; omega) (own_block hown))
          have HO1 := Lib.hid (own_snoc (x := x + 1000 - (c + y)) (by rw [show encN (x + 1000 - (c + y)) = .int .i64 ((x : Int) - (c : Int) - (y : Int) + 1000) by unfold encN; rw [HDN.out]]; exact hown1))
          clear hown1 hgrow hown HBEL
          go_wp2_with fail
          go_roundw
          case rel => exact ⟨k + 1, 1, acc ++ [x + 1000 - (c + y)], by go_num, rfl, by omega, by simp [HL.out], HO1.out, mem_snoc HD.out hlt, (by rw [dv_snoc, HL.out, HTX.out, HTY.out, Nat.pow_succ]; have := HST.out; omega), HB1.out, by omega⟩
          case measure => simp [intOf]; omega
        · have HST := Lib.hid (minus_step HS.out x y (x - (c + y)) 0 (by omega))
          have HTX := Lib.hid (dv_take hxk)
          have HTY := Lib.hid (dv_take hyk)
          have hlt : x - (c + y) < 1000 := by omega
          have HDN := Lib.hid (show ((x - (c + y) : Nat) : Int) = (x : Int) - (c : Int) - (y : Int) by omega)
          clear hxk
          clear hyk
          go_wp2_with (at_builtin; refine wpList_append_own _ rfl _ _ 39 rfl w.heap.size 3 i0 (.int .i64 0) 1 8 Tryd.underlying39 hi hz0 hz1 hz2 rfl (by decide) _ _ _ rfl (hown.alloc _) ⟨wr.heap.size, 0, none⟩ 1 1 [.int .i64 ((x : Int) - (c : Int) - (y : Int))] rfl rfl ?_ ?_ ?_ ?_ ?_ ?_)
          any_goals first
            | with_reducible exact new_one _ _ _
            | (simp [Value.oneCell']; done)
            | (unfold maxLen; omega)
            | omega
            | (simp; omega)
          intro v' w1 hown1 hgrow _
          have HB1 := Lib.hid ((HBEL.out.alloc hbel0 _).grown hgrow (by simp; omega) (own_block hown))
          have HO1 := Lib.hid (own_snoc (x := x - (c + y)) (by rw [show encN (x - (c + y)) = .int .i64 ((x : Int) - (c : Int) - (y : Int)) by unfold encN; rw [HDN.out]]; exact hown1))
          clear hown1 hgrow hown HBEL
          go_wp2_with fail
          go_roundw
          case rel => exact ⟨k + 1, 0, acc ++ [x - (c + y)], by go_num, rfl, by omega, by simp [HL.out], HO1.out, mem_snoc HD.out hlt, (by rw [dv_snoc, HL.out, HTX.out, HTY.out, Nat.pow_succ]; have := HST.out; omega), HB1.out, by omega⟩
          case measure => simp [intOf]; omega
      · obtain ⟨ga, oa, x, hA, hxk, hx1, hxc⟩ := hx.get HDX.out ha
        subst hA
        have cx := hxc wr HBEL.out
        clear hxc
        by_cases ht : x < c
        · have HST := Lib.hid (minus_step HS.out x 0 (x + 1000 - (c)) 1 (by omega))
          have HTX := Lib.hid (dv_take hxk)
          have HTY := Lib.hid (dv_past (xs := ys) (k := k) (by rw [hy.len]; omega))
          have hlt : x + 1000 - (c) < 1000 := by omega
          have HDN := Lib.hid (show ((x + 1000 - (c) : Nat) : Int) = (x : Int) - (c : Int) + 1000 by omega)
          clear hxk
          go_wp2_with (at_builtin; refine wpList_append_own _ rfl _ _ 39 rfl w.heap.size 3 i0 (.int .i64 0) 1 8 Tryd.underlying39 hi hz0 hz1 hz2 rfl (by decide) _ _ _ rfl (hown.alloc _) ⟨wr.heap.size, 0, none⟩ 1 1 [.int .i64 ((x : Int) - (c : Int) + 1000)] rfl rfl ?_ ?_ ?_ ?_ ?_ ?_)
          any_goals first
            | with_reducible exact new_one _ _ _
            | (simp [Value.oneCell']; done)
            | (unfold maxLen; omega)
            | omega
            | (simp; omega)
          intro v' w1 hown1 hgrow _
          have HB1 := Lib.hid ((HBEL.out.alloc hbel0 _).grown hgrow (by simp; omega) (own_block hown))
          have HO1 := Lib.hid (own_snoc (x := x + 1000 - (c)) (by rw [show encN (x + 1000 - (c)) = .int .i64 ((x : Int) - (c : Int) + 1000) by unfold encN; rw [HDN.out]]; exact hown1))
          clear hown1 hgrow hown HBEL
          go_wp2_with fail
          go_roundw
          case rel => exact ⟨k + 1, 1, acc ++ [x + 1000 - (c)], by go_num, rfl, by omega, by simp [HL.out], HO1.out, mem_snoc HD.out hlt, (by rw [dv_snoc, HL.out, HTX.out, HTY.out, Nat.pow_succ]; have := HST.out; omega), HB1.out, by omega⟩
          case measure => simp [intOf]; omega
        · have HST := Lib.hid (minus_step HS.out x 0 (x - (c)) 0 (by omega))
          have HTX := Lib.hid (dv_take hxk)
          have HTY := Lib.hid (dv_past (xs := ys) (k := k) (by rw [hy.len]; omega))
          have hlt : x - (c) < 1000 := by omega
          have HDN := Lib.hid (show ((x - (c) : Nat) : Int) = (x : Int) - (c : Int) by omega)
          clear hxk
          go_wp2_with (at_builtin; refine wpList_append_own _ rfl _ _ 39 rfl w.heap.size 3 i0 (.int .i64 0) 1 8 Tryd.underlying39 hi hz0 hz1 hz2 rfl (by decide) _ _ _ rfl (hown.alloc _) ⟨wr.heap.size, 0, none⟩ 1 1 [.int .i64 ((x : Int) - (c : Int))] rfl rfl ?_ ?_ ?_ ?_ ?_ ?_)
          any_goals first
            | with_reducible exact new_one _ _ _
            | (simp [Value.oneCell']; done)
            | (unfold maxLen; omega)
            | omega
            | (simp; omega)
          intro v' w1 hown1 hgrow _
          have HB1 := Lib.hid ((HBEL.out.alloc hbel0 _).grown hgrow (by simp; omega) (own_block hown))
          have HO1 := Lib.hid (own_snoc (x := x - (c)) (by rw [show encN (x - (c)) = .int .i64 ((x : Int) - (c : Int)) by unfold encN; rw [HDN.out]]; exact hown1))
          clear hown1 hgrow hown HBEL
          go_wp2_with fail
          go_roundw
          case rel => exact ⟨k + 1, 0, acc ++ [x - (c)], by go_num, rfl, by omega, by simp [HL.out], HO1.out, mem_snoc HD.out hlt, (by rw [dv_snoc, HL.out, HTX.out, HTY.out, Nat.pow_succ]; have := HST.out; omega), HB1.out, by omega⟩
          case measure => simp [intOf]; omega
    · obtain ⟨A', c', rfl, R⟩ := Row.of_own hown
      have HR := Lib.hid R
      have HE := Lib.hid (show dv acc = dv xs - dv ys by
        have h1 := HS.out
        have h2 := dv_lt HD.out
        have h3 := HLE.out
        rw [HL.out] at h2
        rw [List.take_of_length_le (l := xs) (by rw [hx.len]; omega), List.take_of_length_le (l := ys) (by rw [hy.len]; omega)] at h1
        rcases (show c = 0 ∨ c = 1 by omega) with h | h
        · rw [h] at h1; omega
        · rw [h] at h1; omega)
      clear hown R
      go_wp2_with fail
      go_ret
      exact ⟨A', _, c', acc, rfl, HR.out, ⟨HE.out, HD.out, by have := HL.out; omega⟩, HBEL.out⟩

set_option maxRecDepth 4000 in
set_option maxHeartbeats 1000000 in
theorem short_at (s : Bool) (A : Option Addr) (n c : Nat) (xs : List Nat) (w : World) (hx : Row w A n c xs) (dx : ∀ x ∈ xs, x < 1000) (hn : n ≤ 100000) :
    Calls Tryd.prog 34 #[.bool s, .slice A n c] w (fun e w' => ∃ k, e = .returned (.agg #[.bool (nzB s (dv xs)), .slice A k c]) ∧ Row w' A k c (digs (dv xs)) ∧ Below w.heap.size w w') := by
  have HDX := Lib.hid dx
  clear dx
  have hcap := hx.cap
  generalize hbb : nzB s (dv xs) = bb
  have HBB := Lib.hid hbb
  clear hbb
  go_enter Tryd.func34, Tryd.ntmps34
  go_wp2_with fail
  go_loop [1] (fun v => ∃ j : Nat, v = .slice A j c ∧ j ≤ n ∧ dv (xs.take j) = dv xs) (fun v => match v with | .slice _ j _ => j | _ => 0)
  case atStart => exact ⟨n, rfl, Nat.le_refl _, by rw [List.take_of_length_le (by rw [hx.len]; exact Nat.le_refl _)]⟩
  case round =>
    obtain ⟨j, rfl, hj, hd⟩ := hrel
    have HD := Lib.hid hd
    clear hd
    by_cases h0 : j = 0
    · subst h0
      have hz : dv xs = 0 := by rw [← HD.out]; rfl
      have HZ := Lib.hid (show digs (dv xs) = [] by rw [hz, digs_zero])
      have HB := Lib.hid (show bb = false by rw [← HBB.out, hz]; simp [nzB])
      clear hz
      cases s
      all_goals
        go_wp2_with fail
        refine bodyPost_ret (v := .agg #[.bool false, .slice A 0 c]) (by simp [results, Tryd.results34, go_sem]) rfl ⟨0, by rw [HB.out], ⟨by rw [HZ.out]; rfl, Nat.zero_le _, fun h => absurd h (by omega)⟩, ?_⟩
        exact (Below.refl _ _).alloc (Nat.le_refl _) _
    · obtain ⟨i, rfl⟩ : ∃ i, j = i + 1 := ⟨j - 1, by omega⟩
      clear h0
      obtain ⟨g, off, x, hA, hxk, hx1, hxc⟩ := hx.get HDX.out (k := i) (by omega)
      subst hA
      have cx := hxc (w.alloc (.cells #[.bool false, .slice none 0 0] 41)) ((Below.refl _ _).alloc (Nat.le_refl _) _)
      clear hxc
      have HXK := Lib.hid hxk
      clear hxk
      by_cases hx0 : x = 0
      · have t0 : ((x : Int) == 0) = true := by rw [beq_iff_eq]; omega
        have HNX := Lib.hid (show dv (xs.take i) = dv xs by rw [← HD.out, dv_take HXK.out, hx0]; omega)
        clear hx0
        go_wp2_with fail
        go_round
        case rel => exact ⟨i, by go_num, by omega, HNX.out⟩
        case measure => simp
      · have t0 : ((x : Int) == 0) = false := by rw [beq_eq_false_iff_ne]; omega
        have hpos : dv xs ≠ 0 := by
          rw [← HD.out, dv_take HXK.out]
          have h1 : 0 < 1000 ^ i * x := Nat.mul_pos (Nat.pow_pos (by omega)) (by omega)
          omega
        have hl : xs.take (i + 1) = digs (dv xs) := by
          rw [← HD.out]
          refine digs_dv _ (fun y hy => HDX.out y (List.mem_of_mem_take hy)) (fun y hy => ?_)
          have hle : i < xs.length := (List.getElem?_eq_some_iff.1 HXK.out).1
          rw [List.take_add_one, HXK.out] at hy
          simp at hy
          omega
        have HL := Lib.hid hl
        have hlen : (digs (dv xs)).length = i + 1 := by rw [← hl, List.length_take, hx.len]; omega
        have HLN := Lib.hid hlen
        have HB := Lib.hid (show bb = s by rw [← HBB.out]; simp [nzB, hpos])
        have HR : Hid (∀ w', Below w.heap.size w w' → Row w' (some ⟨g, off, none⟩) (i + 1) c (digs (dv xs))) := fun w' hb => ⟨HLN.out, by omega, fun _ => by
          obtain ⟨g', off', hA', hg', hc'⟩ := hx.at_ (by omega)
          injection hA' with hA'
          injection hA' with e1 e2 _
          subst e1 e2
          refine ⟨g, off, rfl, Nat.lt_of_lt_of_le hg' hb.size, fun q y hy => ?_⟩
          rw [hb.cell (p := ⟨g, off + q, none⟩) hg']
          refine hc' q y ?_
          rw [← HL.out, List.getElem?_take] at hy
          split at hy
          · exact hy
          · cases hy⟩
        clear hx0 hpos hl hlen
        cases s
        · go_wp2_with fail
          refine bodyPost_ret (v := .agg #[.bool false, .slice (some ⟨g, off, none⟩) (i + 1) c]) (by simp [results, Tryd.results34, go_sem]) rfl ⟨_, by rw [HB.out], HR.out _ ?_, ?_⟩
          · exact (Below.refl _ _).alloc (Nat.le_refl _) _
          · exact (Below.refl _ _).alloc (Nat.le_refl _) _
        · go_wp2_with fail
          refine bodyPost_ret (v := .agg #[.bool true, .slice (some ⟨g, off, none⟩) (i + 1) c]) (by simp [results, Tryd.results34, go_sem]) rfl ⟨_, by rw [HB.out], HR.out _ ?_, ?_⟩
          · exact (Below.refl _ _).alloc (Nat.le_refl _) _
          · exact (Below.refl _ _).alloc (Nat.le_refl _) _
theorem short_any (s : Bool) (A : Option Addr) (n c : Nat) (xs : List Nat) (w : World) (hx : Row w A n c xs) (dx : ∀ x ∈ xs, x < 1000) (hn : n ≤ 100000) :
    Calls Tryd.prog 34 #[.bool s, .slice A n c] w (RetN w (nzB s (dv xs)) (digs (dv xs))) :=
  (short_at s A n c xs w hx dx hn).mono fun e w' ⟨k, h1, h2, h3⟩ => ⟨A, k, c, h1, h2, h3⟩
end Go.Proofs.YtmccmgplgdmjbaaDoor
