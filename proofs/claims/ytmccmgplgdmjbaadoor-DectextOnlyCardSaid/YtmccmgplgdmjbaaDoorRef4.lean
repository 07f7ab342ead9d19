/- Contracts of corrodyref01: against. -/
import Derived.Test.YtmccmgplgdmjbaaDoorRef3
import Derived.Deep.QuietTactic
import Derived.BigQuiet
namespace Corr
set_option maxRecDepth 8000
open Go Go.RowKit
theorem digs_low : ∀ (n : Nat), 0 < n → 1000 ^ ((digs n).length - 1) ≤ n := by
  intro n
  induction n using Nat.strongRecOn with
  | _ n ih =>
    intro hn
    rw [digs_pos hn, List.length_cons, Nat.add_sub_cancel]
    by_cases h : n / 1000 = 0
    · rw [h, digs_zero]; simp; omega
    · have h1 := ih (n / 1000) (by omega) (by omega)
      have h2 : (digs (n / 1000)).length ≠ 0 := by rw [digs_pos (by omega)]; simp
      have h3 : 1000 ^ (digs (n / 1000)).length = 1000 ^ ((digs (n / 1000)).length - 1) * 1000 := by rw [← Nat.pow_succ]; congr 1; omega
      rw [h3]
      omega
theorem digs_lt_of_len {a b : Nat} (h : (digs a).length < (digs b).length) : a < b := by
  have hb : 0 < b := by
    rcases Nat.eq_zero_or_pos b with e | e
    · rw [e, digs_zero] at h; simp at h
    · exact e
  have h1 := dv_lt (digs_lt a)
  rw [dv_digs] at h1
  have h2 := digs_low b hb
  have h3 : 1000 ^ (digs a).length ≤ 1000 ^ ((digs b).length - 1) := Nat.pow_le_pow_right (by omega) (by omega)
  omega
/-- Rows of one length that are the same behind a place are as they are at it. -/
theorem dv_place {xs ys : List Nat} {i x y : Nat} (hx : xs[i]? = some x) (hy : ys[i]? = some y) (dx : ∀ z ∈ xs, z < 1000) (hd : xs.drop (i + 1) = ys.drop (i + 1)) (hlt : x < y) : dv xs < dv ys := by
  have hlx : i < xs.length := (List.getElem?_eq_some_iff.1 hx).1
  have hly : i < ys.length := (List.getElem?_eq_some_iff.1 hy).1
  have h1 : dv xs = dv (xs.take (i + 1)) + 1000 ^ (i + 1) * dv (xs.drop (i + 1)) := by
    have h := dv_append (xs.take (i + 1)) (xs.drop (i + 1))
    rw [List.take_append_drop, List.length_take, Nat.min_eq_left (by omega)] at h
    exact h
  have h2 : dv ys = dv (ys.take (i + 1)) + 1000 ^ (i + 1) * dv (ys.drop (i + 1)) := by
    have h := dv_append (ys.take (i + 1)) (ys.drop (i + 1))
    rw [List.take_append_drop, List.length_take, Nat.min_eq_left (by omega)] at h
    exact h
  rw [h1, h2, hd, dv_take hx, dv_take hy]
  have h3 : dv (xs.take i) < 1000 ^ (xs.take i).length := dv_lt (fun z hz => dx z (List.mem_of_mem_take hz))
  rw [List.length_take, Nat.min_eq_left (by omega)] at h3
  have h4 : 1000 ^ i * (x + 1) ≤ 1000 ^ i * y := Nat.mul_le_mul_left _ hlt
  rw [Nat.mul_add, Nat.mul_one] at h4
  omega
theorem digs_inj {a b : Nat} (h : digs a = digs b) : a = b := by rw [← dv_digs a, h, dv_digs]
/-- What a call leaves that compares, and only draws. -/
def RetCmp (w : World) (z : Int) (e : Ending) (w' : World) : Prop := e = .returned (.int .i64 z) ∧ ∃ n, w' = w.drewN n
end Corr
namespace Go.Proofs.YtmccmgplgdmjbaaDoor
set_option maxRecDepth 8000
open Go.RowKit Corr
set_option linter.unusedVariables false

set_option maxHeartbeats 1000000 in
theorem against_any (A B : Option Addr) (n m ca cb a b : Nat) (w : World) (hx : Row w A n ca (digs a)) (hy : Row w B m cb (digs b)) (hn : n ≤ 100000) (hm : m ≤ 100000) :
    Calls Tryd.prog 36 #[.slice A n ca, .slice B m cb] w (RetCmp w (cmpI a b)) := by
  generalize hz : cmpI (a : Int) (b : Int) = z
  have HZ := Lib.hid hz
  clear hz
  by_cases hne : n = m
  · subst hne
    have t1 : ((n : Int) != (n : Int)) = false := by simp
    go_enter Tryd.func36, Tryd.ntmps36
    go_wp2_with fail
    go_loopw [5] (fun t wr => ∃ k : Nat, t = .int .i64 ((k : Int) - 1) ∧ k ≤ n ∧ (digs a).drop k = (digs b).drop k ∧ ∃ q, wr = w.drewN q) (fun t _ => ((intOf t) + 1).toNat)
    case atStart => exact ⟨n, rfl, Nat.le_refl _, by rw [List.drop_of_length_le (by rw [hx.len]; exact Nat.le_refl _), List.drop_of_length_le (by rw [hy.len]; exact Nat.le_refl _)], 0, rfl⟩
    case round =>
      obtain ⟨k, rfl, hk, hd, q, rfl⟩ := hrel
      have HD := Lib.hid hd
      clear hd
      by_cases h0 : k = 0
      · subst h0
        have HE := Lib.hid (show z = 0 by
          rw [← HZ.out]
          have h := HD.out
          rw [List.drop_zero, List.drop_zero] at h
          exact cmpI_eq (by rw [digs_inj h]))
        go_wp2_with fail
        go_ret
        exact ⟨by rw [HE.out]; rfl, q, rfl⟩
      · obtain ⟨i, rfl⟩ : ∃ i, k = i + 1 := ⟨k - 1, by omega⟩
        clear h0
        obtain ⟨ga, oa, x, hA, hxk, hx1, hxc⟩ := hx.get (digs_lt a) (k := i) (by omega)
        obtain ⟨gb, ob, y, hB, hyk, hy1, hyc⟩ := hy.get (digs_lt b) (k := i) (by omega)
        subst hA hB
        have cx := hxc w (Below.refl _ _)
        have cy := hyc w (Below.refl _ _)
        have HXK := Lib.hid hxk
        have HYK := Lib.hid hyk
        clear hxc hyc hxk hyk
        have i1 : (i : Int) < (n : Int) := by omega
        have i2 : (0 : Int) ≤ (i : Int) := by omega
        simp only [show (((i + 1 : Nat) : Nat) : Int) - 1 = (i : Int) by omega]
        by_cases hxy : x = y
        · subst hxy
          have tne : ((x : Int) != (x : Int)) = false := by simp
          have HN := Lib.hid (show (digs a).drop i = (digs b).drop i by
            rw [List.drop_eq_getElem_cons (l := digs a) (by rw [hx.len]; omega), List.drop_eq_getElem_cons (l := digs b) (by rw [hy.len]; omega), HD.out]
            rw [(List.getElem?_eq_some_iff.1 HXK.out).2, (List.getElem?_eq_some_iff.1 HYK.out).2])
          go_wp2_with fail
          go_quiet (fail)
          go_wp2_with fail
          go_roundw
          case rel => exact ⟨i, rfl, by omega, HN.out, _, rfl⟩
          case measure => simp [intOf]
        · have tne : ((x : Int) != (y : Int)) = true := by rw [bne_iff_ne]; omega
          by_cases hlt : x < y
          · have HE := Lib.hid (show z = -1 by
              rw [← HZ.out]
              have h := dv_place HXK.out HYK.out (digs_lt a) HD.out hlt
              rw [dv_digs, dv_digs] at h
              exact cmpI_lt (by omega))
            clear hxy
            go_wp2_with fail
            go_quiet (fail)
            go_wp2_with fail
            go_quiet (fail)
            go_wp2_with fail
            go_ret
            exact ⟨by rw [HE.out]; rfl, _, by rw [World.drewN_drewN, World.drewN_drewN]⟩
          · have HE := Lib.hid (show z = 1 by
              rw [← HZ.out]
              have h := dv_place HYK.out HXK.out (digs_lt b) HD.out.symm (by omega)
              rw [dv_digs, dv_digs] at h
              exact cmpI_gt (by omega))
            have hge : y < x := by omega
            clear hxy hlt
            go_wp2_with fail
            go_quiet (fail)
            go_wp2_with fail
            go_quiet (fail)
            go_wp2_with fail
            go_ret
            exact ⟨by rw [HE.out]; rfl, _, by rw [World.drewN_drewN, World.drewN_drewN]⟩
  · have t1 : ((n : Int) != (m : Int)) = true := by rw [bne_iff_ne]; omega
    by_cases hlt : n < m
    · have HE := Lib.hid (show z = -1 by
        rw [← HZ.out]
        have h := digs_lt_of_len (a := a) (b := b) (by rw [hx.len, hy.len]; exact hlt)
        exact cmpI_lt (by omega))
      clear hne
      go_enter Tryd.func36, Tryd.ntmps36
      go_wp2_with fail
      go_ret
      exact ⟨by rw [HE.out]; rfl, 0, rfl⟩
    · have HE := Lib.hid (show z = 1 by
        rw [← HZ.out]
        have h := digs_lt_of_len (a := b) (b := a) (by rw [hx.len, hy.len]; omega)
        exact cmpI_gt (by omega))
      have hge : m < n := by omega
      clear hne hlt
      go_enter Tryd.func36, Tryd.ntmps36
      go_wp2_with fail
      go_ret
      exact ⟨by rw [HE.out]; rfl, 0, rfl⟩
end Go.Proofs.YtmccmgplgdmjbaaDoor
