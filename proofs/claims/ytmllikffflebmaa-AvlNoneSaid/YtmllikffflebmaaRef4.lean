/- Contracts of corrodyref01: against. -/
import Derived.Test.YtmllikffflebmaaRef3
import Derived.Deep.QuietTactic
import Derived.BigQuiet
namespace Corr
open Go Go.RowKit
theorem digs_low : ∀ (n : Nat), 0 < n → 1000 ^ ((digs n).length - 1) ≤ n := by
  intro n
  induction n using Nat.strongRecOn with
  | _ n ih =>
    intro hn
    rw [digs_pos hn, List.length_cons, Nat.add_sub_cancel]
    by_cases h : n / 1000 = 0
    · rw [h, digs_zero]; simp; omega
    · have h1 := ih (n / 1000) (by omega) (by omega)
      have h2 : (digs (n / 1000)).length ≠ 0 := by rw [digs_pos (by omega)]; simp
      have h3 : 1000 ^ (digs (n / 1000)).length = 1000 ^ ((digs (n / 1000)).length - 1) * 1000 := by rw [← Nat.pow_succ]; congr 1; omega
      rw [h3]
      omega
theorem digs_lt_of_len {a b : Nat} (h : (digs a).length < (digs b).length) : a < b := by
  have hb : 0 < b := by
    rcases Nat.eq_zero_or_pos b with e | e
    · rw [e, digs_zero] at h; simp at h
    · exact e
  have h1 := dv_lt (digs_lt a)
  rw [dv_digs] at h1
  have h2 := digs_low b hb
  have h3 : 1000 ^ (digs a).length ≤ 1000 ^ ((digs b).length - 1) := Nat.pow_le_pow_right (by omega) (by omega)
  omega
/-- Rows of one length that are the same behind a place are as they are at it. -/
theorem dv_place {xs ys : List Nat} {i x y : Nat} (hx : xs[i]? = some x) (hy : ys[i]? = some y) (dx : ∀ z ∈ xs, z < 1000) (hd : xs.drop (i + 1) = ys.drop (i + 1)) (hlt : x < y) : dv xs < dv ys := by
  have hlx : i < xs.length := (List.getElem?_eq_some_iff.1 hx).1
  have hly : i < ys.length := (List.getElem?_eq_some_iff.1 hy).1
  have h1 : dv xs = dv (xs.take (i + 1)) + 1000 ^ (i + 1) * dv (xs.drop (i + 1)) := by
    have h := dv_append (xs.take (i + 1)) (xs.drop (i + 1))
    rw [List.take_append_drop, List.length_take, Nat.min_eq_left (by omega)] at h
    exact h
  have h2 : dv ys = dv (ys.take (i + 1)) + 1000 ^ (i + 1) * dv (ys.drop (i + 1)) := by
    have h := dv_append (ys.take (i + 1)) (ys.drop (i + 1))
    rw [List.take_append_drop, List.length_take, Nat.min_eq_left (by omega)] at h
    exact h
  rw [h1, h2, hd, dv_take hx, dv_take hy]
  have h3 : dv (xs.take i) < 1000 ^ (xs.take i).length := dv_lt (fun z hz => dx z (List.mem_of_mem_take hz))
  rw [List.length_take, Nat.min_eq_left (by omega)] at h3
  have h4 : 1000 ^ i * (x + 1) ≤ 1000 ^ i * y := Nat.mul_le_mul_left _ hlt
  rw [Nat.mul_add, Nat.mul_one] at h4
  omega
theorem digs_inj {a b : Nat} (h : digs a = digs b) : a = b := by rw [← dv_digs a, h, dv_digs]
/-- What a call leaves that compares, and only draws. -/
def RetCmp (w : World) (z : Int) (e : Ending) (w' : World) : Prop := e = .returned (.int .i64 z) ∧ ∃ n, w' = w.drewN n
end Corr
namespace Go.Proofs.Ytmllikffflebmaa
open Go.RowKit Corr
set_option linter.unusedVariables false

end Go.Proofs.Ytmllikffflebmaa
