/- Contracts of corrodyref07: Days, Wide. -/
import Derived.Test.YtmolbckndkhhlaaSpSet
namespace Corr
open Go Go.RowKit
theorem two_len (kind : Int) (a b : SpL) : (twoL kind a b).length ≤ 2 * a.length + 2 * b.length := by
  have h1 := rightK_len (endsAB a b) (markL kind a b (endsAB a b)) ((endsAB a b).length - 1)
  have h2 := endsAB_len a b
  unfold twoL; omega
/-- How many days a number of days behind counts as. -/
def clampK (k : Int) : Int := if k < 0 then 0 else if 3652060 < k then 3652060 else k
theorem clampK_in (k : Int) : 0 ≤ clampK k ∧ clampK k ≤ 3652060 := by
  unfold clampK
  repeat' split
  all_goals omega
/-- Half put off. -/
def halfW (k : Int) (l : SpL) (i : Nat) : SpL := widenL k (l.take i) ++ l.drop i
theorem halfW_at {k : Int} {l : SpL} {i : Nat} {s : Int × Int} (h : l[i]? = some s) : (halfW k l i)[i]? = some s := by
  have hi := (List.getElem?_eq_some_iff.1 h).1
  unfold halfW widenL
  rw [List.getElem?_append_right (by simp; omega)]
  simp only [List.length_map, List.length_take]
  rw [List.getElem?_drop, show i + (i - min i l.length) = i by omega, h]
theorem halfW_next {k : Int} {l : SpL} {i : Nat} {x y : Int} (h : l[i]? = some (x, y)) : (halfW k l i).set i (x, y + k) = halfW k l (i + 1) := by
  have hi := (List.getElem?_eq_some_iff.1 h).1
  unfold halfW
  have hl : (widenL k (l.take i)).length = i := by unfold widenL; simp; omega
  rw [List.set_append_right _ _ (by omega), hl, Nat.sub_self]
  have e : l.drop i = (x, y) :: l.drop (i + 1) := by rw [List.drop_eq_getElem_cons hi, (List.getElem?_eq_some_iff.1 h).2]
  rw [e, List.set_cons_zero, List.take_add_one, h]
  unfold widenL
  rw [List.map_append, List.append_assoc]; rfl
theorem halfW_0 (k : Int) (l : SpL) : halfW k l 0 = l := by unfold halfW widenL; simp
theorem halfW_all {k : Int} {l : SpL} {i : Nat} (h : i = l.length) : halfW k l i = widenL k l := by subst h; unfold halfW; simp
def wideL (k : Int) (l : SpL) : SpL := twoL 0 (widenL (clampK k) (twoL 0 l [])) []
end Corr
namespace Go.Proofs.Ytmolbckndkhhlaa
open Go.RowKit Corr
set_option linter.unusedVariables false
set_option linter.unusedSimpArgs false
end Go.Proofs.Ytmolbckndkhhlaa
