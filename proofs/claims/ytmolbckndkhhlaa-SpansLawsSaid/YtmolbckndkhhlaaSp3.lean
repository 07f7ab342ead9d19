/- corrodyref07.Ends: the plain side. -/
import Derived.Test.YtmolbckndkhhlaaSp2
namespace Corr
def endsL (o : List Int) (l : SpL) : List Int := l.foldl (fun o s => insE (heldI s.2) (insE (heldI s.1) o)) o
theorem endsL_more {o : List Int} {l : SpL} {k : Nat} {s : Int × Int} (h : l[k]? = some s) : endsL o (l.take (k + 1)) = insE (heldI s.2) (insE (heldI s.1) (endsL o (l.take k))) := by
  unfold endsL
  rw [List.take_add_one, h, List.foldl_append]; rfl
theorem endsL_len (o : List Int) : ∀ (l : SpL) , (endsL o l).length ≤ o.length + 2 * l.length := by
  intro l
  induction l generalizing o with
  | nil => simp [endsL]
  | cons s r ih =>
    have h1 := ih (insE (heldI s.2) (insE (heldI s.1) o))
    have h2 := insE_len (heldI s.2) (insE (heldI s.1) o)
    have h3 := insE_len (heldI s.1) o
    have e : endsL o (s :: r) = endsL (insE (heldI s.2) (insE (heldI s.1) o)) r := rfl
    rw [e, List.length_cons]; omega
end Corr
