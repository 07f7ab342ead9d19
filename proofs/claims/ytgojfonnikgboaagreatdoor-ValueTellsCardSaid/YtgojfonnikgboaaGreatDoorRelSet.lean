/- A region that draws its order, whose head's operations each yield one value, in whatever order, while the world goes from state to state: WHAT HOLDS OF THE WORLD MAY HANG ON WHICH OPERATIONS HAVE BEEN CARRIED OUT. (XRel.lean's law, without new blocks; the class is indexed by what is behind.) Over any program. -/
import Derived.Test.YtgojfonnikgboaaGreatDoorRel
namespace Corr
open Go Go.RowKit
set_option linter.unusedVariables false
def setUpon (P : Program) (w : World) (R : Value → World → Prop) : Result Next → Prop
  | .ok (.value u) w' => R u w'
  | .ok .skip w' => R undef w'
  | .ok (.enter f args) w' => Calls P f args w' fun e w'' => ∃ u, e = .returned u ∧ R u w''
  | _ => False
def OpSet (P : Program) (o : Oper) (ev : Operand → Value) (w : World) (R : Value → World → Prop) : Prop := setUpon P w R ((execOp ev o).run P w)
theorem wp_of_set {P : Program} {o : Oper} {a : Act} {w : World} {R : Value → World → Prop} {K : Act → World → Prop} {Q : Exit → Act → World → Prop} (h : OpSet P o a.eval w R)
    (hK : ∀ u w', R u w' → K (a.put o.dst u) w') : o.wp P a w K Q := by
  unfold OpSet at h
  unfold Oper.wp
  generalize (execOp a.eval o).run P w = r at *
  cases r with
  | ok x w' =>
    cases x <;> simp only [setUpon] at h <;> simp only [Oper.upon]
    case value u => exact hK _ _ h
    case skip => exact hK _ _ h
    case enter f args => exact h.mono fun e w'' ⟨u, he, hr⟩ => by subst he; exact hK _ _ hr
  | halt x w' => simp only [setUpon] at h
/-- One operation more is behind. -/
def addS (S : Nat → Bool) (i : Nat) : Nat → Bool := fun j => j == i || S j
def behind (listed : Array Bool) : Nat → Bool := fun j => listed.getD j false
theorem behind_set {listed : Array Bool} {i : Nat} (h : i < listed.size) : behind (listed.setIfInBounds i true) = addS (behind listed) i := by
  funext j
  unfold behind addS
  by_cases e : j = i
  · subst e; simp [h]
  · rw [getD_set_ne false (Ne.symm e), show (j == i) = false from beq_eq_false_iff_ne.2 e, Bool.false_or]
section
variable (P : Program) (l : List Oper) (n : Nat) (C : (Nat → Bool) → World → Prop) (val : Nat → Value) (eg : List Nat) (a0 : Act)
end
section
variable {P : Program} {l : List Oper} {n : Nat} {C : (Nat → Bool) → World → Prop} {val : Nat → Value} {eg : List Nat} {a0 : Act}
end
/-- An operation that yields at once. -/
theorem set_val {P : Program} {o : Oper} {ev : Operand → Value} {w w' : World} {R : Value → World → Prop} {u : Value} (hr : (execOp ev o).run P w = .ok (.value u) w') (hR : R u w') : OpSet P o ev w R := by
  unfold OpSet; rw [hr]; exact hR
end Corr
