/- corrodyref08: the plain side; Less. Contracts of corrodyref08: place, Has. (Written by wip/gen/genav2.py.) -/
import Derived.Test.YtolmkagedlcjiaaChecked
import Derived.Test.YtolmkagedlcjiaaRow3
import Derived.Test.YtolmkagedlcjiaaRowRel
import Derived.BigQuiet
namespace Corr
/-- Is an item less? -/
def lessB (a b : It) : Bool := if a.1 = b.1 then (if a.2.1 = b.2.1 then decide (a.2.2 < b.2.2) else decide (a.2.1 < b.2.1)) else decide (a.1 < b.1)
/-- How many stand ahead of it. -/
def cntI (x : It) (l : ItL) : Nat := (l.takeWhile fun y => lessB y x).length
end Corr
namespace Go.Proofs.Ytolmkagedlcjiaa
open Go.RowKit Corr
set_option linter.unusedVariables false
set_option linter.unusedSimpArgs false
end Go.Proofs.Ytolmkagedlcjiaa
namespace Corr
open Go Go.RowKit
theorem cntI_at {x : It} {l : ItL} {k : Nat} (hk : k ≤ l.length) (h1 : ∀ y ∈ l.take k, lessB y x = true) (h2 : ∀ y, l[k]? = some y → lessB y x = false) : cntI x l = k := by
  unfold cntI
  have e : l = l.take k ++ l.drop k := (List.take_append_drop k l).symm
  have hd : (l.drop k).takeWhile (fun y => lessB y x) = [] := by
    cases hd : l.drop k with
    | nil => rfl
    | cons y r =>
      have : l[k]? = some y := by
        have := congrArg (·[0]?) hd
        simpa using this
      rw [List.takeWhile_cons, h2 y this]; rfl
  rw [e, List.takeWhile_append_of_pos h1, hd, List.append_nil, List.length_take]
  omega
/-- Does it stand there? -/
def hasI (x : It) (l : ItL) : Bool := decide (l[cntI x l]? = some x)
/-- The document's tree: so many at most, its items in a row. -/
structure RTree (w : World) (g : Nat) (A : Option Addr) (n c : Nat) (l : ItL) : Prop where
  s : w.cell? ⟨g, 1, none⟩ = some (.slice A n c)
  i : Itm w A n c l
theorem RTree.lt {w : World} {g n c : Nat} {A : Option Addr} {l : ItL} (h : RTree w g A n c l) : g < w.heap.size := World.block_lt_of_cell? _ _ h.s
theorem RTree.keep {w w' : World} {g n c : Nat} {A : Option Addr} {l : ItL} (h : RTree w g A n c l) (hb : Below w.heap.size w w') : RTree w' g A n c l :=
  ⟨(hb.cell (p := ⟨g, 1, none⟩) h.lt).trans h.s, h.i.keep hb⟩
end Corr
namespace Go.Proofs.Ytolmkagedlcjiaa
open Go.RowKit Corr
set_option linter.unusedVariables false
set_option linter.unusedSimpArgs false
end Go.Proofs.Ytolmkagedlcjiaa
