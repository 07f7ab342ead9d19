/- Contract of corrodyref08: Insert. (Written by wip/gen/genav3.py.) Contracts of corrodyref08: Delete, Same. (Written by wip/gen/genav4.py.) Contract of corrodyref08: Same. (Written by wip/gen/genav5.py.) -/
import Derived.Test.YtolmkagedlcjiaaAv2
import Derived.Deep.RegionLaw
import Derived.Deep.CutRange
import Derived.Deep.AppendLies
import Derived.Laws.IdiomStrings
import Derived.Deep.DeepCutAuto
import Derived.Deep.CutBlock
import Derived.Deep.RegionHeld3
namespace Corr
open Go Go.RowKit
/-- An item at its place. -/
def insI (x : It) (l : ItL) : ItL := l.take (cntI x l) ++ x :: l.drop (cntI x l)
theorem cntI_le (x : It) (l : ItL) : cntI x l ≤ l.length := by unfold cntI; exact (List.takeWhile_sublist _).length_le
/-- The document's tree in a block that may be written; its items in a row of someone's own. -/
structure RTreeW (T : TypeId) (w : World) (g : Nat) (M : Int) (A : Option Addr) (n c : Nat) (l : ItL) : Prop where
  b : Blk w g #[.int .i64 M, .slice A n c]
  o : w.ownsRow 0 T 3 (.slice A n c) n (cells3 l)
section
variable {T : TypeId} {w w' : World} {g n c : Nat} {M : Int} {A : Option Addr} {l : ItL}
theorem RTreeW.r (h : RTreeW T w g M A n c l) : RTree w g A n c l := ⟨h.b.get 1 rfl, own_lies h.o⟩
theorem RTreeW.keep (h : RTreeW T w g M A n c l) (hb : Below w.heap.size w w') : RTreeW T w' g M A n c l := ⟨h.b.keep hb, own_keep h.o hb⟩
theorem RTreeW.sz (h : RTreeW T w g M A n c l) : g < w.heap.size := h.b.sz
theorem RTreeW.len (h : RTreeW T w g M A n c l) : l.length = n := Itm.count h.r.i
end
/-- What a call leaves that changed the tree at g: a new row, named by its cell. -/
def RetTree (T : TypeId) (g : Nat) (w : World) (l : ItL) (e : Ending) (w' : World) : Prop :=
  ∃ A n c w1, e = .returned (.int .i64 0) ∧ Below w.heap.size w w1 ∧ w1.ownsRow w.heap.size T 3 (.slice A n c) n (cells3 l) ∧ w' = w1.setCell ⟨g, 1, none⟩ (.slice A n c)
end Corr
namespace Go.Proofs.Ytolmkagedlcjiaa
open Go.RowKit Corr
set_option linter.unusedVariables false
set_option linter.unusedSimpArgs false
theorem elem_item : Elem Try.prog 22 30 (.agg #[.int .i64 0, .int .i64 0, .int .i64 0]) 3 24 := by
  obtain ⟨i, h0, h1, h2, h3⟩ := info_parts (show (Try.prog.info? 30).map (fun i => (i.zero, i.size, i.bytes)) = some (some (.agg #[.int .i64 0, .int .i64 0, .int .i64 0]), 3, 24) by kernel_rfl)
  exact ⟨Try.underlying22, ⟨i, h0, h1, h2, h3⟩, rfl, by decide⟩
end Go.Proofs.Ytolmkagedlcjiaa
namespace Corr
open Go Go.RowKit
/-- Without the item at its place. -/
def delI (x : It) (l : ItL) : ItL := l.take (cntI x l) ++ l.drop (cntI x l + 1)
end Corr
namespace Go.Proofs.Ytolmkagedlcjiaa
open Go.RowKit Corr
set_option linter.unusedVariables false
set_option linter.unusedSimpArgs false
end Go.Proofs.Ytolmkagedlcjiaa
namespace Go.Proofs.Ytolmkagedlcjiaa
open Go.RowKit Corr
set_option linter.unusedVariables false
set_option linter.unusedSimpArgs false
end Go.Proofs.Ytolmkagedlcjiaa
