/- Contract of corrodyref08: Insert. (Written by wip/gen/genav3.py.) -/
import Derived.Test.YtmllikffflebmaaAv2
import Derived.Deep.RegionLaw
import Derived.Deep.CutRange
import Derived.Deep.AppendLies
import Derived.Laws.IdiomStrings
import Derived.Deep.DeepCutAuto
import Derived.Deep.CutBlock
namespace Corr
open Go Go.RowKit
/-- An item at its place. -/
def insI (x : It) (l : ItL) : ItL := l.take (cntI x l) ++ x :: l.drop (cntI x l)
/-- The document's tree in a block that may be written; its items in a row of someone's own. -/
structure RTreeW (T : TypeId) (w : World) (g : Nat) (M : Int) (A : Option Addr) (n c : Nat) (l : ItL) : Prop where
  b : Blk w g #[.int .i64 M, .slice A n c]
  o : w.ownsRow 0 T 3 (.slice A n c) n (cells3 l)
section
variable {T : TypeId} {w w' : World} {g n c : Nat} {M : Int} {A : Option Addr} {l : ItL}
theorem RTreeW.r (h : RTreeW T w g M A n c l) : RTree w g A n c l := ⟨h.b.get 1 rfl, own_lies h.o⟩
theorem RTreeW.keep (h : RTreeW T w g M A n c l) (hb : Below w.heap.size w w') : RTreeW T w' g M A n c l := ⟨h.b.keep hb, own_keep h.o hb⟩
theorem RTreeW.sz (h : RTreeW T w g M A n c l) : g < w.heap.size := h.b.sz
theorem RTreeW.len (h : RTreeW T w g M A n c l) : l.length = n := Itm.count h.r.i
end
end Corr
namespace Go.Proofs.Ytmllikffflebmaa
open Go.RowKit Corr
set_option linter.unusedVariables false
set_option linter.unusedSimpArgs false
theorem elem_item : Elem Try.prog 29 33 (.agg #[.int .i64 0, .int .i64 0, .int .i64 0]) 3 24 := by
  obtain ⟨i, h0, h1, h2, h3⟩ := info_parts (show (Try.prog.info? 33).map (fun i => (i.zero, i.size, i.bytes)) = some (some (.agg #[.int .i64 0, .int .i64 0, .int .i64 0]), 3, 24) by kernel_rfl)
  exact ⟨Try.underlying29, ⟨i, h0, h1, h2, h3⟩, rfl, by decide⟩
end Go.Proofs.Ytmllikffflebmaa
