/- Two trees of the program's, a row of the call's own beside them, and other blocks. No walk of the program's functions in this text. -/
import Derived.Test.YtolmkagedlcjiaaAvKnown
import Derived.Test.YtolmkagedlcjiaaAvSet
import Derived.Test.YtolmkagedlcjiaaApp2
namespace Corr
open Go Go.RowKit
set_option linter.unusedVariables false
structure Duo (Rep : RepT) (T : TypeId) (w0 : World) (p1 p2 : Value) (M : Int) (F1 F2 : Nat → Prop) (l1 l2 : ItL) (v : Value) (n : Nat) (mine : ItL) (os : List (Nat × Array Value)) (w : World) : Prop where
  r1 : Rep w p1 F1 M l1
  r2 : Rep w p2 F2 M l2
  f12 : ∀ k, F1 k → ¬ F2 k
  f1b : ∀ k, F1 k → w0.heap.size ≤ k
  f2b : ∀ k, F2 k → w0.heap.size ≤ k
  own : w.ownsRow w0.heap.size T 3 v n (cells3 mine)
  fv : ∀ k, v.ownBlock = some k → ¬ F1 k ∧ ¬ F2 k
  oth : ∀ q ∈ os, Blk w q.1 q.2 ∧ ¬ F1 q.1 ∧ ¬ F2 q.1 ∧ ∀ k, v.ownBlock = some k → q.1 ≠ k
  bl : Below w0.heap.size w0 w
def DuoE (Rep : RepT) (T : TypeId) (w0 : World) (p1 p2 : Value) (M : Int) (l1 l2 : ItL) (v : Value) (n : Nat) (mine : ItL) (os : List (Nat × Array Value)) (w : World) : Prop := ∃ F1 F2, Duo Rep T w0 p1 p2 M F1 F2 l1 l2 v n mine os w
section
variable {Rep : RepT} {T : TypeId} {w0 w w' : World} {p1 p2 : Value} {M : Int} {F1 F2 F' : Nat → Prop} {l1 l2 l' mine : ItL} {v : Value} {n : Nat} {os : List (Nat × Array Value)}
theorem Duo.off (R : RepOk Rep) (h : Duo Rep T w0 p1 p2 M F1 F2 l1 l2 v n mine os w) {G : Nat → Prop} (ho : Off G w w') (h1 : ∀ k, F1 k → ¬ G k) (h2 : ∀ k, F2 k → ¬ G k) (hv : ∀ k, v.ownBlock = some k → ¬ G k) (hos : ∀ q ∈ os, ¬ G q.1) (hB : ∀ k, G k → w0.heap.size ≤ k) : Duo Rep T w0 p1 p2 M F1 F2 l1 l2 v n mine os w' :=
  ⟨R.keep h.r1 ho h1, R.keep h.r2 ho h2, h.f12, h.f1b, h.f2b, ho.own h.own hv, h.fv, fun q hq => ⟨ho.blk (h.oth q hq).1 (hos q hq), (h.oth q hq).2⟩, h.bl.trans (ho.below h.bl.size hB)⟩
theorem Duo.keep (R : RepOk Rep) (h : Duo Rep T w0 p1 p2 M F1 F2 l1 l2 v n mine os w) (hb : Below w.heap.size w w') : Duo Rep T w0 p1 p2 M F1 F2 l1 l2 v n mine os w' :=
  h.off R (Off.of (F := fun _ => False) hb) (fun _ _ e => e) (fun _ _ e => e) (fun _ _ e => e) (fun _ _ e => e) (fun _ e => e.elim)
/-- The first tree was changed. -/
theorem Duo.one (R : RepOk Rep) (h : Duo Rep T w0 p1 p2 M F1 F2 l1 l2 v n mine os w) (ho : Off F1 w w') (hr : Rep w' p1 F' M l') (hF : ∀ k, F' k → F1 k ∨ w.heap.size ≤ k) : Duo Rep T w0 p1 p2 M F' F2 l' l2 v n mine os w' := by
  have new : ∀ k, k < w.heap.size → ¬ F1 k → ¬ F' k := fun k hk hn e => by
    rcases hF k e with h1 | h1
    · exact hn h1
    · omega
  exact ⟨hr, R.keep h.r2 ho (fun k h2 h1 => h.f12 k h1 h2), fun k hk h2 => by
    rcases hF k hk with h1 | h1
    · exact h.f12 k h1 h2
    · have := R.lt h.r2 k h2; omega, fun k hk => by
    rcases hF k hk with h1 | h1
    · exact h.f1b k h1
    · exact Nat.le_trans h.bl.size h1, h.f2b, ho.own h.own (fun k hk => (h.fv k hk).1), fun k hk => ⟨new k (own_lt h.own hk) (h.fv k hk).1, (h.fv k hk).2⟩,
    fun q hq => ⟨ho.blk (h.oth q hq).1 (h.oth q hq).2.1, new _ (h.oth q hq).1.sz (h.oth q hq).2.1, (h.oth q hq).2.2⟩, h.bl.trans (ho.below h.bl.size h.f1b)⟩
theorem Duo.swap (h : Duo Rep T w0 p1 p2 M F1 F2 l1 l2 v n mine os w) : Duo Rep T w0 p2 p1 M F2 F1 l2 l1 v n mine os w :=
  ⟨h.r2, h.r1, fun k h2 h1 => h.f12 k h1 h2, h.f2b, h.f1b, h.own, fun k hk => ⟨(h.fv k hk).2, (h.fv k hk).1⟩, fun q hq => ⟨(h.oth q hq).1, (h.oth q hq).2.2.1, (h.oth q hq).2.1, (h.oth q hq).2.2.2⟩, h.bl⟩
/-- A new block. -/
theorem Duo.push (R : RepOk Rep) (h : Duo Rep T w0 p1 p2 M F1 F2 l1 l2 v n mine os w) (vs : Array Value) (U : TypeId) : Duo Rep T w0 p1 p2 M F1 F2 l1 l2 v n mine ((w.heap.size, vs) :: os) (w.alloc (.cells vs U)) := by
  have k := h.keep R ((Below.refl _ _).alloc (Nat.le_refl _) (.cells vs U))
  refine ⟨k.r1, k.r2, k.f12, k.f1b, k.f2b, k.own, k.fv, fun q hq => ?_, k.bl⟩
  rcases List.mem_cons.1 hq with rfl | hq
  · exact ⟨Blk.new w vs U, fun e => absurd (R.lt h.r1 _ e) (Nat.lt_irrefl _), fun e => absurd (R.lt h.r2 _ e) (Nat.lt_irrefl _), fun j hj e => by
      have := own_lt h.own hj
      have e : w.heap.size = j := e
      omega⟩
  · exact k.oth q hq
theorem Duo.less (h : Duo Rep T w0 p1 p2 M F1 F2 l1 l2 v n mine os w) {os' : List (Nat × Array Value)} (hs : ∀ q ∈ os', q ∈ os) : Duo Rep T w0 p1 p2 M F1 F2 l1 l2 v n mine os' w :=
  ⟨h.r1, h.r2, h.f12, h.f1b, h.f2b, h.own, h.fv, fun q hq => h.oth q (hs q hq), h.bl⟩
/-- Something was appended to the row. -/
theorem Duo.app (R : RepOk Rep) (h : Duo Rep T w0 p1 p2 M F1 F2 l1 l2 v n mine os w) {v' : Value} {n' : Nat} {mine' : ItL} (ho : w'.ownsRow w0.heap.size T 3 v' n' (cells3 mine')) (hg : w.grownBy w' v.ownBlock) (hv : ∀ k, v'.ownBlock = some k → v.ownBlock = some k ∨ w.heap.size ≤ k) : Duo Rep T w0 p1 p2 M F1 F2 l1 l2 v' n' mine' os w' := by
  have hoff : Off (fun k => v.ownBlock = some k) w w' := ⟨hg.os, hg.tape, hg.output, hg.size, fun k hk hn => hg.block k hk fun e => hn e.symm⟩
  refine ⟨R.keep h.r1 hoff (fun k h1 e => (h.fv k e).1 h1), R.keep h.r2 hoff (fun k h1 e => (h.fv k e).2 h1), h.f12, h.f1b, h.f2b, ho, fun k hk => ?_, fun q hq => ⟨hoff.blk (h.oth q hq).1 (fun e => (h.oth q hq).2.2.2 _ e rfl), (h.oth q hq).2.1, (h.oth q hq).2.2.1, fun k hk e => ?_⟩, h.bl.trans (hoff.below h.bl.size (own_ge h.own))⟩
  · rcases hv k hk with h1 | h1
    · exact h.fv k h1
    · exact ⟨fun e => by have := R.lt h.r1 k e; omega, fun e => by have := R.lt h.r2 k e; omega⟩
  · rcases hv k hk with h1 | h1
    · exact (h.oth q hq).2.2.2 k h1 e
    · have := (h.oth q hq).1.sz; omega
end
end Corr
