/- A tree of the program's beside the document's: what either's calls keep of the other. No walk of the program's functions in this text. -/
import Derived.Test.YtmllikffflebmaaOff
import Derived.Test.YtmllikffflebmaaAv4
namespace Corr
open Go Go.RowKit
set_option linter.unusedVariables false
/-- What Insert tells, and leaves. -/
def insR (M : Int) (x : It) (l : ItL) : Int := if x.2.1 ≤ x.1 then 2 else if hasI x l = true then 6 else if (l.length : Int) = M then 7 else 0
def insL (M : Int) (x : It) (l : ItL) : ItL := if insR M x l = 0 then insI x l else l
/-- What Delete tells, and leaves. -/
def delR (x : It) (l : ItL) : Int := if hasI x l = true then 0 else 5
def delL (x : It) (l : ItL) : ItL := if hasI x l = true then delI x l else l
/-- A row's block. -/
abbrev inRow (A : Option Addr) (n c k : Nat) : Prop := (Value.slice A n c).ownBlock = some k
/-- How a tree of the program's lies: in which world, where, in which blocks, of how many at most, with what items. -/
abbrev RepT := World → Value → (Nat → Prop) → Int → ItL → Prop
section
variable {T : TypeId} {w w' : World} {g n c : Nat} {M : Int} {A : Option Addr} {l : ItL} {G : Nat → Prop}
theorem RTreeW.off (h : RTreeW T w g M A n c l) (ho : Off G w w') (hg : ¬ G g) (ha : ∀ k, inRow A n c k → ¬ G k) : RTreeW T w' g M A n c l := ⟨ho.blk h.b hg, ho.own h.o ha⟩
end
/-- Both trees, and blocks beside them. -/
structure Pair (Rep : RepT) (T : TypeId) (B : Nat) (w0 : World) (p : Value) (g : Nat) (M : Int) (F : Nat → Prop) (A : Option Addr) (n c : Nat) (lp lr : ItL) (os : List (Nat × Array Value)) (w : World) : Prop where
  rep : Rep w p F M lp
  tree : RTreeW T w g M A n c lr
  fg : ¬ F g
  fa : ∀ k, inRow A n c k → ¬ F k
  fb : ∀ k, F k → B ≤ k
  gb : B ≤ g
  ab : ∀ k, inRow A n c k → B ≤ k
  oth : ∀ q ∈ os, Blk w q.1 q.2 ∧ ¬ F q.1 ∧ q.1 ≠ g ∧ ∀ k, inRow A n c k → q.1 ≠ k
  bl : Below B w0 w
  bs : B ≤ w.heap.size
/-- What both laws of the tree's blocks are asked: it lies in blocks that are there, and stays while others turn. -/
structure RepOk (Rep : RepT) : Prop where
  lt : ∀ {w p F M l}, Rep w p F M l → ∀ k, F k → k < w.heap.size
  keep : ∀ {w w' p F G M l}, Rep w p F M l → Off G w w' → (∀ k, F k → ¬ G k) → Rep w' p F M l
section
variable {Rep : RepT} {T : TypeId} {B : Nat} {w0 w w' : World} {p : Value} {g n c : Nat} {M : Int} {F F' : Nat → Prop} {A : Option Addr} {lp lp' lr lr' : ItL} {os : List (Nat × Array Value)}
theorem Pair.oth_lt (h : Pair Rep T B w0 p g M F A n c lp lr os w) {q : Nat × Array Value} (hq : q ∈ os) : q.1 < w.heap.size := (h.oth q hq).1.sz
/-- Something else turned. -/
theorem Pair.off (R : RepOk Rep) (h : Pair Rep T B w0 p g M F A n c lp lr os w) {G : Nat → Prop} (ho : Off G w w') (hF : ∀ k, F k → ¬ G k) (hg : ¬ G g) (ha : ∀ k, inRow A n c k → ¬ G k) (hos : ∀ q ∈ os, ¬ G q.1) (hB : ∀ k, G k → B ≤ k) : Pair Rep T B w0 p g M F A n c lp lr os w' :=
  ⟨R.keep h.rep ho hF, h.tree.off ho hg ha, h.fg, h.fa, h.fb, h.gb, h.ab, fun q hq => ⟨ho.blk (h.oth q hq).1 (hos q hq), (h.oth q hq).2⟩, h.bl.trans (ho.below h.bs hB), Nat.le_trans h.bs ho.size⟩
theorem Pair.keep (R : RepOk Rep) (h : Pair Rep T B w0 p g M F A n c lp lr os w) (hb : Below w.heap.size w w') : Pair Rep T B w0 p g M F A n c lp lr os w' :=
  h.off R (Off.of (F := fun _ => False) hb) (fun _ _ e => e) (fun e => e) (fun _ _ e => e) (fun _ _ e => e) (fun _ e => e.elim)
/-- The program's tree was changed. -/
theorem Pair.prog (R : RepOk Rep) (h : Pair Rep T B w0 p g M F A n c lp lr os w) (ho : Off F w w') (hr : Rep w' p F' M lp') (hF : ∀ k, F' k → F k ∨ w.heap.size ≤ k) : Pair Rep T B w0 p g M F' A n c lp' lr os w' := by
  have new : ∀ k, k < w.heap.size → ¬ F k → ¬ F' k := fun k hk hn e => by
    rcases hF k e with h1 | h1
    · exact hn h1
    · omega
  exact ⟨hr, h.tree.off ho h.fg h.fa, new g h.tree.sz h.fg, fun k hk => new k (own_lt h.tree.o hk) (h.fa k hk), fun k hk => by
    rcases hF k hk with h1 | h1
    · exact h.fb k h1
    · exact Nat.le_trans h.bs h1, h.gb, h.ab, fun q hq => ⟨ho.blk (h.oth q hq).1 (h.oth q hq).2.1, new _ (h.oth_lt hq) (h.oth q hq).2.1, (h.oth q hq).2.2⟩, h.bl.trans (ho.below h.bs h.fb), Nat.le_trans h.bs ho.size⟩
/-- A new block beside both. -/
theorem Pair.push (R : RepOk Rep) (h : Pair Rep T B w0 p g M F A n c lp lr os w) (vs : Array Value) (U : TypeId) : Pair Rep T B w0 p g M F A n c lp lr ((w.heap.size, vs) :: os) (w.alloc (.cells vs U)) := by
  have k := h.keep R ((Below.refl _ _).alloc (Nat.le_refl _) (.cells vs U))
  refine ⟨k.rep, k.tree, k.fg, k.fa, k.fb, k.gb, k.ab, fun q hq => ?_, k.bl, k.bs⟩
  rcases List.mem_cons.1 hq with rfl | hq
  · refine ⟨Blk.new w vs U, fun e => ?_, fun e => ?_, fun j hj e => ?_⟩
    · have := R.lt h.rep _ e
      exact absurd this (Nat.lt_irrefl _)
    · have := h.tree.sz
      have e : w.heap.size = g := e
      omega
    · have := own_lt h.tree.o hj
      have e : w.heap.size = j := e
      omega
  · exact k.oth q hq
theorem Pair.less (h : Pair Rep T B w0 p g M F A n c lp lr os w) {os' : List (Nat × Array Value)} (hs : ∀ q ∈ os', q ∈ os) : Pair Rep T B w0 p g M F A n c lp lr os' w :=
  ⟨h.rep, h.tree, h.fg, h.fa, h.fb, h.gb, h.ab, fun q hq => h.oth q (hs q hq), h.bl, h.bs⟩
end
end Corr
namespace Go.Proofs.Ytmllikffflebmaa
open Go.RowKit Corr
set_option linter.unusedVariables false
end Go.Proofs.Ytmllikffflebmaa
