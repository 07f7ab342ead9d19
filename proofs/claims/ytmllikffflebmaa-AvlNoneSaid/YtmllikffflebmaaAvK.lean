/- What the laws of package avl ask of it, said of plain lists and plain trees. -/
import Derived.Test.YtmllikffflebmaaAvPair
import Derived.Test.YtmllikffflebmaaRow4
namespace Corr
open Go Go.RowKit
set_option linter.unusedVariables false
/-- Balanced trees of items. -/
inductive AT
  | nil
  | node (l : AT) (x : It) (r : AT)
def AT.items : AT → ItL
  | .nil => []
  | .node l x r => l.items ++ x :: r.items
def AT.height : AT → Nat
  | .nil => 0
  | .node l _ r => max l.height r.height + 1
def AT.bal : AT → Prop
  | .nil => True
  | .node l _ r => l.bal ∧ r.bal ∧ l.height ≤ r.height + 1 ∧ r.height ≤ l.height + 1
/-- The greatest end. -/
def topL : ItL → Int
  | [] => 0
  | [x] => x.2.1
  | x :: r => max x.2.1 (topL r)
theorem AT.height0 {t : AT} (h : t.items.length = 0) : t = .nil := by
  cases t with
  | nil => rfl
  | node l x r => simp [AT.items] at h
/-- One item: a leaf. -/
theorem AT.one {t : AT} (h : t.items.length = 1) : ∃ x, t = .node .nil x .nil := by
  cases t with
  | nil => cases h
  | node l x r =>
    simp [AT.items] at h
    have h1 := AT.height0 (t := l) (by omega)
    have h2 := AT.height0 (t := r) (by omega)
    subst h1 h2
    exact ⟨x, rfl⟩
theorem AT.two {t : AT} (h : t.items.length = 2) : t.height = 2 := by
  cases t with
  | nil => cases h
  | node l x r =>
    simp [AT.items] at h
    by_cases hl : l.items.length = 0
    · have h1 := AT.height0 hl
      obtain ⟨y, h2⟩ := AT.one (t := r) (by omega)
      subst h1 h2; rfl
    · have h1 := AT.height0 (t := r) (by omega)
      obtain ⟨y, h2⟩ := AT.one (t := l) (by omega)
      subst h1 h2; rfl
theorem AT.three {t : AT} (h : t.items.length = 3) (hb : t.bal) : t.height = 2 ∧ ∃ x y z, t = .node (.node .nil x .nil) y (.node .nil z .nil) := by
  cases t with
  | nil => cases h
  | node l x r =>
    obtain ⟨_, _, b1, b2⟩ := hb
    simp [AT.items] at h
    by_cases h0 : l.items.length = 0
    · have e := AT.height0 h0
      have e2 := AT.two (t := r) (by omega)
      subst e
      rw [e2] at b2; simp [AT.height] at b2
    · by_cases h2 : r.items.length = 0
      · have e := AT.height0 h2
        have e2 := AT.two (t := l) (by omega)
        subst e
        rw [e2] at b1; simp [AT.height] at b1
      · obtain ⟨a, ha⟩ := AT.one (t := l) (by omega)
        obtain ⟨b, hb⟩ := AT.one (t := r) (by omega)
        subst ha hb
        exact ⟨rfl, a, x, b, rfl⟩
/-- A node as it is told. -/
abbrev knotV (x : It) (a b h t : Int) : Value := .agg #[.int .i64 x.1, .int .i64 x.2.1, .int .i64 x.2.2, .int .i64 a, .int .i64 b, .int .i64 h, .int .i64 t]
/-- An answer that is a row of items of the call's own. -/
def RetItems (T : TypeId) (w : World) (l : ItL) (e : Ending) (w' : World) : Prop := ∃ A n c, e = .returned (.slice A n c) ∧ w'.ownsRow w.heap.size T 3 (.slice A n c) n (cells3 l) ∧ Below w.heap.size w w'
end Corr
namespace Go.Proofs.Ytmllikffflebmaa
open Go.RowKit Corr
set_option linter.unusedVariables false
/-- How trees of package avl are made, and items put: 'Rep w p F M l' says that in w the tree at p, of at most M items, lies in the blocks F and has the items l. -/
structure AvlK0 (Rep : RepT) : Prop extends RepOk Rep where
  make : ∀ (M : Int) (w : World), 1 ≤ M → M ≤ 1000000 → Calls Try.prog 7 #[.int .i64 M] w fun e w' => ∃ (q : Addr) (F : Nat → Prop), e = .returned (.tuple #[.pointer (some q), .int .i64 0]) ∧ Rep w' (.pointer (some q)) F M [] ∧ Below w.heap.size w w' ∧ ∀ k, F k → w.heap.size ≤ k
  insert : ∀ (w : World) (p : Value) (F : Nat → Prop) (M : Int) (l : ItL) (x : It), Rep w p F M l → l.length ≤ 1000 → Calls Try.prog 8 #[p, itV x] w fun e w' => ∃ F' : Nat → Prop, e = .returned (.int .i64 (insR M x l)) ∧ Rep w' p F' M (insL M x l) ∧ Off F w w' ∧ ∀ k, F' k → F k ∨ w.heap.size ≤ k
/-- What package avl does. -/
structure AvlK (Rep : RepT) : Prop extends AvlK0 Rep where
  none : ∀ (M : Int) (w : World), M < 1 ∨ 1000000 < M → Calls Try.prog 7 #[.int .i64 M] w fun e w' => e = .returned (.tuple #[.pointer none, .int .i64 2]) ∧ Below w.heap.size w w'
  delete : ∀ (w : World) (p : Value) (F : Nat → Prop) (M : Int) (l : ItL) (x : It), Rep w p F M l → l.length ≤ 1000 → Calls Try.prog 10 #[p, itV x] w fun e w' => ∃ F' : Nat → Prop, e = .returned (.int .i64 (delR x l)) ∧ Rep w' p F' M (delL x l) ∧ Off F w w' ∧ ∀ k, F' k → F k ∨ w.heap.size ≤ k
  has : ∀ (w : World) (p : Value) (F : Nat → Prop) (M : Int) (l : ItL) (x : It), Rep w p F M l → l.length ≤ 1000 → Calls Try.prog 12 #[p, itV x] w fun e w' => e = .returned (.bool (hasI x l)) ∧ Below w.heap.size w w'
  len : ∀ (w : World) (p : Value) (F : Nat → Prop) (M : Int) (l : ItL), Rep w p F M l → l.length ≤ 1000 → Calls Try.prog 16 #[p] w fun e w' => e = .returned (.int .i64 (l.length : Int)) ∧ Below w.heap.size w w'
  items : ∀ (w : World) (p : Value) (F : Nat → Prop) (M : Int) (l : ItL), Rep w p F M l → l.length ≤ 1000 → Calls Try.prog 14 #[p] w (RetItems 33 w l)
  root : ∀ (w : World) (p : Value) (F : Nat → Prop) (M : Int) (l : ItL), Rep w p F M l → l.length ≤ 1000 → ∀ x r, l = x :: r → ∃ (a : AT) (y : It) (b : AT) (z i j : Int), (AT.node a y b).items = l ∧ (AT.node a y b).bal ∧
    (Calls Try.prog 19 #[p] w fun e w' => e = .returned (.int .i64 z) ∧ Below w.heap.size w w') ∧
    ∀ w1, Below w.heap.size w w1 → Calls Try.prog 18 #[p, .int .i64 z] w1 fun e w' => e = .returned (.tuple #[knotV y i j ((AT.node a y b).height : Int) (topL l), .bool true]) ∧ Below w1.heap.size w1 w'
end Go.Proofs.Ytmllikffflebmaa
