/- How a tree of package avl lies. No program's function in this text. -/
import Derived.Test.YtolmkagedlcjiaaAkVac
import Derived.Deep.WholeRow
namespace Corr
open Go Go.RowKit
set_option linter.unusedVariables false
/-- A tree, its arena, its knots. -/
structure TreeR (T : TypeId) (w : World) (gT g n c : Nat) (M : Int) (A : Option Addr) (K : KnL) (t : PT) (l : ItL) : Prop where
  tp : Blk w gT #[.pointer (some ⟨g, 0, none⟩)]
  ar : Ar T w g M t.root A n c K
  rp : Rp K t
  bal : t.bal
  nd : t.places.Nodup
  len : t.places.length = n
  it : t.items = l
  srt : srt l
  ne : gT ≠ g ∧ ¬ inRow A n c gT
abbrev inTr (gT g : Nat) (A : Option Addr) (n c k : Nat) : Prop := k = gT ∨ inAr g A n c k
def RepA (T : TypeId) : RepT := fun w p F M l => ∃ gT g n c A K t, p = .pointer (some ⟨gT, 0, none⟩) ∧ TreeR T w gT g n c M A K t l ∧ F = inTr gT g A n c
section
variable {T : TypeId} {w w' : World} {gT g n c : Nat} {M : Int} {A : Option Addr} {K : KnL} {t : PT} {l : ItL} {G : Nat → Prop}
theorem TreeR.num (h : TreeR T w gT g n c M A K t l) : l.length = n := by rw [← h.it, PT.len, h.len]
theorem TreeR.off (h : TreeR T w gT g n c M A K t l) (ho : Off G w w') (hn : ∀ k, inTr gT g A n c k → ¬ G k) : TreeR T w' gT g n c M A K t l :=
  ⟨ho.blk h.tp (hn _ (.inl rfl)), h.ar.off ho (hn _ (.inr (.inl rfl))) fun k hk => hn k (.inr (.inr hk)), h.rp, h.bal, h.nd, h.len, h.it, h.srt, h.ne⟩
theorem TreeR.keep (h : TreeR T w gT g n c M A K t l) (hb : Below w.heap.size w w') : TreeR T w' gT g n c M A K t l := h.off (Off.of (F := fun _ => False) hb) fun _ _ e => e
theorem TreeR.lt (h : TreeR T w gT g n c M A K t l) : ∀ k, inTr gT g A n c k → k < w.heap.size := by
  rintro k (rfl | rfl | hk)
  · exact h.tp.sz
  · exact h.ar.sz
  · exact own_lt h.ar.o hk
end
theorem repA_ok (T : TypeId) : RepOk (RepA T) where
  lt := by
    rintro w p F M l ⟨gT, g, n, c, A, K, t, rfl, h, rfl⟩ k hk
    exact h.lt k hk
  keep := by
    rintro w w' p F G M l ⟨gT, g, n, c, A, K, t, rfl, h, rfl⟩ ho hn
    exact ⟨gT, g, n, c, A, K, t, rfl, h.off ho hn, rfl⟩
/-- The document's item list, put and taken. -/
theorem ins_split {x : It} {a b : ItL} (h : srt (a ++ b)) (h1 : ∀ y ∈ a, lessB y x = true) (h2 : ∀ y ∈ b, lessB x y = true) : insI x (a ++ b) = a ++ x :: b ∧ hasI x (a ++ b) = false := by
  have hk : cntI x (a ++ b) = a.length := cntI_at (by simp) (fun y hy => h1 y (by rw [List.take_left'] at hy; exact hy; rfl)) (fun y hy => by
    rw [List.getElem?_append_right (Nat.le_refl _), Nat.sub_self] at hy
    have hy : y ∈ b := List.mem_of_getElem? hy
    cases e : lessB y x with
    | false => rfl
    | true =>
      have := lessB_trans e (h2 y hy)
      rw [lessB_irr] at this; cases this)
  constructor
  · unfold insI
    rw [hk]; simp
  · unfold hasI
    rw [hk, List.getElem?_append_right (Nat.le_refl _), Nat.sub_self]
    refine decide_eq_false fun e => ?_
    have hx : x ∈ b := List.mem_of_getElem? e
    have := h2 x hx
    rw [lessB_irr] at this; cases this
theorem del_split {x : It} {a b : ItL} (h : srt (a ++ x :: b)) : delI x (a ++ x :: b) = a ++ b ∧ hasI x (a ++ x :: b) = true := by
  obtain ⟨_, _, h1, h2⟩ := srt_node h
  have hk : cntI x (a ++ x :: b) = a.length := cntI_at (by simp) (fun y hy => h1 y (by rw [List.take_left'] at hy; exact hy; rfl)) (fun y hy => by
    rw [List.getElem?_append_right (Nat.le_refl _), Nat.sub_self] at hy
    have e : x = y := by simpa using hy
    rw [← e]; exact lessB_irr x)
  constructor
  · unfold delI
    rw [hk]
    rw [List.take_left' rfl, show a ++ x :: b = (a ++ [x]) ++ b by simp, List.drop_left' (by simp)]
  · unfold hasI
    rw [hk]; simp
/-- A tree without its places. -/
def PT.bare : PT → AT
  | .nil => .nil
  | .node l _ x r => .node l.bare x r.bare
theorem PT.bare_items (t : PT) : t.bare.items = t.items := by
  induction t with
  | nil => rfl
  | node l p x r hl hr => simp [PT.bare, AT.items, PT.items, hl, hr]
theorem PT.bare_height (t : PT) : t.bare.height = t.height := by
  induction t with
  | nil => rfl
  | node l p x r hl hr => simp [PT.bare, AT.height, PT.height, hl, hr]
theorem PT.bare_bal {t : PT} (h : t.bal) : t.bare.bal := by
  induction t with
  | nil => trivial
  | node l p x r hl hr =>
    obtain ⟨h1, h2, h3, h4⟩ := h
    exact ⟨hl h1, hr h2, by rw [PT.bare_height, PT.bare_height]; exact h3, by rw [PT.bare_height, PT.bare_height]; exact h4⟩
end Corr
