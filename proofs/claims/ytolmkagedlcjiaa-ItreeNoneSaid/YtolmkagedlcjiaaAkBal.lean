/- Trees whose nodes lie at places of an arena. Plain. What balancing a node makes of the tree. Plain. -/
import Derived.Test.YtolmkagedlcjiaaAk6
import Derived.Test.YtolmkagedlcjiaaAk7
import Derived.Test.YtolmkagedlcjiaaAvSet
namespace Corr
open Go Go.RowKit
set_option linter.unusedVariables false
inductive PT
  | nil
  | node (l : PT) (p : Nat) (x : It) (r : PT)
def PT.root : PT → Int
  | .nil => -1
  | .node _ p _ _ => (p : Int)
def PT.items : PT → ItL
  | .nil => []
  | .node l _ x r => l.items ++ x :: r.items
def PT.places : PT → List Nat
  | .nil => []
  | .node l p _ r => l.places ++ p :: r.places
def PT.height : PT → Nat
  | .nil => 0
  | .node l _ _ r => max l.height r.height + 1
def PT.bal : PT → Prop
  | .nil => True
  | .node l _ _ r => l.bal ∧ r.bal ∧ l.height ≤ r.height + 1 ∧ r.height ≤ l.height + 1
/-- Height and top, if there is a node. -/
def PT.ht : PT → Option (Int × Int)
  | .nil => none
  | .node l p x r => some (((PT.node l p x r).height : Int), topL (PT.node l p x r).items)
/-- The arena's knots tell this tree. -/
def Rp (K : KnL) : PT → Prop
  | .nil => True
  | .node l p x r => K[p]? = some ⟨x, l.root, r.root, ((PT.node l p x r).height : Int), topL (PT.node l p x r).items⟩ ∧ Rp K l ∧ Rp K r
theorem Rp.same {K K' : KnL} : ∀ {t : PT}, Rp K t → (∀ p ∈ t.places, K'[p]? = K[p]?) → Rp K' t
  | .nil, _, _ => trivial
  | .node l p x r, h, hs => by
    obtain ⟨h1, h2, h3⟩ := h
    refine ⟨by rw [hs p (by simp [PT.places])]; exact h1, h2.same fun q hq => hs q (by simp [PT.places, hq]), h3.same fun q hq => hs q (by simp [PT.places, hq])⟩
theorem Rp.set {K : KnL} {t : PT} {p : Nat} (h : Rp K t) (hp : p ∉ t.places) (k : Kn) : Rp (K.set p k) t :=
  h.same fun q hq => List.getElem?_set_ne fun e : p = q => hp (by rw [e]; exact hq)
theorem PT.len (t : PT) : t.items.length = t.places.length := by
  induction t with
  | nil => rfl
  | node l p x r hl hr => simp [PT.items, PT.places, hl, hr]
theorem topL_cons (x : It) {l : ItL} (h : l ≠ []) : topL (x :: l) = max x.2.1 (topL l) := by
  cases l with
  | nil => exact absurd rfl h
  | cons y r => rfl
theorem topL_app {a b : ItL} (ha : a ≠ []) (hb : b ≠ []) : topL (a ++ b) = max (topL a) (topL b) := by
  induction a with
  | nil => exact absurd rfl ha
  | cons x r ih =>
    by_cases hr : r = []
    · subst hr
      rw [List.singleton_append, topL_cons x hb]; rfl
    · rw [List.cons_append, topL_cons x (by simp [hr]), ih hr, topL_cons x hr]; omega
theorem topL_one (x : It) : topL [x] = x.2.1 := rfl
theorem PT.items_ne {l : PT} {p : Nat} {x : It} {r : PT} : (PT.node l p x r).items ≠ [] := by simp [PT.items]
/-- A node whose sides are told: what settle works out. -/
theorem settled_tree (a b : PT) (p : Nat) (x : It) (h t : Int) : (Kn.mk x a.root b.root h t).settled a.ht b.ht = ⟨x, a.root, b.root, ((PT.node a p x b).height : Int), topL (PT.node a p x b).items⟩ := by
  have e1 : mxH (mxH 1 a.ht) b.ht = ((PT.node a p x b).height : Int) := by
    cases a with
    | nil =>
      cases b with
      | nil => rfl
      | node l q y r => simp only [mxH, PT.ht, PT.height]; omega
    | node l q y r =>
      cases b with
      | nil => simp only [mxH, PT.ht, PT.height]; omega
      | node l' q' y' r' => simp only [mxH, PT.ht, PT.height]; omega
  have e2 : mxT (mxT x.2.1 a.ht) b.ht = topL (PT.node a p x b).items := by
    cases a with
    | nil =>
      cases b with
      | nil => rfl
      | node l q y r =>
        show max x.2.1 (topL (PT.node l q y r).items) = topL (x :: (PT.node l q y r).items)
        rw [topL_cons x PT.items_ne]
    | node l q y r =>
      cases b with
      | nil =>
        show max x.2.1 (topL (PT.node l q y r).items) = topL ((PT.node l q y r).items ++ [x])
        rw [topL_app PT.items_ne (by simp), topL_one]; omega
      | node l' q' y' r' =>
        show max (max x.2.1 (topL (PT.node l q y r).items)) (topL (PT.node l' q' y' r').items) = topL ((PT.node l q y r).items ++ x :: (PT.node l' q' y' r').items)
        rw [topL_app PT.items_ne (by simp), topL_cons x PT.items_ne]; omega
  unfold Kn.settled
  rw [e1, e2]
theorem Rp.chld {K : KnL} {t : PT} {p : Nat} (h : Rp K t) (hp : p ∉ t.places) (hh : t.height ≤ 1000) : chld K p t.root t.ht := by
  cases t with
  | nil => exact .inl ⟨rfl, rfl⟩
  | node l q x r => exact .inr ⟨q, _, rfl, fun e => hp (by subst e; simp [PT.places]), h.1, rfl, by show -1000000 ≤ (((PT.node l q x r).height : Nat) : Int); omega, by show (((PT.node l q x r).height : Nat) : Int) ≤ 1000000; omega⟩
theorem Rp.chl2 {K : KnL} {t : PT} {p q : Nat} (h : Rp K t) (hp : p ∉ t.places) (hq : q ∉ t.places) (hh : t.height ≤ 1000) : chl2 K p q t.root t.ht := by
  cases t with
  | nil => exact .inl ⟨rfl, rfl⟩
  | node l j x r => exact .inr ⟨j, _, rfl, fun e => hp (by subst e; simp [PT.places]), fun e => hq (by subst e; simp [PT.places]), h.1, rfl, by show -1000000 ≤ (((PT.node l j x r).height : Nat) : Int); omega, by show (((PT.node l j x r).height : Nat) : Int) ≤ 1000000; omega⟩
theorem Rp.hAt {K : KnL} {t : PT} (h : Rp K t) : hAt K t.root (t.height : Int) := by
  cases t with
  | nil => exact .inl ⟨rfl, rfl⟩
  | node l j x r => exact .inr ⟨j, _, rfl, h.1, rfl⟩
end Corr
namespace Go.Proofs.Ytolmkagedlcjiaa
open Go.RowKit Corr
set_option linter.unusedVariables false
/-- The left side is lifted. -/
theorem turnRight_tree (g n c gK : Nat) (M r : Int) (K : KnL) (p q : Nat) (k k' : Kn) (a1 a2 b : PT) (w : World) (H : Ar 59 w g M r (some ⟨gK, 0, none⟩) n c K) (hk : K[p]? = some k) (hq : K[q]? = some k') (hl : k.l = (q : Int)) (hr : k.r = b.root) (hl' : k'.l = a1.root) (hr' : k'.r = a2.root)
    (ra1 : Rp K a1) (ra2 : Rp K a2) (rb : Rp K b) (nd : (q :: p :: (a1.places ++ (a2.places ++ b.places))).Nodup) (h1 : a1.height ≤ 900) (h2 : a2.height ≤ 900) (h3 : b.height ≤ 900) (hn : n ≤ 2000) :
    Calls Try.prog 54 #[.pointer (some ⟨g, 0, none⟩), .int .i64 (p : Int)] w fun e w' => ∃ K', e = .returned (.int .i64 (q : Int)) ∧ Ar 59 w' g M r (some ⟨gK, 0, none⟩) n c K' ∧ Rp K' (.node a1 q k'.it (.node a2 p k.it b)) ∧ (∀ j, j ≠ p → j ≠ q → K'[j]? = K[j]?) ∧ Off (inAr g (some ⟨gK, 0, none⟩) n c) w w' := by
  simp only [List.nodup_cons, List.mem_cons, List.mem_append, not_or] at nd
  obtain ⟨⟨qp, q1, q2, q3⟩, ⟨p1, p2, p3⟩, nd⟩ := nd
  have ekp := settled_tree a2 b p k.it k.h k.t
  have ekq := settled_tree a1 (.node a2 p k.it b) q k'.it k'.h k'.t
  have hht : (PT.node a2 p k.it b).ht = some ((Kn.settled { k with l := k'.r } a2.ht b.ht).h, (Kn.settled { k with l := k'.r } a2.ht b.ht).t) := by
    rw [hr', show ({ k with l := a2.root } : Kn) = Kn.mk k.it a2.root b.root k.h k.t by rw [← hr], ekp]; rfl
  refine (turnRight_any g n c gK M r K p q k k' _ _ a2.ht b.ht a1.ht w H hk hq (fun e => qp e.symm) hl (by rw [hr']; exact ra2.chl2 p2 q2 (by omega)) (by rw [hr]; exact rb.chl2 p3 q3 (by omega)) (by rw [hl']; exact ra1.chl2 p1 q1 (by omega)) rfl rfl ?_ hn).mono ?_
  · rw [hr', show ({ k with l := a2.root } : Kn) = Kn.mk k.it a2.root b.root k.h k.t by rw [← hr], ekp]
    simp only [PT.height]; omega
  · rintro e w' ⟨rfl, hA, hF⟩
    refine ⟨_, rfl, hA, ⟨?_, ?_, ?_, ?_, ?_⟩, fun j jp jq => by rw [List.getElem?_set_ne (Ne.symm jq), List.getElem?_set_ne (Ne.symm jp)], hF⟩
    · rw [get_set (k := k') (by rw [List.getElem?_set_ne (fun e => qp e.symm)]; exact hq), ← hht, show ({ k' with r := (p : Int) } : Kn) = Kn.mk k'.it a1.root (PT.node a2 p k.it b).root k'.h k'.t by rw [← hl']; rfl, ekq]
    · exact (ra1.set p1 _).set q1 _
    · rw [List.getElem?_set_ne qp, get_set hk, hr', show ({ k with l := a2.root } : Kn) = Kn.mk k.it a2.root b.root k.h k.t by rw [← hr], ekp]
    · exact (ra2.set p2 _).set q2 _
    · exact (rb.set p3 _).set q3 _
/-- The right side is lifted. -/
theorem turnLeft_tree (g n c gK : Nat) (M r : Int) (K : KnL) (p q : Nat) (k k' : Kn) (a b1 b2 : PT) (w : World) (H : Ar 59 w g M r (some ⟨gK, 0, none⟩) n c K) (hk : K[p]? = some k) (hq : K[q]? = some k') (hl : k.l = a.root) (hr : k.r = (q : Int)) (hl' : k'.l = b1.root) (hr' : k'.r = b2.root)
    (ra : Rp K a) (rb1 : Rp K b1) (rb2 : Rp K b2) (nd : (q :: p :: (a.places ++ (b1.places ++ b2.places))).Nodup) (h1 : a.height ≤ 900) (h2 : b1.height ≤ 900) (h3 : b2.height ≤ 900) (hn : n ≤ 2000) :
    Calls Try.prog 55 #[.pointer (some ⟨g, 0, none⟩), .int .i64 (p : Int)] w fun e w' => ∃ K', e = .returned (.int .i64 (q : Int)) ∧ Ar 59 w' g M r (some ⟨gK, 0, none⟩) n c K' ∧ Rp K' (.node (.node a p k.it b1) q k'.it b2) ∧ (∀ j, j ≠ p → j ≠ q → K'[j]? = K[j]?) ∧ Off (inAr g (some ⟨gK, 0, none⟩) n c) w w' := by
  simp only [List.nodup_cons, List.mem_cons, List.mem_append, not_or] at nd
  obtain ⟨⟨qp, q1, q2, q3⟩, ⟨p1, p2, p3⟩, nd⟩ := nd
  have ekp := settled_tree a b1 p k.it k.h k.t
  have ekq := settled_tree (.node a p k.it b1) b2 q k'.it k'.h k'.t
  have ek : ({ k with r := k'.l } : Kn) = Kn.mk k.it a.root b1.root k.h k.t := by rw [← hl, hl']
  have hht : (PT.node a p k.it b1).ht = some ((Kn.settled { k with r := k'.l } a.ht b1.ht).h, (Kn.settled { k with r := k'.l } a.ht b1.ht).t) := by
    rw [ek, ekp]; rfl
  refine (turnLeft_any g n c gK M r K p q k k' _ _ b1.ht a.ht b2.ht w H hk hq (fun e => qp e.symm) hr (by rw [hl']; exact rb1.chl2 p2 q2 (by omega)) (by rw [hl]; exact ra.chl2 p1 q1 (by omega)) (by rw [hr']; exact rb2.chl2 p3 q3 (by omega)) rfl rfl ?_ hn).mono ?_
  · rw [ek, ekp]
    simp only [PT.height]; omega
  · rintro e w' ⟨rfl, hA, hF⟩
    refine ⟨_, rfl, hA, ⟨?_, ⟨?_, ?_, ?_⟩, ?_⟩, fun j jp jq => by rw [List.getElem?_set_ne (Ne.symm jq), List.getElem?_set_ne (Ne.symm jp)], hF⟩
    · rw [get_set (k := k') (by rw [List.getElem?_set_ne (fun e => qp e.symm)]; exact hq), ← hht, show ({ k' with l := (p : Int) } : Kn) = Kn.mk k'.it (PT.node a p k.it b1).root b2.root k'.h k'.t by rw [← hr']; rfl, ekq]
    · rw [List.getElem?_set_ne qp, get_set hk, ek, ekp]
    · exact (ra.set p1 _).set q1 _
    · exact (rb1.set p2 _).set q2 _
    · exact (rb2.set p3 _).set q3 _
end Go.Proofs.Ytolmkagedlcjiaa
namespace Corr
open Go Go.RowKit
set_option linter.unusedVariables false
theorem PT.nd {a : PT} {p : Nat} {x : It} {b : PT} (h : (PT.node a p x b).places.Nodup) : p ∉ a.places ∧ p ∉ b.places ∧ a.places.Nodup ∧ b.places.Nodup ∧ ∀ j, j ∈ a.places → j ∉ b.places := by
  simp only [PT.places, List.nodup_append, List.nodup_cons, List.mem_cons] at h
  exact ⟨fun e => h.2.2 p e p (.inl rfl) rfl, h.2.1.1, h.1, h.2.1.2, fun j ja jb => h.2.2 j ja j (.inr jb) rfl⟩
/-- In the midst of two turns: the way's array, the arena, in which p is as it was. -/
def MidB (T : TypeId) (g n c gK : Nat) (M r : Int) (hT : Nat) (vs : Array Value) (p : Nat) (k : Kn) (K : KnL) (P : KnL → Prop) (F : Nat → Prop) (w : World) (t : Bool) (wx : World) : Prop :=
  Blk wx hT vs ∧ Off F w wx ∧ ∃ K1, Ar T wx g M r (some ⟨gK, 0, none⟩) n c K1 ∧ K1[p]? = some k ∧ (t = true → P K1) ∧ (t = false → K1 = K)
theorem MidB.drew {T : TypeId} {g n c gK : Nat} {M r : Int} {hT : Nat} {vs : Array Value} {p : Nat} {k : Kn} {K : KnL} {P : KnL → Prop} {F : Nat → Prop} {w wx : World} {t : Bool} (h : MidB T g n c gK M r hT vs p k K P F w t wx) : MidB T g n c gK M r hT vs p k K P F w t wx.drew := by
  obtain ⟨h1, h2, K1, h3, h4⟩ := h
  exact ⟨h1.drew, h2.drew, K1, h3.keep ((Below.refl _ _).drew), h4⟩
/-- K' tells t', which holds what stands at p and on both its sides, balanced. -/
structure BalR (K K' : KnL) (a b : PT) (p : Nat) (x : It) (t' : PT) : Prop where
  rp : Rp K' t'
  items : t'.items = a.items ++ x :: b.items
  bal : t'.bal
  perm : t'.places.Perm (PT.node a p x b).places
  off : ∀ j, j ∉ (PT.node a p x b).places → K'[j]? = K[j]?
  h1 : a.height ≤ b.height + 1 → b.height ≤ a.height + 1 → t'.height = max a.height b.height + 1
  h2 : max a.height b.height ≤ t'.height ∧ t'.height ≤ max a.height b.height + 1
  pos : 1 ≤ t'.height
theorem BalR.none {K K' : KnL} {a b : PT} {p : Nat} {x : It} (h : Rp K' (.node a p x b)) (ho : ∀ j, j ≠ p → K'[j]? = K[j]?) (ba : a.bal) (bb : b.bal) (h1 : a.height ≤ b.height + 1) (h2 : b.height ≤ a.height + 1) : BalR K K' a b p x (.node a p x b) :=
  ⟨h, rfl, ⟨ba, bb, h1, h2⟩, List.Perm.refl _, fun j hj => ho j fun e => hj (by subst e; simp [PT.places]), fun _ _ => rfl, by simp only [PT.height]; omega, by simp only [PT.height]; omega⟩
theorem BalR.right1 {K K' : KnL} {a1 a2 b : PT} {p q : Nat} {x y : It} (h : Rp K' (.node a1 q y (.node a2 p x b))) (ho : ∀ j, j ≠ p → j ≠ q → K'[j]? = K[j]?) (ba : (PT.node a1 q y a2).bal) (bb : b.bal) (h1 : (PT.node a1 q y a2).height = b.height + 2) (h2 : a2.height ≤ a1.height) : BalR K K' (.node a1 q y a2) b p x (.node a1 q y (.node a2 p x b)) := by
  obtain ⟨b1, b2, b3, b4⟩ := ba
  simp only [PT.height] at h1
  refine ⟨h, ?_, ⟨b1, ⟨b2, bb, ?_, ?_⟩, ?_, ?_⟩, ?_, fun j hj => ho j (fun e => hj (by subst e; simp [PT.places])) (fun e => hj (by subst e; simp [PT.places])), ?_, ?_, ?_⟩
  · simp [PT.items]
  · omega
  · omega
  · simp only [PT.height]; omega
  · simp only [PT.height]; omega
  · simp [PT.places]
  · intro h; simp only [PT.height] at h ⊢; omega
  · simp only [PT.height]; omega
  · simp only [PT.height]; omega
theorem BalR.right2 {K K' : KnL} {a1 c1 c2 b : PT} {p q s : Nat} {x y z : It} (h : Rp K' (.node (.node a1 q y c1) s z (.node c2 p x b))) (ho : ∀ j, j ≠ p → j ≠ q → j ≠ s → K'[j]? = K[j]?) (ba : (PT.node a1 q y (.node c1 s z c2)).bal) (bb : b.bal) (h1 : (PT.node a1 q y (.node c1 s z c2)).height = b.height + 2) (h2 : a1.height < (PT.node c1 s z c2).height) : BalR K K' (.node a1 q y (.node c1 s z c2)) b p x (.node (.node a1 q y c1) s z (.node c2 p x b)) := by
  obtain ⟨b1, ⟨b5, b6, b7, b8⟩, b3, b4⟩ := ba
  simp only [PT.height] at h1 h2 b3 b4
  refine ⟨h, ?_, ⟨⟨b1, b5, ?_, ?_⟩, ⟨b6, bb, ?_, ?_⟩, ?_, ?_⟩, ?_, fun j hj => ho j (fun e => hj (by subst e; simp [PT.places])) (fun e => hj (by subst e; simp [PT.places])) (fun e => hj (by subst e; simp [PT.places])), ?_, ?_, ?_⟩
  · simp [PT.items]
  · omega
  · omega
  · omega
  · omega
  · simp only [PT.height]; omega
  · simp only [PT.height]; omega
  · simp [PT.places]
  · intro h; simp only [PT.height] at h ⊢; omega
  · simp only [PT.height]; omega
  · simp only [PT.height]; omega
theorem BalR.left1 {K K' : KnL} {a b1 b2 : PT} {p q : Nat} {x y : It} (h : Rp K' (.node (.node a p x b1) q y b2)) (ho : ∀ j, j ≠ p → j ≠ q → K'[j]? = K[j]?) (ba : a.bal) (bb : (PT.node b1 q y b2).bal) (h1 : (PT.node b1 q y b2).height = a.height + 2) (h2 : b1.height ≤ b2.height) : BalR K K' a (.node b1 q y b2) p x (.node (.node a p x b1) q y b2) := by
  obtain ⟨b3, b4, b5, b6⟩ := bb
  simp only [PT.height] at h1
  refine ⟨h, ?_, ⟨⟨ba, b3, ?_, ?_⟩, b4, ?_, ?_⟩, ?_, fun j hj => ho j (fun e => hj (by subst e; simp [PT.places])) (fun e => hj (by subst e; simp [PT.places])), ?_, ?_, ?_⟩
  · simp [PT.items]
  · omega
  · omega
  · simp only [PT.height]; omega
  · simp only [PT.height]; omega
  · simp [PT.places]
  · intro h h'; simp only [PT.height] at h h' ⊢; omega
  · simp only [PT.height]; omega
  · simp only [PT.height]; omega
theorem BalR.left2 {K K' : KnL} {a c1 c2 b2 : PT} {p q s : Nat} {x y z : It} (h : Rp K' (.node (.node a p x c1) s z (.node c2 q y b2))) (ho : ∀ j, j ≠ p → j ≠ q → j ≠ s → K'[j]? = K[j]?) (ba : a.bal) (bb : (PT.node (.node c1 s z c2) q y b2).bal) (h1 : (PT.node (.node c1 s z c2) q y b2).height = a.height + 2) (h2 : b2.height < (PT.node c1 s z c2).height) : BalR K K' a (.node (.node c1 s z c2) q y b2) p x (.node (.node a p x c1) s z (.node c2 q y b2)) := by
  obtain ⟨⟨b5, b6, b7, b8⟩, b1, b3, b4⟩ := bb
  simp only [PT.height] at h1 h2 b3 b4
  refine ⟨h, ?_, ⟨⟨ba, b5, ?_, ?_⟩, ⟨b6, b1, ?_, ?_⟩, ?_, ?_⟩, ?_, fun j hj => ho j (fun e => hj (by subst e; simp [PT.places])) (fun e => hj (by subst e; simp [PT.places])) (fun e => hj (by subst e; simp [PT.places])), ?_, ?_, ?_⟩
  · simp [PT.items]
  · omega
  · omega
  · omega
  · omega
  · simp only [PT.height]; omega
  · simp only [PT.height]; omega
  · simp [PT.places]
  · intro h h'; simp only [PT.height] at h h' ⊢; omega
  · simp only [PT.height]; omega
  · simp only [PT.height]; omega
end Corr
