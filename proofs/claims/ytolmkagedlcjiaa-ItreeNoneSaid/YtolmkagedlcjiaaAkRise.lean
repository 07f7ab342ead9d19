/- A tree with a hole, and the way to it. Plain. Balancing from a hole up: what holds from step to step. Plain. -/
import Derived.Test.YtolmkagedlcjiaaAkBal
namespace Corr
open Go Go.RowKit
set_option linter.unusedVariables false
inductive Cx
  | top
  | L (c : Cx) (p : Nat) (x : It) (r : PT)
  | R (c : Cx) (l : PT) (p : Nat) (x : It)
def Cx.plug : Cx → PT → PT
  | .top, t => t
  | .L c p x r, t => c.plug (.node t p x r)
  | .R c l p x, t => c.plug (.node l p x t)
def Cx.way : Cx → WyL
  | .top => []
  | .L c p _ _ => c.way ++ [(p, false)]
  | .R c _ p _ => c.way ++ [(p, true)]
def Cx.places : Cx → List Nat
  | .top => []
  | .L c p _ r => p :: (r.places ++ c.places)
  | .R c l p _ => p :: (l.places ++ c.places)
def Cx.bef : Cx → ItL
  | .top => []
  | .L c _ _ _ => c.bef
  | .R c l _ x => c.bef ++ (l.items ++ [x])
def Cx.aft : Cx → ItL
  | .top => []
  | .L c _ x r => x :: (r.items ++ c.aft)
  | .R c _ _ _ => c.aft
/-- The knots of all that is around the hole are linked; h stands in the hole. -/
def RpC (K : KnL) (r : Int) : Cx → Int → Prop
  | .top, h => r = h
  | .L c p x t, h => (∃ k, K[p]? = some k ∧ k.it = x ∧ k.l = h ∧ k.r = t.root) ∧ Rp K t ∧ RpC K r c (p : Int)
  | .R c t p x, h => (∃ k, K[p]? = some k ∧ k.it = x ∧ k.l = t.root ∧ k.r = h) ∧ Rp K t ∧ RpC K r c (p : Int)
/-- With a hole of this height all is balanced. -/
def okC : Cx → Nat → Prop
  | .top, _ => True
  | .L c _ _ t, h => t.bal ∧ h ≤ t.height + 1 ∧ t.height ≤ h + 1 ∧ okC c (max h t.height + 1)
  | .R c t _ _, h => t.bal ∧ h ≤ t.height + 1 ∧ t.height ≤ h + 1 ∧ okC c (max t.height h + 1)
theorem Cx.items (c : Cx) : ∀ t : PT, (c.plug t).items = c.bef ++ (t.items ++ c.aft) := by
  induction c with
  | top => intro t; simp [Cx.plug, Cx.bef, Cx.aft]
  | L c p x r ih => intro t; rw [Cx.plug, ih]; simp [PT.items, Cx.bef, Cx.aft]
  | R c l p x ih => intro t; rw [Cx.plug, ih]; simp [PT.items, Cx.bef, Cx.aft]
theorem Cx.perm (c : Cx) : ∀ t : PT, (c.plug t).places.Perm (t.places ++ c.places) := by
  induction c with
  | top => intro t; simp [Cx.plug, Cx.places]
  | L c p x r ih =>
    intro t
    refine (ih _).trans (List.perm_iff_count.2 fun j => ?_)
    simp only [PT.places, Cx.places, List.count_append, List.count_cons]; ac_rfl
  | R c l p x ih =>
    intro t
    refine (ih _).trans (List.perm_iff_count.2 fun j => ?_)
    simp only [PT.places, Cx.places, List.count_append, List.count_cons]; ac_rfl
theorem RpC.same {K K' : KnL} {r : Int} : ∀ {c : Cx} {h : Int}, RpC K r c h → (∀ q ∈ c.places, K'[q]? = K[q]?) → RpC K' r c h
  | .top, _, h, _ => h
  | .L c p x t, _, h, hs => by
    obtain ⟨⟨k, h1, h2⟩, h3, h4⟩ := h
    exact ⟨⟨k, by rw [hs p (by simp [Cx.places])]; exact h1, h2⟩, h3.same fun q hq => hs q (by simp [Cx.places, hq]), h4.same fun q hq => hs q (by simp [Cx.places, hq])⟩
  | .R c t p x, _, h, hs => by
    obtain ⟨⟨k, h1, h2⟩, h3, h4⟩ := h
    exact ⟨⟨k, by rw [hs p (by simp [Cx.places])]; exact h1, h2⟩, h3.same fun q hq => hs q (by simp [Cx.places, hq]), h4.same fun q hq => hs q (by simp [Cx.places, hq])⟩
/-- A tree that is told, taken apart. -/
theorem RpC.of {K : KnL} (c : Cx) : ∀ t : PT, Rp K (c.plug t) → Rp K t ∧ RpC K (c.plug t).root c t.root := by
  induction c with
  | top => intro t h; exact ⟨h, rfl⟩
  | L c p x r ih =>
    intro t h
    obtain ⟨h1, h2⟩ := ih _ h
    exact ⟨h1.2.1, ⟨_, h1.1, rfl, rfl, rfl⟩, h1.2.2, h2⟩
  | R c l p x ih =>
    intro t h
    obtain ⟨h1, h2⟩ := ih _ h
    exact ⟨h1.2.2, ⟨_, h1.1, rfl, rfl, rfl⟩, h1.2.1, h2⟩
theorem okC.of (c : Cx) : ∀ t : PT, (c.plug t).bal → t.bal ∧ okC c t.height := by
  induction c with
  | top => intro t h; exact ⟨h, trivial⟩
  | L c p x r ih =>
    intro t h
    obtain ⟨⟨h1, h2, h3, h4⟩, h5⟩ := ih _ h
    exact ⟨h1, h2, h3, h4, h5⟩
  | R c l p x ih =>
    intro t h
    obtain ⟨⟨h1, h2, h3, h4⟩, h5⟩ := ih _ h
    exact ⟨h2, h1, h4, h3, h5⟩
/-- A balanced tree is low. -/
theorem bal_low : ∀ {t : PT}, t.bal → 2 ^ (t.height / 2) ≤ t.items.length + 1
  | .nil, _ => by simp [PT.height, PT.items]
  | .node l p x r, h => by
    obtain ⟨h1, h2, h3, h4⟩ := h
    have i1 := bal_low h1
    have i2 := bal_low h2
    have e : (PT.node l p x r).height = max l.height r.height + 1 := rfl
    have key : ∀ a : Nat, 2 ^ ((a + 1) / 2) ≤ 2 * 2 ^ (a / 2) ∧ 2 ^ ((a + 2) / 2) = 2 * 2 ^ (a / 2) := fun a => by
      constructor
      · rw [← Nat.pow_succ']
        exact Nat.pow_le_pow_right (by omega) (by omega)
      · rw [← Nat.pow_succ']
        congr 1; omega
    simp only [PT.items, List.length_append, List.length_cons]
    rw [e]
    rcases Nat.lt_trichotomy l.height r.height with h | h | h
    · have : r.height = l.height + 1 := by omega
      rw [show max l.height r.height + 1 = l.height + 2 by omega, (key _).2]
      have := (key l.height).1
      have h6 : 2 ^ (l.height / 2) ≤ 2 ^ (r.height / 2) := Nat.pow_le_pow_right (by omega) (by omega)
      omega
    · rw [show max l.height r.height + 1 = l.height + 1 by omega]
      have := (key l.height).1
      rw [← h] at i2
      omega
    · have : l.height = r.height + 1 := by omega
      rw [show max l.height r.height + 1 = r.height + 2 by omega, (key _).2]
      have h6 : 2 ^ (r.height / 2) ≤ 2 ^ (l.height / 2) := Nat.pow_le_pow_right (by omega) (by omega)
      omega
theorem bal_le {t : PT} (h : t.bal) (hl : t.items.length ≤ 1500) : t.height ≤ 21 := by
  have h1 := bal_low h
  rcases Nat.lt_or_ge t.height 22 with h2 | h2
  · omega
  · have : 2 ^ 11 ≤ 2 ^ (t.height / 2) := Nat.pow_le_pow_right (by omega) (by omega)
    omega
/-- The way to a hole is no longer than the tree is high. -/
theorem Cx.deep (c : Cx) : ∀ t : PT, c.way.length + t.height ≤ (c.plug t).height := by
  induction c with
  | top => intro t; simp [Cx.way, Cx.plug]
  | L c p x r ih =>
    intro t
    have := ih (.node t p x r)
    simp only [Cx.way, Cx.plug, List.length_append, List.length_cons, List.length_nil, PT.height] at this ⊢
    omega
  | R c l p x ih =>
    intro t
    have := ih (.node l p x t)
    simp only [Cx.way, Cx.plug, List.length_append, List.length_cons, List.length_nil, PT.height] at this ⊢
    omega
/-- The last step of a way. -/
def Cx.last : Cx → Option (Nat × Bool)
  | .top => none
  | .L _ p _ _ => some (p, false)
  | .R _ _ p _ => some (p, true)
def Cx.up : Cx → WyL
  | .top => []
  | .L c _ _ _ => c.way
  | .R c _ _ _ => c.way
theorem Cx.way_last {c : Cx} {p : Nat} {b : Bool} (h : c.last = some (p, b)) : c.way = c.up ++ [(p, b)] := by
  cases c with
  | top => cases h
  | L c q x r => simp only [Cx.last, Option.some.injEq, Prod.mk.injEq] at h; obtain ⟨rfl, rfl⟩ := h; rfl
  | R c l q x => simp only [Cx.last, Option.some.injEq, Prod.mk.injEq] at h; obtain ⟨rfl, rfl⟩ := h; rfl
/-- Something else is hung into the hole. -/
theorem RpC.hang {K : KnL} {r h z : Int} {c : Cx} {p : Nat} {b : Bool} (H : RpC K r c h) (hl : c.last = some (p, b)) (nd : c.places.Nodup) : ∃ k, K[p]? = some k ∧ RpC (K.set p (k.put b z)) r c z := by
  cases c with
  | top => cases hl
  | L c q x t =>
    simp only [Cx.last, Option.some.injEq, Prod.mk.injEq] at hl
    obtain ⟨rfl, rfl⟩ := hl
    obtain ⟨⟨k, h1, h2, h3, h4⟩, h5, h6⟩ := H
    simp only [Cx.places, List.nodup_cons, List.mem_append, not_or] at nd
    refine ⟨k, h1, ⟨_, get_set h1 _, h2, rfl, h4⟩, h5.set nd.1.1 _, h6.same fun q' hq => List.getElem?_set_ne fun e => nd.1.2 (by rw [e]; exact hq)⟩
  | R c t q x =>
    simp only [Cx.last, Option.some.injEq, Prod.mk.injEq] at hl
    obtain ⟨rfl, rfl⟩ := hl
    obtain ⟨⟨k, h1, h2, h3, h4⟩, h5, h6⟩ := H
    simp only [Cx.places, List.nodup_cons, List.mem_append, not_or] at nd
    refine ⟨k, h1, ⟨_, get_set h1 _, h2, h3, rfl⟩, h5.set nd.1.1 _, h6.same fun q' hq => List.getElem?_set_ne fun e => nd.1.2 (by rw [e]; exact hq)⟩
theorem Cx.last_mem {c : Cx} {p : Nat} {b : Bool} (h : c.last = some (p, b)) : p ∈ c.places := by
  cases c with
  | top => cases h
  | L c q x r => simp only [Cx.last, Option.some.injEq, Prod.mk.injEq] at h; obtain ⟨rfl, _⟩ := h; simp [Cx.places]
  | R c l q x => simp only [Cx.last, Option.some.injEq, Prod.mk.injEq] at h; obtain ⟨rfl, _⟩ := h; simp [Cx.places]
end Corr
namespace Corr
open Go Go.RowKit
set_option linter.unusedVariables false
/-- t stands in cx's hole, where h is linked; all but cx's heights is right; L: the items, P: the places. -/
structure RiseP (K0 : KnL) (L : ItL) (P : List Nat) (cx : Cx) (t : PT) (K : KnL) (r h : Int) (h0 : Nat) : Prop where
  rc : RpC K r cx h
  rp : Rp K t
  bal : t.bal
  ok : okC cx h0
  d : t.height ≤ h0 + 1 ∧ h0 ≤ t.height + 1
  nd : (t.places ++ cx.places).Nodup
  it : (cx.plug t).items = L
  pm : (t.places ++ cx.places).Perm P
  off : ∀ j, j ∉ P → K[j]? = K0[j]?
theorem perm_L {t r : PT} {c : Cx} {p : Nat} {x : It} : (t.places ++ (Cx.L c p x r).places).Perm ((PT.node t p x r).places ++ c.places) := by
  refine List.perm_iff_count.2 fun j => ?_
  simp only [PT.places, Cx.places, List.count_append, List.count_cons]; ac_rfl
theorem perm_R {t l : PT} {c : Cx} {p : Nat} {x : It} : (t.places ++ (Cx.R c l p x).places).Perm ((PT.node l p x t).places ++ c.places) := by
  refine List.perm_iff_count.2 fun j => ?_
  simp only [PT.places, Cx.places, List.count_append, List.count_cons]; ac_rfl
/-- What a step up finds. -/
structure StepP (K0 : KnL) (L : ItL) (P : List Nat) (K : KnL) (r : Int) (c : Cx) (p : Nat) (a d : PT) (k : Kn) : Prop where
  kp : K[p]? = some k
  kl : k.l = a.root
  kr : k.r = d.root
  ra : Rp K a
  rd : Rp K d
  nd : (PT.node a p k.it d).places.Nodup
  ba : a.bal
  bd : d.bal
  h : a.height ≤ d.height + 2 ∧ d.height ≤ a.height + 2
  la : a.items.length ≤ L.length
  ld : d.items.length ≤ L.length
  on : ∀ K' t', BalR K K' a d p k.it t' → ∃ h0, RiseP K0 L P c t' K' r (p : Int) h0
theorem RiseP.mk' {K0 K K' : KnL} {L : ItL} {P : List Nat} {c : Cx} {r : Int} {a d t' : PT} {p : Nat} {x : It} {h0 h1 : Nat} (B : BalR K K' a d p x t') (rc : RpC K r c (p : Int)) (ok : okC c h1) (hd : t'.height ≤ h1 + 1 ∧ h1 ≤ t'.height + 1) (nd : ((PT.node a p x d).places ++ c.places).Nodup) (it : (c.plug (.node a p x d)).items = L) (pm : ((PT.node a p x d).places ++ c.places).Perm P) (off : ∀ j, j ∉ P → K[j]? = K0[j]?) : RiseP K0 L P c t' K' r (p : Int) h1 := by
  have e : (t'.places ++ c.places).Perm ((PT.node a p x d).places ++ c.places) := B.perm.append_right _
  refine ⟨rc.same fun q hq => B.off q fun e => ?_, B.rp, B.bal, ok, hd, (List.Perm.nodup_iff e).2 nd, ?_, e.trans pm, fun j hj => ?_⟩
  · exact (List.nodup_append.1 nd).2.2 q e q hq rfl
  · rw [Cx.items, B.items, ← it, Cx.items]; rfl
  · rw [B.off j fun e' => hj (pm.mem_iff.1 (List.mem_append_left _ e')), off j hj]
theorem RiseP.step {K0 K : KnL} {L : ItL} {P : List Nat} {cx : Cx} {t : PT} {r : Int} {h0 : Nat} (h : RiseP K0 L P cx t K r t.root h0) {p : Nat} {b : Bool} (hl : cx.last = some (p, b)) : ∃ c a d k, cx.way = c.way ++ [(p, b)] ∧ StepP K0 L P K r c p a d k := by
  obtain ⟨rc, rp, bal, ok, hd, nd, it, pm, off⟩ := h
  cases cx with
  | top => cases hl
  | L c q x rt =>
    simp only [Cx.last, Option.some.injEq, Prod.mk.injEq] at hl
    obtain ⟨rfl, rfl⟩ := hl
    obtain ⟨⟨k, h1, rfl, h3, h4⟩, h5, h6⟩ := rc
    obtain ⟨o1, o2, o3, o4⟩ := ok
    have nd' := (List.Perm.nodup_iff perm_L).1 nd
    refine ⟨c, t, rt, k, rfl, ⟨h1, h3, h4, rp, h5, (List.nodup_append.1 nd').1, bal, o1, by omega, ?_, ?_, fun K' t' B => ⟨_, RiseP.mk' (h0 := h0) B h6 o4 ?_ nd' it (perm_L.symm.trans pm) off⟩⟩⟩
    · rw [← it, Cx.items]; simp; omega
    · rw [← it, Cx.items]; simp [Cx.aft]; omega
    · have h7 := B.h1; have h8 := B.h2; omega
  | R c l q x =>
    simp only [Cx.last, Option.some.injEq, Prod.mk.injEq] at hl
    obtain ⟨rfl, rfl⟩ := hl
    obtain ⟨⟨k, h1, rfl, h3, h4⟩, h5, h6⟩ := rc
    obtain ⟨o1, o2, o3, o4⟩ := ok
    have nd' := (List.Perm.nodup_iff perm_R).1 nd
    refine ⟨c, l, t, k, rfl, ⟨h1, h3, h4, h5, rp, (List.nodup_append.1 nd').1, o1, bal, by omega, ?_, ?_, fun K' t' B => ⟨_, RiseP.mk' (h0 := h0) B h6 o4 ?_ nd' it (perm_R.symm.trans pm) off⟩⟩⟩
    · rw [← it, Cx.items]; simp [Cx.bef]; omega
    · rw [← it, Cx.items]; simp; omega
    · have h7 := B.h1; have h8 := B.h2; omega
theorem RiseP.top {K0 K : KnL} {L : ItL} {P : List Nat} {t : PT} {r h : Int} {h0 : Nat} (H : RiseP K0 L P .top t K r h h0) : RiseP K0 L P .top t K t.root t.root h0 := ⟨rfl, H.rp, H.bal, H.ok, H.d, H.nd, H.it, H.pm, H.off⟩
theorem RiseP.hang {K0 K : KnL} {L : ItL} {P : List Nat} {cx : Cx} {t : PT} {r h : Int} {h0 : Nat} (H : RiseP K0 L P cx t K r h h0) {p : Nat} {b : Bool} (hl : cx.last = some (p, b)) (z : Int) : ∃ k, K[p]? = some k ∧ RiseP K0 L P cx t (K.set p (k.put b z)) r z h0 := by
  obtain ⟨nd1, nd2, nd3⟩ := List.nodup_append.1 H.nd
  obtain ⟨k, h1, h2⟩ := H.rc.hang (z := z) hl nd2
  have hp := Cx.last_mem hl
  refine ⟨k, h1, h2, H.rp.set (fun e => nd3 p e p hp rfl) _, H.bal, H.ok, H.d, H.nd, H.it, H.pm, fun j hj => ?_⟩
  rw [List.getElem?_set_ne, H.off j hj]
  intro e
  exact hj (H.pm.mem_iff.1 (List.mem_append_right _ (by rw [← e]; exact hp)))
end Corr
