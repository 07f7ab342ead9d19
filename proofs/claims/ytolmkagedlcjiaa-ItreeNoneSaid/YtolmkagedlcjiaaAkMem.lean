/- The arena of package avl in memory: its knots in a row that is written in place; a way. No program's function in this text. -/
import Derived.Test.YtolmkagedlcjiaaAvKnown
namespace Corr
open Go Go.RowKit
set_option linter.unusedVariables false
/-- A node: its item, its sides' places, its height, its top. -/
structure Kn where
  it : It
  l : Int
  r : Int
  h : Int
  t : Int
abbrev KnL := List Kn
def cells7 : KnL → List Value
  | [] => []
  | k :: r => .int .i64 k.it.1 :: .int .i64 k.it.2.1 :: .int .i64 k.it.2.2 :: .int .i64 k.l :: .int .i64 k.r :: .int .i64 k.h :: .int .i64 k.t :: cells7 r
theorem cells7_len : ∀ l : KnL, (cells7 l).length = l.length * 7
  | [] => rfl
  | s :: r => by simp only [cells7, List.length_cons, cells7_len r]; omega
theorem cells7_append (a b : KnL) : cells7 (a ++ b) = cells7 a ++ cells7 b := by
  induction a with
  | nil => rfl
  | cons s r ih => simp [cells7, ih]
theorem cells7_take : ∀ (l : KnL) (k : Nat), cells7 (l.take k) = (cells7 l).take (k * 7)
  | _, 0 => by simp [cells7]
  | [], k + 1 => by simp [cells7]
  | s :: r, k + 1 => by
    rw [List.take_succ_cons, cells7, cells7_take r k, show (k + 1) * 7 = k * 7 + 1 + 1 + 1 + 1 + 1 + 1 + 1 by omega]; rfl
theorem cells7_one : ∀ (l : KnL), ∀ u ∈ cells7 l, u.oneCell' = true
  | [], u, hu => by cases hu
  | s :: r, u, hu => by
    simp only [cells7, List.mem_cons] at hu
    rcases hu with rfl | rfl | rfl | rfl | rfl | rfl | rfl | hu
    · rfl
    · rfl
    · rfl
    · rfl
    · rfl
    · rfl
    · rfl
    · exact cells7_one r u hu
theorem cells7_split {l : KnL} {i : Nat} {k : Kn} (h : l[i]? = some k) : ∃ a b, l = a ++ k :: b ∧ a.length = i := by
  have hi := (List.getElem?_eq_some_iff.1 h).1
  refine ⟨l.take i, l.drop (i + 1), ?_, by rw [List.length_take]; omega⟩
  have e := (List.getElem?_eq_some_iff.1 h).2
  rw [← e]
  simp
theorem cells7_mid (a b : KnL) (k : Kn) (j : Nat) (hj : j < 7) : (cells7 (a ++ k :: b))[a.length * 7 + j]? = (cells7 [k])[j]? := by
  rw [cells7_append, List.getElem?_append_right (by rw [cells7_len]; omega), cells7_len, Nat.add_sub_cancel_left, show cells7 (k :: b) = cells7 [k] ++ cells7 b from rfl, List.getElem?_append_left (by rw [cells7_len]; simpa using hj)]
theorem cells7_at {l : KnL} {i : Nat} {k : Kn} (h : l[i]? = some k) (j : Nat) (hj : j < 7) : (cells7 l)[i * 7 + j]? = (cells7 [k])[j]? := by
  obtain ⟨a, b, rfl, rfl⟩ := cells7_split h
  exact cells7_mid a b k j hj
theorem set_mid {α : Type} (a b : List α) (x y : α) : (a ++ x :: b).set a.length y = a ++ y :: b := by
  rw [List.set_append_right _ _ (Nat.le_refl _), Nat.sub_self]; rfl
theorem cells7_set {l : KnL} {i : Nat} {k k' : Kn} (h : l[i]? = some k) (j : Nat) (v : Value) (hj : j < 7) (e : (cells7 [k]).set j v = cells7 [k']) : (cells7 l).set (i * 7 + j) v = cells7 (l.set i k') := by
  obtain ⟨a, b, rfl, rfl⟩ := cells7_split h
  rw [set_mid, cells7_append, cells7_append, List.set_append_right _ _ (by rw [cells7_len]; omega), cells7_len, Nat.add_sub_cancel_left, show cells7 (k :: b) = cells7 [k] ++ cells7 b from rfl, show cells7 (k' :: b) = cells7 [k'] ++ cells7 b from rfl, List.set_append_left _ _ (by rw [cells7_len]; simpa using hj), e]
/-- The arena's blocks. -/
abbrev inAr (g : Nat) (A : Option Addr) (n c k : Nat) : Prop := k = g ∨ inRow A n c k
/-- An arena in memory. -/
structure Ar (T : TypeId) (w : World) (g : Nat) (M r : Int) (A : Option Addr) (n c : Nat) (K : KnL) : Prop where
  b : Blk w g #[.int .i64 M, .int .i64 r, .slice A n c]
  o : w.ownsRow 0 T 7 (.slice A n c) n (cells7 K)
  ne : ¬ inRow A n c g
section
variable {T : TypeId} {w w' : World} {g n c gK i : Nat} {M r : Int} {A : Option Addr} {K : KnL} {G : Nat → Prop} {k : Kn}
theorem Ar.len (h : Ar T w g M r A n c K) : K.length = n := by
  have := h.o.1; rw [cells7_len] at this; omega
theorem Ar.sz (h : Ar T w g M r A n c K) : g < w.heap.size := h.b.sz
theorem Ar.keep (h : Ar T w g M r A n c K) (hb : Below w.heap.size w w') : Ar T w' g M r A n c K := ⟨h.b.keep hb, own_keep h.o hb, h.ne⟩
theorem Ar.off (h : Ar T w g M r A n c K) (ho : Off G w w') (hg : ¬ G g) (ha : ∀ k, inRow A n c k → ¬ G k) : Ar T w' g M r A n c K := ⟨ho.blk h.b hg, ho.own h.o ha, h.ne⟩
theorem Ar.addr (h : Ar T w g M r A n c K) (hn : 0 < n) : ∃ gK, A = some ⟨gK, 0, none⟩ ∧ gK ≠ g ∧ gK < w.heap.size := by
  obtain ⟨gK, cap, e⟩ := Joins.ownsRow_form h.o hn
  injection e with e1 _ e3
  subst e1 e3
  exact ⟨gK, rfl, fun e => h.ne (by subst e; rfl), own_lt h.o rfl⟩
theorem Ar.at0 (h : Ar T w g M r A n c K) (hk : K[i]? = some k) : ∃ gK, A = some ⟨gK, 0, none⟩ ∧ gK ≠ g ∧ gK < w.heap.size ∧ i < n := by
  have hi := (List.getElem?_eq_some_iff.1 hk).1
  rw [h.len] at hi
  obtain ⟨gK, h1, h2, h3⟩ := h.addr (by omega)
  exact ⟨gK, h1, h2, h3, hi⟩
theorem Ar.lt (h : Ar T w g M r A n c K) (hk : K[i]? = some k) : i < n := by
  have hi := (List.getElem?_eq_some_iff.1 hk).1
  rw [h.len] at hi; exact hi
theorem Ar.cap (h : Ar T w g M r A n c K) : n ≤ c ∧ c ≤ maxLen := by
  rcases h.o.2 with ⟨e, rfl⟩ | ⟨_, _, _, e, _, _, h1, h2, _⟩
  · injection e with _ _ e3
    exact ⟨Nat.zero_le _, by subst e3; exact Nat.zero_le _⟩
  · injection e with _ _ e3
    exact ⟨by omega, by omega⟩
theorem Ar.ce (h : Ar T w g M r (some ⟨gK, 0, none⟩) n c K) (hk : K[i]? = some k) (j : Nat) (hj : j < 7) : w.cell? ⟨gK, i * 7 + j, none⟩ = (cells7 [k])[j]? := by
  have hi := (List.getElem?_eq_some_iff.1 hk).1
  rw [h.len] at hi
  rw [h.o.cellAt _ (by omega)]; exact cells7_at hk j hj
theorem Ar.c0 (h : Ar T w g M r (some ⟨gK, 0, none⟩) n c K) (hk : K[i]? = some k) : w.cell? ⟨gK, i * 7, none⟩ = some (.int .i64 k.it.1) := h.ce hk 0 (by omega)
theorem Ar.c1 (h : Ar T w g M r (some ⟨gK, 0, none⟩) n c K) (hk : K[i]? = some k) : w.cell? ⟨gK, i * 7 + 1, none⟩ = some (.int .i64 k.it.2.1) := h.ce hk 1 (by omega)
theorem Ar.c2 (h : Ar T w g M r (some ⟨gK, 0, none⟩) n c K) (hk : K[i]? = some k) : w.cell? ⟨gK, i * 7 + 2, none⟩ = some (.int .i64 k.it.2.2) := h.ce hk 2 (by omega)
theorem Ar.c3 (h : Ar T w g M r (some ⟨gK, 0, none⟩) n c K) (hk : K[i]? = some k) : w.cell? ⟨gK, i * 7 + 3, none⟩ = some (.int .i64 k.l) := h.ce hk 3 (by omega)
theorem Ar.c4 (h : Ar T w g M r (some ⟨gK, 0, none⟩) n c K) (hk : K[i]? = some k) : w.cell? ⟨gK, i * 7 + 4, none⟩ = some (.int .i64 k.r) := h.ce hk 4 (by omega)
theorem Ar.c5 (h : Ar T w g M r (some ⟨gK, 0, none⟩) n c K) (hk : K[i]? = some k) : w.cell? ⟨gK, i * 7 + 5, none⟩ = some (.int .i64 k.h) := h.ce hk 5 (by omega)
theorem Ar.c6 (h : Ar T w g M r (some ⟨gK, 0, none⟩) n c K) (hk : K[i]? = some k) : w.cell? ⟨gK, i * 7 + 6, none⟩ = some (.int .i64 k.t) := h.ce hk 6 (by omega)
theorem Ar.fz (h : Ar T w g M r (some ⟨gK, 0, none⟩) n c K) (j : Nat) : w.frozen? ⟨gK, j, none⟩ = false := h.o.frozenAt j
theorem Ar.put (h : Ar T w g M r (some ⟨gK, 0, none⟩) n c K) (hk : K[i]? = some k) (j : Nat) (hj : j < 7) (v : Value) {k' : Kn} (e : (cells7 [k]).set j v = cells7 [k']) : Ar T (w.setCell ⟨gK, i * 7 + j, none⟩ v) g M r (some ⟨gK, 0, none⟩) n c (K.set i k') := by
  refine ⟨h.b.far (fun e => h.ne (by subst e; rfl)) _ _, ?_, h.ne⟩
  rw [← cells7_set hk j v hj e]
  exact (h.o.stored _ v).1
theorem Ar.putl (h : Ar T w g M r (some ⟨gK, 0, none⟩) n c K) (hk : K[i]? = some k) (z : Int) : Ar T (w.setCell ⟨gK, i * 7 + 3, none⟩ (.int .i64 z)) g M r (some ⟨gK, 0, none⟩) n c (K.set i { k with l := z }) := h.put hk 3 (by omega) _ rfl
theorem Ar.putr (h : Ar T w g M r (some ⟨gK, 0, none⟩) n c K) (hk : K[i]? = some k) (z : Int) : Ar T (w.setCell ⟨gK, i * 7 + 4, none⟩ (.int .i64 z)) g M r (some ⟨gK, 0, none⟩) n c (K.set i { k with r := z }) := h.put hk 4 (by omega) _ rfl
theorem Ar.puth (h : Ar T w g M r (some ⟨gK, 0, none⟩) n c K) (hk : K[i]? = some k) (z : Int) : Ar T (w.setCell ⟨gK, i * 7 + 5, none⟩ (.int .i64 z)) g M r (some ⟨gK, 0, none⟩) n c (K.set i { k with h := z }) := h.put hk 5 (by omega) _ rfl
theorem Ar.putt (h : Ar T w g M r (some ⟨gK, 0, none⟩) n c K) (hk : K[i]? = some k) (z : Int) : Ar T (w.setCell ⟨gK, i * 7 + 6, none⟩ (.int .i64 z)) g M r (some ⟨gK, 0, none⟩) n c (K.set i { k with t := z }) := h.put hk 6 (by omega) _ rfl
theorem get_set {K : KnL} {i : Nat} {k : Kn} (h : K[i]? = some k) (k' : Kn) : (K.set i k')[i]? = some k' := List.getElem?_set_self (List.getElem?_eq_some_iff.1 h).1
/-- An item is laid over another. -/
theorem Ar.puti (h : Ar T w g M r (some ⟨gK, 0, none⟩) n c K) (hk : K[i]? = some k) (x : It) : Ar T (((w.setCell ⟨gK, i * 7, none⟩ (.int .i64 x.1)).setCell ⟨gK, i * 7 + 1, none⟩ (.int .i64 x.2.1)).setCell ⟨gK, i * 7 + 2, none⟩ (.int .i64 x.2.2)) g M r (some ⟨gK, 0, none⟩) n c (K.set i { k with it := x }) := by
  have h0 := h.put hk 0 (by omega) (.int .i64 x.1) (k' := { k with it := (x.1, k.it.2) }) rfl
  have h1 := h0.put (get_set hk _) 1 (by omega) (.int .i64 x.2.1) (k' := { k with it := (x.1, x.2.1, k.it.2.2) }) rfl
  have h2 := h1.put (get_set (get_set hk _) _) 2 (by omega) (.int .i64 x.2.2) (k' := { k with it := x }) rfl
  rw [List.set_set, List.set_set] at h2
  exact h2
/-- A knot is laid over another. -/
theorem Ar.putk (h : Ar T w g M r (some ⟨gK, 0, none⟩) n c K) (hk : K[i]? = some k) (q : Kn) : Ar T (((((((w.setCell ⟨gK, i * 7, none⟩ (.int .i64 q.it.1)).setCell ⟨gK, i * 7 + 1, none⟩ (.int .i64 q.it.2.1)).setCell ⟨gK, i * 7 + 2, none⟩ (.int .i64 q.it.2.2)).setCell ⟨gK, i * 7 + 3, none⟩ (.int .i64 q.l)).setCell ⟨gK, i * 7 + 4, none⟩ (.int .i64 q.r)).setCell ⟨gK, i * 7 + 5, none⟩ (.int .i64 q.h)).setCell ⟨gK, i * 7 + 6, none⟩ (.int .i64 q.t)) g M r (some ⟨gK, 0, none⟩) n c (K.set i q) := by
  have h0 := h.puti hk q.it
  have h1 := h0.putl (get_set hk _) q.l
  have h2 := h1.putr (get_set (get_set hk _) _) q.r
  have h3 := h2.puth (get_set (get_set (get_set hk _) _) _) q.h
  have h4 := h3.putt (get_set (get_set (get_set (get_set hk _) _) _) _) q.t
  simp only [List.set_set] at h4
  exact h4
theorem Ar.root (h : Ar T w g M r A n c K) (z : Int) : Ar T (w.setCell ⟨g, 1, none⟩ (.int .i64 z)) g M z A n c K := by
  refine ⟨h.b.set 1 _, ?_, h.ne⟩
  exact (Off.set (F := (· = g)) (a := ⟨g, 1, none⟩) rfl _).own h.o fun k hk e => h.ne (e ▸ hk)
/-- The last knot goes. -/
theorem Ar.cut (h : Ar T w g M r (some ⟨gK, 0, none⟩) n c K) {m : Nat} (hm : m ≤ n) : Ar T (w.setCell ⟨g, 2, none⟩ (.slice (some ⟨gK, 0, none⟩) m c)) g M r (some ⟨gK, 0, none⟩) m c (K.take m) := by
  refine ⟨h.b.set 2 _, ?_, h.ne⟩
  have ho : w.ownsRow 0 T 7 (.slice (some ⟨gK, 0, none⟩) m c) m (cells7 (K.take m)) := by
    rcases h.o.2 with ⟨e, _⟩ | ⟨g', cap', cur, e, h1, h2, h3, h4, h5, h6⟩
    · cases e
    · injection e with e1 _ e3
      injection e1 with e1
      injection e1 with e1 _ _
      subst e1 e3
      refine ⟨by rw [cells7_len, List.length_take, h.len]; rw [Nat.min_eq_left hm], .inr ⟨gK, c, cur, rfl, h1, h2, by omega, h4, h5, ?_⟩⟩
      rw [cells7_take, ← h6, List.take_take, Nat.min_eq_left (Nat.mul_le_mul_right _ hm)]
  exact (Off.set (F := (· = g)) (a := ⟨g, 2, none⟩) rfl _).own ho fun k hk e => h.ne (e ▸ hk)
end
/-- Which side. -/
def sdI (b : Bool) : Int := if b then 1 else 0
abbrev WyL := List (Nat × Bool)
/-- A way's cells. -/
structure WayV (vs : Array Value) (l : WyL) : Prop where
  sz : vs.size = 57
  one : vs.all (·.oneCell') = true
  cnt : vs.toList[56]? = some (.int .i64 (l.length : Int))
  le : l.length ≤ 28
  at_ : ∀ i p b, l[i]? = some (p, b) → vs.toList[i * 2]? = some (.int .i64 (p : Int)) ∧ vs.toList[i * 2 + 1]? = some (.int .i64 (sdI b))
theorem all_set {vs : Array Value} (h : vs.all (·.oneCell') = true) (i : Nat) (v : Value) (hv : v.oneCell' = true) : (vs.setIfInBounds i v).all (·.oneCell') = true := by
  rw [Array.all_eq_true_iff_forall_mem] at h ⊢
  intro x hx
  have hx := Array.mem_toList_iff.2 hx
  rw [Array.toList_setIfInBounds] at hx
  rcases List.mem_or_eq_of_mem_set hx with hx | rfl
  · exact h x (Array.mem_toList_iff.1 hx)
  · exact hv
def zeroWay : Array Value := (List.replicate 57 (Value.int .i64 0)).toArray
theorem WayV.zero : WayV zeroWay [] := ⟨rfl, by unfold zeroWay; rw [Array.all_eq_true_iff_forall_mem]; intro x hx; have := List.eq_of_mem_replicate (List.mem_toArray.1 hx); rw [this]; rfl, rfl, by simp, fun i p b h => by simp at h⟩
theorem WayV.lt {vs : Array Value} {l : WyL} (h : WayV vs l) {i p : Nat} {b : Bool} (hi : l[i]? = some (p, b)) : i < 28 := by
  have := (List.getElem?_eq_some_iff.1 hi).1
  have := h.le; omega
theorem WayV.push {vs : Array Value} {l : WyL} (h : WayV vs l) (hl : l.length < 28) (p : Nat) (b : Bool) : WayV (((vs.setIfInBounds (l.length * 2) (.int .i64 (p : Int))).setIfInBounds (l.length * 2 + 1) (.int .i64 (sdI b))).setIfInBounds 56 (.int .i64 ((l.length : Int) + 1))) (l ++ [(p, b)]) := by
  refine ⟨by simpa using h.sz, all_set (all_set (all_set h.one _ _ rfl) _ _ rfl) _ _ rfl, ?_, by simp; omega, ?_⟩
  · simp only [Array.toList_setIfInBounds]
    rw [List.getElem?_set_self (by simp [h.sz])]
    simp
  · intro i q d hi
    have hs : vs.toList.length = 57 := by simpa using h.sz
    simp only [Array.toList_setIfInBounds]
    rcases Nat.lt_or_ge i l.length with h1 | h1
    · rw [List.getElem?_append_left h1] at hi
      have := h.at_ i q d hi
      rw [List.getElem?_set_ne (by omega), List.getElem?_set_ne (by omega), List.getElem?_set_ne (by omega), List.getElem?_set_ne (by omega), List.getElem?_set_ne (by omega), List.getElem?_set_ne (by omega)]
      exact this
    · have e : i = l.length := by
        have := (List.getElem?_eq_some_iff.1 hi).1
        simp at this; omega
      subst e
      rw [List.getElem?_append_right (Nat.le_refl _), Nat.sub_self] at hi
      have e : (p, b) = (q, d) := by simpa using hi
      injection e with e1 e2
      subst e1 e2
      rw [List.getElem?_set_ne (by omega), List.getElem?_set_ne (by omega), List.getElem?_set_self (by omega), List.getElem?_set_ne (by omega), List.getElem?_set_self (by rw [List.length_set]; omega)]
      exact ⟨rfl, rfl⟩
theorem WayV.pop {vs : Array Value} {l : WyL} {x : Nat × Bool} (h : WayV vs (l ++ [x])) : WayV (vs.setIfInBounds 56 (.int .i64 (l.length : Int))) l := by
  have hle := h.le
  simp at hle
  refine ⟨by simpa using h.sz, all_set h.one _ _ rfl, ?_, by omega, ?_⟩
  · simp only [Array.toList_setIfInBounds]
    rw [List.getElem?_set_self (by simp [h.sz])]
  · intro i q d hi
    have hi' := (List.getElem?_eq_some_iff.1 hi).1
    have := h.at_ i q d (by rw [List.getElem?_append_left hi']; exact hi)
    simp only [Array.toList_setIfInBounds]
    rw [List.getElem?_set_ne (by omega), List.getElem?_set_ne (by omega)]
    exact this
/-- A way in memory. -/
def WayM (w : World) (g : Nat) (l : WyL) : Prop := ∃ vs, Blk w g vs ∧ WayV vs l
section
variable {w w' : World} {g : Nat} {l : WyL} {G : Nat → Prop}
theorem WayM.sz (h : WayM w g l) : g < w.heap.size := by obtain ⟨_, h, _⟩ := h; exact h.sz
theorem WayM.keep (h : WayM w g l) (hb : Below w.heap.size w w') : WayM w' g l := by obtain ⟨vs, h1, h2⟩ := h; exact ⟨vs, h1.keep hb, h2⟩
theorem WayM.off (h : WayM w g l) (ho : Off G w w') (hg : ¬ G g) : WayM w' g l := by obtain ⟨vs, h1, h2⟩ := h; exact ⟨vs, ho.blk h1 hg, h2⟩
end
/-- A step as a value. -/
abbrev stV (p : Nat) (b : Bool) : Value := .agg #[.int .i64 (p : Int), .int .i64 (sdI b)]
end Corr
