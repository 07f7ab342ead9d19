/- Rows of items (three numbers each). No program's function in this text. -/
import Derived.Test.YtolmkagedlcjiaaRow
namespace Corr
open Go Go.RowKit
abbrev It := Int × Int × Int
abbrev ItL := List It
/-- An item as a value. -/
abbrev itV (s : It) : Value := .agg #[.int .i64 s.1, .int .i64 s.2.1, .int .i64 s.2.2]
def cells3 : ItL → List Value
  | [] => []
  | s :: r => .int .i64 s.1 :: .int .i64 s.2.1 :: .int .i64 s.2.2 :: cells3 r
theorem cells3_len : ∀ l : ItL, (cells3 l).length = l.length * 3
  | [] => rfl
  | s :: r => by rw [cells3, List.length_cons, List.length_cons, List.length_cons, cells3_len r, List.length_cons]; omega
theorem cells3_at : ∀ {l : ItL} {i : Nat} {s : It}, l[i]? = some s → (cells3 l)[i * 3]? = some (.int .i64 s.1) ∧ (cells3 l)[i * 3 + 1]? = some (.int .i64 s.2.1) ∧ (cells3 l)[i * 3 + 2]? = some (.int .i64 s.2.2)
  | [], _, _, h => by simp at h
  | x :: r, 0, s, h => by simp at h; subst h; exact ⟨rfl, rfl, rfl⟩
  | x :: r, i + 1, s, h => by
    have := cells3_at (l := r) (i := i) (by simpa using h)
    rw [show (i + 1) * 3 = i * 3 + 1 + 1 + 1 by omega, show i * 3 + 1 + 1 + 1 + 1 = (i * 3 + 1) + 1 + 1 + 1 by omega, show i * 3 + 1 + 1 + 1 + 2 = (i * 3 + 2) + 1 + 1 + 1 by omega]
    simpa [cells3] using this
theorem cells3_append (a b : ItL) : cells3 (a ++ b) = cells3 a ++ cells3 b := by
  induction a with
  | nil => rfl
  | cons s r ih => simp [cells3, ih]
theorem cells3_one : ∀ (l : ItL), ∀ u ∈ cells3 l, u.oneCell' = true
  | [], u, hu => by cases hu
  | s :: r, u, hu => by
    rw [cells3] at hu
    rcases List.mem_cons.1 hu with rfl | hu
    · rfl
    · rcases List.mem_cons.1 hu with rfl | hu
      · rfl
      · rcases List.mem_cons.1 hu with rfl | hu
        · rfl
        · exact cells3_one r u hu
theorem cells3_drop : ∀ (l : ItL) (k : Nat), cells3 (l.drop k) = (cells3 l).drop (k * 3)
  | _, 0 => by simp
  | [], k + 1 => by simp [cells3]
  | s :: r, k + 1 => by
    rw [List.drop_succ_cons, cells3_drop r k, show (k + 1) * 3 = k * 3 + 1 + 1 + 1 by omega]; rfl
theorem cells3_take : ∀ (l : ItL) (k : Nat), cells3 (l.take k) = (cells3 l).take (k * 3)
  | _, 0 => by simp [cells3]
  | [], k + 1 => by simp [cells3]
  | s :: r, k + 1 => by
    rw [List.take_succ_cons, cells3, cells3_take r k, show (k + 1) * 3 = k * 3 + 1 + 1 + 1 by omega]; rfl
/-- Items in memory. -/
abbrev Itm (w : World) (A : Option Addr) (n c : Nat) (l : ItL) : Prop := Lies w 3 A n c (cells3 l)
theorem Itm.count {w : World} {A : Option Addr} {n c : Nat} {l : ItL} (h : Itm w A n c l) : l.length = n := by
  have := h.len; rw [cells3_len] at this; omega
theorem Itm.get {w : World} {A : Option Addr} {n c : Nat} {l : ItL} (h : Itm w A n c l) {k : Nat} (hk : k < n) :
    ∃ g off s, A = some ⟨g, off, none⟩ ∧ l[k]? = some s ∧ g < w.heap.size ∧ w.cell? ⟨g, off + k * 3, none⟩ = some (.int .i64 s.1) ∧ w.cell? ⟨g, off + k * 3 + 1, none⟩ = some (.int .i64 s.2.1) ∧ w.cell? ⟨g, off + k * 3 + 2, none⟩ = some (.int .i64 s.2.2) := by
  obtain ⟨g, off, hA, hg, hc⟩ := h.at_ (by omega)
  have hl := h.count
  have hs : l[k]? = some (l[k]'(by omega)) := List.getElem?_eq_getElem (by omega)
  have h3 := cells3_at hs
  refine ⟨g, off, _, hA, hs, hg, hc _ _ h3.1, ?_, ?_⟩
  · have := hc _ _ h3.2.1
    rw [← Nat.add_assoc] at this
    exact this
  · have := hc _ _ h3.2.2
    rw [← Nat.add_assoc] at this
    exact this
theorem Itm.drop {w : World} {n c g off : Nat} {l : ItL} (h : Itm w (some ⟨g, off, none⟩) n c l) {k : Nat} (hk : k ≤ n) : Itm w (some ⟨g, off + k * 3, none⟩) (n - k) (c - k) (l.drop k) := by
  have := Lies.drop h hk
  show Lies _ _ _ _ _ _
  rw [cells3_drop]; exact this
/-- The first places of a row. -/
theorem Lies.take {w : World} {sz n c : Nat} {A : Option Addr} {xs : List Value} (h : Lies w sz A n c xs) {k : Nat} (hk : k ≤ n) : Lies w sz A k c (xs.take (k * sz)) := by
  refine ⟨?_, Nat.le_trans hk h.cap, fun hn => ?_⟩
  · rw [List.length_take, h.len]; exact Nat.min_eq_left (Nat.mul_le_mul_right _ hk)
  · obtain ⟨g, off, hA, hg, hc⟩ := h.at_ (by omega)
    refine ⟨g, off, hA, hg, fun i v hv => hc i v ?_⟩
    have hi := (List.getElem?_eq_some_iff.1 hv).1
    rw [List.length_take] at hi
    rw [List.getElem?_take, if_pos (by omega)] at hv
    exact hv
theorem Itm.take {w : World} {n c : Nat} {A : Option Addr} {l : ItL} (h : Itm w A n c l) {k : Nat} (hk : k ≤ n) : Itm w A k c (l.take k) := by
  have := Lies.take h hk
  show Lies _ _ _ _ _ _
  rw [cells3_take]; exact this
/-- An empty row of one's own. -/
theorem own_empty (w : World) (T : TypeId) (sz base : Nat) (hb : base ≤ w.heap.size) : (w.alloc (.cells #[] T)).ownsRow base T sz (.slice (some ⟨w.heap.size, 0, none⟩) 0 0) 0 [] := by
  refine ⟨by simp, .inr ⟨w.heap.size, 0, #[], rfl, hb, ?_, Nat.le_refl _, by unfold maxLen; omega, by simp, by simp⟩⟩
  show (w.heap.push _)[w.heap.size]? = _
  simp
end Corr
namespace Corr
open Go Go.RowKit
theorem new_ge (w : World) (n c : Nat) : ∀ b, (Value.slice (some ⟨w.heap.size, 0, none⟩) n c).ownBlock = some b → w.heap.size ≤ b := by
  intro b hb
  have : w.heap.size = b := by simpa [Value.ownBlock] using hb
  omega
theorem low_ge {B : Nat} (w : World) (hB : B ≤ w.heap.size) (n c : Nat) : ∀ b, (Value.slice (some ⟨w.heap.size, 0, none⟩) n c).ownBlock = some b → B ≤ b := fun b hb => Nat.le_trans hB (new_ge w n c b hb)
end Corr
namespace Corr
open Go Go.RowKit
theorem heap_new (w : World) (o : Obj) : (w.alloc o).heap[w.heap.size]? = some o := by
  show (w.heap.push o)[w.heap.size]? = some o
  simp
theorem cells_block {w : World} {k : Nat} {ys : List Value} {T : TypeId} (h : w.heap[k]? = some (.cells ys.toArray T (0, 0))) : ∀ (j : Nat) (u : Value), ys[j]? = some u → w.cell? ((⟨k, 0, none⟩ : Addr).add j) = some u := by
  intro j u hj
  have e : (⟨k, 0, none⟩ : Addr).add j = ⟨k, j, none⟩ := by unfold Addr.add; simp; intro h; omega
  rw [e, Joins.cell_of_block h]
  simpa using hj
/-- Cells of another block than the one that was appended to. -/
theorem cells_far {W w2 : World} {row : Option Nat} {T : TypeId} {ys : List Value} {k : Nat} (hW : W.heap[k]? = some (.cells ys.toArray T (0, 0))) (hg : W.grownBy w2 row) (hne : ¬ row = some k) :
    ∀ (j : Nat) (u : Value), ys[j]? = some u → w2.cell? ((⟨k, 0, none⟩ : Addr).add j) = some u := by
  refine cells_block (T := T) ?_
  rw [hg.block k (Array.getElem?_eq_some_iff.1 hW).1 (fun e => hne e.symm)]
  exact hW
end Corr
namespace Corr
open Go Go.RowKit
theorem own_is {k n c b : Nat} (h : (Value.slice (some ⟨k, 0, none⟩) n c).ownBlock = some b) : k = b := by simpa [Value.ownBlock] using h
end Corr
