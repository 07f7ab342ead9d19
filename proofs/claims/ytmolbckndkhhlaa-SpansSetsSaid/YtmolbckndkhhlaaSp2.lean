/- Contracts of corrodyref07: add. -/
import Derived.Test.YtmolbckndkhhlaaSp1
import Derived.Deep.RegionLaw
import Derived.Deep.CutRange
import Derived.Deep.AppendLies
import Derived.Laws.IdiomStrings
import Derived.Deep.DeepCutAuto
import Derived.Deep.CutBlock
namespace Corr
set_option maxRecDepth 8000
open Go Go.RowKit
/-- A number at its place, once. -/
def insE (n : Int) : List Int → List Int
  | [] => [n]
  | x :: r => if x < n then x :: insE n r else if x = n then x :: r else n :: x :: r
theorem insE_past {n : Int} : ∀ {l : List Int} {k : Nat}, k ≤ l.length → (∀ x ∈ l.take k, x < n) → insE n l = l.take k ++ insE n (l.drop k)
  | _, 0, _, _ => by simp
  | [], k + 1, h, _ => by simp at h
  | x :: r, k + 1, h, hx => by
    have h1 : x < n := hx x (by simp)
    have := insE_past (l := r) (k := k) (by simpa using h) (fun y hy => hx y (by simp [hy]))
    simp [insE, h1, this]
theorem insE_same {n : Int} {l : List Int} {k : Nat} (hk : k ≤ l.length) (hx : ∀ x ∈ l.take k, x < n) (h : l[k]? = some n) : insE n l = l := by
  have hlt : k < l.length := (List.getElem?_eq_some_iff.1 h).1
  rw [insE_past hk hx]
  have e : l.drop k = n :: l.drop (k + 1) := by rw [List.drop_eq_getElem_cons hlt, (List.getElem?_eq_some_iff.1 h).2]
  rw [e, insE, if_neg (by omega), if_pos rfl, ← e, List.take_append_drop]
theorem insE_new {n : Int} {l : List Int} {k : Nat} (hk : k ≤ l.length) (hx : ∀ x ∈ l.take k, x < n) (h : ∀ z, l[k]? = some z → n < z) : insE n l = l.take k ++ n :: l.drop k := by
  rw [insE_past hk hx]
  congr 1
  cases hd : l.drop k with
  | nil => rfl
  | cons z r =>
    have : l[k]? = some z := by
      have := congrArg (·[0]?) hd
      simpa using this
    have := h z this
    rw [insE, if_neg (by omega), if_neg (by omega)]
theorem insE_len (n : Int) : ∀ l : List Int, (insE n l).length ≤ l.length + 1
  | [] => by simp [insE]
  | x :: r => by
    have := insE_len n r
    unfold insE
    repeat' split
    all_goals simp
    omega
theorem take_more {l : List Int} {k : Nat} {x : Int} (h : l[k]? = some x) : ints (l.take (k + 1)) = ints (l.take k) ++ [encZ x] := by
  rw [List.take_add_one, h, ints_append]; rfl
theorem take_lt {n x : Int} {l : List Int} {k : Nat} (h : ∀ y ∈ l.take k, y < n) (hx : l[k]? = some x) (hlt : x < n) : ∀ y ∈ l.take (k + 1), y < n := by
  rw [List.take_add_one, hx]
  intro y hy
  rcases List.mem_append.1 hy with hy | hy
  · exact h y hy
  · have : y = x := by simpa using hy
    omega
/-- What a call leaves that tells numbers. -/
def RetNums (w : World) (l : List Int) (e : Ending) (w' : World) : Prop := ∃ A n c, e = .returned (.slice A n c) ∧ Nums w' A n c l ∧ Below w.heap.size w w'
end Corr
namespace Go.Proofs.Ytmolbckndkhhlaa
set_option maxRecDepth 8000
open Go.RowKit Corr
set_option linter.unusedVariables false
theorem elem_int : Elem Try.prog 45 3 (.int .i64 0) 1 8 := by
  obtain ⟨i, h0, h1, h2, h3⟩ := info_parts (show (Try.prog.info? 3).map (fun i => (i.zero, i.size, i.bytes)) = some (some (.int .i64 0), 1, 8) by kernel_rfl)
  exact ⟨Try.underlying45, ⟨i, h0, h1, h2, h3⟩, rfl, by decide⟩
set_option maxHeartbeats 2000000 in
theorem add_any (A : Option Addr) (N c : Nat) (l : List Int) (n : Int) (w : World) (R : Nums w A N c l) (hN : N ≤ 1000000) : Calls Try.prog 43 #[.slice A N c, .int .i64 n] w (RetNums w (insE n l)) := by
  have HC := Lib.hid R.count
  have HR := Lib.hid R
  clear R
  go_enter Try.func43, Try.ntmps43
  go_wp2_with fail
  go_loopw [5, 6] (fun v t wr => ∃ k : Nat, t = .int .i64 (k : Int) ∧ k ≤ N ∧ Hid (∀ x ∈ l.take k, x < n) ∧ wr.ownsRow w.heap.size 3 1 v k (ints (l.take k)) ∧ Below w.heap.size w wr) (fun _ t _ => (N - intOf t).toNat)
  case atStart => exact ⟨0, rfl, by omega, Lib.hid (by simp), World.ownsRow_nil _ _ _ _, Below.refl _ _⟩
  case round =>
    obtain ⟨k, rfl, hk, HX, hown, hb⟩ := hrel
    have HB := Lib.hid hb
    have hsz := hb.size
    clear hb
    by_cases hlt : k < N
    · obtain ⟨g, off, x, rfl, hx, hg, c0⟩ := Nums.get (HR.out.keep HB.out) hlt
      have HXK := Lib.hid hx
      clear hx
      by_cases p1 : x < n
      · have HT := Lib.hid (take_lt HX.out HXK.out p1)
        go_wp2_with (at_builtin; refine wpList_app rfl _ _ 45 rfl [encZ x] elem_int rfl (hown.alloc _) rfl rfl (fun _ => ⟨_, rfl, new_cells wr [encZ x] 3⟩) (ints_one [x]) (by omega) (by unfold maxLen; omega) (by simp; omega) ?_)
        intro v' w1 hown1 hgrow
        have HB1 := Lib.hid ((HB.out.alloc hsz _).grown hgrow (by simp; omega) (own_ge hown))
        rw [← take_more HXK.out] at hown1
        have HO1 := Lib.hid hown1
        clear hown1 hgrow hown
        go_wp2_with fail
        go_roundw
        case rel => exact ⟨k + 1, by go_num, by omega, HT, HO1.out, HB1.out⟩
        case measure => simp [intOf]; omega
      · have d1 : decide (x < n) = false := decide_eq_false p1
        by_cases p2 : x = n
        · have HF := Lib.hid (insE_same (by rw [HC.out]; omega) HX.out (p2 ▸ HXK.out))
          have d2 : (x == n) = true := by simpa using p2
          clear p1 p2
          go_wp2_with fail
          go_ret
          exact ⟨_, _, _, rfl, by rw [HF.out]; exact HR.out.keep HB.out, HB.out⟩
        · have d2 : (x == n) = false := by simpa using p2
          have HF := Lib.hid (insE_new (n := n) (by rw [HC.out]; omega) HX.out (fun z hz => by have := HXK.out; rw [hz] at this; have := Option.some.inj this; omega))
          clear p1 p2
          have hcap := HR.out.cap
          have hck : ¬ c = k := by omega
          have hkN : (k : Int) ≤ (N : Int) := by omega
          have HOA := Lib.hid ((hown.alloc (.cells #[encZ n] 3)).drew)
          have HBA := Lib.hid ((HB.out.alloc hsz (.cells #[encZ n] 3)).drew)
          have HOB := Lib.hid (own_ge hown)
          clear hown
          go_upto_region 8 with fail
          have HSRC := Lib.hid (fun w1 (hgrow : ((wr.alloc (.cells #[encZ n] 3)).drew).grownBy w1 u5.ownBlock) => (Nums.drop ((HR.out.keep (((HB.out.alloc hsz _).drew).grown hgrow (by simp; omega) HOB.out))) hk).src)
          go_region_law (first
            | (refine step_app (by rfl) _ _ 45 (by rfl) [encZ n] elem_int (by rfl) HOA.out (by rfl) (by rfl) (fun _ => ⟨_, rfl, new_cells wr [encZ n] 3⟩) (ints_one [n]) (by omega) (by unfold maxLen; omega) (by simp; omega) ?_; intro v1 w1 hown1 hgrow1)
            | (refine step_app (by rfl) _ _ 45 (by rfl) (ints (l.drop k)) elem_int (by rfl) hown1 (by rfl) (by rw [ints_len, List.length_drop, HC.out, Nat.mul_one]) (HSRC.out w1 hgrow1) (ints_one _) (by omega) (by unfold maxLen; omega) (by have := hgrow1.size; simp at this; omega) ?_; intro v2 w2 hown2 hgrow2))
          all_goals
            have HB2 := Lib.hid ((HBA.out.grown hgrow1 (by simp; omega) HOB.out).grown hgrow2 (by have := hgrow1.size; simp at this; omega) (own_ge hown1))
            have HO2 := Lib.hid hown2
            clear hown1 hown2 hgrow1 hgrow2 HOA HBA
            go_wp2_with fail
            obtain ⟨A2, c2, rfl, L2⟩ := Lies.of_own HO2.out (by have := HO2.out.1; exact this)
            go_ret
            exact ⟨A2, _, c2, rfl, by
              show Lies _ _ _ _ _ (ints _)
              rw [HF.out, ints_append, show ints (n :: l.drop k) = [encZ n] ++ ints (l.drop k) from rfl, ← List.append_assoc]
              exact L2, HB2.out⟩
    · have hkN : k = N := by omega
      subst hkN
      have HF := Lib.hid (insE_new (n := n) (by rw [HC.out]; omega) HX.out (fun z hz => by have := (List.getElem?_eq_some_iff.1 hz).1; have := HC.out; omega))
      have hcap := HR.out.cap
      have HNA := Lib.hid HR.out.at_
      have HOA := Lib.hid ((hown.alloc (.cells #[encZ n] 3)).drew)
      have HBA := Lib.hid ((HB.out.alloc hsz (.cells #[encZ n] 3)).drew)
      have HOB := Lib.hid (own_ge hown)
      clear hown
      cases A with
      | none =>
        have hk0 : k = 0 := by
          rcases Nat.eq_zero_or_pos k with h | h
          · exact h
          · obtain ⟨_, _, hA, _⟩ := HNA.out h; cases hA
        subst hk0
        go_upto_region 8 with fail
        go_region_law (first
          | (refine step_app (by rfl) _ _ 45 (by rfl) [encZ n] elem_int (by rfl) HOA.out (by rfl) (by rfl) (fun _ => ⟨_, rfl, new_cells wr [encZ n] 3⟩) (ints_one [n]) (by omega) (by unfold maxLen; omega) (by simp; omega) ?_; intro v1 w1 hown1 hgrow1)
          | (refine step_app (m := 0) (by rfl) _ _ 45 (by rfl) [] elem_int (by rfl) hown1 (by rfl) rfl (fun h => absurd h (by omega)) (fun u hu => by cases hu) (by omega) (by unfold maxLen; omega) (by have := hgrow1.size; simp at this; omega) ?_; intro v2 w2 hown2 hgrow2))
        all_goals
          have HB2 := Lib.hid ((HBA.out.grown hgrow1 (by simp; omega) HOB.out).grown hgrow2 (by have := hgrow1.size; simp at this; omega) (own_ge hown1))
          have HO2 := Lib.hid hown2
          clear hown1 hown2 hgrow1 hgrow2 HOA HBA
          go_wp2_with fail
          obtain ⟨A2, c2, rfl, L2⟩ := Lies.of_own HO2.out (by have := HO2.out.1; exact this)
          go_ret
          exact ⟨A2, _, c2, rfl, by
            show Lies _ _ _ _ _ (ints _)
            rw [HF.out, ints_append, List.drop_of_length_le (by rw [HC.out]; exact Nat.le_refl _)]
            rw [List.append_nil] at L2
            exact L2, HB2.out⟩
      | some ad =>
        by_cases hck : c = k
        · subst hck
          go_upto_region 8 with fail
          go_region_law (first
            | (refine step_app (by rfl) _ _ 45 (by rfl) [encZ n] elem_int (by rfl) HOA.out (by rfl) (by rfl) (fun _ => ⟨_, rfl, new_cells wr [encZ n] 3⟩) (ints_one [n]) (by omega) (by unfold maxLen; omega) (by simp; omega) ?_; intro v1 w1 hown1 hgrow1)
            | (refine step_app (m := 0) (by rfl) _ _ 45 (by rfl) [] elem_int (by rfl) hown1 (by rfl) rfl (fun h => absurd h (by omega)) (fun u hu => by cases hu) (by omega) (by unfold maxLen; omega) (by have := hgrow1.size; simp at this; omega) ?_; intro v2 w2 hown2 hgrow2))
          all_goals
            have HB2 := Lib.hid ((HBA.out.grown hgrow1 (by simp; omega) HOB.out).grown hgrow2 (by have := hgrow1.size; simp at this; omega) (own_ge hown1))
            have HO2 := Lib.hid hown2
            clear hown1 hown2 hgrow1 hgrow2 HOA HBA
            go_wp2_with fail
            obtain ⟨A2, c2, rfl, L2⟩ := Lies.of_own HO2.out (by have := HO2.out.1; exact this)
            go_ret
            exact ⟨A2, _, c2, rfl, by
              show Lies _ _ _ _ _ (ints _)
              rw [HF.out, ints_append, List.drop_of_length_le (by rw [HC.out]; exact Nat.le_refl _)]
              rw [List.append_nil] at L2
              exact L2, HB2.out⟩
        · have hkc : (k : Int) ≤ (c : Int) := by omega
          go_upto_region 8 with fail
          go_region_law (first
            | (refine step_app (by rfl) _ _ 45 (by rfl) [encZ n] elem_int (by rfl) HOA.out (by rfl) (by rfl) (fun _ => ⟨_, rfl, new_cells wr [encZ n] 3⟩) (ints_one [n]) (by omega) (by unfold maxLen; omega) (by simp; omega) ?_; intro v1 w1 hown1 hgrow1)
            | (refine step_app (m := 0) (by rfl) _ _ 45 (by rfl) [] elem_int (by rfl) hown1 (by rfl) rfl (fun h => absurd h (by omega)) (fun u hu => by cases hu) (by omega) (by unfold maxLen; omega) (by have := hgrow1.size; simp at this; omega) ?_; intro v2 w2 hown2 hgrow2))
          all_goals
            have HB2 := Lib.hid ((HBA.out.grown hgrow1 (by simp; omega) HOB.out).grown hgrow2 (by have := hgrow1.size; simp at this; omega) (own_ge hown1))
            have HO2 := Lib.hid hown2
            clear hown1 hown2 hgrow1 hgrow2 HOA HBA
            go_wp2_with fail
            obtain ⟨A2, c2, rfl, L2⟩ := Lies.of_own HO2.out (by have := HO2.out.1; exact this)
            go_ret
            exact ⟨A2, _, c2, rfl, by
              show Lies _ _ _ _ _ (ints _)
              rw [HF.out, ints_append, List.drop_of_length_le (by rw [HC.out]; exact Nat.le_refl _)]
              rw [List.append_nil] at L2
              exact L2, HB2.out⟩
end Go.Proofs.Ytmolbckndkhhlaa
