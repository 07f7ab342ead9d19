/- What a text reads as, by the library's own words (Cut, TrimPrefix, Replace, ParseInt), and by a look at it byte for byte. No walk in this text. -/
import Derived.Test.YtfceoehfellpgaaDoorTxPut
import Derived.Lib.IndexBytes
import Derived.Lib.CountLaws
import Derived.Lib.Replace
import Derived.Lib.ParseIntB
import Derived.Lib.Strings
namespace Corr
set_option linter.unusedSimpArgs false
set_option linter.unusedVariables false
open Go

theorem index_no : ∀ {l : List UInt8}, (46 : UInt8) ∉ l → Lib.index l [46] = -1
  | [], _ => rfl
  | b :: l, h => by
    have h1 : ¬ b = 46 := fun e => h (by rw [e]; exact List.mem_cons_self ..)
    have h2 := index_no (l := l) (fun e => h (List.mem_cons_of_mem _ e))
    have h3 : ([46] : List UInt8).isPrefixOf (b :: l) = false := by
      simp only [List.isPrefixOf, Bool.and_true]
      exact beq_eq_false_iff_ne.2 (fun e => h1 e.symm)
    unfold Lib.index
    rw [h3, h2]
    rfl
theorem index_at : ∀ {a : List UInt8} (b : List UInt8), (46 : UInt8) ∉ a → Lib.index (a ++ 46 :: b) [46] = (a.length : Int)
  | [], b, _ => by
    unfold Lib.index
    simp [List.isPrefixOf]
  | x :: a, b, h => by
    have h1 : ¬ x = 46 := fun e => h (by rw [e]; exact List.mem_cons_self ..)
    have h2 := index_at (a := a) b (fun e => h (List.mem_cons_of_mem _ e))
    have h3 : ([46] : List UInt8).isPrefixOf (x :: (a ++ 46 :: b)) = false := by
      simp only [List.isPrefixOf, Bool.and_true]
      exact beq_eq_false_iff_ne.2 (fun e => h1 e.symm)
    rw [List.cons_append]
    unfold Lib.index
    rw [h3, h2]
    have : ((a.length : Int) == -1) = false := by rw [beq_eq_false_iff_ne]; omega
    simp [this]
theorem point_cases : ∀ (t : List UInt8), (46 : UInt8) ∉ t ∨ ∃ a b, t = a ++ 46 :: b ∧ (46 : UInt8) ∉ a
  | [] => Or.inl (by simp)
  | x :: t => by
    by_cases h : x = 46
    · exact Or.inr ⟨[], t, by simp [h], by simp⟩
    · rcases point_cases t with h1 | ⟨a, b, h1, h2⟩
      · exact Or.inl (by simp only [List.mem_cons, not_or]; exact ⟨fun e => h e.symm, h1⟩)
      · exact Or.inr ⟨x :: a, b, by simp [h1], by simp only [List.mem_cons, not_or]; exact ⟨fun e => h e.symm, h2⟩⟩
theorem cut_no {t : List UInt8} (h : (46 : UInt8) ∉ t) : Lib.cut t [46] = (t, [], false) := by
  unfold Lib.cut
  rw [index_no h, if_neg (by decide)]
theorem cut_at {a : List UInt8} (b : List UInt8) (h : (46 : UInt8) ∉ a) : Lib.cut (a ++ 46 :: b) [46] = (a, b, true) := by
  unfold Lib.cut
  rw [index_at b h, if_pos (by omega)]
  simp
theorem replace_no {t : List UInt8} (h : (46 : UInt8) ∉ t) : Lib.replace t [46] [] 1 = t := by
  unfold Lib.replace Lib.replaceNum
  rw [Lib.count_miss (index_no h)]
  simp [Lib.replaceK]
theorem replace_at {a : List UInt8} (b : List UInt8) (h : (46 : UInt8) ∉ a) : Lib.replace (a ++ 46 :: b) [46] [] 1 = a ++ b := by
  have hc := Lib.count_hit (s := a ++ 46 :: b) (sub := [46]) (by simp) (index_at b h)
  unfold Lib.replace Lib.replaceNum
  rw [hc, if_neg (by decide), if_neg (by omega), show (1 : Int).toNat = 0 + 1 from rfl, Lib.replaceK_hit [46] [] 0 _ a.length (index_at b h)]
  simp [Lib.replaceK]
theorem trim_sgn {t : List UInt8} (n : Bool) (h : n = false → t.head? ≠ some 45) : Lib.trimPrefix (sgnT n ++ t) [45] = t := by
  unfold Lib.trimPrefix Lib.hasPrefix
  cases n
  · have h := h rfl
    cases t with
    | nil => simp [sgnT]
    | cons x t =>
      have : ¬ x = 45 := fun e => h (by simp [e])
      have h2 : ((45 : UInt8) == x) = false := beq_eq_false_iff_ne.2 (fun e => this e.symm)
      simp [sgnT, List.isPrefixOf, h2]
  · simp [sgnT, List.isPrefixOf]
theorem sgn_of (l : List UInt8) : ∃ t, l = sgnT (l.head? == some 45) ++ t ∧ ((l.head? == some 45) = false → t.head? ≠ some 45) := by
  cases l with
  | nil => exact ⟨[], by simp [sgnT], by simp⟩
  | cons x t =>
    by_cases h : x = 45
    · subst h; exact ⟨t, by simp [sgnT], by simp⟩
    · exact ⟨x :: t, by simp [sgnT, h], by simp [h]⟩

/-- The whole part, the places, whether there is a point: as the program parts a text. -/
def pW (l : List UInt8) : List UInt8 := (Lib.cut (Lib.trimPrefix l [45]) [46]).1
def pP (l : List UInt8) : List UInt8 := (Lib.cut (Lib.trimPrefix l [45]) [46]).2.1
def pF (l : List UInt8) : Bool := (Lib.cut (Lib.trimPrefix l [45]) [46]).2.2
def pN (l : List UInt8) : Bool := l.head? == some 45
def pOk (l : List UInt8) : Bool := (l != [45, 48]) && (isWh (pW l) && (!pF l || isPl (pP l)))
def pV (l : List UInt8) : Int := fval (pN l) (pW l) (pP l)
/-- The error, the number, its places. -/
def pE (l : List UInt8) : Int := if 21 < l.length then 3 else if pOk l = true then (if fitsI (pV l) = true then 0 else 11) else 4
def pC (l : List UInt8) : Int := if pE l = 0 then pV l else 0
def pS (l : List UInt8) : Nat := if pE l = 0 then (pP l).length else 0

theorem allD_no {l : List UInt8} (h : allD l = true) : (46 : UInt8) ∉ l := fun e => (dig_ne (allD_mem h _ e)).2.1 rfl
theorem wh_head {w : List UInt8} (h : isWh w = true) (r : List UInt8) : (w ++ r).head? ≠ some 45 := by
  obtain ⟨hd, hne, _⟩ := isWh_parts h
  cases w with
  | nil => exact absurd rfl hne
  | cons x t =>
    intro e
    simp at e
    exact (dig_ne (allD_mem hd x (by simp))).1 e
theorem form_ok {l w p : List UInt8} {n : Bool} (h : Form l n w p) : pOk l = true ∧ pN l = n ∧ pW l = w ∧ pP l = p := by
  obtain ⟨he, hw, hp, hn⟩ := h
  have ht : Lib.trimPrefix l [45] = w ++ ptT p := by rw [he]; exact trim_sgn n (fun _ => wh_head hw _)
  have hN : pN l = n := by
    unfold pN
    cases n
    · rw [he]
      have := wh_head hw (ptT p)
      simp only [sgnT]
      exact beq_eq_false_iff_ne.2 (by simpa using this)
    · rw [he]; simp [sgnT]
  have hno := allD_no (isWh_parts hw).1
  unfold pOk pW pP pF
  rw [ht]
  rcases hp with hp | hp
  · subst hp
    rw [show ptT [] = [] from rfl, List.append_nil, cut_no hno]
    simp [hn, hw, hN]
  · have : p ≠ [] := (isPl_parts hp).2.1
    unfold ptT
    rw [if_neg this, cut_at p hno]
    simp [hn, hw, hN, hp]
theorem ok_form {l : List UInt8} (h : pOk l = true) : Form l (pN l) (pW l) (pP l) := by
  unfold pOk at h
  simp only [Bool.and_eq_true, Bool.or_eq_true, bne_iff_ne, ne_eq, Bool.not_eq_true'] at h
  obtain ⟨hn, hw, hp⟩ := h
  obtain ⟨t, he, ht⟩ := sgn_of l
  have htp : Lib.trimPrefix l [45] = t := by
    have := trim_sgn (t := t) (l.head? == some 45) ht
    rw [← he] at this; exact this
  refine ⟨?_, hw, ?_, hn⟩
  · unfold pW pP pN
    rw [htp]
    rcases point_cases t with h1 | ⟨a, b, h1, h2⟩
    · rw [cut_no h1]; simpa [ptT] using he
    · unfold pF pP at hp
      rw [htp, h1, cut_at b h2] at hp
      have hb : b ≠ [] := by
        rcases hp with hp | hp
        · simp at hp
        · exact (isPl_parts hp).2.1
      rw [h1, cut_at b h2]
      unfold ptT
      rw [if_neg hb, ← h1]; exact he
  · unfold pP pF at *
    rw [htp] at hp ⊢
    rcases point_cases t with h1 | ⟨a, b, h1, h2⟩
    · rw [cut_no h1]; exact Or.inl rfl
    · rw [h1, cut_at b h2] at hp ⊢
      exact Or.inr (by simpa using hp)
/-- What is handed to ParseInt. -/
theorem form_replace {l w p : List UInt8} {n : Bool} (h : Form l n w p) : Lib.replace l [46] [] 1 = sgnT n ++ (w ++ p) := by
  obtain ⟨he, hw, hp, hn⟩ := h
  have hno : (46 : UInt8) ∉ sgnT n ++ w := by
    rw [List.mem_append, not_or]
    exact ⟨by cases n <;> simp [sgnT], allD_no (isWh_parts hw).1⟩
  rw [he, ← List.append_assoc, ← List.append_assoc]
  unfold ptT
  by_cases h0 : p = []
  · rw [if_pos h0, h0, List.append_nil]; exact replace_no hno
  · rw [if_neg h0]; exact replace_at p hno
/-- ParseUint at digits. -/
theorem uint_digits : ∀ (l : List UInt8) (acc : Nat), allD l = true → acc ≤ 18446744073709551615 →
    Lib.parseUintM 18446744073709551615 acc l = if dvalA acc l ≤ 18446744073709551615 then .ok (dvalA acc l) else .range
  | [], acc, _, h => by
    rw [Lib.parseUintM]
    rw [show dvalA acc [] = acc from rfl, if_pos h]
  | b :: l, acc, hd, h => by
    have hd' := hd
    unfold allD at hd'
    simp only [List.all_cons, Bool.and_eq_true] at hd'
    have hb := hd'.1
    unfold isDig at hb
    simp at hb
    rw [Lib.parseUintM, if_pos hb, dvalA_cons]
    have hge : acc * 10 + (b.toNat - 48) ≤ dvalA (acc * 10 + (b.toNat - 48)) l := by
      rw [dvalA_eq]
      have : (acc * 10 + (b.toNat - 48)) * 1 ≤ (acc * 10 + (b.toNat - 48)) * 10 ^ l.length := Nat.mul_le_mul_left _ (Nat.pow_pos (by omega))
      omega
    by_cases h1 : 1844674407370955162 ≤ acc
    · rw [if_pos h1, if_neg (by omega)]
    · rw [if_neg h1]
      by_cases h2 : 18446744073709551615 < acc * 10 + (b.toNat - 48)
      · rw [if_pos h2, if_neg (by omega)]
      · rw [if_neg h2]
        exact uint_digits l _ hd'.2 (by omega)
theorem int_digits {n : Bool} {d : List UInt8} (hd : allD d = true) (hne : d ≠ []) :
    Lib.parseIntB 64 (sgnT n ++ d) = if fitsI (val n (dval d)) = true then .ok (val n (dval d)) else .range := by
  have hu := uint_digits d 0 hd (by omega)
  have hu2 : Lib.parseUintB 64 d = if dval d ≤ 18446744073709551615 then .ok (dval d) else .range := by
    unfold Lib.parseUintB
    rw [if_neg hne]
    exact hu
  cases n
  · cases d with
    | nil => exact absurd rfl hne
    | cons x t =>
      have hx := allD_mem hd x (by simp)
      have h43 : ¬ x.toNat = 43 := fun e => (dig_ne hx).2.2.1 (UInt8.toNat_inj.1 (by rw [e]; rfl))
      have h45 : ¬ x.toNat = 45 := fun e => (dig_ne hx).1 (UInt8.toNat_inj.1 (by rw [e]; rfl))
      simp only [sgnT, Bool.false_eq_true, if_false, List.nil_append, Lib.parseIntB]
      rw [if_neg (by simp [h43, h45]), hu2]
      generalize dval (x :: t) = D
      by_cases h1 : D ≤ 18446744073709551615
      · rw [if_pos h1]
        by_cases h2 : fitsI (val false D) = true
        · rw [if_pos h2]
          unfold fitsI val at h2
          simp at h2
          simp [h45, val]
          omega
        · rw [if_neg h2]
          unfold fitsI val at h2
          simp at h2
          simp [h45]
          omega
      · rw [if_neg h1, if_neg]
        unfold fitsI val
        simp
        omega
  · simp only [sgnT, if_true, List.singleton_append, Lib.parseIntB]
    rw [if_pos (by decide), hu2]
    generalize dval d = D
    have e45 : (45 : UInt8).toNat = 45 := rfl
    by_cases h1 : D ≤ 18446744073709551615
    · rw [if_pos h1]
      by_cases h2 : fitsI (val true D) = true
      · rw [if_pos h2]
        unfold fitsI val at h2
        simp at h2
        simp [e45, val]
        omega
      · rw [if_neg h2]
        unfold fitsI val at h2
        simp at h2
        simp [e45]
        omega
    · rw [if_neg h1, if_neg]
      unfold fitsI val
      simp
      omega
theorem form_parse {l w p : List UInt8} {n : Bool} (h : Form l n w p) :
    Lib.parseIntB 64 (Lib.replace l [46] [] 1) = if fitsI (pV l) = true then .ok (pV l) else .range := by
  obtain ⟨_, h1, h2, h3⟩ := form_ok h
  unfold pV fval
  rw [form_replace h, h1, h2, h3]
  obtain ⟨he, hw, hp, hn⟩ := h
  obtain ⟨hd, hne, _⟩ := isWh_parts hw
  exact int_digits (allD_append.2 ⟨hd, (pl_dig hp).1⟩) (by simp [hne])
end Corr
