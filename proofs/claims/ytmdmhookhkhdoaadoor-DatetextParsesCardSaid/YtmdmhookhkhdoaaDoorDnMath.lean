/- What is cut at two points, and what a text of a span is read as. No walk in this text. -/
import Derived.Test.YtmdmhookhkhdoaaDoorDtMath
import Derived.Lib.IndexMore
namespace Corr
open Go Go.RowKit Go.PlainAid
theorem dig_no {l : List UInt8} (h : allD l = true) : (46 : UInt8) ∉ l := by
  intro hm
  unfold allD at h
  have := List.all_eq_true.1 h _ hm
  revert this; decide
theorem form_no {l : List UInt8} (h : dfB l = true) : (46 : UInt8) ∉ l := by
  obtain ⟨_, _, _, d1, d2, d3⟩ := dfB_iff.1 h
  rw [form_parts h]
  intro hm
  rcases List.mem_append.1 hm with hm | hm
  · exact dig_no d1 hm
  · rcases List.mem_cons.1 hm with hm | hm
    · revert hm; decide
    · rcases List.mem_append.1 hm with hm | hm
      · exact dig_no d2 hm
      · rcases List.mem_cons.1 hm with hm | hm
        · revert hm; decide
        · exact dig_no d3 hm
theorem pdE_no4 {l : List UInt8} (h : ¬ pdE l = 4) : dfB l = true := by
  cases hb : dfB l with
  | true => rfl
  | false => exact absurd (pd_form hb).1 h
/-- Two points behind ten bytes that are no points are the first ones. -/
theorem cut_ten {l : List UInt8} (h : psF l = true) (h1 : dfB (l.take 10) = true) : Lib.cut l [46, 46] = (l.take 10, l.drop 12, true) := by
  unfold psF at h
  rw [Bool.and_eq_true, beq_iff_eq, beq_iff_eq] at h
  have hno := form_no h1
  have hi : Lib.index l [46, 46] = ((10 : Nat) : Int) := by
    refine Lib.index_first (by omega) ?_ fun j hj => ?_
    · unfold Lib.occAt
      have e : l.drop 10 = 46 :: 46 :: l.drop 12 := by
        have := List.take_append_drop 2 (l.drop 10)
        rw [h.2, List.drop_drop] at this
        exact this.symm
      rw [e]; rfl
    · rw [Bool.eq_false_iff]
      intro ho
      unfold Lib.occAt at ho
      have hp : [46, 46] <+: l.drop j := List.isPrefixOf_iff_prefix.1 ho
      obtain ⟨t, ht⟩ := hp
      have hm : l[j]? = some 46 := by
        have : (l.drop j)[0]? = some 46 := by rw [← ht]; rfl
        rw [List.getElem?_drop] at this
        simpa using this
      apply hno
      rw [List.mem_iff_getElem?]
      exact ⟨j, by rw [List.getElem?_take, if_pos hj]; exact hm⟩
  unfold Lib.cut
  rw [hi, if_pos (by decide)]
  rfl
/-- What is cut, put together again. -/
theorem cut_back (l : List UInt8) : (Lib.cut l [46, 46]).2.2 = true ∧ l = (Lib.cut l [46, 46]).1 ++ 46 :: 46 :: (Lib.cut l [46, 46]).2.1 ∨ (Lib.cut l [46, 46]).2.1 = [] := by
  rcases Lib.index_spec l [46, 46] with ⟨h, _⟩ | ⟨i, h, h2, h3, _⟩
  · right
    unfold Lib.cut
    rw [h, if_neg (by decide)]
  · left
    unfold Lib.cut
    rw [h, if_pos (by omega)]
    refine ⟨rfl, ?_⟩
    unfold Lib.occAt at h3
    obtain ⟨t, ht⟩ := List.isPrefixOf_iff_prefix.1 h3
    have e1 : (l.drop i) = 46 :: 46 :: t := ht.symm
    have e2 : l.drop (i + 2) = t := by rw [← List.drop_drop, e1]; rfl
    show l = l.take i ++ 46 :: 46 :: l.drop (i + 2)
    rw [e2, ← e1, List.take_append_drop]
theorem cut_len (l : List UInt8) : (Lib.cut l [46, 46]).1.length ≤ l.length ∧ (Lib.cut l [46, 46]).2.1.length ≤ l.length := by
  unfold Lib.cut
  split
  · simp; omega
  · simp
/-- A span's text, read by what it is cut into. -/
theorem ps_cut {l a b : List UInt8} {f : Bool} (h : Lib.cut l [46, 46] = (a, b, f)) :
    (pdE a = 4 ∨ pdE b = 4) ∧ psE l = 4 ∧ psA l = 0 ∧ psB l = 0 ∨
    ¬ (pdE a = 4 ∨ pdE b = 4) ∧ (¬ pdE a = 0 ∨ ¬ pdE b = 0 ∨ pdN b < pdN a) ∧ psE l = 15 ∧ psA l = 0 ∧ psB l = 0 ∨
    pdE a = 0 ∧ pdE b = 0 ∧ pdN a ≤ pdN b ∧ psE l = 0 ∧ psA l = pdN a ∧ psB l = pdN b + 1 := by
  by_cases h4 : pdE a = 4 ∨ pdE b = 4
  · refine .inl ⟨h4, ?_⟩
    by_cases hF : psF l = true
    · by_cases h5 : pdE (l.take 10) = 4 ∨ pdE (l.drop 12) = 4
      · exact ps_bad hF h5
      · exfalso
        have := cut_ten hF (pdE_no4 (fun e => h5 (.inl e)))
        rw [h] at this
        injection this with e1 e2
        injection e2 with e2 _
        rw [e1, e2] at h4
        exact h5 h4
    · exact ps_form (by simpa using hF)
  · right
    have ha := pdE_no4 (fun e => h4 (.inl e))
    have hb := pdE_no4 (fun e => h4 (.inr e))
    have la := (dfB_iff.1 ha).1
    have lb := (dfB_iff.1 hb).1
    have hc := cut_back l
    rw [h] at hc
    rcases hc with ⟨_, hc⟩ | hc
    · have hc : l = a ++ 46 :: 46 :: b := hc
      have e1 : l.take 10 = a := by rw [hc, List.take_append_of_le_length (by omega), List.take_of_length_le (by omega)]
      have e0 : l.drop 10 = 46 :: 46 :: b := by rw [hc, List.drop_append, List.drop_of_length_le (by omega), la]; rfl
      have e2 : l.drop 12 = b := by
        have : l.drop 12 = (l.drop 10).drop 2 := by rw [List.drop_drop]
        rw [this, e0]; rfl
      have hF : psF l = true := by
        unfold psF
        rw [e0, hc]; simp [la, lb]
      by_cases h6 : pdE a = 0 ∧ pdE b = 0 ∧ pdN a ≤ pdN b
      · refine .inr ⟨h6.1, h6.2.1, h6.2.2, ?_⟩
        have := ps_ok hF (by rw [e1, e2]; exact h6)
        rw [e1, e2] at this
        exact this
      · refine .inl ⟨h4, ?_, ps_span hF (by rw [e1, e2]; exact h4) (by rw [e1, e2]; exact h6)⟩
        by_cases x1 : pdE a = 0
        · by_cases x2 : pdE b = 0
          · by_cases x3 : pdN a ≤ pdN b
            · exact absurd ⟨x1, x2, x3⟩ h6
            · exact .inr (.inr (by omega))
          · exact .inr (.inl x2)
        · exact .inl x1
    · have hc : b = [] := hc
      rw [hc] at lb
      cases lb
end Corr
