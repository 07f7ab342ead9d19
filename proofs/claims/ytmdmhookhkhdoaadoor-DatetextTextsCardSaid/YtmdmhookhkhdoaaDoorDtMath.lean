/- Days' texts as lists of bytes. No walk in this text. -/
import Derived.Test.YtmdmhookhkhdoaaDoorTxBytes
import Derived.Test.YtmdmhookhkhdoaaDoorCiv4
namespace Corr
open Go Go.RowKit Go.PlainAid
/-- The text of a date. -/
def dayT (y m d : Int) : List UInt8 := fixd 4 y.toNat ++ 45 :: (fixd 2 m.toNat ++ 45 :: fixd 2 d.toNat)
/-- The text of a day; none of what is no day. -/
noncomputable def dayL (n : Int) : List UInt8 := open Classical in if h : ∃ y m d, dateOf n y m d then dayT h.choose h.choose_spec.choose h.choose_spec.choose_spec.choose else []
theorem dayL_eq {n y m d : Int} (h : dateOf n y m d) : dayL n = dayT y m d := by
  have hx : ∃ y m d, dateOf n y m d := ⟨y, m, d, h⟩
  unfold dayL
  rw [dif_pos hx]
  obtain ⟨e1, e2, e3⟩ := date_one hx.choose_spec.choose_spec.choose_spec h
  exact congr (congr (congrArg dayT e1) e2) e3
theorem dayL_no {n : Int} (h : n < 1 ∨ 3652059 < n) : dayL n = [] := by
  unfold dayL
  rw [dif_neg]
  rintro ⟨y, m, d, hd⟩
  have := date_in hd
  omega
/-- A text of the form of a day? -/
def dfB (l : List UInt8) : Bool := l.length == 10 && l[4]? == some 45 && l[7]? == some 45 && allD (l.take 4) && allD ((l.drop 5).take 2) && allD (l.drop 8)
/-- Its parts. -/
def dfY (l : List UInt8) : Int := (dval (l.take 4) : Int)
def dfM (l : List UInt8) : Int := (dval ((l.drop 5).take 2) : Int)
def dfD (l : List UInt8) : Int := (dval (l.drop 8) : Int)
/-- What Parse tells: why it is none, and its number. -/
def pdE (l : List UInt8) : Int := if dfB l = true then (if 1 ≤ dfD l ∧ dfD l ≤ lenI (dfY l) (dfM l) then 0 else 15) else 4
def pdN (l : List UInt8) : Int := if dfB l = true ∧ 1 ≤ dfD l ∧ dfD l ≤ lenI (dfY l) (dfM l) then dby ((dfY l).toNat - 1) + cumI (dfY l) ((dfM l).toNat - 1) + dfD l else 0
theorem pd_form {l : List UInt8} (h : dfB l = false) : pdE l = 4 ∧ pdN l = 0 := by
  unfold pdE pdN; simp [h]
theorem pd_none {l : List UInt8} (h : dfB l = true) (h2 : ¬ (1 ≤ dfD l ∧ dfD l ≤ lenI (dfY l) (dfM l))) : pdE l = 15 ∧ pdN l = 0 := by
  unfold pdE pdN
  rw [if_pos h, if_neg h2, if_neg (fun e => h2 e.2)]
  exact ⟨rfl, rfl⟩
theorem pd_day {l : List UInt8} (h : dfB l = true) (h2 : 1 ≤ dfD l ∧ dfD l ≤ lenI (dfY l) (dfM l)) : pdE l = 0 ∧ pdN l = dby ((dfY l).toNat - 1) + cumI (dfY l) ((dfM l).toNat - 1) + dfD l := by
  unfold pdE pdN
  rw [if_pos h, if_pos h2, if_pos ⟨h, h2⟩]
  exact ⟨rfl, rfl⟩
theorem pdE_cases (l : List UInt8) : pdE l = 0 ∨ pdE l = 4 ∨ pdE l = 15 := by
  unfold pdE; repeat' split
  all_goals simp
theorem pdE_form {l : List UInt8} (h : pdE l = 4) : dfB l = false := by
  cases hb : dfB l with
  | false => rfl
  | true => unfold pdE at h; rw [if_pos hb] at h; split at h <;> cases h
theorem pdE_ok {l : List UInt8} (h : pdE l = 0) : dfB l = true ∧ dateOf (pdN l) (dfY l) (dfM l) (dfD l) := by
  by_cases hb : dfB l = true
  · by_cases h2 : 1 ≤ dfD l ∧ dfD l ≤ lenI (dfY l) (dfM l)
    · exact ⟨hb, h2.1, h2.2, (pd_day hb h2).2.symm⟩
    · rw [(pd_none hb h2).1] at h; cases h
  · rw [(pd_form (by simpa using hb)).1] at h; cases h
theorem pdN_ok {l : List UInt8} (h : pdE l = 0) : 1 ≤ pdN l ∧ pdN l ≤ 3652059 := date_in (pdE_ok h).2
theorem pdN_no {l : List UInt8} (h : ¬ pdE l = 0) : pdN l = 0 := by
  by_cases hb : dfB l = true
  · by_cases h2 : 1 ≤ dfD l ∧ dfD l ≤ lenI (dfY l) (dfM l)
    · exact absurd (pd_day hb h2).1 h
    · exact (pd_none hb h2).2
  · exact (pd_form (by simpa using hb)).2
/-- The form, by its bytes. -/
theorem dfB_iff {l : List UInt8} : dfB l = true ↔ l.length = 10 ∧ l[4]? = some 45 ∧ l[7]? = some 45 ∧ allD (l.take 4) = true ∧ allD ((l.drop 5).take 2) = true ∧ allD (l.drop 8) = true := by
  unfold dfB
  simp only [Bool.and_eq_true, beq_iff_eq]
  constructor
  · rintro ⟨⟨⟨⟨⟨a, b⟩, c⟩, d⟩, e⟩, f⟩; exact ⟨a, b, c, d, e, f⟩
  · rintro ⟨a, b, c, d, e, f⟩; exact ⟨⟨⟨⟨⟨a, b⟩, c⟩, d⟩, e⟩, f⟩
/-- A text of the form is its parts. -/
theorem form_parts {l : List UInt8} (h : dfB l = true) : l = l.take 4 ++ 45 :: ((l.drop 5).take 2 ++ 45 :: l.drop 8) := by
  obtain ⟨h1, h2, h3, _, _, _⟩ := dfB_iff.1 h
  have e1 : l.drop 4 = 45 :: l.drop 5 := by
    have : 4 < l.length := by omega
    rw [List.drop_eq_getElem_cons this]
    rw [List.getElem?_eq_getElem this] at h2
    rw [Option.some.inj h2]
  have e2 : l.drop 7 = 45 :: l.drop 8 := by
    have : 7 < l.length := by omega
    rw [List.drop_eq_getElem_cons this]
    rw [List.getElem?_eq_getElem this] at h3
    rw [Option.some.inj h3]
  have e3 : (l.drop 5).take 2 ++ l.drop 7 = l.drop 5 := by
    have := List.take_append_drop 2 (l.drop 5)
    rw [List.drop_drop] at this
    exact this
  calc l = l.take 4 ++ l.drop 4 := (List.take_append_drop 4 l).symm
    _ = l.take 4 ++ 45 :: ((l.drop 5).take 2 ++ 45 :: l.drop 8) := by rw [e1, ← e2, e3]
theorem dval_back {l : List UInt8} {k : Nat} (hl : l.length = k) (hd : allD l = true) : fixd k (dval l) = l :=
  fixd_dval k l hl hd (dval l) (Nat.mod_eq_of_lt (by have := dval_lt hd; rw [hl] at this; exact this))
/-- A text that is a day's is that day's text. -/
theorem day_back {l : List UInt8} (h : pdE l = 0) : dayL (pdN l) = l := by
  obtain ⟨hb, hd⟩ := pdE_ok h
  obtain ⟨h1, _, _, d1, d2, d3⟩ := dfB_iff.1 hb
  rw [dayL_eq hd]
  unfold dayT dfY dfM dfD
  rw [Int.toNat_natCast, Int.toNat_natCast, Int.toNat_natCast, dval_back (by rw [List.length_take]; omega) d1, dval_back (by rw [List.length_take, List.length_drop]; omega) d2, dval_back (by rw [List.length_drop]; omega) d3]
  exact (form_parts hb).symm
theorem dayT_len (y m d : Int) : (dayT y m d).length = 10 := by
  unfold dayT; simp [fixd_len]
/-- A date's text is read as that date. -/
theorem dayT_read {n y m d : Int} (h : dateOf n y m d) : pdE (dayT y m d) = 0 ∧ pdN (dayT y m d) = n := by
  obtain ⟨h1, h2, h3⟩ := h
  obtain ⟨y1, y2, m1, m2⟩ := lenI_pos (show 1 ≤ lenI y m by omega)
  have hl := lenI_bd y m
  have e4 : (dayT y m d).take 4 = fixd 4 y.toNat := by unfold dayT; rw [List.take_append_of_le_length (by rw [fixd_len]; omega), List.take_of_length_le (by rw [fixd_len]; omega)]
  have e5 : (dayT y m d).drop 5 = fixd 2 m.toNat ++ 45 :: fixd 2 d.toNat := by
    unfold dayT
    rw [List.drop_append, fixd_len, List.drop_of_length_le (by rw [fixd_len]; omega)]; rfl
  have e8 : (dayT y m d).drop 8 = fixd 2 d.toNat := by
    have : (dayT y m d).drop 8 = ((dayT y m d).drop 5).drop 3 := by rw [List.drop_drop]
    rw [this, e5, List.drop_append, fixd_len, List.drop_of_length_le (by rw [fixd_len]; omega)]; rfl
  have e7 : ((dayT y m d).drop 5).take 2 = fixd 2 m.toNat := by rw [e5, List.take_append_of_le_length (by rw [fixd_len]; omega), List.take_of_length_le (by rw [fixd_len]; omega)]
  have g4 : (dayT y m d)[4]? = some 45 := by
    unfold dayT; rw [List.getElem?_append_right (by rw [fixd_len]; omega), fixd_len]; rfl
  have g7 : (dayT y m d)[7]? = some 45 := by
    have : (dayT y m d)[7]? = ((dayT y m d).drop 5)[2]? := by rw [List.getElem?_drop]
    rw [this, e5, List.getElem?_append_right (by rw [fixd_len]; omega), fixd_len]; rfl
  have hb : dfB (dayT y m d) = true := dfB_iff.2 ⟨dayT_len y m d, g4, g7, by rw [e4]; exact fixd_dig _ _, by rw [e7]; exact fixd_dig _ _, by rw [e8]; exact fixd_dig _ _⟩
  have vy : dfY (dayT y m d) = y := by unfold dfY; rw [e4, dval_fixd, Nat.mod_eq_of_lt (by omega)]; omega
  have vm : dfM (dayT y m d) = m := by unfold dfM; rw [e7, dval_fixd, Nat.mod_eq_of_lt (by omega)]; omega
  have vd : dfD (dayT y m d) = d := by unfold dfD; rw [e8, dval_fixd, Nat.mod_eq_of_lt (by omega)]; omega
  have := pd_day hb (by rw [vy, vm, vd]; exact ⟨h1, h2⟩)
  rw [vy, vm, vd] at this
  exact ⟨this.1, this.2.trans h3⟩
theorem dayL_read {n : Int} (h1 : 1 ≤ n) (h2 : n ≤ 3652059) : pdE (dayL n) = 0 ∧ pdN (dayL n) = n := by
  obtain ⟨y, m, d, h⟩ := date_is h1 h2
  rw [dayL_eq h]; exact dayT_read h
theorem dayL_len {n : Int} (h1 : 1 ≤ n) (h2 : n ≤ 3652059) : (dayL n).length = 10 := by
  obtain ⟨y, m, d, h⟩ := date_is h1 h2
  rw [dayL_eq h]; exact dayT_len _ _ _
end Corr
namespace Corr
open Go Go.RowKit Go.PlainAid
/-- The text of a span; none of what is none. -/
noncomputable def spanL (a b : Int) : List UInt8 := if a < 1 ∨ b ≤ a ∨ 3652060 < b then [] else dayL a ++ 46 :: 46 :: dayL (b - 1)
/-- Two points between two texts of ten bytes? -/
def psF (l : List UInt8) : Bool := l.length == 22 && (l.drop 10).take 2 == [46, 46]
/-- What ParseSpan tells: why it is none, and its ends. -/
def psE (l : List UInt8) : Int :=
  if psF l = true then (if pdE (l.take 10) = 4 ∨ pdE (l.drop 12) = 4 then 4 else if pdE (l.take 10) = 0 ∧ pdE (l.drop 12) = 0 ∧ pdN (l.take 10) ≤ pdN (l.drop 12) then 0 else 15) else 4
def psA (l : List UInt8) : Int := if psE l = 0 then pdN (l.take 10) else 0
def psB (l : List UInt8) : Int := if psE l = 0 then pdN (l.drop 12) + 1 else 0
theorem ps_form {l : List UInt8} (h : psF l = false) : psE l = 4 ∧ psA l = 0 ∧ psB l = 0 := by
  have e : psE l = 4 := by unfold psE; rw [if_neg (by rw [h]; decide)]
  unfold psA psB
  rw [e]; exact ⟨rfl, rfl, rfl⟩
theorem ps_bad {l : List UInt8} (h : psF l = true) (h2 : pdE (l.take 10) = 4 ∨ pdE (l.drop 12) = 4) : psE l = 4 ∧ psA l = 0 ∧ psB l = 0 := by
  have e : psE l = 4 := by unfold psE; rw [if_pos h, if_pos h2]
  unfold psA psB
  rw [e]; exact ⟨rfl, rfl, rfl⟩
theorem ps_span {l : List UInt8} (h : psF l = true) (h2 : ¬ (pdE (l.take 10) = 4 ∨ pdE (l.drop 12) = 4)) (h3 : ¬ (pdE (l.take 10) = 0 ∧ pdE (l.drop 12) = 0 ∧ pdN (l.take 10) ≤ pdN (l.drop 12))) : psE l = 15 ∧ psA l = 0 ∧ psB l = 0 := by
  have e : psE l = 15 := by unfold psE; rw [if_pos h, if_neg h2, if_neg h3]
  unfold psA psB
  rw [e]; exact ⟨rfl, rfl, rfl⟩
theorem ps_ok {l : List UInt8} (h : psF l = true) (h3 : pdE (l.take 10) = 0 ∧ pdE (l.drop 12) = 0 ∧ pdN (l.take 10) ≤ pdN (l.drop 12)) : psE l = 0 ∧ psA l = pdN (l.take 10) ∧ psB l = pdN (l.drop 12) + 1 := by
  have e : psE l = 0 := by unfold psE; rw [if_pos h, if_neg (by omega), if_pos h3]
  unfold psA psB
  rw [e]; exact ⟨rfl, rfl, rfl⟩
end Corr
