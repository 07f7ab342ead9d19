/- Package value: what a look-up in the words tells; isNumber, May, Text, Bad, Num, Truth. -/
import Derived.Test.YtgojfonnikgboaaGreatDoorVlK
import Derived.Test.YtgojfonnikgboaaGreatDoorVlWords
import Derived.Test.YtgojfonnikgboaaGreatDoorDc5
import Derived.Test.YtgojfonnikgboaaGreatDoorTx6
namespace Corr
set_option maxRecDepth 8000
open Go Go.RowKit
/-- Is a value a number, and may be? -/
def isN (K C S E : Int) : Bool := (K == 1) && ((E == 0) && mayD C S)
def lookS (K C S E : Int) (l : List (Int × Int × List UInt8)) : List UInt8 := match l.find? (sameW K C S E) with | some p => p.2.2 | none => []
theorem look_pick (K C S E : Int) : ∀ (l : List (Int × Int × List UInt8)) (i : Nat), (match pickW K C S E l i with | some (_, v) => v | none => .agg #[.string ⟨#[]⟩]) = .agg #[.string ⟨(lookS K C S E l).toArray⟩] ∧ (match pickW K C S E l i with | some _ => true | none => false) = (l.find? (sameW K C S E)).isSome
  | [], i => ⟨rfl, rfl⟩
  | p :: l, i => by
    unfold pickW lookS
    by_cases h : sameW K C S E p = true
    · rw [if_pos h, List.find?_cons_of_pos h]; exact ⟨rfl, rfl⟩
    · rw [if_neg h, List.find?_cons_of_neg h]; exact look_pick K C S E l (i + 1)
/-- The words in whatever order: one look-up. -/
theorem find_word {K C S E : Int} {l : List (Int × Int × List UInt8)} (h : ∀ p, p ∈ l ↔ p ∈ wordsL) : l.find? (sameW K C S E) = wordsL.find? (sameW K C S E) := by
  cases h1 : l.find? (sameW K C S E) with
  | none =>
    symm
    rw [List.find?_eq_none] at h1 ⊢
    exact fun p hp => h1 p ((h p).2 hp)
  | some p =>
    have hp := List.find?_some h1
    have hm := (h p).1 (List.mem_of_find?_eq_some h1)
    cases h2 : wordsL.find? (sameW K C S E) with
    | none =>
      rw [List.find?_eq_none] at h2
      exact absurd hp (h2 p hm)
    | some q =>
      have hq := sameW_iff.1 (List.find?_some h2)
      have hp := sameW_iff.1 hp
      rw [wordsL_key p hm q (List.mem_of_find?_eq_some h2) (hp.1.symm.trans hq.1) (hp.2.2.2.symm.trans hq.2.2.2)]
/-- The word of a value; is it one? -/
def wordT (K C S E : Int) : List UInt8 := lookS K C S E wordsL
def wordB (K C S E : Int) : Bool := (wordsL.find? (sameW K C S E)).isSome
theorem look_words {K C S E : Int} {l : List (Int × Int × List UInt8)} (h : ∀ p, p ∈ l ↔ p ∈ wordsL) : lookT K C S E l = .agg #[.string ⟨(wordT K C S E).toArray⟩] ∧ lookB K C S E l = wordB K C S E := by
  obtain ⟨a, b⟩ := look_pick K C S E l 0
  have e : lookS K C S E l = wordT K C S E := by unfold lookS wordT; rw [find_word h]; rfl
  rw [e] at a
  rw [find_word h] at b
  exact ⟨a, b⟩
theorem word_cases (K C S E : Int) : (∃ p ∈ wordsL, K = p.1 ∧ C = 0 ∧ S = 0 ∧ E = p.2.1 ∧ wordB K C S E = true ∧ wordT K C S E = p.2.2) ∨ (wordB K C S E = false ∧ wordT K C S E = [] ∧ ∀ p ∈ wordsL, ¬ (K = p.1 ∧ C = 0 ∧ S = 0 ∧ E = p.2.1)) := by
  unfold wordB wordT lookS
  cases h : wordsL.find? (sameW K C S E) with
  | none =>
    rw [List.find?_eq_none] at h
    exact .inr ⟨rfl, rfl, fun p hp hk => h p hp (sameW_iff.2 hk)⟩
  | some p =>
    obtain ⟨a, b, c, d⟩ := sameW_iff.1 (List.find?_some h)
    exact .inl ⟨p, List.mem_of_find?_eq_some h, a, b, c, d, rfl, rfl⟩
theorem mayV_word {K C S E : Int} (h : mayV K C S E = true) (hK : K ≠ 1) : ∃ p ∈ wordsL, K = p.1 ∧ C = 0 ∧ S = 0 ∧ E = p.2.1 := by
  rcases mayV_parts h with ⟨hk, rfl, rfl, rfl⟩ | ⟨hk, _⟩ | ⟨rfl, rfl, rfl, hE⟩
  · rcases hk with rfl | rfl | rfl
    · exact ⟨_, List.mem_cons_self, rfl, rfl, rfl, rfl⟩
    · exact ⟨_, List.mem_cons_of_mem _ List.mem_cons_self, rfl, rfl, rfl, rfl⟩
    · exact ⟨_, List.mem_cons_of_mem _ (List.mem_cons_of_mem _ List.mem_cons_self), rfl, rfl, rfl, rfl⟩
  · exact absurd hk hK
  · rcases hE with rfl | rfl | rfl
    · exact ⟨_, List.mem_cons_of_mem _ (List.mem_cons_of_mem _ (List.mem_cons_of_mem _ List.mem_cons_self)), rfl, rfl, rfl, rfl⟩
    · exact ⟨_, List.mem_cons_of_mem _ (List.mem_cons_of_mem _ (List.mem_cons_of_mem _ (List.mem_cons_of_mem _ List.mem_cons_self))), rfl, rfl, rfl, rfl⟩
    · exact ⟨_, List.mem_cons_of_mem _ (List.mem_cons_of_mem _ (List.mem_cons_of_mem _ (List.mem_cons_of_mem _ (List.mem_cons_of_mem _ List.mem_cons_self)))), rfl, rfl, rfl, rfl⟩
theorem word_may : ∀ p ∈ wordsL, mayV p.1 0 0 p.2.1 = true ∧ textV p.1 0 0 p.2.1 = p.2.2 ∧ isN p.1 0 0 p.2.1 = false ∧ readV p.2.2 = (p.1, 0, 0, p.2.1, 0) := by decide +kernel
theorem isN_iff {K C S E : Int} : isN K C S E = true ↔ K = 1 ∧ E = 0 ∧ mayD C S = true := by unfold isN; simp
theorem mayV_one (C S E : Int) : mayV 1 C S E = isN 1 C S E := by
  unfold mayV isN
  rw [if_neg (by decide), if_pos rfl, Bool.and_comm]
  by_cases h : E = 0 <;> simp [h]
/-- May is: a word, or a number. -/
theorem may_is (K C S E : Int) : (wordB K C S E || isN K C S E) = mayV K C S E := by
  rcases word_cases K C S E with ⟨p, hp, rfl, rfl, rfl, rfl, hb, _⟩ | ⟨hb, _, hn⟩
  · rw [hb, (word_may p hp).1]; rfl
  · rw [hb, Bool.false_or]
    by_cases hK : K = 1
    · subst hK; exact (mayV_one C S E).symm
    · have h1 : isN K C S E = false := by
        cases h : isN K C S E with
        | false => rfl
        | true => exact absurd (isN_iff.1 h).1 hK
      rw [h1]
      cases h : mayV K C S E with
      | false => rfl
      | true => obtain ⟨p, hp, hk⟩ := mayV_word h hK; exact absurd hk (hn p hp)
/-- The text of what is no number. -/
theorem text_word {K C S E : Int} (h : isN K C S E = false) : textV K C S E = wordT K C S E := by
  rcases word_cases K C S E with ⟨p, hp, rfl, rfl, rfl, rfl, _, ht⟩ | ⟨hb, ht, _⟩
  · rw [ht, (word_may p hp).2.1]
  · rw [ht]
    refine val_none ?_
    rw [← may_is, hb, h]; rfl
theorem text_num {C S : Int} (h : mayD C S = true) : textV 1 C S 0 = txt C S.toNat := by
  have hm : mayV 1 C S 0 = true := by rw [mayV_one]; exact isN_iff.2 ⟨rfl, rfl, h⟩
  unfold textV
  rw [if_pos hm, if_neg (by decide), if_pos rfl]
theorem mayD_iff {C S : Int} : mayD C S = true ↔ 0 ≤ S ∧ S ≤ 9 ∧ (S = 0 ∨ ¬ C % 10 = 0) := by unfold mayD; simp
end Corr
namespace Go.Proofs.YtgojfonnikgboaaGreatDoor
set_option maxRecDepth 8000
open Go.RowKit Corr
set_option linter.unusedVariables false
set_option linter.unusedSimpArgs false
theorem dmay_dec (C S : Int) (w : World) (h1 : -9223372036854775808 ≤ C) (h2 : C ≤ 9223372036854775807) : Calls Tryz.prog 26 #[.agg #[.int .i64 C, .int .i64 S]] w fun e w' => e = .returned (.bool (mayD C S)) ∧ Below w.heap.size w w' := by
  by_cases h : 0 ≤ S ∧ S ≤ 9
  · obtain ⟨n, rfl⟩ : ∃ n : Nat, S = (n : Int) := ⟨S.toNat, by omega⟩
    exact dmay_some _ C n w h1 h2 (by omega) (by unfold mayD; rw [decide_eq_decide]; omega)
  · rw [show mayD C S = false by unfold mayD; rw [decide_eq_false_iff_not]; omega]
    exact dmay_none C S w (by omega)
theorem isnum_any (K C S E : Int) (w : World) (h1 : -9223372036854775808 ≤ C) (h2 : C ≤ 9223372036854775807) : Calls Tryz.prog 17 #[vlV K C S E] w fun e w' => e = .returned (.bool (isN K C S E)) ∧ Below w.heap.size w w' := by
  have HB := Lib.hid ((Below.refl w.heap.size w).alloc (Nat.le_refl _) (.cells #[.int .u8 K, .int .i64 C, .int .i64 S, .int .i64 E] 26))
  have HD := Lib.hid (fun w => dmay_dec C S w h1 h2)
  clear h1 h2
  by_cases k1 : K = 1
  · subst k1
    by_cases e0 : E = 0
    · subst e0
      have HF := Lib.hid (show mayD C S = isN 1 C S 0 by unfold isN; simp)
      go_enter Tryz.func17, Tryz.ntmps17
      go_wp2_with fail
      refine (HD.out _).mono ?_
      rintro e w1 ⟨rfl, hb⟩
      have HB2 := Lib.hid (HB.out.trans (hb.mono HB.out.size))
      clear hb
      go_wp2_with fail
      go_ret
      exact ⟨retb HF.out, HB2.out⟩
    · have HF := Lib.hid (show false = isN 1 C S E by unfold isN; simp [e0])
      have d1 : (E == 0) = false := by simpa using e0
      clear HD e0
      go_enter Tryz.func17, Tryz.ntmps17
      go_wp2_with fail
      go_ret
      exact ⟨retb HF.out, HB.out⟩
  · have HF := Lib.hid (show false = isN K C S E by unfold isN; simp [k1])
    have d1 : (K == 1) = false := by simpa using k1
    clear HD k1
    go_enter Tryz.func17, Tryz.ntmps17
    go_wp2_with fail
    go_ret
    exact ⟨retb HF.out, HB.out⟩
end Go.Proofs.YtgojfonnikgboaaGreatDoor
