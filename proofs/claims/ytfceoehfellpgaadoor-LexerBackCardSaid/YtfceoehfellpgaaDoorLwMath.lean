/- Words of a formula as package lexer tells them: of what is left of a text, what stands at its begin. -/
import Derived.Test.YtfceoehfellpgaaDoorLx4
import Derived.Test.YtfceoehfellpgaaDoorLw1
namespace Corr
open Go Go.PlainAid
set_option linter.unusedVariables false
theorem size_fr {s : ByteArray} {a : Nat} : (s.extract a s.size).size = s.size - a := by
  rw [ByteArray.size_extract]; omega
theorem bt_fr {s : ByteArray} {a k : Nat} (h : a + k < s.size) : bt (s.extract a s.size) k = bt s (a + k) := by
  obtain ⟨b, hb, hb2⟩ := bt_at h
  rw [← hb2]
  apply bt_of
  rw [ByteArray.data_extract, Array.toList_extract, List.extract_eq_take_drop, List.getElem?_take, if_pos (by omega), List.getElem?_drop]
  exact hb
theorem RunTo.fr {p : Int → Bool} {s : ByteArray} {a i j : Nat} (h : a ≤ s.size) (r : RunTo p (s.extract a s.size) i j) : RunTo p s (a + i) (a + j) := by
  obtain ⟨h1, h2, h3, h4⟩ := r
  rw [size_fr] at h2 h4
  refine ⟨by omega, by omega, fun k k1 k2 => ?_, fun k1 => ?_⟩
  · have := h3 (k - a) (by omega) (by omega)
    rw [bt_fr (by omega), show a + (k - a) = k by omega] at this
    exact this
  · have := h4 (by omega)
    rwa [bt_fr (by omega)] at this
theorem runTo_fr {p : Int → Bool} {s : ByteArray} {a i : Nat} (h : a + i ≤ s.size) : runTo p s (a + i) = a + runTo p (s.extract a s.size) i :=
  runTo_eq (RunTo.fr (by omega) (runTo_to (by rw [size_fr]; omega)))
theorem runTo_zero {p : Int → Bool} {s : ByteArray} {a : Nat} (h : a < s.size) (hp : p (bt s a) = false) : runTo p s a = a :=
  runTo_eq ⟨Nat.le_refl _, Nat.le_of_lt h, fun k k1 k2 => absurd k2 (Nat.not_lt.2 k1), fun _ => hp⟩
theorem runTo_pos {p : Int → Bool} {s : ByteArray} {a : Nat} (h : a < s.size) (hp : p (bt s a) = true) : a < runTo p s a := by
  have r := runTo_to (p := p) (s := s) (i := a) (Nat.le_of_lt h)
  by_cases e : runTo p s a = a
  · have := r.2.2.2 (by rw [e]; exact h)
    rw [e, hp] at this; cases this
  · have := r.1; omega
theorem runTo_last {p : Int → Bool} {s : ByteArray} : runTo p s s.size = s.size :=
  runTo_eq ⟨Nat.le_refl _, Nat.le_refl _, fun k k1 k2 => absurd k2 (Nat.not_lt.2 k1), fun h => absurd h (Nat.lt_irrefl _)⟩
/-- How long the name is that stands ahead. -/
def nameE (t : ByteArray) : Nat := if runTo smallB t 0 = 0 then 0 else runTo wordB t 0
/-- How many digits are ahead; how many places are behind them. -/
def placesT (t : ByteArray) (W : Nat) : Nat := if W < t.size ∧ bt t W = 46 then W + 1 else W
def numE (t : ByteArray) : Nat :=
  if runTo digB t 0 = 0 ∨ runTo digB (t.extract (placesT t (runTo digB t 0)) t.size) 0 = 0 then runTo digB t 0
  else runTo digB t 0 + 1 + runTo digB (t.extract (placesT t (runTo digB t 0)) t.size) 0
def pairB (t : ByteArray) : Bool := decide (1 < t.size) && sign2B (bt t 0) (bt t 1)
def signE (t : ByteArray) : Nat := if pairB t = true then 2 else min (runTo sign1B t 0) 1
theorem small_word {x : Int} (h : smallB x = true) : wordB x = true := by unfold wordB; rw [h]; rfl
theorem small_dig {x : Int} (h : smallB x = true) : digB x = false := by
  rw [smallB_yes] at h; unfold digB; simp; omega
theorem small_sign {x : Int} (h : smallB x = true) : sign1B x = false := by
  rw [smallB_yes] at h; unfold sign1B; simp; omega
theorem nameE_some {t : ByteArray} (h : 0 < t.size) (q : smallB (bt t 0) = true) : nameE t = endN t 0 ∧ 0 < nameE t := by
  have h1 := runTo_pos h q
  have h2 := runTo_pos (p := wordB) h (small_word q)
  unfold nameE
  rw [if_neg (by omega), endN_small q]
  exact ⟨rfl, h2⟩
theorem nameE_none {t : ByteArray} (h : 0 < t.size) (q : smallB (bt t 0) = false) : nameE t = 0 := if_pos (runTo_zero h q)
theorem nameE_le {t : ByteArray} : nameE t ≤ t.size := by
  unfold nameE
  split
  · exact Nat.zero_le _
  · exact (runTo_to (Nat.zero_le _)).2.1
theorem numE_none {t : ByteArray} (h : 0 < t.size) (q : digB (bt t 0) = false) : numE t = 0 := by
  have := runTo_zero (p := digB) h q
  unfold numE
  rw [if_pos (Or.inl this)]; exact this
theorem numE_some {t : ByteArray} (h : 0 < t.size) (q : digB (bt t 0) = true) : numE t = endN t 0 ∧ 0 < numE t := by
  have q0 : smallB (bt t 0) = false := by
    cases e : smallB (bt t 0) with
    | false => rfl
    | true => rw [small_dig e] at q; cases q
  have h1 := runTo_pos h q
  have hr := runTo_to (p := digB) (s := t) (i := 0) (Nat.zero_le _)
  have hle := hr.2.1
  have hf := hr.2.2.2
  have key : numE t = endN t 0 := by
    rw [endN_digit q0 q]
    unfold numE
    generalize runTo digB t 0 = W at *
    by_cases hp : W < t.size ∧ bt t W = 46
    · have e : placesT t W = W + 1 := if_pos hp
      rw [e]
      have e2 := runTo_fr (p := digB) (s := t) (a := W + 1) (i := 0) (by omega)
      rw [Nat.add_zero] at e2
      rw [e2]
      by_cases hq : W + 1 < t.size
      · cases hd : digB (bt t (W + 1)) with
        | true =>
          have := runTo_pos (p := digB) hq hd
          rw [e2] at this
          rw [if_neg (by omega), if_pos ⟨hq, hp.2, rfl⟩]
        | false =>
          have := runTo_zero (p := digB) hq hd
          rw [e2] at this
          rw [if_pos (Or.inr (by omega)), if_neg (by rintro ⟨_, _, h⟩; cases h)]
      · have e3 : W + 1 = t.size := by omega
        have : runTo digB (t.extract (W + 1) t.size) 0 = 0 := by
          have := runTo_to (p := digB) (s := t.extract (W + 1) t.size) (i := 0) (Nat.zero_le _)
          have := this.2.1
          rw [size_fr] at this; omega
        rw [if_pos (Or.inr this), if_neg (by rintro ⟨h, _, _⟩; omega)]
    · have e : placesT t W = W := if_neg hp
      rw [e]
      have : runTo digB (t.extract W t.size) 0 = 0 := by
        by_cases hw : W < t.size
        · have e2 := runTo_fr (p := digB) (s := t) (a := W) (i := 0) (by omega)
          rw [Nat.add_zero, runTo_zero hw (hf hw)] at e2
          omega
        · have := runTo_to (p := digB) (s := t.extract W t.size) (i := 0) (Nat.zero_le _)
          have := this.2.1
          rw [size_fr] at this; omega
      rw [if_pos (Or.inr this), if_neg (by rintro ⟨h, h2, _⟩; exact hp ⟨by omega, h2⟩)]
  refine ⟨key, ?_⟩
  unfold numE
  split <;> omega
theorem signE_is {t : ByteArray} (h : 0 < t.size) (q : smallB (bt t 0) = false) (q0 : digB (bt t 0) = false) : signE t = endN t 0 := by
  rw [endN_else q q0]
  unfold signE pairB
  rw [Nat.zero_add]
  by_cases hp : 1 < t.size ∧ sign2B (bt t 0) (bt t 1) = true
  · rw [if_pos hp, if_pos (by rw [hp.2, decide_eq_true hp.1]; rfl)]
  · rw [if_neg hp, if_neg (by rw [Bool.and_eq_true, decide_eq_true_iff]; exact hp)]
    cases e : sign1B (bt t 0) with
    | true =>
      have := runTo_pos (p := sign1B) h e
      rw [if_pos rfl, Nat.min_eq_right (by omega)]
    | false =>
      rw [runTo_zero h e, if_neg Bool.false_ne_true]; rfl
/-- Where a word ends hangs on what is left alone. -/
theorem endN_fr {s : ByteArray} {a : Nat} (h : a < s.size) : endN s a = a + endN (s.extract a s.size) 0 := by
  have hb : bt (s.extract a s.size) 0 = bt s a := bt_fr (by omega)
  have hr : ∀ p i, a + i ≤ s.size → runTo p s (a + i) = a + runTo p (s.extract a s.size) i := fun p i h => runTo_fr h
  have hr0 : ∀ p, runTo p s a = a + runTo p (s.extract a s.size) 0 := fun p => hr p 0 (by omega)
  cases q : smallB (bt s a) with
  | true => rw [endN_small q, endN_small (by rw [hb]; exact q)]; exact hr0 _
  | false =>
    cases q0 : digB (bt s a) with
    | true =>
      rw [endN_digit q q0, endN_digit (by rw [hb]; exact q) (by rw [hb]; exact q0), hr0]
      have hle := (runTo_to (p := digB) (s := s.extract a s.size) (i := 0) (Nat.zero_le _)).2.1
      generalize runTo digB (s.extract a s.size) 0 = W at *
      rw [size_fr] at *
      by_cases hW : a + W + 1 < s.size
      · rw [bt_fr (by omega), bt_fr (by omega), Nat.add_assoc a W 1, hr _ _ (by omega)]
        by_cases hc : bt s (a + W) = 46 ∧ digB (bt s (a + (W + 1))) = true
        · rw [if_pos ⟨by omega, hc⟩, if_pos ⟨by omega, hc⟩]
        · rw [if_neg (fun h => hc h.2), if_neg (fun h => hc h.2)]
      · rw [if_neg (fun h => hW h.1), if_neg (fun h => by have := h.1; omega)]
    | false =>
      rw [endN_else q q0, endN_else (by rw [hb]; exact q) (by rw [hb]; exact q0), hb, size_fr, Nat.zero_add]
      by_cases hc : a + 1 < s.size ∧ sign2B (bt s a) (bt s (a + 1)) = true
      · rw [if_pos hc, if_pos ⟨by omega, by rw [bt_fr hc.1]; exact hc.2⟩]
      · have hn : ¬ (1 < s.size - a ∧ sign2B (bt s a) (bt (s.extract a s.size) 1) = true) := fun h => hc ⟨by have := h.1; omega, by have h2 := h.2; rw [bt_fr (by have := h.1; omega)] at h2; exact h2⟩
        rw [if_neg hc, if_neg hn]
        cases sign1B (bt s a) <;> rfl
theorem extract_fr {s : ByteArray} {a n : Nat} (h : a + n ≤ s.size) : (s.extract a s.size).extract 0 n = s.extract a (a + n) := by
  apply ByteArray.ext
  rw [ByteArray.data_extract, ByteArray.data_extract, ByteArray.data_extract]
  apply Array.ext'
  rw [Array.toList_extract, Array.toList_extract, Array.toList_extract, List.extract_eq_take_drop, List.extract_eq_take_drop, List.extract_eq_take_drop, List.drop_zero, List.take_take]
  rw [show min (n - 0) (s.size - a) = a + n - a by omega]
/-- The word that stands ahead: its kind, text, number, places; and the error. -/
def wordR (t : ByteArray) : Tk × Int :=
  if smallB (bt t 0) = true then (if 12 < endN t 0 then ((0, ⟨#[]⟩, 0, 0, 0), 4) else ((1, t.extract 0 (endN t 0), 0, 0, 0), 0))
  else if digB (bt t 0) = true then
    (if pE (t.extract 0 (endN t 0)).data.toList = 0 then ((2, t.extract 0 (endN t 0), pC (t.extract 0 (endN t 0)).data.toList, (pS (t.extract 0 (endN t 0)).data.toList : Int), 0), 0)
     else if pE (t.extract 0 (endN t 0)).data.toList = 11 then ((0, ⟨#[]⟩, 0, 0, 0), 11) else ((0, ⟨#[]⟩, 0, 0, 0), 4))
  else if endN t 0 = 0 then ((0, ⟨#[]⟩, 0, 0, 0), 4) else ((3, t.extract 0 (endN t 0), 0, 0, 0), 0)
/-- What is told of the word at a, by what is told of what is left. -/
theorem lexW_fr {s : ByteArray} {a : Nat} (h : a < s.size) (out : List Tk) (K : List Tk → List Tk × Int × Int) :
    lexW (bt s a) a (endN s a) (s.extract a (endN s a)) out K =
      if (wordR (s.extract a s.size)).2 = 0 then K (out ++ [((wordR (s.extract a s.size)).1.1, (wordR (s.extract a s.size)).1.2.1, (wordR (s.extract a s.size)).1.2.2.1, (wordR (s.extract a s.size)).1.2.2.2.1, (a : Int))])
      else ([], (a : Int), (wordR (s.extract a s.size)).2) := by
  have he := endN_fr h
  have hle := (endN_le h).2
  have hx : (s.extract a s.size).extract 0 (endN (s.extract a s.size) 0) = s.extract a (endN s a) := by rw [he]; exact extract_fr (by omega)
  have hb : bt (s.extract a s.size) 0 = bt s a := bt_fr (by omega)
  have h0 : 0 < (s.extract a s.size).size := by rw [size_fr]; omega
  unfold wordR
  rw [hx, hb]
  cases q : smallB (bt s a) with
  | true =>
    have hp := (nameE_some h0 (by rw [hb]; exact q))
    have hp : 0 < endN (s.extract a s.size) 0 := by rw [← hp.1]; exact hp.2
    unfold lexW
    rw [q, if_pos rfl]
    by_cases h12 : 12 < endN (s.extract a s.size) 0
    · rw [if_pos (Or.inr ⟨rfl, by omega⟩), if_pos h12]; rfl
    · rw [if_neg (by rintro (h | ⟨_, h⟩) <;> omega), if_pos rfl, if_neg h12]; rfl
  | false =>
    rw [if_neg Bool.false_ne_true]
    cases q0 : digB (bt s a) with
    | true =>
      have hp := (numE_some h0 (by rw [hb]; exact q0))
      have hp : 0 < endN (s.extract a s.size) 0 := by rw [← hp.1]; exact hp.2
      rw [lexW_num (by omega) q q0, if_pos rfl]
      by_cases e0 : pE (s.extract a (endN s a)).data.toList = 0
      · rw [if_neg (by rw [e0]; decide), if_neg (fun h => h e0), if_pos e0]; rfl
      · by_cases e1 : pE (s.extract a (endN s a)).data.toList = 11
        · rw [if_pos e1, if_neg e0, if_pos e1]; rfl
        · rw [if_neg e1, if_pos e0, if_neg e0, if_neg e1]; rfl
    | false =>
      rw [if_neg Bool.false_ne_true]
      by_cases e : endN (s.extract a s.size) 0 = 0
      · rw [if_pos e]
        unfold lexW
        rw [if_pos (Or.inl (by omega))]; rfl
      · rw [if_neg e, lexW_sign (by omega) q q0]; rfl
/-- More rounds than bytes change nothing. -/
theorem lexR_more {s : ByteArray} : ∀ {n m a : Nat} {out : List Tk}, s.size ≤ a + n → s.size ≤ a + m → lexR s n a out = lexR s m a out
  | 0, m, a, out, h, h2 => by rw [lexR_end (by omega), lexR_end (by omega)]
  | n + 1, 0, a, out, h, h2 => by rw [lexR_end (by omega), lexR_end (by omega)]
  | n + 1, m + 1, a, out, h, h2 => by
    by_cases ha : s.size ≤ a
    · rw [lexR_end ha, lexR_end ha]
    · by_cases hb : bt s a = 32
      · rw [lexR_blank (by omega) hb, lexR_blank (by omega) hb]
        exact lexR_more (by omega) (by omega)
      · rw [lexR_word (by omega) hb, lexR_word (by omega) hb, lexW_fr (by omega), lexW_fr (by omega)]
        split
        · rename_i hok
          have hp : a < endN s a := by
            rw [endN_fr (by omega)]
            have h0 : 0 < (s.extract a s.size).size := by rw [size_fr]; omega
            cases q : smallB (bt (s.extract a s.size) 0) with
            | true => have := nameE_some h0 q; omega
            | false =>
              cases q0 : digB (bt (s.extract a s.size) 0) with
              | true => have := numE_some h0 q0; omega
              | false =>
                unfold wordR at hok
                rw [q, q0, if_neg Bool.false_ne_true, if_neg Bool.false_ne_true] at hok
                by_cases e : endN (s.extract a s.size) 0 = 0
                · rw [if_pos e] at hok; cases hok
                · omega
          exact lexR_more (by omega) (by omega)
        · rfl
def lexG (s : ByteArray) (a : Nat) (out : List Tk) : List Tk × Int × Int := lexR s (s.size - a) a out
theorem lexG_end {s : ByteArray} {a : Nat} {out : List Tk} (h : s.size ≤ a) : lexG s a out = (out, 0, 0) := lexR_end h
theorem lexG_blanks {s : ByteArray} {out : List Tk} : ∀ (n a : Nat), a + n ≤ s.size → (∀ k, a ≤ k → k < a + n → bt s k = 32) → lexG s a out = lexG s (a + n) out
  | 0, a, h, hb => rfl
  | n + 1, a, h, hb => by
    have e : lexG s a out = lexG s (a + 1) out := by
      unfold lexG
      rw [show s.size - a = (s.size - (a + 1)) + 1 by omega, lexR_blank (by omega) (hb a (Nat.le_refl _) (by omega))]
    rw [e, lexG_blanks n (a + 1) (by omega) (fun k k1 k2 => hb k (by omega) (by omega)), show a + 1 + n = a + (n + 1) by omega]
theorem lexG_skip {s : ByteArray} {a : Nat} {out : List Tk} (h : a ≤ s.size) : lexG s a out = lexG s (runTo blankB s a) out := by
  have r := runTo_to (p := blankB) h
  have := lexG_blanks (s := s) (out := out) (runTo blankB s a - a) a (by have := r.2.1; have := r.1; omega) (fun k k1 k2 => by
    have := r.2.2.1 k k1 (by have := r.1; omega)
    unfold blankB at this; simpa using this)
  rw [this, show a + (runTo blankB s a - a) = runTo blankB s a by have := r.1; omega]
theorem lexG_word {s : ByteArray} {a : Nat} {out : List Tk} (h : a < s.size) (hb : ¬ bt s a = 32) :
    lexG s a out = if (wordR (s.extract a s.size)).2 = 0 then lexG s (endN s a) (out ++ [((wordR (s.extract a s.size)).1.1, (wordR (s.extract a s.size)).1.2.1, (wordR (s.extract a s.size)).1.2.2.1, (wordR (s.extract a s.size)).1.2.2.2.1, (a : Int))])
      else ([], (a : Int), (wordR (s.extract a s.size)).2) := by
  unfold lexG
  rw [show s.size - a = (s.size - (a + 1)) + 1 by omega, lexR_word h hb, lexW_fr h]
  split
  · refine lexR_more ?_ (by omega)
    have := (endN_le h).1
    by_cases e : endN s a = a
    · rename_i hok
      exfalso
      have h0 : 0 < (s.extract a s.size).size := by rw [size_fr]; omega
      have he := endN_fr h
      cases q : smallB (bt (s.extract a s.size) 0) with
      | true => have := nameE_some h0 q; omega
      | false =>
        cases q0 : digB (bt (s.extract a s.size) 0) with
        | true => have := numE_some h0 q0; omega
        | false =>
          unfold wordR at hok
          rw [q, q0, if_neg Bool.false_ne_true, if_neg Bool.false_ne_true, if_pos (by omega)] at hok
          cases hok
    · omega
  · rfl
/-- The text of a word that is none is no word's: the length of the text that goes with it. -/
theorem wordR_len {s : ByteArray} {a : Nat} (h : a < s.size) (hok : (wordR (s.extract a s.size)).2 = 0) : (wordR (s.extract a s.size)).1.2.1 = s.extract a (endN s a) := by
  have hx : (s.extract a s.size).extract 0 (endN (s.extract a s.size) 0) = s.extract a (endN s a) := by
    rw [endN_fr h]; exact extract_fr (by rw [← endN_fr h]; exact (endN_le h).2)
  unfold wordR at hok ⊢
  rw [hx] at hok ⊢
  split at hok
  · split at hok
    · cases hok
    · rename_i h1 h2; rw [if_pos h1, if_neg h2]
  · rename_i h1
    split at hok
    · rename_i h2
      split at hok
      · rename_i h3; rw [if_neg h1, if_pos h2, if_pos h3]
      · split at hok <;> cases hok
    · rename_i h2
      split at hok
      · cases hok
      · rename_i h3; rw [if_neg h1, if_neg h2, if_neg h3]
end Corr
