/- Words of a formula in plain terms: letters, digits, kept words, names; where a run ends, where a word ends. -/
import Derived.Test.YtfceoehfellpgaaDoorTxBytes
namespace Corr
open Go Go.PlainAid
def smallB (x : Int) : Bool := decide (97 ≤ x) && decide (x ≤ 122)
def digB (x : Int) : Bool := decide (48 ≤ x) && decide (x ≤ 57)
def wordB (x : Int) : Bool := smallB x || digB x
theorem smallB_yes {x : Int} : smallB x = true ↔ 97 ≤ x ∧ x ≤ 122 := by unfold smallB; simp
theorem digB_yes {x : Int} : digB x = true ↔ 48 ≤ x ∧ x ≤ 57 := by unfold digB; simp
def keptL : List (List UInt8) :=
  [[116, 114, 117, 101], [102, 97, 108, 115, 101], [97, 110, 100], [111, 114], [110, 111, 116], [105, 102], [109, 105, 110], [109, 97, 120], [97, 98, 115], [114, 111, 117, 110, 100], [104, 97, 115], [111, 114, 101, 108, 115, 101], [108, 97, 103], [108, 101, 97, 115, 116], [109, 111, 115, 116], [97, 110, 121], [101, 118, 101, 114, 121]]
def keptB (l : List UInt8) : Bool := keptL.contains l
/-- From i on to j the bytes are of a kind, and at j none of it stands. -/
def RunTo (p : Int → Bool) (s : ByteArray) (i j : Nat) : Prop := i ≤ j ∧ j ≤ s.size ∧ (∀ k, i ≤ k → k < j → p (bt s k) = true) ∧ (j < s.size → p (bt s j) = false)
def runE (p : Int → Bool) (s : ByteArray) : Nat → Nat → Nat
  | 0, i => i
  | n + 1, i => if i < s.size ∧ p (bt s i) = true then runE p s n (i + 1) else i
theorem runE_to {p : Int → Bool} {s : ByteArray} : ∀ {n i : Nat}, i ≤ s.size → s.size ≤ i + n → RunTo p s i (runE p s n i)
  | 0, i, h, h2 => ⟨Nat.le_refl _, h, fun k k1 k2 => absurd k2 (Nat.not_lt.2 k1), fun h3 => by have h4 : i < s.size := h3; omega⟩
  | n + 1, i, h, h2 => by
    unfold runE
    by_cases hp : i < s.size ∧ p (bt s i) = true
    · rw [if_pos hp]
      obtain ⟨h3, h4, h5, h6⟩ := runE_to (p := p) (s := s) (n := n) (i := i + 1) (by omega) (by omega)
      refine ⟨by omega, h4, fun k hk hk2 => ?_, h6⟩
      by_cases e : k = i
      · subst e; exact hp.2
      · exact h5 k (by omega) hk2
    · rw [if_neg hp]
      refine ⟨Nat.le_refl _, h, fun k h1 h2 => absurd h2 (Nat.not_lt.2 h1), fun h3 => ?_⟩
      have : ¬ p (bt s i) = true := fun e => hp ⟨h3, e⟩
      simpa using this
theorem RunTo.one {p : Int → Bool} {s : ByteArray} {i j k : Nat} (h : RunTo p s i j) (h' : RunTo p s i k) : j = k := by
  rcases Nat.lt_trichotomy j k with e | e | e
  · have a := h.2.2.2 (Nat.lt_of_lt_of_le e h'.2.1)
    have b := h'.2.2.1 j h.1 e
    rw [a] at b; cases b
  · exact e
  · have a := h'.2.2.2 (Nat.lt_of_lt_of_le e h.2.1)
    have b := h.2.2.1 k h'.1 e
    rw [a] at b; cases b
def runTo (p : Int → Bool) (s : ByteArray) (i : Nat) : Nat := runE p s (s.size - i) i
theorem runTo_to {p : Int → Bool} {s : ByteArray} {i : Nat} (h : i ≤ s.size) : RunTo p s i (runTo p s i) := runE_to h (by omega)
theorem runTo_eq {p : Int → Bool} {s : ByteArray} {i j : Nat} (h : RunTo p s i j) : runTo p s i = j := (runTo_to (Nat.le_trans h.1 h.2.1)).one h
/-- A name: letters and digits, a letter ahead, at most twelve, none of the kept words. -/
def nameB (s : ByteArray) : Bool := decide (0 < s.size) && decide (s.size ≤ 12) && smallB (bt s 0) && !keptB s.data.toList && decide (runTo wordB s 0 = s.size)
def sign2B (x y : Int) : Bool := (x == 60 && y == 61) || (x == 62 && y == 61) || (x == 60 && y == 62)
def sign1B (x : Int) : Bool := x == 61 || x == 60 || x == 62 || x == 43 || x == 45 || x == 42 || x == 47 || x == 40 || x == 41 || x == 44
/-- Where the word that begins at a ends; a: none begins there. -/
def endN (s : ByteArray) (a : Nat) : Nat :=
  if smallB (bt s a) = true then runTo wordB s a
  else if digB (bt s a) = true then
    (let i := runTo digB s a
     if i + 1 < s.size ∧ bt s i = 46 ∧ digB (bt s (i + 1)) = true then runTo digB s (i + 1) else i)
  else if a + 1 < s.size ∧ sign2B (bt s a) (bt s (a + 1)) = true then a + 2
  else if sign1B (bt s a) = true then a + 1 else a
theorem endN_small {s : ByteArray} {a : Nat} (h : smallB (bt s a) = true) : endN s a = runTo wordB s a := if_pos h
theorem endN_digit {s : ByteArray} {a : Nat} (h : smallB (bt s a) = false) (h0 : digB (bt s a) = true) : endN s a = if runTo digB s a + 1 < s.size ∧ bt s (runTo digB s a) = 46 ∧ digB (bt s (runTo digB s a + 1)) = true then runTo digB s (runTo digB s a + 1) else runTo digB s a :=
  (if_neg (by rw [h]; decide)).trans (if_pos h0)
theorem endN_else {s : ByteArray} {a : Nat} (h : smallB (bt s a) = false) (h0 : digB (bt s a) = false) : endN s a = if a + 1 < s.size ∧ sign2B (bt s a) (bt s (a + 1)) = true then a + 2 else if sign1B (bt s a) = true then a + 1 else a :=
  (if_neg (by rw [h]; decide)).trans (if_neg (by rw [h0]; decide))
/-- Two bytes as a list. -/
theorem two_bytes {s : ByteArray} {a : Nat} (h : a + 1 < s.size) (x y : UInt8) : (s.extract a (a + 2)).data.toList = [x, y] ↔ bt s a = (x.toNat : Int) ∧ bt s (a + 1) = (y.toNat : Int) := by
  obtain ⟨b, hb, hb2⟩ := bt_at (show a < s.size by omega)
  obtain ⟨c, hc, hc2⟩ := bt_at h
  have e : (s.extract a (a + 2)).data.toList = [b, c] := by
    rw [ByteArray.data_extract, Array.toList_extract, List.extract_eq_take_drop, show a + 2 - a = 2 by omega]
    have h1 : s.data.toList.drop a = b :: c :: s.data.toList.drop (a + 2) := by
      rw [List.drop_eq_getElem_cons (by rw [size_len]; omega), List.drop_eq_getElem_cons (by rw [size_len]; omega)]
      rw [List.getElem?_eq_some_iff] at hb hc
      obtain ⟨_, hb⟩ := hb
      obtain ⟨_, hc⟩ := hc
      rw [hb, hc]
    rw [h1]; rfl
  rw [e, ← hb2, ← hc2]
  constructor
  · intro h; injection h with h1 h2; injection h2 with h2 _; rw [h1, h2]; exact ⟨rfl, rfl⟩
  · rintro ⟨h1, h2⟩
    rw [show b = x from UInt8.toNat_inj.1 (by omega), show c = y from UInt8.toNat_inj.1 (by omega)]
end Corr
