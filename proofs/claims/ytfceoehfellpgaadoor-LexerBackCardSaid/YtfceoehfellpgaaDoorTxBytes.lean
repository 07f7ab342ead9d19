/- A string's bytes as numbers and as a list. No walk in this text. -/
import Derived.Test.YtfceoehfellpgaaDoorTxParse
import Derived.PlainAid
import Derived.Lib.TrimByte
namespace Corr
open Go Go.PlainAid
theorem size_len (s : ByteArray) : s.data.toList.length = s.size := by rw [← Lib.size_eq]
theorem bt_at {s : ByteArray} {k : Nat} (h : k < s.size) : ∃ b : UInt8, s.data.toList[k]? = some b ∧ (b.toNat : Int) = bt s k :=
  ⟨s[k], Lib.data_getElem? s k h, get_bt s k h⟩
theorem bt_of {s : ByteArray} {k : Nat} {b : UInt8} (h : s.data.toList[k]? = some b) : bt s k = (b.toNat : Int) := by
  have hk : k < s.size := by
    have := (List.getElem?_eq_some_iff.1 h).1
    rwa [size_len] at this
  obtain ⟨c, h1, h2⟩ := bt_at hk
  rw [h1] at h
  rw [← h2, Option.some.inj h]
theorem isDig_bt {s : ByteArray} {k : Nat} {b : UInt8} (h : s.data.toList[k]? = some b) : isDig b = true ↔ 48 ≤ bt s k ∧ bt s k ≤ 57 := by
  rw [bt_of h]; unfold isDig; simp; omega
theorem allD_bt {s : ByteArray} (h : ∀ j, j < s.size → 48 ≤ bt s j ∧ bt s j ≤ 57) : allD s.data.toList = true := by
  unfold allD
  rw [List.all_eq_true]
  intro b hb
  obtain ⟨k, hk⟩ := List.getElem?_of_mem hb
  have hk2 : k < s.size := by have := (List.getElem?_eq_some_iff.1 hk).1; rwa [size_len] at this
  exact (isDig_bt hk).2 (h k hk2)
theorem not_allD {s : ByteArray} {k : Nat} (hk : k < s.size) (h : ¬ (48 ≤ bt s k ∧ bt s k ≤ 57)) : allD s.data.toList = false := by
  obtain ⟨b, h1, _⟩ := bt_at hk
  rw [← Bool.not_eq_true]
  intro e
  exact h ((isDig_bt h1).1 (allD_mem e b (List.mem_of_getElem? h1)))
theorem empty_size {s : ByteArray} : s.data.toList.isEmpty = decide (s.size = 0) := by
  rw [← size_len]
  cases s.data.toList <;> simp
theorem head_bt {s : ByteArray} (h : 0 < s.size) (c : UInt8) : (s.data.toList.head? = some c) ↔ bt s 0 = (c.toNat : Int) := by
  obtain ⟨b, h1, h2⟩ := bt_at h
  rw [List.head?_eq_getElem?, h1, ← h2]
  constructor
  · intro e; rw [Option.some.inj e]
  · intro e; rw [show b = c from UInt8.toNat_inj.1 (by omega)]
theorem last_bt {s : ByteArray} (h : 0 < s.size) (c : UInt8) : (s.data.toList.getLast? = some c) ↔ bt s (s.size - 1) = (c.toNat : Int) := by
  obtain ⟨b, h1, h2⟩ := bt_at (show s.size - 1 < s.size by omega)
  rw [List.getLast?_eq_getElem?, size_len, h1, ← h2]
  constructor
  · intro e; rw [Option.some.inj e]
  · intro e; rw [show b = c from UInt8.toNat_inj.1 (by omega)]
theorem ba_eq {x : ByteArray} {l : List UInt8} (h : x.data.toList = l) : x = ⟨l.toArray⟩ := by
  subst h; rfl
theorem ba_data (l : List UInt8) : (⟨l.toArray⟩ : ByteArray).data.toList = l := rfl
theorem ba_append (a b : ByteArray) : (a ++ b).data.toList = a.data.toList ++ b.data.toList := by
  rw [ByteArray.data_append, Array.toList_append]
/-- The parts of nineteen digits. -/
theorem parts19 {D : ByteArray} {n k t : Nat} (hD : D.data.toList = fixd 19 n) (hk : k + t = 18) (hn : n < 10 ^ 19) :
    Lib.trimLeftB (D.extract 0 k).data.toList 48 ++ (D.extract k (k + 1)).data.toList = whole (n / 10 ^ t) ∧ (D.extract (k + 1) 19).data.toList = fixd t n := by
  have e1 : fixd 19 n = fixd k (n / 10 ^ t / 10) ++ ([dg (n / 10 ^ t)] ++ fixd t n) := by
    have h1 := fixd_add k (1 + t) n
    rw [show k + (1 + t) = 19 by omega] at h1
    have h2 := fixd_add 1 t n
    rw [h1, h2, Nat.add_comm 1 t, Nat.pow_succ, ← Nat.div_div_eq_div_mul]
    rfl
  have hl := fixd_len k (n / 10 ^ t / 10)
  rw [Lib.extract_data, Lib.extract_data, Lib.extract_data, hD, e1]
  have d1 : (fixd k (n / 10 ^ t / 10) ++ ([dg (n / 10 ^ t)] ++ fixd t n)).drop k = [dg (n / 10 ^ t)] ++ fixd t n := by
    rw [List.drop_append, hl, Nat.sub_self, List.drop_eq_nil_of_le (by omega)]; rfl
  refine ⟨?_, ?_⟩
  · rw [d1]
    have t1 : (List.drop 0 (fixd k (n / 10 ^ t / 10) ++ ([dg (n / 10 ^ t)] ++ fixd t n))).take (k - 0) = fixd k (n / 10 ^ t / 10) := by
      rw [List.drop_zero, Nat.sub_zero, List.take_append, hl, Nat.sub_self, List.take_of_length_le (by omega)]; simp
    rw [t1, show k + 1 - k = 1 by omega]
    have : n / 10 ^ t < 10 ^ (k + 1) := by
      rw [Nat.div_lt_iff_lt_mul (p10 t), ← Nat.pow_add, show k + 1 + t = 19 by omega]; exact hn
    exact trim_whole this
  · have d2 : (fixd k (n / 10 ^ t / 10) ++ ([dg (n / 10 ^ t)] ++ fixd t n)).drop (k + 1) = fixd t n := by
      rw [← List.drop_drop, d1]; rfl
    rw [d2, List.take_of_length_le (by rw [fixd_len]; omega)]
end Corr
