/- Contracts of corrodyref06: digits, number. -/
import Derived.Test.YtmdmhookhkhdoaaDoorTxBytes
import Derived.Test.YtmdmhookhkhdoaaDoorRelMem
import Derived.Laws.IdiomStrings
import Derived.Deep.DeepCutAuto
import Derived.Deep.CutBlock
namespace Corr
set_option maxRecDepth 8000
open Go Go.RowKit Go.PlainAid
theorem fixd_ahead (i N : Nat) : fixd (i + 1) N = dg (N / 10 ^ i) :: fixd i N := by
  have := fixd_add 1 i N
  rw [Nat.add_comm 1 i] at this
  rw [this]; rfl
/-- What the digits ahead of k spell, and one digit more. -/
theorem dval_more {s : ByteArray} {k : Nat} (hk : k < s.size) (h : 48 ≤ bt s k) : (dval (s.data.toList.take (k + 1)) : Int) = (dval (s.data.toList.take k) : Int) * 10 + (bt s k - 48) := by
  obtain ⟨b, hb, hbt⟩ := bt_at hk
  have e : s.data.toList.take (k + 1) = s.data.toList.take k ++ [b] := by rw [List.take_add_one, hb]; rfl
  rw [e, dval_snoc]; omega
theorem take_dig {s : ByteArray} {k : Nat} (h : ∀ j, j < k → 48 ≤ bt s j ∧ bt s j ≤ 57) : allD (s.data.toList.take k) = true := by
  unfold allD
  rw [List.all_eq_true]
  intro b hb
  obtain ⟨i, hi⟩ := List.mem_iff_getElem?.1 hb
  have hik : i < k := by
    have := (List.getElem?_eq_some_iff.1 hi).1
    rw [List.length_take] at this; omega
  rw [List.getElem?_take, if_pos hik] at hi
  exact (isDig_bt hi).2 (h i hik)
theorem dval_take_lt {s : ByteArray} {k : Nat} (hs : s.size ≤ 4) (h : ∀ j, j < k → 48 ≤ bt s j ∧ bt s j ≤ 57) : dval (s.data.toList.take k) ≤ 9999 := by
  have h1 := dval_lt (take_dig h)
  have h2 : (s.data.toList.take k).length ≤ 4 := by rw [List.length_take, size_len]; omega
  have h3 : 10 ^ (s.data.toList.take k).length ≤ 10 ^ 4 := Nat.pow_le_pow_right (by omega) h2
  omega
/-- What number tells. -/
def numB (l : List UInt8) : Int := if allD l = true then (dval l : Int) else -1
end Corr
namespace Go.Proofs.YtmdmhookhkhdoaaDoor
set_option maxRecDepth 8000
open Go.RowKit Go.PlainAid Corr
set_option linter.unusedVariables false
set_option linter.unusedSimpArgs false
set_option maxHeartbeats 2000000 in
theorem number_any (s : ByteArray) (w : World) (hs : s.size ≤ 4) :
    Calls Tryd.prog 23 #[.string s] w fun e w' => e = .returned (.int .i64 (numB s.data.toList)) ∧ w' = w := by
  have hb := get_bt s
  obtain ⟨A, hA⟩ : ∃ A, numB s.data.toList = A := ⟨_, rfl⟩
  have HA := Lib.hid hA
  rw [hA]
  clear hA
  go_enter Tryd.func23, Tryd.ntmps23
  go_wp2_with fail
  go_loopw [3, 4] (fun u v wr => ∃ (k D : Nat), u = .int .i64 (D : Int) ∧ v = .int .i64 (k : Int) ∧ k ≤ s.size ∧ Hid (D = dval (s.data.toList.take k)) ∧ Hid (∀ j, j < k → 48 ≤ bt s j ∧ bt s j ≤ 57) ∧ wr = w) (fun _ v _ => (s.size - intOf v).toNat)
  case atStart => exact ⟨0, 0, rfl, rfl, by omega, Lib.hid (by simp [dval, dvalA]), Lib.hid (fun j h => absurd h (by omega)), rfl⟩
  case round =>
    obtain ⟨k, D, rfl, rfl, hk, HV, HD, rfl⟩ := hrel
    have hD9 : D ≤ 9999 := by rw [HV.out]; exact dval_take_lt hs HD.out
    by_cases h1 : k < s.size
    · by_cases h2 : bt s k < 48
      · have HF := Lib.hid (show -1 = A by rw [← HA.out, numB, if_neg (by rw [not_allD h1 (by omega)]; decide)])
        go_wp2_with fail
        go_ret
        exact ⟨ret_int HF.out, rfl⟩
      · by_cases h3 : bt s k ≤ 57
        · have hw : IntKind.u8.wrap (bt s k - 48) = bt s k - 48 := by rw [IntKind.wrap_u8]; omega
          have HV2 := Lib.hid (dval_more h1 (by omega))
          obtain ⟨D2, hD2⟩ : ∃ D2 : Nat, dval (s.data.toList.take (k + 1)) = D2 := ⟨_, rfl⟩
          have HV3 := Lib.hid (show (D : Int) * 10 + (bt s k - 48) = (D2 : Int) by rw [← hD2, HV2.out, HV.out])
          have HD2 := Lib.hid hD2
          have hd2 : ∀ j, j < k + 1 → 48 ≤ bt s j ∧ bt s j ≤ 57 := fun j hj => by
            by_cases e : j = k
            · subst e; omega
            · exact HD.out j (by omega)
          have HDD := Lib.hid hd2
          clear hD2 hd2 HV2
          go_wp2_with fail
          exact ⟨⟨k + 1, D2, val_int HV3.out, by simp, by omega, Lib.hid HD2.out.symm, HDD, trivial⟩, by simp [intOf]; omega⟩
        · have HF := Lib.hid (show -1 = A by rw [← HA.out, numB, if_neg (by rw [not_allD h1 (by omega)]; decide)])
          go_wp2_with fail
          go_ret
          exact ⟨ret_int HF.out, rfl⟩
    · have hk2 : k = s.size := by omega
      subst hk2
      have HF := Lib.hid (show (D : Int) = A by
        rw [← HA.out, numB, if_pos (allD_bt HD.out), HV.out, List.take_of_length_le (by rw [size_len]; omega)])
      go_wp2_with fail
      go_ret
      exact ⟨ret_int HF.out, rfl⟩
end Go.Proofs.YtmdmhookhkhdoaaDoor
