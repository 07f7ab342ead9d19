/- Contracts of package datetext: digits, join. -/
import Derived.Test.YtmdmhookhkhdoaaDoorDt2
import Derived.Test.YtmdmhookhkhdoaaDoorShelfDx
namespace Corr
set_option maxRecDepth 8000
open Go Go.RowKit Go.PlainAid
theorem itoa_dg (M : Nat) : Lib.decDigits (M % 10) = [dg M] := by
  unfold Lib.decDigits dg
  rw [dif_pos (Nat.mod_lt _ (by decide))]
end Corr
namespace Go.Proofs.YtmdmhookhkhdoaaDoor
set_option maxRecDepth 8000
open Go.RowKit Go.PlainAid Corr
set_option linter.unusedVariables false
set_option linter.unusedSimpArgs false
theorem xdig_any (N k : Nat) (w : World) (hN : N ≤ 9999) (hk : k ≤ 4) :
    Calls Tryd.prog 17 #[.int .i64 (N : Int), .int .i64 (k : Int)] w fun e w' => e = .returned (.string (mkS (fixd k N))) ∧ w' = w := by
  go_enter Tryd.func17, Tryd.ntmps17
  go_wp2_with fail
  go_loopw [0, 5, 7] (fun u s v wr => ∃ (j M : Nat) (Q : ByteArray), u = .int .i64 (M : Int) ∧ s = .string Q ∧ v = .int .i64 (j : Int) ∧ j ≤ k ∧ M ≤ 9999 ∧ Hid (M = N / 10 ^ j) ∧ Hid (Q.data.toList = fixd j N) ∧ wr = w) (fun _ _ v _ => 4 - (intOf v).toNat)
  case atStart => exact ⟨0, N, ⟨#[]⟩, rfl, rfl, rfl, by omega, by omega, Lib.hid (by simp), Lib.hid rfl, rfl⟩
  case round =>
    obtain ⟨j, M, Q, rfl, rfl, rfl, hj, hM, HM, HQ, rfl⟩ := hrel
    by_cases hlt : j < k
    · have hQ : Q.size ≤ 4 := by rw [← size_len, HQ.out, fixd_len]; omega
      have HI := Lib.hid (show ∀ w, Calls Tryd.prog 29 #[.int .i64 ((M : Int) % 10)] w fun e w' => e = .returned (.string ⟨#[dg M]⟩) ∧ w' = w from fun w => by
        have := Tryd.strconv_Itoa_small (M % 10) (by omega) w
        rw [itoa_dg] at this
        rw [show ((M % 10 : Nat) : Int) = (M : Int) % 10 by omega] at this
        exact this)
      have HACC := Lib.hid (show (⟨#[dg M]⟩ ++ Q : ByteArray).data.toList = fixd (j + 1) N by
        rw [fixd_ahead, ba_append, HQ.out, ← HM.out]; rfl)
      have HM2 := Lib.hid (show M / 10 = N / 10 ^ (j + 1) by rw [HM.out, Nat.pow_succ, Nat.div_div_eq_div_mul])
      have s1 : (⟨#[dg M]⟩ : ByteArray).size = 1 := rfl
      go_wp2_with fail
      refine (HI.out _).mono ?_
      rintro e w1 ⟨rfl, rfl⟩
      go_wp2_with fail
      exact ⟨⟨j + 1, M / 10, ⟨#[dg M]⟩ ++ Q, val_int (by omega), rfl, val_int (by omega), by omega, by omega, HM2, HACC, trivial⟩, by simp [intOf]; omega⟩
    · have hjk : j = k := by omega
      subst hjk
      have HR := Lib.hid (ba_eq HQ.out)
      clear HQ
      go_wp2_with fail
      go_ret
      exact ⟨congrArg (fun x => Ending.returned (.string x)) HR.out, rfl⟩
theorem xjoin_none (sep : ByteArray) (b o n c : Nat) (xs : List ByteArray) (w : World) (hn : xs.length = n) (h3 : n ≤ 3) (hc : ∀ (j : Nat) x, xs[j]? = some x → w.cell? ⟨b, o + j, none⟩ = some (.string x)) (he : (⟨#[]⟩ : ByteArray) ∈ xs) :
    Calls Tryd.prog 16 #[.string sep, .slice (some ⟨b, o, none⟩) n c] w fun e w' => e = .returned (.string ⟨#[]⟩) ∧ w' = w := by
  have HC := Lib.hid (Tryd.slices_Contains_string b o n c xs ⟨#[]⟩ w (by omega) (by omega) (fun j hj => by
    have := hc j xs[j] (List.getElem?_eq_getElem hj)
    rw [this]; simp [hj]))
  have ht : Lib.containsS (xs.take n) ⟨#[]⟩ = true := by rw [Lib.containsS_iff, List.take_of_length_le (by omega)]; exact he
  rw [ht] at HC
  clear hc he ht
  go_enter Tryd.func16, Tryd.ntmps16
  go_wp2_with fail
  refine HC.out.mono ?_
  rintro e w1 ⟨rfl, rfl⟩
  go_wp2_with fail
  go_ret
  exact ⟨rfl, rfl⟩
theorem xjoin_all (sep : ByteArray) (b o n c : Nat) (xs : List ByteArray) (w : World) (hn : xs.length = n) (h3 : n ≤ 3) (hcap : n ≤ c) (hb : b < w.heap.size) (hc : ∀ (j : Nat) x, xs[j]? = some x → w.cell? ⟨b, o + j, none⟩ = some (.string x)) (he : ¬ (⟨#[]⟩ : ByteArray) ∈ xs)
    (hl : (Lib.join (xs.map (·.data.toList)) sep.data.toList).length ≤ 140737488355328) :
    Calls Tryd.prog 16 #[.string sep, .slice (some ⟨b, o, none⟩) n c] w fun e w' => e = .returned (.string (mkS (Lib.join (xs.map (·.data.toList)) sep.data.toList))) ∧ Below w.heap.size w w' := by
  have HC := Lib.hid (Tryd.slices_Contains_string b o n c xs ⟨#[]⟩ w (by omega) (by omega) (fun j hj => by
    have := hc j xs[j] (List.getElem?_eq_getElem hj)
    rw [this]; simp [hj]))
  have ht : Lib.containsS (xs.take n) ⟨#[]⟩ = false := by rw [← Bool.not_eq_true, Lib.containsS_iff, List.take_of_length_le (by omega)]; exact he
  rw [ht] at HC
  have HJ := Lib.hid (Tryd.strings_Join b o c xs sep w hc hb (by omega) (by omega) hl)
  rw [hn] at HJ
  clear hc he ht
  go_enter Tryd.func16, Tryd.ntmps16
  go_wp2_with fail
  refine HC.out.mono ?_
  rintro e w1 ⟨rfl, rfl⟩
  go_wp2_with fail
  refine HJ.out.mono ?_
  rintro e w1 ⟨rfl, hb⟩
  go_wp2_with fail
  go_ret
  exact ⟨rfl, hb⟩
end Go.Proofs.YtmdmhookhkhdoaaDoor
