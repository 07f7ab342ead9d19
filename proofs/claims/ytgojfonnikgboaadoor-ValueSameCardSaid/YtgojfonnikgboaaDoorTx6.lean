/- The contract of dectext.Text. The contract of corrodylaw03.known. (Written by wip/gen/gentx6.py.) -/
import Derived.Test.YtgojfonnikgboaaDoorTx2
import Derived.Test.YtgojfonnikgboaaDoorTxPut
import Derived.Test.YtgojfonnikgboaaDoorDc5
import Derived.Test.YtgojfonnikgboaaDoorShelfTx
import Derived.Deep.QuietTactic
import Derived.BigQuiet
import Derived.Test.YtgojfonnikgboaaDoorTx4
namespace Go.Proofs.YtgojfonnikgboaaDoor
set_option maxRecDepth 8000
open Go.RowKit Go.PlainAid Corr
set_option linter.unusedVariables false
set_option linter.unusedSimpArgs false
theorem text_any (C : Int) (S : Nat) (w : World) (hC1 : -9223372036854775808 ≤ C) (hC2 : C ≤ 9223372036854775807) (hS : S ≤ 9) :
    Calls Tryd.prog 8 #[.agg #[.int .i64 C, .int .i64 (S : Int)]] w fun e w' => e = .returned (.string ⟨(txt (mC (nine C S) 9) (mS (nine C S) 9)).toArray⟩) ∧ Below w.heap.size w w' := by
  have HI := Lib.hid (fun w => dput_any C S _ w hC1 hC2 hS rfl)
  obtain ⟨c, t, hc, ht, he, c1, c2, t9, hcn⟩ := put_fit hC1 hC2 hS
  rw [hc, ht, he] at HI
  rw [hc, ht]
  clear hc ht he
  have S0 := ((Mem.start w).push #[.int .i64 C, .int .i64 (S : Int)] 23)
  go_enter Tryd.func8, Tryd.ntmps8
  go_wp2_with fail
  refine (HI.out _).mono ?_
  rintro e w1 ⟨rfl, hb⟩
  have S1 := S0.keep hb
  clear S0 hb
  have za := S1.c 0 0 rfl rfl; have zb := S1.c 0 1 rfl rfl; have zc := S1.f 0 0 rfl; have zd := S1.f 0 1 rfl
  have HF := Lib.hid (S1.put20 0 rfl (.int .i64 c) (.int .i64 (t : Int)))
  clear S1
  go_wp2_with fail
  obtain ⟨n, hn⟩ : ∃ n, c.natAbs = n := ⟨_, rfl⟩
  refine (digits_in c n _ c1 c2 hn).mono ?_
  rintro e w2 ⟨rfl, hb⟩
  have S2 := HF.out.keep hb
  clear HF hb za zb zc zd
  have za := S2.c 0 0 rfl rfl; have zb := S2.c 0 1 rfl rfl
  have HS := Lib.hid S2
  clear S2
  obtain ⟨D, hD⟩ : ∃ D : ByteArray, (⟨(fixd 19 n).toArray⟩ : ByteArray) = D := ⟨_, rfl⟩
  have HD := Lib.hid (show D.data.toList = fixd 19 n by rw [← hD])
  have hDs : D.size = 19 := by rw [← size_len, HD.out, fixd_len]
  rw [hD]
  clear hD
  obtain ⟨k, hk⟩ : ∃ k : Nat, 18 - t = k := ⟨_, rfl⟩
  have k1 : (19 : Int) - (t : Int) = (k : Int) + 1 := by omega
  have k2 : (k : Int) + 1 - 1 = (k : Int) := by omega
  have k3 : (k : Int) ≤ 18 := by omega
  have k4 : (k : Int) ≤ 19 := by omega
  have k5 : (k : Int) + 1 ≤ 19 := by omega
  have k6 : (0 : Int) ≤ (k : Int) := by omega
  have k7 : (0 : Int) ≤ (k : Int) + 1 := by omega
  have k8 : IntKind.i64.wrap (k : Int) = (k : Int) := by rw [IntKind.wrap_i64]; omega
  have k9 : (k : Int) ≤ (k : Int) + 1 := by omega
  obtain ⟨E, hE⟩ : ∃ E : ByteArray, (⟨(Lib.trimLeftB (D.extract 0 k).data.toList 48).toArray⟩ : ByteArray) = E := ⟨_, rfl⟩
  have HT := Lib.hid (fun w => Tryd.strings_TrimLeft_one (D.extract 0 k) 48 (by decide) w)
  rw [hE] at HT
  have hEs : E.size ≤ 18 := by
    rw [← hE]
    have : (Lib.trimLeftB (D.extract 0 k).data.toList 48).length ≤ (D.extract 0 k).data.toList.length := by unfold Lib.trimLeftB; exact (List.dropWhile_sublist _).length_le
    rw [size_len] at this
    have h2 : (D.extract 0 k).size ≤ 18 := by rw [ByteArray.size_extract]; omega
    show (Array.size _) ≤ 18
    rw [List.size_toArray]
    omega
  have HP := Lib.hid (parts19 HD.out (show k + t = 18 by omega) (show n < 10 ^ 19 by omega))
  have HW := Lib.hid (show (E ++ D.extract k (k + 1)).data.toList = whole (n / 10 ^ t) by rw [ba_append, ← hE]; exact HP.out.1)
  have HNN := Lib.hid hn
  clear hE hk hn
  by_cases hc : c < 0
  · by_cases ht : 0 < t
    · skip
      have HR := Lib.hid (show ((({ data := #[45] } ++ (E ++ D.extract k (k + 1))) ++ ({ data := #[46] } ++ D.extract (k + 1) 19)) : ByteArray) = ⟨(txt c t).toArray⟩ by
        refine ba_eq ?_
        unfold txt sgnT
        rw [HNN.out, show decide (c < 0) = true by simp; omega, if_neg (show ¬ t = 0 by omega)]
        simp only [ba_append, HP.out.2]
        rw [← HW.out]
        simp [ba_append])
      go_wp2_with fail
      go_quiet ((go_at_call 15; exact Calls.quiet_of_same (HT.out _)))
      go_wp2_with fail
      go_ret
      exact ⟨congrArg (fun x => Ending.returned (.string x)) HR.out, HS.out.bl.trans (Joins.below_draws _ _ _)⟩
    · have ht0 : ¬ (0 : Int) < (t : Int) := by omega
      have HR := Lib.hid (show (({ data := #[45] } ++ (E ++ D.extract k (k + 1))) : ByteArray) = ⟨(txt c t).toArray⟩ by
        refine ba_eq ?_
        unfold txt sgnT
        rw [HNN.out, show decide (c < 0) = true by simp; omega, if_pos (show t = 0 by omega)]
        simp only [ba_append, HP.out.2]
        rw [← HW.out]
        simp [ba_append])
      go_wp2_with fail
      go_quiet ((go_at_call 15; exact Calls.quiet_of_same (HT.out _)))
      go_wp2_with fail
      go_ret
      exact ⟨congrArg (fun x => Ending.returned (.string x)) HR.out, HS.out.bl.trans (Joins.below_draws _ _ _)⟩
  · by_cases ht : 0 < t
    · skip
      have HR := Lib.hid (show (((E ++ D.extract k (k + 1)) ++ ({ data := #[46] } ++ D.extract (k + 1) 19)) : ByteArray) = ⟨(txt c t).toArray⟩ by
        refine ba_eq ?_
        unfold txt sgnT
        rw [HNN.out, show decide (c < 0) = false by simp; omega, if_neg (show ¬ t = 0 by omega)]
        simp only [ba_append, HP.out.2]
        rw [← HW.out]
        simp [ba_append])
      go_wp2_with fail
      go_quiet ((go_at_call 15; exact Calls.quiet_of_same (HT.out _)))
      go_wp2_with fail
      go_ret
      exact ⟨congrArg (fun x => Ending.returned (.string x)) HR.out, HS.out.bl.trans (Joins.below_draws _ _ _)⟩
    · have ht0 : ¬ (0 : Int) < (t : Int) := by omega
      have HR := Lib.hid (show ((E ++ D.extract k (k + 1)) : ByteArray) = ⟨(txt c t).toArray⟩ by
        refine ba_eq ?_
        unfold txt sgnT
        rw [HNN.out, show decide (c < 0) = false by simp; omega, if_pos (show t = 0 by omega)]
        simp only [ba_append, HP.out.2]
        rw [← HW.out]
        simp [ba_append])
      go_wp2_with fail
      go_quiet ((go_at_call 15; exact Calls.quiet_of_same (HT.out _)))
      go_wp2_with fail
      go_ret
      exact ⟨congrArg (fun x => Ending.returned (.string x)) HR.out, HS.out.bl.trans (Joins.below_draws _ _ _)⟩
end Go.Proofs.YtgojfonnikgboaaDoor
namespace Go.Proofs.YtgojfonnikgboaaDoor
set_option maxRecDepth 8000
open Go.RowKit Go.PlainAid Corr
set_option linter.unusedVariables false
set_option linter.unusedSimpArgs false
end Go.Proofs.YtgojfonnikgboaaDoor
