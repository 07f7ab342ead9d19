/- What Put makes of a decimal. No walk in this text. -/
import Derived.Test.YtmccmgplgdmjbaaDoorTxMath
namespace Corr
theorem ev_nine {C : Int} {S : Nat} (h : S ≤ 9) : evZ (C * ((10 ^ (18 - S) : Nat) : Int)) (10 ^ (18 - 9)) = nine C S := by
  rw [nine_up C h]; exact evZ_mul _ _ (p10 9)
theorem put_fit {C : Int} {S : Nat} (h1 : -9223372036854775808 ≤ C) (h2 : C ≤ 9223372036854775807) (hS : S ≤ 9) :
    ∃ (c : Int) (t : Nat), mC (nine C S) 9 = c ∧ mS (nine C S) 9 = t ∧ mE (nine C S) 9 = 0 ∧ -9223372036854775808 ≤ c ∧ c ≤ 9223372036854775807 ∧ t ≤ 9 ∧ (t = 0 ∨ ¬ c % 10 = 0) := by
  obtain ⟨m1, m2, m3⟩ := made_at hS (show C * ((10 ^ (9 - S) : Nat) : Int) = nine C S from rfl)
  obtain ⟨s1, s2, s3⟩ := strip_spec S C
  obtain ⟨c, hc⟩ : ∃ c, (strip C S).1 = c := ⟨_, rfl⟩
  obtain ⟨t, ht⟩ : ∃ t, (strip C S).2 = t := ⟨_, rfl⟩
  rw [hc, ht] at s2 s3
  rw [ht] at s1
  have hp := p10 (S - t)
  have ha : C.natAbs = c.natAbs * 10 ^ (S - t) := by rw [s3, Int.natAbs_mul, Int.natAbs_natCast]
  have hle : c.natAbs ≤ C.natAbs := by rw [ha]; exact Nat.le_mul_of_pos_right _ hp
  have hs : 0 ≤ c → 0 ≤ C := fun h => by rw [s3]; exact Int.mul_nonneg h (by omega)
  have hf : fitsI c = true := by
    unfold fitsI
    by_cases h0 : 0 ≤ c
    · have := hs h0; simp; omega
    · simp; omega
  refine ⟨c, t, ?_, ?_, ?_, ?_, ?_, by omega, s2⟩
  · rw [← m1]; unfold mC; rw [hc, if_pos hf]
  · rw [← m2]; unfold mS; rw [hc, if_pos hf, ht]
  · rw [← m3]; unfold mE; rw [hc, if_pos hf]
  · unfold fitsI at hf; simp at hf; omega
  · unfold fitsI at hf; simp at hf; omega
theorem put_canon {C : Int} {S : Nat} (h1 : -9223372036854775808 ≤ C) (h2 : C ≤ 9223372036854775807) (hS : S ≤ 9) (hc : S = 0 ∨ ¬ C % 10 = 0) :
    mC (nine C S) 9 = C ∧ mS (nine C S) 9 = S ∧ mE (nine C S) 9 = 0 := by
  have hst : strip (nine C S) 9 = (C, S) := strip_is hS hc rfl
  have hf : fitsI C = true := by simp [fitsI, h1, h2]
  unfold mE mC mS
  rw [hst]
  simp [hf]
end Corr
