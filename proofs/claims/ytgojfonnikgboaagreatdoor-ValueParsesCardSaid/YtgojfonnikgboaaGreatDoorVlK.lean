/- Values' texts are read again; a text that is read is that value's. No walk in this text. What the laws of package value ask of it. -/
import Derived.Test.YtgojfonnikgboaaGreatDoorVl3
import Derived.Test.YtgojfonnikgboaaGreatDoorTx6
import Derived.Test.YtgojfonnikgboaaGreatDoorTxPut
import Derived.Test.YtgojfonnikgboaaGreatDoorTxBytes
import Derived.Test.YtgojfonnikgboaaGreatDoorDec2
import Derived.Test.YtgojfonnikgboaaGreatDoorNat
import Derived.Laws.IdiomStrings
import Derived.Deep.DeepCutAuto
import Derived.Deep.CutBlock
import Derived.Test.YtgojfonnikgboaaGreatDoorTxOnly
import Derived.Test.YtgojfonnikgboaaGreatDoorRowRel
namespace Corr
open Go Go.RowKit Go.PlainAid
theorem mayV_parts {K C S E : Int} (h : mayV K C S E = true) : (K = 0 ∨ K = 2 ∨ K = 3) ∧ C = 0 ∧ S = 0 ∧ E = 0 ∨ K = 1 ∧ (0 ≤ S ∧ S ≤ 9 ∧ (S = 0 ∨ ¬ C % 10 = 0)) ∧ E = 0 ∨ K = 4 ∧ C = 0 ∧ S = 0 ∧ (E = 11 ∨ E = 12 ∨ E = 13) := by
  unfold mayV at h
  split at h
  · rename_i hK
    simp at h
    exact .inl ⟨hK, h.1.1, h.1.2, h.2⟩
  · split at h
    · rename_i hK
      unfold mayD at h
      simp only [Bool.and_eq_true, decide_eq_true_eq] at h
      exact .inr (.inl ⟨hK, h.1, h.2⟩)
    · split at h
      · rename_i hK
        simp at h
        exact .inr (.inr ⟨hK, h.1.1, h.1.2, by omega⟩)
      · cases h
theorem val_none {K C S E : Int} (h : mayV K C S E = false) : textV K C S E = [] := by unfold textV; rw [if_neg (by rw [h]; decide)]
/-- A text that is read is that value's; else there is none. -/
theorem val_back (l : List UInt8) : (∃ K C S E : Int, readV l = (K, C, S, E, 0) ∧ mayV K C S E = true ∧ textV K C S E = l ∧ -9223372036854775808 ≤ C ∧ C ≤ 9223372036854775807) ∨ readV l = (0, 0, 0, 0, 4) := by
  by_cases h0 : l = [97, 98, 115, 101, 110, 116]
  · subst h0; exact .inl ⟨0, 0, 0, 0, by decide +kernel, by decide, by decide +kernel, by decide, by decide⟩
  by_cases h1 : l = [116, 114, 117, 101]
  · subst h1; exact .inl ⟨2, 0, 0, 0, by decide +kernel, by decide, by decide +kernel, by decide, by decide⟩
  by_cases h2 : l = [102, 97, 108, 115, 101]
  · subst h2; exact .inl ⟨3, 0, 0, 0, by decide +kernel, by decide, by decide +kernel, by decide, by decide⟩
  by_cases h3 : l = [111, 118, 101, 114]
  · subst h3; exact .inl ⟨4, 0, 0, 11, by decide +kernel, by decide, by decide +kernel, by decide, by decide⟩
  by_cases h4 : l = [100, 105, 118]
  · subst h4; exact .inl ⟨4, 0, 0, 12, by decide +kernel, by decide, by decide +kernel, by decide, by decide⟩
  by_cases h5 : l = [109, 105, 115, 115, 105, 110, 103]
  · subst h5; exact .inl ⟨4, 0, 0, 13, by decide +kernel, by decide, by decide +kernel, by decide, by decide⟩
  rw [readV_rest h0 h1 h2 h3 h4 h5]
  by_cases h : l.length ≤ 21 ∧ pE l = 0
  · rw [if_pos h]
    obtain ⟨b1, b2, s9, m1, m2, ht⟩ := only_text h.2
    have hm : mayV 1 (pC l) (pS l : Int) 0 = true := by
      obtain ⟨c, t, hc, ht, _, _, _, _, hcan⟩ := put_fit b1 b2 s9
      rw [m1] at hc
      rw [m2] at ht
      subst hc ht
      unfold mayV mayD
      rw [if_neg (by decide), if_pos rfl, decide_eq_true ⟨by omega, by omega, by omega⟩]; rfl
    exact .inl ⟨1, _, _, 0, rfl, hm, by unfold textV; rw [if_pos hm, if_neg (by decide), if_pos rfl, Int.toNat_natCast]; exact ht, b1, b2⟩
  · rw [if_neg h]; exact .inr rfl
end Corr
namespace Go.Proofs.YtgojfonnikgboaaGreatDoor
open Go.RowKit Go.PlainAid Corr
set_option linter.unusedVariables false
set_option linter.unusedSimpArgs false
/-- What package value does, in every world where its variables are good. -/
structure VlK (G : World → Prop) : Prop where
  keep : ∀ w w', G w → Below w.heap.size w w' → G w'
  may : ∀ (K C S E : Int) (w : World), G w → -9223372036854775808 ≤ C → C ≤ 9223372036854775807 → Calls Tryz.prog 6 #[vlV K C S E] w fun e w' => e = .returned (.bool (mayV K C S E)) ∧ Below w.heap.size w w'
  text : ∀ (K C S E : Int) (w : World), G w → -9223372036854775808 ≤ C → C ≤ 9223372036854775807 → Calls Tryz.prog 5 #[vlV K C S E] w fun e w' => e = .returned (.string ⟨(textV K C S E).toArray⟩) ∧ Below w.heap.size w w'
  parse : ∀ (s : ByteArray) (w : World), G w → s.size ≤ 100 → Calls Tryz.prog 9 #[.string s] w fun e w' => e = .returned (readR (readV s.data.toList)) ∧ Below w.heap.size w w'
  num : ∀ (C : Int) (S : Nat) (w : World), G w → -9223372036854775808 ≤ C → C ≤ 9223372036854775807 → S ≤ 9 → Calls Tryz.prog 10 #[.agg #[.int .i64 C, .int .i64 (S : Int)]] w fun e w' => e = .returned (.tuple #[vlV 1 (mC (nine C S) 9) (mS (nine C S) 9 : Int) 0, .int .i64 0]) ∧ Below w.heap.size w w'
  none : ∀ (C S : Int) (w : World), G w → -9223372036854775808 ≤ C → C ≤ 9223372036854775807 → S < 0 ∨ 9 < S → Calls Tryz.prog 10 #[.agg #[.int .i64 C, .int .i64 S]] w fun e w' => e = .returned (.tuple #[vlV 0 0 0 0, .int .i64 2]) ∧ Below w.heap.size w w'
  truth : ∀ (b : Bool) (w : World), G w → Calls Tryz.prog 12 #[.bool b] w fun e w' => e = .returned (vlV (if b = true then 2 else 3) 0 0 0) ∧ Below w.heap.size w w'
  bad : ∀ (n : Int) (w : World), G w → Calls Tryz.prog 11 #[.int .i64 n] w fun e w' => e = .returned (if mayV 4 0 0 n = true then .tuple #[vlV 4 0 0 n, .int .i64 0] else .tuple #[vlV 0 0 0 0, .int .i64 2]) ∧ Below w.heap.size w w'
end Go.Proofs.YtgojfonnikgboaaGreatDoor
