/- Values' texts are read again; a text that is read is that value's. No walk in this text. What the laws of package value ask of it. -/
import Derived.Test.YtgojfonnikgboaaGreatDoorVl3
import Derived.Test.YtgojfonnikgboaaGreatDoorTxLawText
import Derived.Test.YtgojfonnikgboaaGreatDoorTxOnly
import Derived.Test.YtgojfonnikgboaaGreatDoorRowRel
namespace Corr
open Go Go.RowKit Go.PlainAid
theorem mayV_parts {K C S E : Int} (h : mayV K C S E = true) : (K = 0 ∨ K = 2 ∨ K = 3) ∧ C = 0 ∧ S = 0 ∧ E = 0 ∨ K = 1 ∧ (0 ≤ S ∧ S ≤ 9 ∧ (S = 0 ∨ ¬ C % 10 = 0)) ∧ E = 0 ∨ K = 4 ∧ C = 0 ∧ S = 0 ∧ (E = 11 ∨ E = 12 ∨ E = 13) := by
  unfold mayV at h
  split at h
  · rename_i hK
    simp at h
    exact .inl ⟨hK, h.1.1, h.1.2, h.2⟩
  · split at h
    · rename_i hK
      unfold mayD at h
      simp only [Bool.and_eq_true, decide_eq_true_eq] at h
      exact .inr (.inl ⟨hK, h.1, h.2⟩)
    · split at h
      · rename_i hK
        simp at h
        exact .inr (.inr ⟨hK, h.1.1, h.1.2, by omega⟩)
      · cases h
theorem readV_num {l : List UInt8} (h : pE l = 0) : readV l = (1, pC l, (pS l : Int), 0, 0) := by
  have hw : ∀ m : List UInt8, pE m ≠ 0 → ¬ l = m := fun m hm e => hm (e ▸ h)
  rw [readV_rest (hw _ (by decide +kernel)) (hw _ (by decide +kernel)) (hw _ (by decide +kernel)) (hw _ (by decide +kernel)) (hw _ (by decide +kernel)) (hw _ (by decide +kernel)), if_pos ⟨(pE_ok h).1, h⟩]
/-- The text of a value that may be is read as that. -/
theorem val_read {K C S E : Int} (h : mayV K C S E = true) (h1 : -9223372036854775808 ≤ C) (h2 : C ≤ 9223372036854775807) : readV (textV K C S E) = (K, C, S, E, 0) ∧ (textV K C S E).length ≤ 21 ∧ textV K C S E ≠ [] := by
  have hp := mayV_parts h
  unfold textV
  rw [if_pos h]
  rcases hp with ⟨hK, rfl, rfl, rfl⟩ | ⟨rfl, ⟨s0, s9, hc⟩, rfl⟩ | ⟨rfl, rfl, rfl, hE⟩
  · rcases hK with rfl | rfl | rfl <;> decide +kernel
  · rw [if_neg (by decide), if_pos rfl]
    obtain ⟨t, rfl⟩ : ∃ t : Nat, S = (t : Int) := ⟨S.toNat, by omega⟩
    rw [Int.toNat_natCast]
    obtain ⟨e, ec, es⟩ := text_back (c := C) (t := t) h1 h2 (by omega) (by omega)
    rw [readV_num e, ec, es]
    refine ⟨rfl, (pE_ok e).1, fun hn => ?_⟩
    rw [hn] at e
    revert e
    decide +kernel
  · rcases hE with rfl | rfl | rfl <;> decide +kernel
theorem val_none {K C S E : Int} (h : mayV K C S E = false) : textV K C S E = [] := by unfold textV; rw [if_neg (by rw [h]; decide)]
end Corr
namespace Go.Proofs.YtgojfonnikgboaaGreatDoor
open Go.RowKit Go.PlainAid Corr
set_option linter.unusedVariables false
set_option linter.unusedSimpArgs false
/-- What package value does, in every world where its variables are good. -/
structure VlK (G : World → Prop) : Prop where
  keep : ∀ w w', G w → Below w.heap.size w w' → G w'
  may : ∀ (K C S E : Int) (w : World), G w → -9223372036854775808 ≤ C → C ≤ 9223372036854775807 → Calls Tryz.prog 6 #[vlV K C S E] w fun e w' => e = .returned (.bool (mayV K C S E)) ∧ Below w.heap.size w w'
  text : ∀ (K C S E : Int) (w : World), G w → -9223372036854775808 ≤ C → C ≤ 9223372036854775807 → Calls Tryz.prog 5 #[vlV K C S E] w fun e w' => e = .returned (.string ⟨(textV K C S E).toArray⟩) ∧ Below w.heap.size w w'
  parse : ∀ (s : ByteArray) (w : World), G w → s.size ≤ 100 → Calls Tryz.prog 9 #[.string s] w fun e w' => e = .returned (readR (readV s.data.toList)) ∧ Below w.heap.size w w'
  num : ∀ (C : Int) (S : Nat) (w : World), G w → -9223372036854775808 ≤ C → C ≤ 9223372036854775807 → S ≤ 9 → Calls Tryz.prog 10 #[.agg #[.int .i64 C, .int .i64 (S : Int)]] w fun e w' => e = .returned (.tuple #[vlV 1 (mC (nine C S) 9) (mS (nine C S) 9 : Int) 0, .int .i64 0]) ∧ Below w.heap.size w w'
  none : ∀ (C S : Int) (w : World), G w → -9223372036854775808 ≤ C → C ≤ 9223372036854775807 → S < 0 ∨ 9 < S → Calls Tryz.prog 10 #[.agg #[.int .i64 C, .int .i64 S]] w fun e w' => e = .returned (.tuple #[vlV 0 0 0 0, .int .i64 2]) ∧ Below w.heap.size w w'
  truth : ∀ (b : Bool) (w : World), G w → Calls Tryz.prog 12 #[.bool b] w fun e w' => e = .returned (vlV (if b = true then 2 else 3) 0 0 0) ∧ Below w.heap.size w w'
  bad : ∀ (n : Int) (w : World), G w → Calls Tryz.prog 11 #[.int .i64 n] w fun e w' => e = .returned (if mayV 4 0 0 n = true then .tuple #[vlV 4 0 0 n, .int .i64 0] else .tuple #[vlV 0 0 0 0, .int .i64 2]) ∧ Below w.heap.size w w'
end Go.Proofs.YtgojfonnikgboaaGreatDoor
