/- Contract of May of package spans. -/
import Derived.Test.YtmolbckndkhhlaaSpPMath
import Derived.Test.YtmolbckndkhhlaaSpOf
namespace Go.Proofs.Ytmolbckndkhhlaa
set_option maxRecDepth 8000
open Go.RowKit Corr
set_option linter.unusedVariables false
set_option linter.unusedSimpArgs false
set_option maxHeartbeats 2000000 in
theorem pmay_any (A : Option Addr) (N c : Nat) (a : SpL) (w : World) (R : Spn w A N c a) (ha : a.length ≤ 1000) : Calls Try.prog 9 #[.slice A N c] w fun e w' => e = .returned (.bool (decide (a = twoL 0 a []))) ∧ Below w.heap.size w w' := by
  have hN : N ≤ 1000 := by have := R.count; omega
  have HR := Lib.hid R
  rw [← mayI_is a]
  clear R ha
  go_enter Try.func9, Try.ntmps9
  go_wp2_with fail
  go_loopw [3, 8] (fun v t wr => ∃ (i : Nat) (b : Int), v = .int .i64 b ∧ t = .int .i64 (i : Int) ∧ i ≤ N ∧ Hid (mayI b (a.drop i) = mayI 0 a) ∧ Below w.heap.size w wr) (fun _ t _ => (N - intOf t).toNat)
  case atStart => exact ⟨0, 0, rfl, rfl, by omega, Lib.hid rfl, Below.refl _ _⟩
  case round =>
    obtain ⟨i, b, rfl, rfl, hi, HM, hb⟩ := hrel
    have HB := Lib.hid hb
    have hsz := hb.size
    clear hb
    by_cases hlt : i < N
    · obtain ⟨g, off, s, rfl, hs, hg, c0, c1⟩ := Spn.get (HR.out.keep HB.out) hlt
      obtain ⟨x, y⟩ := s
      have HA := Lib.hid (mayI_at (b := b) hs)
      rw [HM.out] at HA
      have HB2 := Lib.hid (HB.out.alloc hsz (.cells #[.int .i64 x, .int .i64 y] 37))
      have hi2 : (i : Int) < (N : Int) := by omega
      clear hs HM
      obtain ⟨p1, h1⟩ : ∃ p1, decide (x ≤ b) = p1 := ⟨_, rfl⟩
      obtain ⟨p2, h2⟩ : ∃ p2, decide (y ≤ x) = p2 := ⟨_, rfl⟩
      obtain ⟨p3, h3⟩ : ∃ p3, decide (y > 3652060) = p3 := ⟨_, rfl⟩
      simp only [h1, h2, h3] at HA
      cases p1
      · cases p2
        · cases p3
          · go_wp2_with fail
            go_roundw
            case rel => exact ⟨i + 1, y, rfl, by go_num, by omega, Lib.hid (by have := HA.out; simpa using this.symm), HB2.out⟩
            case measure => simp [intOf]; omega
          · go_wp2_with fail
            go_ret
            exact ⟨by rw [HA.out]; rfl, HB2.out⟩
        · go_wp2_with fail
          go_ret
          exact ⟨by rw [HA.out]; rfl, HB2.out⟩
      · go_wp2_with fail
        go_ret
        exact ⟨by rw [HA.out]; rfl, HB2.out⟩
    · have HF := Lib.hid (show mayI 0 a = true by rw [← HM.out, List.drop_eq_nil_of_le (by have := HR.out.count; omega)]; rfl)
      go_wp2_with fail
      go_ret
      exact ⟨by rw [HF.out]; rfl, HB.out⟩
end Go.Proofs.Ytmolbckndkhhlaa
