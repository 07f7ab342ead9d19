/- The contract of math/bits.Div64: two words divided by one that is greater than the upper one. -/
import Derived.Test.YtmccmgplgdmjbaaGreatDoorWide2
import Derived.Test.YtmccmgplgdmjbaaGreatDoorDivPrep
import Derived.Deep.QuietTactic
import Derived.BigQuiet
import Derived.Deep.DeepCutAuto
import Derived.Deep.CutBlock
import Derived.Deep.LoopGhost
namespace Go.Proofs.YtmccmgplgdmjbaaGreatDoor
set_option maxRecDepth 8000
open Go.RowKit Corr
set_option linter.unusedVariables false

theorem ret_pair {k k' : IntKind} {a b c d : Int} (h : a = b) (h' : c = d) : Ending.returned (.tuple #[.int k a, .int k' c]) = .returned (.tuple #[.int k b, .int k' d]) := by rw [h, h']

theorem lead_any (y s : Nat) (w : World) (h1 : y < B64) (hs : Lib.bitLen y + s = 64) :
    Calls Tryz.prog 87 #[.int .u64 y] w fun e w' => e = .returned (.int .i64 (s : Int)) ∧ w = w' :=
  (Tryz.bits_LeadingZeros64 (y : Int) w (by omega) (by unfold B64 at h1; omega)).mono fun e w' ⟨he, hw⟩ => ⟨he.trans (ret_int (by simp; omega)), hw.symm⟩

theorem div64_small (lo y : Nat) (w : World) (hl : lo < B64) (hy : y < B64) (h0 : 0 < y) :
    Calls Tryz.prog 72 #[.int .u64 (0 : Int), .int .u64 lo, .int .u64 y] w fun e w' => e = .returned (.tuple #[.int .u64 ((lo / y : Nat) : Int), .int .u64 ((lo % y : Nat) : Int)]) ∧ ∃ n, w' = w.drewN n := by
  go_enter Tryz.func72, Tryz.ntmps72
  go_wp2_with fail
  go_quiet (fail)
  go_wp2_with fail
  go_ret2
  refine ⟨ret_pair ?_ ?_, ⟨_, rfl⟩⟩
  · rw [show (lo : Int) / (y : Int) = ((lo / y : Nat) : Int) by simp]
    exact wrapN _ (Nat.lt_of_le_of_lt (Nat.div_le_self _ _) hl)
  · simp

set_option maxRecDepth 100000 in
set_option maxHeartbeats 1000000 in
theorem div64_big (hi lo y s : Nat) (w : World) (hl : lo < B64) (hy : y < B64) (hlt : hi < y) (h0 : 0 < hi) (hs : Lib.bitLen y + s = 64) (s63 : s ≤ 63) :
    Calls Tryz.prog 72 #[.int .u64 hi, .int .u64 lo, .int .u64 y] w fun e w' => e = .returned (.tuple #[.int .u64 ((nat2 hi lo / y : Nat) : Int), .int .u64 ((nat2 hi lo % y : Nat) : Int)]) ∧ w = w' := by
  obtain ⟨Y, y1, y0, U, V, v1, v0, pp⟩ := div_prep hi lo y s hl hy hlt hs
  have HS := Lib.hid hs
  clear hs
  have P := Lib.hid pp
  clear pp
  obtain ⟨D1, hD1⟩ : ∃ D, D = (U * B32 + v1) / (y1 * B32 + y0) := ⟨_, rfl⟩
  have HD1 := Lib.hid hD1
  clear hD1
  have y0pos : 0 < Y := by have := P.out.dig1.ypos; have := P.out.Yhalf; omega
  have HR1 := Lib.hid (rest_of U v1 Y P.out.Ylt y0pos)
  obtain ⟨M, hM⟩ : ∃ M, M = (U * B32 + v1) % Y := ⟨_, rfl⟩
  rw [← hM] at HR1
  have eYY := P.out.Yhalf
  rw [← eYY] at HD1
  rw [← HD1.out] at HR1
  have Mlt : M < Y := by rw [hM]; exact Nat.mod_lt _ y0pos
  have dig2 : Dig M v0 y1 y0 := ⟨P.out.dig1.y0lt, P.out.dig1.y1lt, P.out.dig1.y1ge, by rw [← eYY]; exact Mlt, P.out.v0lt⟩
  obtain ⟨D0, hD0⟩ : ∃ D, D = (M * B32 + v0) / (y1 * B32 + y0) := ⟨_, rfl⟩
  have HD0 := Lib.hid hD0
  clear hD0
  rw [← eYY] at HD0
  have HR2 := Lib.hid (rest_of M v0 Y P.out.Ylt y0pos)
  rw [← HD0.out] at HR2
  have HM := Lib.hid hM
  have HYY := Lib.hid eYY
  have d1lt : D1 < 4294967296 := by
    have h := P.out.dig1.digit_lt
    rw [← HYY.out, ← HD1.out] at h
    exact h
  have d0lt : D0 < 4294967296 := by
    have h := dig2.digit_lt
    rw [← HYY.out, ← HD0.out] at h
    exact h
  have HFin := Lib.hid (show nat2 hi lo / y = D1 * 4294967296 + D0 ∧ nat2 hi lo % y = (M * B32 + v0) % Y / 2 ^ s by
    have h2 := two_digits U v1 v0 Y y0pos
    have h3 := shifted (nat2 hi lo) y (2 ^ s) (Nat.two_pow_pos s)
    rw [P.out.whole, ← P.out.eY] at h3
    rw [← HM.out, ← HD1.out, ← HD0.out] at h2
    rw [← h3.1, ← h3.2, h2.1, h2.2]
    exact ⟨rfl, rfl⟩)
  clear hM eYY
  have M64 : M < B64 := Nat.lt_trans Mlt P.out.Ylt
  have U64 : U < B64 := by have := P.out.dig1.ult; have := P.out.Yhalf; have := P.out.Ylt; omega
  have b1 : y1 < 4294967296 := P.out.dig1.y1lt
  have b2 : 2147483648 ≤ y1 := P.out.dig1.y1ge
  have b3 : y0 < 4294967296 := P.out.dig1.y0lt
  have b4 : v1 < 4294967296 := P.out.dig1.vlt
  have b5 : v0 < 4294967296 := P.out.v0lt
  go_enter Tryz.func72, Tryz.ntmps72
  go_upto_region 15 with (go_at_call 87; refine (lead_any _ _ _ hy HS.out).mono ?_; rintro e w' ⟨rfl, rfl⟩)
  simp only [P.out.iY, P.out.iy1, P.out.iy0, P.out.iU, P.out.iV, P.out.iv1, P.out.iv0]
  go_upto_block 0 with fail
  simp only [guess_q U y1 U64, guess_r U y1 U64]
  go_cut [15] (fun q wx => q = .int .u64 (D1 : Int) ∧ wx = w)
  case first =>
    go_wp2_with fail
    go_loopg [15, 16] (U / y1) (fun k q r wr => ∃ Q R : Int, q = .int .u64 Q ∧ r = .int .u64 R ∧ 0 ≤ Q ∧ 0 ≤ R ∧ DInv U v1 y1 y0 Q.toNat R.toNat ∧ Q.toNat ≤ k ∧ wr = w)
    case atStart => exact ⟨_, _, rfl, rfl, Int.natCast_nonneg _, Int.natCast_nonneg _, by rw [Int.toNat_natCast, Int.toNat_natCast]; exact P.out.dig1.start, by rw [Int.toNat_natCast]; exact Nat.le_refl _, rfl⟩
    case round =>
      obtain ⟨Q, R, rfl, rfl, q0, r0, iv, hk, rfl⟩ := hrel
      have c1 : R < 4294967296 := by have := iv.rlt; unfold B32 at this; omega
      have c2 : Q ≤ 4294967297 := by have := iv.qle; unfold B32 at this; omega
      by_cases t1 : 4294967296 ≤ Q
      · have c3 : 1 ≤ Q := by omega
        have HT := Lib.hid (show B32 ≤ Q.toNat ∨ B32 * R.toNat + v1 < Q.toNat * y0 from .inl (by unfold B32; omega))
        by_cases t3 : 4294967296 ≤ R + y1
        · have HO := Lib.hid (iv.out P.out.dig1 HT.out (by unfold B32; omega))
          rw [← HYY.out, ← HD1.out] at HO
          go_wp2_with fail
          go_meet
          exact ⟨val_int (by have := HO.out; omega), rfl⟩
        · have HO := Lib.hid (iv.next P.out.dig1 HT.out (by unfold B32; omega))
          go_wp2_with fail
          go_roundg (gk - 1)
          case measure => omega
          case rel => exact ⟨Q - 1, R + y1, rfl, rfl, by omega, by omega, by have := HO.out; rwa [show Q.toNat - 1 = (Q - 1).toNat by omega, show R.toNat + y1 = (R + y1).toNat by omega] at this, by omega, rfl⟩
      · by_cases t2 : 4294967296 * R + (v1 : Int) < IntKind.u64.wrap (Q * (y0 : Int))
        · have HT := Lib.hid (show B32 ≤ Q.toNat ∨ B32 * R.toNat + v1 < Q.toNat * y0 from .inr ((test_int Q R y0 v1 q0 r0 (by omega) b3).1 t2))
          have c3 : 1 ≤ Q := by have := Nat.le_trans (Nat.le_add_left 1 _) (iv.yes P.out.dig1 HT.out); omega
          by_cases t3 : 4294967296 ≤ R + y1
          · have HO := Lib.hid (iv.out P.out.dig1 HT.out (by unfold B32; omega))
            rw [← HYY.out, ← HD1.out] at HO
            go_wp2_with fail
            go_meet
            exact ⟨val_int (by have := HO.out; omega), rfl⟩
          · have HO := Lib.hid (iv.next P.out.dig1 HT.out (by unfold B32; omega))
            go_wp2_with fail
            go_roundg (gk - 1)
            case measure => omega
            case rel => exact ⟨Q - 1, R + y1, rfl, rfl, by omega, by omega, by have := HO.out; rwa [show Q.toNat - 1 = (Q - 1).toNat by omega, show R.toNat + y1 = (R + y1).toNat by omega] at this, by omega, rfl⟩
        · have HO := Lib.hid (iv.no P.out.dig1 (Nat.le_of_not_lt (fun h => t2 ((test_int Q R y0 v1 q0 r0 (by omega) b3).2 h))))
          rw [← HYY.out, ← HD1.out] at HO
          go_wp2_with fail
          go_meet
          exact ⟨val_int (by have := HO.out; omega), rfl⟩
  case rest =>
    obtain ⟨rfl, rfl⟩ := hcut
    go_upto_region 22 with fail
    simp only [HR1.out]
    go_upto_block 2 with fail
    simp only [guess_q M y1 M64, guess_r M y1 M64]
    go_cut [18] (fun q wx => q = .int .u64 (D0 : Int) ∧ wx = wc)
    case first =>
      go_wp2_with fail
      go_loopg [18, 16] (M / y1) (fun k q r wr => ∃ Q R : Int, q = .int .u64 Q ∧ r = .int .u64 R ∧ 0 ≤ Q ∧ 0 ≤ R ∧ DInv M v0 y1 y0 Q.toNat R.toNat ∧ Q.toNat ≤ k ∧ wr = wc)
      case atStart => exact ⟨_, _, rfl, rfl, Int.natCast_nonneg _, Int.natCast_nonneg _, by rw [Int.toNat_natCast, Int.toNat_natCast]; exact dig2.start, by rw [Int.toNat_natCast]; exact Nat.le_refl _, rfl⟩
      case round =>
        obtain ⟨Q, R, rfl, rfl, q0, r0, iv, hk, rfl⟩ := hrel
        have c1 : R < 4294967296 := by have := iv.rlt; unfold B32 at this; omega
        have c2 : Q ≤ 4294967297 := by have := iv.qle; unfold B32 at this; omega
        by_cases t1 : 4294967296 ≤ Q
        · have c3 : 1 ≤ Q := by omega
          have HT := Lib.hid (show B32 ≤ Q.toNat ∨ B32 * R.toNat + v0 < Q.toNat * y0 from .inl (by unfold B32; omega))
          by_cases t3 : 4294967296 ≤ R + y1
          · have HO := Lib.hid (iv.out dig2 HT.out (by unfold B32; omega))
            rw [← HYY.out, ← HD0.out] at HO
            go_wp2_with fail
            go_meet
            exact ⟨val_int (by have := HO.out; omega), rfl⟩
          · have HO := Lib.hid (iv.next dig2 HT.out (by unfold B32; omega))
            go_wp2_with fail
            go_roundg (gk - 1)
            case measure => omega
            case rel => exact ⟨Q - 1, R + y1, rfl, rfl, by omega, by omega, by have := HO.out; rwa [show Q.toNat - 1 = (Q - 1).toNat by omega, show R.toNat + y1 = (R + y1).toNat by omega] at this, by omega, rfl⟩
        · by_cases t2 : 4294967296 * R + (v0 : Int) < IntKind.u64.wrap (Q * (y0 : Int))
          · have HT := Lib.hid (show B32 ≤ Q.toNat ∨ B32 * R.toNat + v0 < Q.toNat * y0 from .inr ((test_int Q R y0 v0 q0 r0 (by omega) b3).1 t2))
            have c3 : 1 ≤ Q := by have := Nat.le_trans (Nat.le_add_left 1 _) (iv.yes dig2 HT.out); omega
            by_cases t3 : 4294967296 ≤ R + y1
            · have HO := Lib.hid (iv.out dig2 HT.out (by unfold B32; omega))
              rw [← HYY.out, ← HD0.out] at HO
              go_wp2_with fail
              go_meet
              exact ⟨val_int (by have := HO.out; omega), rfl⟩
            · have HO := Lib.hid (iv.next dig2 HT.out (by unfold B32; omega))
              go_wp2_with fail
              go_roundg (gk - 1)
              case measure => omega
              case rel => exact ⟨Q - 1, R + y1, rfl, rfl, by omega, by omega, by have := HO.out; rwa [show Q.toNat - 1 = (Q - 1).toNat by omega, show R.toNat + y1 = (R + y1).toNat by omega] at this, by omega, rfl⟩
          · have HO := Lib.hid (iv.no dig2 (Nat.le_of_not_lt (fun h => t2 ((test_int Q R y0 v0 q0 r0 (by omega) b3).2 h))))
            rw [← HYY.out, ← HD0.out] at HO
            go_wp2_with fail
            go_meet
            exact ⟨val_int (by have := HO.out; omega), rfl⟩
    case rest =>
      obtain ⟨rfl, rfl⟩ := hcut
      go_wp2_with fail
      simp only [HR2.out]
      go_ret2
      refine ⟨ret_pair ?_ ?_, rfl⟩
      · rw [HFin.out.1]; omega
      · rw [HFin.out.2]; simp
end Go.Proofs.YtmccmgplgdmjbaaGreatDoor
