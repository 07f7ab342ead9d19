/- WideDivides, where the divisor is 0. -/
import Derived.Test.YtbenpcnibongaaaDiv
namespace Go.Proofs.Ytbenpcnibongaaa
open Go.RowKit Corr
set_option linter.unusedVariables false

set_option maxRecDepth 100000 in
set_option maxHeartbeats 8000000 in
theorem divides_zero (s : Bool) (h l : Nat) (nn : Int) (w : World) (hh : h < B64) (hl : l < B64) (n0 : -9223372036854775808 ≤ nn) (n1 : nn ≤ 9223372036854775807) :
    Calls Try.prog 4 #[WV s h l, .int .u64 0, .int .i64 nn] w fun e w' => e = .returned (.bool true) ∧ Below w.heap.size w w' := by
  have HD1 := Lib.hid (fun w => div_zero s h l w)
  have HD2 := Lib.hid (fun w => even_zero s h l w)
  have HD3 := Lib.hid (fun w => floor_zero s h l w)
  have S0 := (Mem.start w).push #[.bool s, .int .u64 (h : Int), .int .u64 (l : Int)] 24
  go_enter Try.func4, Try.ntmps4
  go_wp2_with fail
  refine (HD1.out _).mono ?_
  rintro e w1 ⟨rfl, hb⟩
  have S1 := (S0.keep hb).push #[.bool false, .int .u64 0, .int .u64 0] 24
  clear S0 hb
  have x0 := S1.c 0 0 rfl rfl; have x1 := S1.c 0 1 rfl rfl; have x2 := S1.c 0 2 rfl rfl
  go_wp2_with fail
  refine (HD2.out _).mono ?_
  rintro e w2 ⟨rfl, hb⟩
  have S2 := (S1.keep hb).push #[.bool false, .int .u64 0, .int .u64 0] 24
  clear S1 hb x0 x1 x2
  have x0 := S2.c 0 0 rfl rfl; have x1 := S2.c 0 1 rfl rfl; have x2 := S2.c 0 2 rfl rfl
  go_wp2_with fail
  refine (HD3.out _).mono ?_
  rintro e w3 ⟨rfl, hb⟩
  have S3 := (S2.keep hb).push #[.bool false, .int .u64 0, .int .u64 0] 24
  clear S2 hb x0 x1 x2
  go_upto_region 5 with fail
  go_cut [48] (fun t wx => t = .bool (tenB nn) ∧ Mem w wx [(w.heap.size, #[.bool s, .int .u64 (h : Int), .int .u64 (l : Int)]), (w1.heap.size, #[.bool false, .int .u64 0, .int .u64 0]), (w2.heap.size, #[.bool false, .int .u64 0, .int .u64 0]), (w3.heap.size, #[.bool false, .int .u64 0, .int .u64 0])] [])
  case first =>
    by_cases g0 : 0 ≤ nn
    · by_cases g1 : nn ≤ 19
      · have HT := Lib.hid (show tenB nn = true by simp [tenB, g0, g1])
        go_wp2_with fail
        go_meet
        case rel => exact ⟨by rw [HT.out], S3⟩
      · have HT := Lib.hid (show tenB nn = false by simp [tenB, g1])
        go_wp2_with fail
        go_meet
        case rel => exact ⟨by rw [HT.out], S3⟩
    · have HT := Lib.hid (show tenB nn = false by simp [tenB, g0])
      have g2 : nn < 0 := by omega
      go_wp2_with fail
      go_meet
      case rel => exact ⟨by rw [HT.out], S3⟩
  case rest =>
  obtain ⟨rfl, S4⟩ := hcut
  clear S3
  generalize hbt : tenB nn = bt
  have HBT := Lib.hid hbt
  clear hbt
  go_upto_if 48 with fail
  go_cut [14] (fun t wx => t = .int .u64 (tenN nn : Int) ∧ Mem w wx [(w.heap.size, #[.bool s, .int .u64 (h : Int), .int .u64 (l : Int)]), (w1.heap.size, #[.bool false, .int .u64 0, .int .u64 0]), (w2.heap.size, #[.bool false, .int .u64 0, .int .u64 0]), (w3.heap.size, #[.bool false, .int .u64 0, .int .u64 0])] [])
  case first =>
    cases bt with
    | true =>
      have HN := Lib.hid (show 0 ≤ nn ∧ nn ≤ 19 by have := HBT.out; simpa [tenB] using this)
      obtain ⟨k, rfl⟩ : ∃ k : Nat, nn = (k : Int) := ⟨nn.toNat, by have := HN.out.1; omega⟩
      have hk : k ≤ 19 := by have := HN.out.2; omega
      have HT := Lib.hid (show tenN (k : Int) = 10 ^ k by unfold tenN; rw [if_pos HN.out]; simp)
      have HP := Lib.hid (show 10 ^ k < B64 from Nat.lt_of_le_of_lt (Nat.pow_le_pow_right (by omega) hk) (by decide))
      have HH := Lib.hid (hiW_small HP.out)
      have HL := Lib.hid (loW_small HP.out)
      clear n0 n1
      go_wp2_with fail
      refine (nten_any _ _ (by omega)).mono ?_
      rintro e w4 ⟨A4, k4, c4, rfl, R4, hb4⟩
      have S5 := (S4.keep hb4).add R4
      have HK := Lib.hid (row_le (k := 7) R4 (Nat.lt_trans HP.out (by decide)))
      clear S4 hb4 R4
      go_wp2_with fail
      refine (nas_any _ _ _ _ _ _ (S5.r 0 rfl) (by have := HK.out; omega)).mono ?_
      rintro e w5 ⟨⟨_, rfl⟩ | ⟨hno, _⟩, hb5⟩
      · rw [HH.out, HL.out]
        have S6 := (S5.keep hb5).push #[.bool false, .int .u64 (0 : Nat), .int .u64 ((10 ^ k : Nat) : Int)] 24
        have S7 := (S6.take 4).only
        have x2 := S6.c 4 2 rfl rfl
        clear S5 hb5 S6
        go_wp2_with fail
        go_meet
        case rel => exact ⟨by rw [HT.out]; exact val_int (by simp), S7⟩
      · exact absurd (Nat.lt_trans HP.out (by decide)) hno
    | false =>
      have HT := Lib.hid (show tenN nn = 0 by
        unfold tenN
        rw [if_neg (by have := HBT.out; simpa [tenB] using this)])
      go_wp2_with fail
      go_meet
      case rel => exact ⟨by rw [HT.out]; rfl, S4⟩
  case rest =>
    obtain ⟨rfl, S5⟩ := hcut
    clear S4 HBT
    have x0 := S5.c 1 0 rfl rfl; have x1 := S5.c 1 1 rfl rfl; have x2 := S5.c 1 2 rfl rfl
    have y0 := S5.c 2 0 rfl rfl; have y1 := S5.c 2 1 rfl rfl; have y2 := S5.c 2 2 rfl rfl
    have z0 := S5.c 3 0 rfl rfl; have z1 := S5.c 3 1 rfl rfl; have z2 := S5.c 3 2 rfl rfl
    have HB := Lib.hid S5.bl
    clear S5
    go_wp2_with fail
    refine (wten_any _ _).mono ?_
    rintro e w5 ⟨rfl, rfl⟩
    go_wp2_with fail
    refine (known_any _).mono ?_
    rintro e w6 ⟨rfl, hb⟩
    go_wp2_with fail
    go_ret
    exact ⟨rfl, HB.out.trans (hb.mono HB.out.size)⟩
end Go.Proofs.Ytbenpcnibongaaa
