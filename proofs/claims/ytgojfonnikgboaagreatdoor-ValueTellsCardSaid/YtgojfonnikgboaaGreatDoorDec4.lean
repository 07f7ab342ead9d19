/- Contracts of corrodyref02: Is, Round, Put, May, Cmp, Add, Sub. (Written by wip/gen/gendec3.py.) Contracts of corrodyref02: Cmp, Mul, Round, Put, Is. (Written by wip/gen/gendec4.py.) -/
import Derived.Test.YtgojfonnikgboaaGreatDoorDec2
namespace Corr
set_option maxRecDepth 8000
open Go Go.RowKit
theorem evZ_abs (z : Int) (d : Nat) (h : 0 < d) : (evZ z d).natAbs ≤ z.natAbs + 1 := by
  have h1 : (z / (d : Int)).natAbs ≤ z.natAbs := by
    rcases Int.lt_or_le z 0 with h2 | h2
    · have h3 : z ≤ z / (d : Int) := by
        rw [Int.le_ediv_iff_mul_le (by omega)]
        have : (-z) * 1 ≤ (-z) * (d : Int) := Int.mul_le_mul_of_nonneg_left (by omega) (by omega)
        have h5 : z * (d : Int) = -((-z) * (d : Int)) := by rw [Int.neg_mul, Int.neg_neg]
        rw [h5]; omega
      have h4 : z / (d : Int) ≤ 0 := Int.ediv_le_of_le_mul (by omega) (by omega)
      omega
    · have h3 : 0 ≤ z / (d : Int) := Int.ediv_nonneg h2 (by omega)
      have h4 : z / (d : Int) ≤ z := Int.ediv_le_self _ h2
      omega
  unfold evZ
  split <;> omega
theorem units_lt {C z : Int} {S : Nat} (h1 : -9223372036854775808 ≤ C) (h2 : C ≤ 9223372036854775807) (hz : C * ((10 ^ (18 - S) : Nat) : Int) = z) : z.natAbs < 10 ^ 37 := by
  rw [← hz, Int.natAbs_mul, Int.natAbs_natCast]
  have h3 : C.natAbs ≤ 9223372036854775808 := by omega
  have h4 : 10 ^ (18 - S) ≤ 10 ^ 18 := Nat.pow_le_pow_right (by omega) (by omega)
  exact Nat.lt_of_le_of_lt (Nat.mul_le_mul h3 h4) (by decide)
end Corr
namespace Go.Proofs.YtgojfonnikgboaaGreatDoor
set_option maxRecDepth 8000
open Go.RowKit Corr
set_option linter.unusedVariables false

end Go.Proofs.YtgojfonnikgboaaGreatDoor
namespace Go.Proofs.YtgojfonnikgboaaGreatDoor
set_option maxRecDepth 8000
open Go.RowKit Corr
set_option linter.unusedVariables false
set_option maxHeartbeats 2000000 in
theorem nround_any (C : Int) (S s : Nat) (zx u : Int) (w : World) (hC1 : -9223372036854775808 ≤ C) (hC2 : C ≤ 9223372036854775807) (hS : S ≤ 9) (hs : s ≤ 9) (hzx : C * ((10 ^ (18 - S) : Nat) : Int) = zx) (hu : evZ zx (10 ^ (18 - s)) = u) :
    Calls Tryz.prog 24 #[.agg #[.int .i64 C, .int .i64 (S : Int)], .int .i64 (s : Int)] w fun e w' => e = .returned (.tuple #[.agg #[.int .i64 (mC u s), .int .i64 (mS u s : Int)], .int .i64 (mE u s)]) ∧ Below w.heap.size w w' := by
  have S0 := ((Mem.start w).push #[.int .i64 C, .int .i64 (S : Int)] 23).push #[.int .i64 0, .int .i64 0] 23
  simp only [size_alloc] at S0
  obtain ⟨c, hc⟩ : ∃ c, mC u s = c := ⟨_, rfl⟩
  obtain ⟨t, ht⟩ : ∃ t, mS u s = t := ⟨_, rfl⟩
  obtain ⟨e, he⟩ : ∃ e, mE u s = e := ⟨_, rfl⟩
  have HM := Lib.hid (And.intro hc (And.intro ht he))
  have hxa : zx.natAbs < 10 ^ 37 := units_lt hC1 hC2 hzx
  have HKX := Lib.hid (show zx.natAbs < 1000 ^ 60 from Nat.lt_trans hxa (by decide))
  have HKU := Lib.hid (show u.natAbs < 1000 ^ 60 from Nat.lt_of_le_of_lt (by rw [← hu]; exact evZ_abs zx _ (Nat.pow_pos (by omega))) (Nat.lt_trans (Nat.succ_lt_succ hxa) (by decide)))
  have HX := Lib.hid hzx; have HU := Lib.hid hu
  clear hc ht he hzx hu hxa
  rw [HM.out.1, HM.out.2.1, HM.out.2.2]
  go_enter Tryz.func24, Tryz.ntmps24
  go_wp2_with fail
  refine (nunits_any C S zx _ hC1 hC2 hS HX.out).mono ?_
  rintro e1 w1 ⟨A1, k1, c1, rfl, R1, hb⟩
  have S1 := (S0.keep hb).add R1
  have hk1 := row_le (k := 60) R1 HKX.out
  clear S0 hb R1
  go_wp2_with fail
  refine (nnear_any _ _ _ _ _ s zx u _ (S1.r 0 rfl) (by omega) (by omega) rfl HU.out rfl).mono ?_
  rintro e2 w2 ⟨A2, k2, c2, rfl, R2, hb⟩
  have S2 := (S1.keep hb).add R2
  have hk2 := row_le (k := 60) R2 HKU.out
  clear S1 hb R2
  go_wp2_with fail
  refine (nmade_any _ _ _ _ s u _ (S2.r 1 rfl) (by omega) (by omega) rfl).mono ?_
  rintro e3 w3 ⟨rfl, hb⟩
  rw [HM.out.1, HM.out.2.1, HM.out.2.2]
  have S3 := (S2.keep hb).only
  have za := S3.c 1 0 rfl rfl; have zb := S3.c 1 1 rfl rfl; have zc := S3.f 1 0 rfl; have zd := S3.f 1 1 rfl
  have HF := Lib.hid (S3.put20 1 rfl (.int .i64 c) (.int .i64 (t : Int)))
  clear S2 S3 hb
  go_wp2_with fail
  exact bodyPost_ret (v := .tuple #[.agg #[.int .i64 c, .int .i64 (t : Int)], .int .i64 e]) (by simp [results, Tryz.results24, go_sem, za, zb]) rfl ⟨rfl, HF.out.bl⟩

set_option maxHeartbeats 2000000 in
theorem nput_any (C : Int) (S : Nat) (zx u : Int) (w : World) (hC1 : -9223372036854775808 ≤ C) (hC2 : C ≤ 9223372036854775807) (hS : S ≤ 9) (hzx : C * ((10 ^ (18 - S) : Nat) : Int) = zx) (hu : evZ zx (10 ^ (18 - 9)) = u) :
    Calls Tryz.prog 15 #[.agg #[.int .i64 C, .int .i64 (S : Int)]] w fun e w' => e = .returned (.tuple #[.agg #[.int .i64 (mC u 9), .int .i64 (mS u 9 : Int)], .int .i64 (mE u 9)]) ∧ Below w.heap.size w w' := by
  have S0 := ((Mem.start w).push #[.int .i64 C, .int .i64 (S : Int)] 23).push #[.int .i64 0, .int .i64 0] 23
  simp only [size_alloc] at S0
  have HR := Lib.hid (fun w => nround_any C S 9 zx u w hC1 hC2 hS (by omega) hzx hu)
  obtain ⟨c, hc⟩ : ∃ c, mC u 9 = c := ⟨_, rfl⟩
  obtain ⟨t, ht⟩ : ∃ t, mS u 9 = t := ⟨_, rfl⟩
  obtain ⟨e, he⟩ : ∃ e, mE u 9 = e := ⟨_, rfl⟩
  rw [hc, ht, he] at HR ⊢
  clear hzx hu hc ht he
  go_enter Tryz.func15, Tryz.ntmps15
  go_wp2_with fail
  refine (HR.out _).mono ?_
  rintro e3 w3 ⟨rfl, hb⟩
  have S3 := S0.keep hb
  have za := S3.c 1 0 rfl rfl; have zb := S3.c 1 1 rfl rfl; have zc := S3.f 1 0 rfl; have zd := S3.f 1 1 rfl
  have HF := Lib.hid (S3.put20 1 rfl (.int .i64 c) (.int .i64 (t : Int)))
  clear S0 S3 hb
  go_wp2_with fail
  exact bodyPost_ret (v := .tuple #[.agg #[.int .i64 c, .int .i64 (t : Int)], .int .i64 e]) (by simp [results, Tryz.results15, go_sem, za, zb]) rfl ⟨rfl, HF.out.bl⟩

theorem nis_yes (C S : Int) (w : World) (h0 : 0 ≤ S) (h9 : S ≤ 9) : Calls Tryz.prog 13 #[.agg #[.int .i64 C, .int .i64 S]] w fun e w' => e = .returned (.bool true) ∧ Below w.heap.size w w' := by
  go_enter Tryz.func13, Tryz.ntmps13
  go_wp2_with fail
  go_ret
  exact ⟨rfl, (Below.refl _ _).alloc (Nat.le_refl _) _⟩
theorem nis_no (C S : Int) (w : World) (h : S < 0 ∨ 9 < S) : Calls Tryz.prog 13 #[.agg #[.int .i64 C, .int .i64 S]] w fun e w' => e = .returned (.bool false) ∧ Below w.heap.size w w' := by
  rcases h with h | h
  · go_enter Tryz.func13, Tryz.ntmps13
    go_wp2_with fail
    go_ret
    exact ⟨rfl, (Below.refl _ _).alloc (Nat.le_refl _) _⟩
  · have h0 : 0 ≤ S := by omega
    have h1 : decide (S ≤ 9) = false := decide_eq_false (by omega)
    go_enter Tryz.func13, Tryz.ntmps13
    go_wp2_with fail
    go_ret
    exact ⟨rfl, (Below.refl _ _).alloc (Nat.le_refl _) _⟩
end Go.Proofs.YtgojfonnikgboaaGreatDoor
