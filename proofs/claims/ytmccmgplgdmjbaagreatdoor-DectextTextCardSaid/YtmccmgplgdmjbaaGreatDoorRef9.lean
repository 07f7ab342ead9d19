/- Contracts of corrodyref01: Ten. -/
import Derived.Test.YtmccmgplgdmjbaaGreatDoorRef7
import Derived.Deep.RegionWith
namespace Go.Proofs.YtmccmgplgdmjbaaGreatDoor
set_option maxRecDepth 8000
open Go.RowKit Corr
set_option linter.unusedVariables false

theorem word_one (w : World) : Calls Tryz.prog 15 #[.int .u64 1] w (RetN w false (digs 1)) := word_any 1 w (by decide)
theorem word_ten (w : World) : Calls Tryz.prog 15 #[.int .u64 10] w (RetN w false (digs 10)) := word_any 10 w (by decide)
theorem ten_len {k : Nat} (h : k ≤ 40) : (digs (10 ^ k)).length ≤ 14 :=
  digs_len 14 _ (Nat.lt_of_le_of_lt (Nat.pow_le_pow_right (by omega) h) (by decide))

set_option maxHeartbeats 2000000 in
theorem nten_any (n : Nat) (w : World) (hn : n ≤ 40) : Calls Tryz.prog 71 #[.int .i64 n] w (RetN w false (digs (10 ^ n))) := by
  have Z0 := Box2.new w (.bool false) (.slice none 0 0) 35
  have BW : Below w.heap.size w (w.alloc (.cells #[.bool false, .slice none 0 0] 35)) := (Below.refl _ _).alloc (Nat.le_refl _) _
  go_enter Tryz.func71, Tryz.ntmps71
  go_wp2_with fail
  refine (word_one _).mono ?_
  rintro e w1 ⟨A1, k1, c1, rfl, R1, hb⟩
  have Z1 := (Z0.keep hb).alloc (.cells #[.bool false, .slice A1 k1 c1] 35)
  have X1 := Box2.new w1 (.bool false) (.slice A1 k1 c1) 35
  have RR1 := R1.alloc (.cells #[.bool false, .slice A1 k1 c1] 35)
  have B1 : Below w.heap.size w (w1.alloc (.cells #[.bool false, .slice A1 k1 c1] 35)) := (BW.trans (hb.mono (by simp))).alloc (by have := hb.size; simp at this; omega) _
  have kz : w.heap.size < w1.heap.size := by have := hb.size; simp at this; omega
  clear hb R1 Z0 BW
  go_wp2_with fail
  generalize hkx : w1.heap.size = kx at *
  generalize hwx : w1.alloc (.cells #[.bool false, .slice A1 k1 c1] 35) = wx at *
  clear hkx hwx
  go_loopw [4] (fun t wr => ∃ (i k c : Nat) (A : Option Addr), t = .int .i64 (i : Int) ∧ i ≤ n ∧ Box2 wr kx (.bool false) (.slice A k c) ∧ Row wr A k c (digs (10 ^ i)) ∧ Box2 wr w.heap.size (.bool false) (.slice none 0 0) ∧ Below w.heap.size w wr) (fun t _ => n - (intOf t).toNat)
  case atStart => exact ⟨0, k1, c1, A1, rfl, Nat.zero_le _, X1, RR1, Z1, B1⟩
  case round =>
    obtain ⟨i, k, c, A, rfl, hin, X, R, Z, B⟩ := hrel
    clear X1 RR1 Z1 B1
    have x0 := X.c0; have x1 := X.c1
    have zk := X.sz
    have zz := Z.sz
    by_cases hlt : i < n
    · have hk : k ≤ 14 := by rw [← R.len]; exact ten_len (by omega)
      have HM := Lib.hid (show val false (10 ^ i) * val false 10 = ((10 ^ (i + 1) : Nat) : Int) by simp [val, Nat.pow_succ])
      have HN1 := Lib.hid (show negB ((10 ^ (i + 1) : Nat) : Int) = false from decide_eq_false (Int.not_lt.2 (Int.natCast_nonneg _)))
      have HN2 := Lib.hid (show Int.natAbs ((10 ^ (i + 1) : Nat) : Int) = 10 ^ (i + 1) by simp)
      have HTL := Lib.hid (show (digs 10).length ≤ 14 from digs_len 14 10 (by decide))
      go_upto_region 5 with fail
      go_region_with (first
        | (go_at_call 15; refine (word_ten _).mono ?_; rintro e wA ⟨A1, k1, c1, rfl, R1, hbA⟩; have XA := X.drew.keep hbA; have ZA := Z.drew.keep hbA; have RA := R.drew.keep hbA; have BA := B.drew.trans (hbA.mono B.size); have a0 := XA.c0; have a1 := XA.c1)
        | (go_at_call 33; refine (nmul_any _ _ _ _ _ _ _ _ _ _ _ _ RA R1 (by omega) (by have h1 := R1.len; have h2 := HTL.out; omega) HM.out).mono ?_; rintro e wB ⟨A2, k2, c2, rfl, R2, hbB⟩; rw [HN1.out]; rw [HN2.out] at R2; have XB := XA.keep hbB; have ZB := ZA.keep hbB; have BB := BA.trans (hbB.mono BA.size); have b0 := XB.c0; have b1 := XB.c1; have b2 := XB.f 0; have b3 := XB.f 1))
      all_goals
        have HR2 := Lib.hid (R2.far (XB.ne_row (by intro k z h; cases h) R2) (.bool false) (.slice A2 k2 c2))
        have HX2 := Lib.hid (XB.stored (.bool false) (.slice A2 k2 c2))
        have HZ2 := Lib.hid (ZB.far (g := kx) (by omega) (.bool false) (.slice A2 k2 c2))
        have HB2 := Lib.hid ((BB.setCell (p := ⟨kx, 0, none⟩) (by simp; omega) (.bool false)).setCell (p := ⟨kx, 1, none⟩) (by simp; omega) (.slice A2 k2 c2))
        clear R2 R1 RA XA XB ZA ZB BA BB
        go_wp2_with fail
        go_roundw
        case rel => exact ⟨i + 1, k2, c2, A2, by go_num, by omega, HX2.out, HR2.out, HZ2.out, HB2.out⟩
        case measure => simp [intOf]; omega
    · have hii : i = n := by omega
      have HR := Lib.hid (show ∀ a b, Row ((wr.setCell ⟨w.heap.size, 0, none⟩ a).setCell ⟨w.heap.size, 1, none⟩ b) A k c (digs (10 ^ n)) from fun a b => by
        have h := R.far (Z.ne_row (by intro k z h; cases h) R) a b
        rw [hii] at h
        exact h)
      have z0 := Z.c0; have z1 := Z.c1; have z2 := Z.f 0; have z3 := Z.f 1
      clear R hii
      go_wp2_with fail
      refine bodyPost_ret (v := .agg #[.bool false, .slice A k c]) (by simp [results, Tryz.results71, go_sem, z0, z1]) rfl ⟨A, k, c, rfl, HR.out _ _, ?_⟩
      exact (B.setCell (by simp) _).setCell (by simp) _
end Go.Proofs.YtmccmgplgdmjbaaGreatDoor
