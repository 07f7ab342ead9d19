/- Contracts of corrodyref01: Add of two numbers that are not below 0; Wide. (Written by wip/gen/genref15.py.) -/
import Derived.Test.YtbenpcnibongaaaRef14
namespace Go.Proofs.Ytbenpcnibongaaa
open Go.RowKit Corr
set_option linter.unusedVariables false
theorem nadd_nat (A B : Option Addr) (n m ca cb a b : Nat) (w : World) (hx : Row w A n ca (digs a)) (hy : Row w B m cb (digs b)) (hn : n ≤ 5000) (hm : m ≤ 5000) :
    Calls Try.prog 15 #[.agg #[.bool false, .slice A n ca], .agg #[.bool false, .slice B m cb]] w (RetN w false (digs (a + b))) := by
  have h := nadd_any false false A B n m ca cb a b ((a + b : Nat) : Int) w hx hy hn hm (by simp [val])
  rw [negB_nat, Int.natAbs_natCast] at h
  exact h

set_option maxHeartbeats 4000000 in
theorem nwide_any (s : Bool) (h l : Nat) (z : Int) (w : World) (hh : h < B64) (hl : l < B64) (hz : val s (nat2 h l) = z) :
    Calls Try.prog 6 #[WV s h l] w (RetN w (negB z) (digs z.natAbs)) := by
  have S0 := ((Mem.start w).push #[.bool s, .int .u64 (h : Int), .int .u64 (l : Int)] 24).push #[.bool false, .slice none 0 0] 27
  simp only [size_alloc] at S0
  have HP := Lib.hid (show h * B64 < 1000 ^ 14 from Nat.lt_of_le_of_lt (Nat.mul_le_mul_right _ (Nat.le_of_lt hh)) (by decide))
  have HBB := Lib.hid (show nzB s (h * B64 + l) = negB z by rw [sgn_neg, show h * B64 + l = nat2 h l from rfl, hz])
  have HZA := Lib.hid (show h * B64 + l = z.natAbs by rw [← hz, natAbs_val]; rfl)
  clear hz
  generalize hbb : negB z = bb at *
  generalize hza : z.natAbs = za at *
  clear hbb hza
  go_enter Try.func6, Try.ntmps6
  go_wp2_with fail
  refine (word_32 _).mono ?_
  rintro e w1 ⟨A1, k1, c1, rfl, R1, hb1⟩
  have hk1 := row_le (k := 4) R1 (by decide)
  have S1 := (S0.keep hb1).add R1
  clear S0 hb1 R1
  go_wp2_with fail
  refine (word_32 _).mono ?_
  rintro e w2 ⟨A2, k2, c2, rfl, R2, hb2⟩
  have hk2 := row_le (k := 4) R2 (by decide)
  have S2 := (S1.keep hb2).add R2
  clear S1 hb2 R2
  go_wp2_with fail
  refine (nmul_nat _ _ _ _ _ _ _ _ _ (S2.r 0 rfl) (S2.r 1 rfl) (by omega) (by omega)).mono ?_
  rintro e w3 ⟨A3, k3, c3, rfl, R3, hb3⟩
  rw [B32_sq] at R3
  have hk3 := row_le (k := 7) R3 (by decide)
  have S3 := ((S2.keep hb3).add R3).push #[.bool false, .slice A3 k3 c3] 27
  clear S2 hb3 R3
  go_upto_region 2 with fail
  go_cut [4] (fun t wx => ∃ (g k7 c7 : Nat) (A7 : Option Addr), t = .pointer (some ⟨g, 0, none⟩) ∧ Mem w wx [(w.heap.size, #[.bool s, .int .u64 (h : Int), .int .u64 (l : Int)]), (w.heap.size + 1, #[.bool false, .slice none 0 0]), (w3.heap.size, #[.bool false, .slice A3 k3 c3]), (g, #[.bool false, .slice A7 k7 c7])] [(A7, k7, c7, digs (h * B64 + l))])
  case first =>
    have M0_0 := S3.drew
    have K0_0 := And.intro (M0_0.c 0 1 rfl rfl) (And.intro (M0_0.c 0 2 rfl rfl) (And.intro (M0_0.c 2 0 rfl rfl) (M0_0.c 2 1 rfl rfl)))
    have M0_1 := (S3.push #[.bool false, .slice none 0 0] 27).drew
    (try simp only [size_alloc] at M0_1)
    have K0_1 := And.intro (M0_1.c 0 1 rfl rfl) (And.intro (M0_1.c 0 2 rfl rfl) (And.intro (M0_1.c 2 0 rfl rfl) (M0_1.c 2 1 rfl rfl)))
    go_region_held3 (fun w' => w'.cell? ⟨w.heap.size, 1, none⟩ = some (.int .u64 (h : Int)) ∧ w'.cell? ⟨w.heap.size, 2, none⟩ = some (.int .u64 (l : Int)) ∧ w'.cell? ⟨w3.heap.size, 0, none⟩ = some (.bool false) ∧ w'.cell? ⟨w3.heap.size, 1, none⟩ = some (.slice A3 k3 c3))
      (first | (with_reducible exact KF) | (with_reducible exact KG) | (with_reducible exact K4_0) | (with_reducible exact K4_1) | (with_reducible exact K3_0) | (with_reducible exact K3_1) | (with_reducible exact K2_0) | (with_reducible exact K2_1) | (with_reducible exact K1_0) | (with_reducible exact K1_1) | (with_reducible exact K0_0) | (with_reducible exact K0_1))
      (first
        | (go_at_call 14; ((with_reducible refine (word_any h _ hh).mono ?_)); rintro e wa1 ⟨A4, k4, c4, rfl, R4, hb⟩; (first | (with_reducible have S_1 := M0_0.keep hb) | (with_reducible have S_1 := M0_1.keep hb)); have M1_0 := (S_1.add R4); have K1_0 := And.intro (M1_0.c 0 1 rfl rfl) (And.intro (M1_0.c 0 2 rfl rfl) (And.intro (M1_0.c 2 0 rfl rfl) (M1_0.c 2 1 rfl rfl))); have R1_0_3 := M1_0.r 3 rfl; have R1_0_2 := M1_0.r 2 rfl; have M1_1 := ((S_1.add R4).push #[.bool false, .slice none 0 0] 27); (try simp only [size_alloc] at M1_1); have K1_1 := And.intro (M1_1.c 0 1 rfl rfl) (And.intro (M1_1.c 0 2 rfl rfl) (And.intro (M1_1.c 2 0 rfl rfl) (M1_1.c 2 1 rfl rfl))); have R1_1_3 := M1_1.r 3 rfl; have R1_1_2 := M1_1.r 2 rfl; clear hb; have hk4 := row_le (k := 7) R4 (Nat.lt_trans hh (by decide)); clear R4)
        | (go_at_call 10; ((with_reducible refine (nmul_nat _ _ _ _ _ _ h B64 _ ?_ ?_ (by omega) (by omega)).mono ?_)); (next => (first | (with_reducible exact R1_0_3) | (with_reducible exact R1_1_3))); (next => (first | (with_reducible exact R1_0_2) | (with_reducible exact R1_1_2))); rintro e wa2 ⟨A5, k5, c5, rfl, R5, hb⟩; (first | (with_reducible have S_2 := M1_0.keep hb) | (with_reducible have S_2 := M1_1.keep hb)); have M2_0 := (S_2.add R5); have K2_0 := And.intro (M2_0.c 0 1 rfl rfl) (And.intro (M2_0.c 0 2 rfl rfl) (And.intro (M2_0.c 2 0 rfl rfl) (M2_0.c 2 1 rfl rfl))); have M2_1 := ((S_2.add R5).push #[.bool false, .slice none 0 0] 27); (try simp only [size_alloc] at M2_1); have K2_1 := And.intro (M2_1.c 0 1 rfl rfl) (And.intro (M2_1.c 0 2 rfl rfl) (And.intro (M2_1.c 2 0 rfl rfl) (M2_1.c 2 1 rfl rfl))); clear hb; have hk5 := row_le (k := 14) R5 HP.out; clear R5)
        | (go_at_call 14; ((with_reducible refine (word_any l _ hl).mono ?_)); rintro e wa3 ⟨A6, k6, c6, rfl, R6, hb⟩; (first | (with_reducible have S_3 := M2_0.keep hb) | (with_reducible have S_3 := M2_1.keep hb)); have M3_0 := (S_3.add R6); have K3_0 := And.intro (M3_0.c 0 1 rfl rfl) (And.intro (M3_0.c 0 2 rfl rfl) (And.intro (M3_0.c 2 0 rfl rfl) (M3_0.c 2 1 rfl rfl))); have R3_0_4 := M3_0.r 4 rfl; have R3_0_5 := M3_0.r 5 rfl; have M3_1 := ((S_3.add R6).push #[.bool false, .slice none 0 0] 27); (try simp only [size_alloc] at M3_1); have K3_1 := And.intro (M3_1.c 0 1 rfl rfl) (And.intro (M3_1.c 0 2 rfl rfl) (And.intro (M3_1.c 2 0 rfl rfl) (M3_1.c 2 1 rfl rfl))); have R3_1_4 := M3_1.r 4 rfl; have R3_1_5 := M3_1.r 5 rfl; clear hb; have hk6 := row_le (k := 7) R6 (Nat.lt_trans hl (by decide)); clear R6)
        | (go_at_call 15; ((with_reducible refine (nadd_nat _ _ _ _ _ _ (h * B64) l _ ?_ ?_ (by omega) (by omega)).mono ?_)); (next => (first | (with_reducible exact R3_0_4) | (with_reducible exact R3_1_4))); (next => (first | (with_reducible exact R3_0_5) | (with_reducible exact R3_1_5))); rintro e wa4 ⟨A7, k7, c7, rfl, R7, hb⟩; (first | (with_reducible have S_4 := M3_0.keep hb) | (with_reducible have S_4 := M3_1.keep hb)); have M4_0 := (S_4.add R7); have K4_0 := And.intro (M4_0.c 0 1 rfl rfl) (And.intro (M4_0.c 0 2 rfl rfl) (And.intro (M4_0.c 2 0 rfl rfl) (M4_0.c 2 1 rfl rfl))); have M4_1 := ((S_4.add R7).push #[.bool false, .slice none 0 0] 27); (try simp only [size_alloc] at M4_1); have K4_1 := And.intro (M4_1.c 0 1 rfl rfl) (And.intro (M4_1.c 0 2 rfl rfl) (And.intro (M4_1.c 2 0 rfl rfl) (M4_1.c 2 1 rfl rfl))); clear hb; (try (have SF := M4_0.put2 3 rfl rfl (.bool false) (.slice A7 k7 c7) rfl; have KF := And.intro (SF.c 0 1 rfl rfl) (And.intro (SF.c 0 2 rfl rfl) (And.intro (SF.c 2 0 rfl rfl) (SF.c 2 1 rfl rfl))); have f0 := M4_0.c 3 0 rfl rfl; have f1 := M4_0.c 3 1 rfl rfl; have f2 := M4_0.f 3 0 rfl; have f3 := M4_0.f 3 1 rfl)); have SG := M4_0.push #[.bool false, .slice A7 k7 c7] 27; have KG := And.intro (SG.c 0 1 rfl rfl) (And.intro (SG.c 0 2 rfl rfl) (And.intro (SG.c 2 0 rfl rfl) (SG.c 2 1 rfl rfl)))))
    all_goals
      first
        | (have HF := Lib.hid (SF.only.add (SF.r 6 rfl))
           clear SF KF SG KG
           go_wp2_with fail
           go_meet
           case rel => exact ⟨_, k7, c7, A7, rfl, HF.out⟩)
        | (have HF := Lib.hid (SG.only.add (SG.r 6 rfl))
           clear SG KG
           go_wp2_with fail
           go_meet
           case rel => exact ⟨_, k7, c7, A7, rfl, HF.out⟩)
  case rest =>
    obtain ⟨g, k7, c7, A7, rfl, S8⟩ := hcut
    have x0 := S8.c 0 0 rfl rfl; have n1 := S8.c 3 1 rfl rfl
    have HK7 := Lib.hid (show k7 ≤ 100000 by
      have h1 := (S8.r 0 rfl).len
      have h2 : (digs (h * B64 + l)).length ≤ 14 := digs_len 14 _ (by
        have h3 : (h + 1) * B64 ≤ B64 * B64 := Nat.mul_le_mul_right _ hh
        have h4 : B64 * B64 < 1000 ^ 14 := by decide
        rw [Nat.add_mul, Nat.one_mul] at h3
        omega)
      omega)
    clear S3
    go_wp2_with fail
    refine (short_any _ _ _ _ _ _ (S8.r 0 rfl) (digs_lt _) HK7.out).mono ?_
    rintro e w9 ⟨A9, k9, c9, rfl, R9, hb9⟩
    rw [dv_digs, HBB.out]
    rw [dv_digs, HZA.out] at R9
    have S9 := (S8.keep hb9).add R9
    have z0 := S9.c 1 0 rfl rfl; have z1 := S9.c 1 1 rfl rfl; have z2 := S9.f 1 0 rfl; have z3 := S9.f 1 1 rfl
    have HF := Lib.hid (S9.put2 1 rfl rfl (.bool bb) (.slice A9 k9 c9) rfl)
    clear S8 S9 R9 hb9 x0 n1
    go_wp2_with fail
    refine bodyPost_ret (v := .agg #[.bool bb, .slice A9 k9 c9]) (by simp [results, Try.results6, go_sem, z0, z1]) rfl ⟨A9, k9, c9, rfl, HF.out.r 1 rfl, HF.out.bl⟩
end Go.Proofs.Ytbenpcnibongaaa
