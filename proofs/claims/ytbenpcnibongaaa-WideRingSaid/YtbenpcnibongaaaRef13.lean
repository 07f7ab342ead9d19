/- Contracts of corrodyref01: Down of two numbers that are not below 0; As. -/
import Derived.Test.YtbenpcnibongaaaRef12
import Derived.Test.YtbenpcnibongaaaMem
namespace Corr
open Go Go.RowKit
/-- What a call leaves that tells two numbers, none below 0, as rows. -/
def RetTwo (w : World) (q r : Nat) (e : Ending) (w' : World) : Prop :=
  ∃ A k c A' k' c', e = .returned (.tuple #[.agg #[.bool false, .slice A k c], .agg #[.bool false, .slice A' k' c']]) ∧ Row w' A k c (digs q) ∧ Row w' A' k' c' (digs r) ∧ Below w.heap.size w w'
theorem B64_pos : 0 < B64 := by decide
/-- What As leaves. -/
def RetAs (w : World) (s : Bool) (a : Nat) (e : Ending) (w' : World) : Prop :=
  (a < B128 ∧ e = .returned (.tuple #[WV s (hiW a) (loW a), .bool true]) ∨ ¬ a < B128 ∧ e = .returned (.tuple #[WV false 0 0, .bool false])) ∧ Below w.heap.size w w'
theorem row_le {w : World} {A : Option Addr} {n c a k : Nat} (h : Row w A n c (digs a)) (ha : a < 1000 ^ k) : n ≤ k := by rw [← h.len]; exact digs_len k a ha
end Corr
namespace Go.Proofs.Ytbenpcnibongaaa
open Go.RowKit Corr
set_option linter.unusedVariables false
theorem ndown_nat (A B : Option Addr) (n m ca cb a b : Nat) (w : World) (hx : Row w A n ca (digs a)) (hy : Row w B m cb (digs b)) (hn : n ≤ 1000) (hm : m ≤ 1000) (hb : 0 < b) :
    Calls Try.prog 29 #[.agg #[.bool false, .slice A n ca], .agg #[.bool false, .slice B m cb]] w (RetTwo w (a / b) (a % b)) := by
  refine (ndown_any false A B n m ca cb a b w hx hy hn hm hb).mono ?_
  rintro e w' ⟨A1, k1, c1, A2, k2, c2, rfl, R1, R2, hb⟩
  rw [show val false a / (b : Int) = ((a / b : Nat) : Int) from rfl, Int.natAbs_natCast] at R1
  rw [show val false a % (b : Int) = ((a % b : Nat) : Int) from rfl, Int.natAbs_natCast] at R2
  refine ⟨A1, k1, c1, A2, k2, c2, ?_, R1, R2, hb⟩
  rw [show val false a / (b : Int) = ((a / b : Nat) : Int) from rfl, show val false a % (b : Int) = ((a % b : Nat) : Int) from rfl, negB_nat, negB_nat]
theorem word_32 (w : World) : Calls Try.prog 14 #[.int .u64 4294967296] w (RetN w false (digs B32)) := word_any B32 w (by decide)

set_option maxHeartbeats 2000000 in
theorem nas_any (s : Bool) (A : Option Addr) (n c a : Nat) (w : World) (hx : Row w A n c (digs a)) (hn : n ≤ 1000) :
    Calls Try.prog 9 #[.agg #[.bool s, .slice A n c]] w (RetAs w s a) := by
  have S0 := (((Mem.start w).add hx).push #[.bool s, .slice A n c] 27).push #[.bool false, .int .u64 0, .int .u64 0] 24
  simp only [size_alloc] at S0
  go_enter Try.func9, Try.ntmps9
  go_wp2_with fail
  refine (word_32 _).mono ?_
  rintro e w1 ⟨A1, k1, c1, rfl, R1, hb1⟩
  have hk1 := row_le (k := 4) R1 (by decide)
  have S1 := (S0.keep hb1).add R1
  clear S0 hb1 R1
  go_wp2_with fail
  refine (word_32 _).mono ?_
  rintro e w2 ⟨A2, k2, c2, rfl, R2, hb2⟩
  have hk2 := row_le (k := 4) R2 (by decide)
  have S2 := (S1.keep hb2).add R2
  clear S1 hb2 R2
  go_wp2_with fail
  refine (nmul_nat _ _ _ _ _ _ _ _ _ (S2.r 1 rfl) (S2.r 2 rfl) (by omega) (by omega)).mono ?_
  rintro e w3 ⟨A3, k3, c3, rfl, R3, hb3⟩
  rw [B32_sq] at R3
  have hk3 := row_le (k := 7) R3 (by decide)
  have S3 := ((S2.keep hb3).add R3).push #[.bool false, .slice A3 k3 c3] 27
  clear S2 hb3 R3
  have x1 := S3.c 0 1 rfl rfl; have y0 := S3.c 2 0 rfl rfl; have y1 := S3.c 2 1 rfl rfl
  go_wp2_with fail
  refine (ndown_nat _ _ _ _ _ _ _ _ _ (S3.r 0 rfl) (S3.r 3 rfl) (by omega) (by omega) B64_pos).mono ?_
  rintro e w4 ⟨A4, k4, c4, A5, k5, c5, rfl, R4, R5, hb4⟩
  rw [show a / B64 = hiW a from rfl] at R4
  rw [show a % B64 = loW a from rfl] at R5
  have hk4 : k4 ≤ 1000 := by have h1 := R4.len; have h2 := hx.len; have h3 := len_le (show hiW a ≤ a from Nat.div_le_self _ _); omega
  have hk5 : k5 ≤ 7 := row_le R5 (Nat.lt_trans (loW_lt a) (by decide))
  have S4 := ((((S3.keep hb4).add R4).add R5).push #[.bool false, .slice A4 k4 c4] 27).push #[.bool false, .slice A5 k5 c5] 27
  simp only [size_alloc] at S4
  clear S3 hb4 R4 R5 x1 y0 y1
  have h0 := S4.c 3 0 rfl rfl; have h1 := S4.c 3 1 rfl rfl; have y0 := S4.c 2 0 rfl rfl; have y1 := S4.c 2 1 rfl rfl
  go_wp2_with fail
  refine (ncmp_nat _ _ _ _ _ _ _ _ _ (S4.r 4 rfl) (S4.r 3 rfl) (by omega) (by omega)).mono ?_
  rintro e w5 ⟨rfl, hb5⟩
  have S5 := S4.keep hb5
  have HL := Lib.hid (loW_lt a)
  clear S4 hb5 h0 h1 y0 y1
  by_cases ha : a < B128
  · have HH := Lib.hid (hiW_lt ha)
    obtain ⟨cc, hcc⟩ : ∃ cc, cmpI (hiW a : Int) (B64 : Int) = cc := ⟨_, rfl⟩
    have hc0 : cc < 0 := by rw [← hcc, cmpI_lt (by have := HH.out; omega)]; omega
    rw [hcc]
    have HA := Lib.hid ha
    clear hcc ha
    obtain ⟨h, hh⟩ : ∃ h, hiW a = h := ⟨_, rfl⟩
    obtain ⟨l, hl⟩ : ∃ l, loW a = l := ⟨_, rfl⟩
    have HHE := Lib.hid hh
    have HLE := Lib.hid hl
    rw [hh, hl] at S5
    rw [hh] at HH
    rw [hl] at HL
    clear hh hl
    have RH := S5.drew.r 4 rfl
    have K5 := And.intro (S5.drew.c 0 0 rfl rfl) (And.intro (S5.drew.c 3 0 rfl rfl) (And.intro (S5.drew.c 3 1 rfl rfl) (And.intro (S5.drew.c 4 0 rfl rfl) (S5.drew.c 4 1 rfl rfl))))
    go_upto_region 5 with fail
    go_region_held3 (fun w' => w'.cell? ⟨w.heap.size, 0, none⟩ = some (.bool s) ∧ w'.cell? ⟨w4.heap.size, 0, none⟩ = some (.bool false) ∧ w'.cell? ⟨w4.heap.size, 1, none⟩ = some (.slice A4 k4 c4) ∧ w'.cell? ⟨w4.heap.size + 1, 0, none⟩ = some (.bool false) ∧ w'.cell? ⟨w4.heap.size + 1, 1, none⟩ = some (.slice A5 k5 c5))
      (first | (with_reducible exact K8) | (with_reducible exact K7) | (with_reducible exact K6) | (with_reducible exact K5))
      (first
        | (go_at_call 36; ((with_reducible refine (nword_any _ _ _ _ _ _ RH (by omega) HH.out).mono ?_)); rintro e w6 ⟨rfl, hb6⟩; have S6 := S5.drew.keep hb6; have RL := S6.r 5 rfl; have K6 := And.intro (S6.c 0 0 rfl rfl) (And.intro (S6.c 3 0 rfl rfl) (And.intro (S6.c 3 1 rfl rfl) (And.intro (S6.c 4 0 rfl rfl) (S6.c 4 1 rfl rfl)))))
        | (go_at_call 36; ((with_reducible refine (nword_any _ _ _ _ _ _ RL (by omega) HL.out).mono ?_)); rintro e w7 ⟨rfl, hb7⟩; have S7 := S6.keep hb7; have K7 := And.intro (S7.c 0 0 rfl rfl) (And.intro (S7.c 3 0 rfl rfl) (And.intro (S7.c 3 1 rfl rfl) (And.intro (S7.c 4 0 rfl rfl) (S7.c 4 1 rfl rfl)))); have S8 := S7.put3 1 rfl rfl (.bool s) (.int .u64 (h : Int)) (.int .u64 (l : Int)) rfl rfl; have K8 := And.intro (S8.c 0 0 rfl rfl) (And.intro (S8.c 3 0 rfl rfl) (And.intro (S8.c 3 1 rfl rfl) (And.intro (S8.c 4 0 rfl rfl) (S8.c 4 1 rfl rfl)))); have z0 := S7.c 1 0 rfl rfl; have z1 := S7.c 1 1 rfl rfl; have z2 := S7.c 1 2 rfl rfl; have z3 := S7.f 1 0 rfl; have z4 := S7.f 1 1 rfl; have z5 := S7.f 1 2 rfl))
    all_goals
      have HB := Lib.hid S8.bl
      clear S8 K8 K7 K6 K5 S7 S6 S5 RH RL
      go_wp2_with fail
      refine bodyPost_ret (v := .tuple #[WV s h l, .bool true]) (by simp [results, Try.results9, go_sem, z0, z1, z2]) rfl ⟨.inl ⟨HA.out, by rw [HHE.out, HLE.out]⟩, HB.out⟩
  · obtain ⟨cc, hcc⟩ : ∃ cc, cmpI (hiW a : Int) (B64 : Int) = cc := ⟨_, rfl⟩
    have hc0 : 0 ≤ cc := by
      rw [← hcc]
      have h1 : B64 ≤ hiW a := by unfold hiW; rw [Nat.le_div_iff_mul_le B64_pos]; unfold B128 at ha; omega
      by_cases e : (hiW a : Int) = (B64 : Int)
      · rw [cmpI_eq e]; omega
      · rw [cmpI_gt (by omega)]; omega
    rw [hcc]
    have HA := Lib.hid ha
    clear hcc ha
    have z0 := S5.c 1 0 rfl rfl; have z1 := S5.c 1 1 rfl rfl; have z2 := S5.c 1 2 rfl rfl; have z3 := S5.f 1 0 rfl; have z4 := S5.f 1 1 rfl; have z5 := S5.f 1 2 rfl
    have HB := Lib.hid (S5.put3 1 rfl rfl (.bool false) (.int .u64 0) (.int .u64 0) rfl rfl).bl
    go_wp2_with fail
    refine bodyPost_ret (v := .tuple #[WV false 0 0, .bool false]) (by simp [results, Try.results9, go_sem, z0, z1, z2]) rfl ⟨.inr ⟨HA.out, rfl⟩, HB.out⟩
end Go.Proofs.Ytbenpcnibongaaa
