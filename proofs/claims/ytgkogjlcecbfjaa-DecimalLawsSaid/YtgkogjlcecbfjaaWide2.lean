/- Contracts of package wide: Of, Neg, Mul, Times. -/
import Derived.Test.YtgkogjlcecbfjaaWide1
import Derived.Test.YtgkogjlcecbfjaaShelf
import Derived.Lib.Hide
namespace Go.Proofs.Ytgkogjlcecbfjaa
open Go.RowKit Corr
set_option linter.unusedVariables false

theorem bcell {W w1 : World} (hb : Below W.heap.size W w1) : (∀ b o, b < W.heap.size → w1.cell? ⟨b, o, none⟩ = W.cell? ⟨b, o, none⟩) ∧ (∀ b o, b < W.heap.size → w1.frozen? ⟨b, o, none⟩ = W.frozen? ⟨b, o, none⟩) :=
  ⟨fun b o h => hb.cell (p := ⟨b, o, none⟩) h, fun b o h => hb.frozen (p := ⟨b, o, none⟩) h⟩

theorem canonical_z (s : Bool) (h l : Nat) (z : Int) (w : World) (hh : h < B64) (hl : l < B64) (hz : val s (nat2 h l) = z) :
    Calls Try.prog 58 #[.bool s, .int .u64 h, .int .u64 l] w fun e w' => e = .returned (ZW z) ∧ Below w.heap.size w w' := by
  rw [← hz]; exact canonical_any s h l w hh hl

theorem of_val (n : Int) : val (decide (n < 0)) (nat2 0 n.natAbs) = n := by
  have : nat2 0 n.natAbs = n.natAbs := by unfold nat2; omega
  rw [this]; exact val_neg n

theorem of_any (n : Int) (w : World) (h1 : -9223372036854775808 ≤ n) (h2 : n ≤ 9223372036854775807) :
    Calls Try.prog 20 #[.int .i64 n] w fun e w' => e = .returned (ZW n) ∧ Below w.heap.size w w' := by
  have hb64 : n.natAbs < B64 := by unfold B64; omega
  have h0 : 0 < B64 := by decide
  have hv := Lib.hid (of_val n)
  go_enter Try.func20, Try.ntmps20
  go_wp2_with fail
  refine (size_any _ _ h1 h2).mono ?_
  rintro e w' ⟨rfl, rfl⟩
  go_wp2_with fail
  refine (canonical_z _ 0 _ _ _ h0 hb64 hv.out).mono ?_
  rintro e w1 ⟨rfl, hb⟩
  obtain ⟨hc, hf⟩ := bcell hb
  go_wp2_with fail
  refine bodyPost_ret (v := ZW n) (by simp [results, Try.results20, go_sem, hc]) rfl ⟨rfl, ?_⟩
  exact (((((Below.refl _ _).alloc (Nat.le_refl _) _).trans (hb.mono (by simp))).setCell (by simp) _).setCell (by simp) _).setCell (by simp) _

theorem neg_any (s : Bool) (h l : Nat) (z : Int) (w : World) (hh : h < B64) (hl : l < B64) (hz : val s (nat2 h l) = z) :
    Calls Try.prog 21 #[WV s h l] w fun e w' => e = .returned (ZW (-z)) ∧ Below w.heap.size w w' := by
  have hv := Lib.hid ((neg_val s (nat2 h l)).trans (congrArg Neg.neg hz))
  clear hz
  go_enter Try.func21, Try.ntmps21
  go_wp2_with fail
  refine (canonical_z _ _ _ _ _ hh hl hv.out).mono ?_
  rintro e w1 ⟨rfl, hb⟩
  obtain ⟨hc, hf⟩ := bcell hb
  go_wp2_with fail
  refine bodyPost_ret (v := ZW (-z)) (by simp [results, Try.results21, go_sem, hc]) rfl ⟨rfl, ?_⟩
  exact ((((((Below.refl _ _).alloc (Nat.le_refl _) _).alloc (by simp) _).trans (hb.mono (by simp; omega))).setCell (by simp) _).setCell (by simp) _).setCell (by simp) _

theorem mul_val (a b : Int) : val (decide (a < 0) != decide (b < 0)) (a.natAbs * b.natAbs) = a * b := by
  have hm : (a.natAbs * b.natAbs : Nat) = (a * b).natAbs := (Int.natAbs_mul a b).symm
  rw [hm]
  unfold val
  by_cases ha : a < 0 <;> by_cases hb : b < 0 <;> simp only [ha, hb, decide_true, decide_false, bne_self_eq_false, Bool.false_eq_true, if_false, if_true, bne_iff_ne, ne_eq, not_false_eq_true]
  · have : 0 ≤ a * b := Int.mul_nonneg_of_nonpos_of_nonpos (by omega) (by omega)
    omega
  · have : a * b ≤ 0 := Int.mul_nonpos_of_nonpos_of_nonneg (by omega) (by omega)
    rw [if_pos (by decide)]; omega
  · have : a * b ≤ 0 := Int.mul_nonpos_of_nonneg_of_nonpos (by omega) (by omega)
    omega
  · have : 0 ≤ a * b := Int.mul_nonneg (by omega) (by omega)
    omega

theorem mul64_any (x y : Nat) (hx : x < B64) (hy : y < B64) (w : World) :
    Calls Try.prog 56 #[.int .u64 x, .int .u64 y] w fun e w' => e = .returned (.tuple #[.int .u64 (hiW (x * y)), .int .u64 (loW (x * y))]) ∧ w = w' :=
  (Try.bits_Mul64 x y hx hy w).mono fun e w' ⟨he, hw⟩ => ⟨he, hw.symm⟩
theorem prod_lt {x y : Nat} (hx : x < B64) (hy : y < B64) : x * y < B128 := by
  have h1 : x * y ≤ (B64 - 1) * (B64 - 1) := Nat.mul_le_mul (by omega) (by omega)
  have h2 : (B64 - 1) * (B64 - 1) < B128 := by decide
  omega

theorem mul_any (a b : Int) (w : World) (a1 : -9223372036854775808 ≤ a) (a2 : a ≤ 9223372036854775807) (b1 : -9223372036854775808 ≤ b) (b2 : b ≤ 9223372036854775807) :
    Calls Try.prog 19 #[.int .i64 a, .int .i64 b] w fun e w' => e = .returned (ZW (a * b)) ∧ Below w.heap.size w w' := by
  have ha : a.natAbs < B64 := by unfold B64; omega
  have hb : b.natAbs < B64 := by unfold B64; omega
  have h1 := loW_lt (a.natAbs * b.natAbs)
  have h2 := hiW_lt (prod_lt ha hb)
  have hv := Lib.hid (show val (decide (a < 0) != decide (b < 0)) (nat2 (hiW (a.natAbs * b.natAbs)) (loW (a.natAbs * b.natAbs))) = a * b by rw [nat2_hilo]; exact mul_val a b)
  go_enter Try.func19, Try.ntmps19
  go_wp2_with fail
  refine (size_any _ _ a1 a2).mono ?_
  rintro e w' ⟨rfl, rfl⟩
  go_wp2_with fail
  refine (size_any _ _ b1 b2).mono ?_
  rintro e w' ⟨rfl, rfl⟩
  go_wp2_with fail
  refine (mul64_any _ _ ha hb _).mono ?_
  rintro e w' ⟨rfl, rfl⟩
  go_wp2_with fail
  refine (canonical_z _ _ _ _ _ h2 h1 hv.out).mono ?_
  rintro e w1 ⟨rfl, hb⟩
  obtain ⟨hc, hf⟩ := bcell hb
  go_wp2_with fail
  refine bodyPost_ret (v := ZW (a * b)) (by simp [results, Try.results19, go_sem, hc]) rfl ⟨rfl, ?_⟩
  exact (((((Below.refl _ _).alloc (Nat.le_refl _) _).trans (hb.mono (by simp))).setCell (by simp) _).setCell (by simp) _).setCell (by simp) _
end Go.Proofs.Ytgkogjlcecbfjaa
