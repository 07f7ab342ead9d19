/- Contracts of package wide in whole numbers, and the arithmetic that WideBack rests on. -/
import Derived.Test.YtgkogjlcecbfjaaSmall
namespace Go.Proofs.Ytgkogjlcecbfjaa
open Go.RowKit Corr
set_option linter.unusedVariables false

theorem val_times (z : Int) (d : Nat) : val (negB z) (z.natAbs * d) = z * d := by
  unfold val negB
  by_cases h : z < 0
  · rw [if_pos (by simpa using h)]
    obtain ⟨a, ha⟩ : ∃ a : Nat, z = -(a : Int) := ⟨z.natAbs, by omega⟩
    subst ha
    rw [Int.natAbs_neg, Int.natAbs_natCast, Int.natCast_mul, Int.neg_mul]
  · rw [if_neg (by simpa using h)]
    obtain ⟨a, ha⟩ := Int.eq_ofNat_of_zero_le (show 0 ≤ z by omega)
    subst ha
    rw [Int.natAbs_natCast, Int.natCast_mul]
theorem times_z (z : Int) (d : Nat) (w : World) (hz : z.natAbs < B128) (hd : d < B64) (hfit : z.natAbs * d < B128) :
    Calls Try.prog 10 #[ZW z, .int .u64 d] w fun e w' => e = .returned (.tuple #[ZW (z * d), .int .i64 0]) ∧ Below w.heap.size w w' := by
  have h := times_ok (negB z) (hiW z.natAbs) (loW z.natAbs) d w (hiW_lt hz) (loW_lt _) hd (by rw [nat2_hilo]; exact hfit)
  rw [nat2_hilo, val_times] at h
  exact h
theorem times_z_over (z : Int) (d : Nat) (w : World) (hz : z.natAbs < B128) (hd : d < B64) (hfit : ¬ z.natAbs * d < B128) :
    Calls Try.prog 10 #[ZW z, .int .u64 d] w fun e w' => e = .returned (.tuple #[W0, .int .i64 11]) ∧ Below w.heap.size w w' :=
  times_over' (negB z) (hiW z.natAbs) (loW z.natAbs) d w (hiW_lt hz) (loW_lt _) hd (by rw [nat2_hilo]; exact hfit)
theorem natAbs_times (z : Int) (d : Nat) : (z * d).natAbs = z.natAbs * d := by rw [Int.natAbs_mul, Int.natAbs_natCast]
theorem cmp_same (s s' : Bool) (h l h' l' : Nat) (w : World) (hh : h < B64) (hl : l < B64) (hh' : h' < B64) (hl' : l' < B64) (he : val s (nat2 h l) = val s' (nat2 h' l')) :
    Calls Try.prog 22 #[WV s h l, WV s' h' l'] w fun e w' => e = .returned (.int .i64 0) ∧ Below w.heap.size w w' := by
  have h := cmp_walk s s' h l h' l' w hh hl hh' hl'
  rw [cmpI_eq he] at h
  exact h
theorem neg_z (z : Int) (w : World) (hz : z.natAbs < B128) :
    Calls Try.prog 21 #[ZW z] w fun e w' => e = .returned (ZW (-z)) ∧ Below w.heap.size w w' :=
  neg_any _ _ _ _ w (hiW_lt hz) (loW_lt _) (val_ZW z)

theorem quo_le (n d : Nat) : quoN n d * d ≤ n := Nat.div_mul_le_self n d
theorem quo_rem (n d : Nat) : quoN n d * d + remN n d = n := by unfold quoN remN; rw [Nat.mul_comm]; exact Nat.div_add_mod n d
theorem val_mul (s : Bool) (a d : Nat) : val s a * d = val s (a * d) := by cases s <;> simp [val, Int.neg_mul]
/-- Quotient times divisor, and what is left. -/
theorem div_facts (s : Bool) (n d : Nat) : val s (quoN n d) * d + val s (remN n d) = val s n := by
  rw [val_mul, val_add, quo_rem]
theorem div_fit (s : Bool) {n d : Nat} (hn : n < B128) : (val s (quoN n d)).natAbs < B128 ∧ (val s (quoN n d)).natAbs * d < B128 := by
  rw [natAbs_val]
  exact ⟨Nat.lt_of_le_of_lt (Nat.div_le_self _ _) hn, Nat.lt_of_le_of_lt (quo_le n d) hn⟩
theorem floor_fit (s : Bool) {n d : Nat} (hn : n < B128) (h0 : 0 < d) : (val s (floorN s n d)).natAbs < B128 := by
  rw [natAbs_val]
  unfold floorN
  split
  · rename_i h; exact upF_fit hn h0 h
  · exact Nat.lt_of_le_of_lt (Nat.div_le_self _ _) hn
theorem even_fit (s : Bool) {n d : Nat} (hn : n < B128) (h0 : 0 < d) : (val s (evenN n d)).natAbs < B128 := by
  rw [natAbs_val]
  unfold evenN
  split
  · rename_i h; exact upE_fit hn h0 h
  · exact Nat.lt_of_le_of_lt (Nat.div_le_self _ _) hn
/-- Floor is not above, and less than one off. -/
theorem floor_facts (s : Bool) (n d : Nat) (h0 : 0 < d) : 0 ≤ val s n - val s (floorN s n d) * d ∧ val s n - val s (floorN s n d) * d < d := by
  have hq := quo_rem n d
  have hr : remN n d < d := rem_lt h0
  rw [val_mul]
  unfold floorN
  cases s
  · simp only [upF, Bool.false_and, Bool.false_eq_true, if_false]
    simp only [val, Bool.false_eq_true, if_false]
    omega
  · by_cases e : remN n d = 0
    · rw [if_neg (by simp [upF, e])]
      simp only [val, if_true]
      omega
    · rw [if_pos (by simp [upF, e]), Nat.add_mul, Nat.one_mul]
      simp only [val, if_true]
      omega
/-- Even is at most half a one off. -/
theorem even_facts (s : Bool) (n d : Nat) (h0 : 0 < d) : (val s n - val s (evenN n d) * d).natAbs ≤ d - (val s n - val s (evenN n d) * d).natAbs ∧ (val s n - val s (evenN n d) * d).natAbs < d := by
  have hq := quo_rem n d
  have hr : remN n d < d := rem_lt h0
  rw [val_mul]
  unfold evenN
  by_cases hu : upE (quoN n d) (remN n d) d = true
  · rw [if_pos hu, Nat.add_mul, Nat.one_mul]
    have h1 : d - remN n d ≤ remN n d := by
      simp only [upE, Bool.or_eq_true, Bool.and_eq_true, decide_eq_true_eq] at hu
      omega
    cases s <;> simp only [val, Bool.false_eq_true, if_false, if_true] <;> omega
  · rw [if_neg hu]
    have h1 : remN n d ≤ d - remN n d := by
      simp only [upE, Bool.or_eq_true, Bool.and_eq_true, decide_eq_true_eq] at hu
      omega
    cases s <;> simp only [val, Bool.false_eq_true, if_false, if_true] <;> omega
theorem div_zero' (s : Bool) (h l d : Nat) (w : World) (h0 : d = 0) :
    Calls Try.prog 27 #[WV s h l, .int .u64 d] w fun e w' => e = .returned (.tuple #[W0, .int .u64 0, .int .i64 12]) ∧ Below w.heap.size w w' := by
  subst h0; exact div_zero s h l w
theorem div_z (s : Bool) (h l d r : Nat) (z : Int) (w : World) (hh : h < B64) (hl : l < B64) (hd : d < B64) (h0 : 0 < d) (hz : val s (quoN (nat2 h l) d) = z) (hr : remN (nat2 h l) d = r) :
    Calls Try.prog 27 #[WV s h l, .int .u64 d] w fun e w' => e = .returned (.tuple #[ZW z, .int .u64 r, .int .i64 0]) ∧ Below w.heap.size w w' := by
  have h := div_ok s h l d w hh hl hd h0
  rw [← ZW_ZV, hz, hr] at h
  exact h
theorem floor_z (s : Bool) (h l d : Nat) (z : Int) (w : World) (hh : h < B64) (hl : l < B64) (hd : d < B64) (h0 : 0 < d) (hz : val s (floorN s (nat2 h l) d) = z) :
    Calls Try.prog 29 #[WV s h l, .int .u64 d] w fun e w' => e = .returned (.tuple #[ZW z, .int .i64 0]) ∧ Below w.heap.size w w' := by
  rw [← hz]; exact floor_ok s h l d w hh hl hd h0
theorem even_z (s : Bool) (h l d : Nat) (z : Int) (w : World) (hh : h < B64) (hl : l < B64) (hd : d < B64) (h0 : 0 < d) (hz : val s (evenN (nat2 h l) d) = z) :
    Calls Try.prog 28 #[WV s h l, .int .u64 d] w fun e w' => e = .returned (.tuple #[ZW z, .int .i64 0]) ∧ Below w.heap.size w w' := by
  rw [← hz]; exact even_ok s h l d w hh hl hd h0
theorem add_left (s : Bool) (r : Nat) (y z : Int) (w : World) (hy : y.natAbs < B128) (hr : r < B64) (hz : y + val s r = z) (hfit : z.natAbs < B128) :
    Calls Try.prog 11 #[ZW y, .agg #[.bool s, .int .u64 0, .int .u64 r]] w fun e w' => e = .returned (.tuple #[ZW z, .int .i64 0]) ∧ Below w.heap.size w w' :=
  add_ok (negB y) s _ _ 0 r z w (hiW_lt hy) (loW_lt _) (by decide) hr (by rw [val_ZW, show nat2 0 r = r by unfold nat2; omega]; exact hz) hfit
theorem small_hi {z : Int} {d : Nat} (hd : d < B64) (h : z.natAbs < d) : hiW z.natAbs = 0 ∧ loW z.natAbs = z.natAbs :=
  ⟨hiW_small (Nat.lt_trans h hd), loW_small (Nat.lt_trans h hd)⟩
end Go.Proofs.Ytgkogjlcecbfjaa
