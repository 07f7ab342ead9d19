/- Package wide's answers by their parts, beside the document's: quotients, Even, Floor, Ten. Package wide's answers by their parts: Mul, Of, Neg, Cmp. -/
import Derived.Test.YtgkogjlcecbfjaaRef11
import Derived.Test.YtgkogjlcecbfjaaTen
namespace Go.Proofs.Ytgkogjlcecbfjaa
open Go.RowKit Corr
set_option linter.unusedVariables false
/-- Floor is the quotient towards below. -/
theorem floor_is (s : Bool) (n d : Nat) (h0 : 0 < d) : val s (floorN s n d) = val s n / (d : Int) := by
  obtain ⟨h1, h2⟩ := floor_facts s n d h0
  have h3 := Int.emod_nonneg (val s n) (show (d : Int) ≠ 0 by omega)
  have h4 := Int.emod_lt_of_pos (val s n) (show (0 : Int) < d by omega)
  have h5 := Int.mul_ediv_add_emod (val s n) d
  generalize val s n / (d : Int) = q at *
  generalize val s n % (d : Int) = r at *
  generalize val s (floorN s n d) = f at *
  have h6 : (d : Int) * (f - q) < d := by rw [Int.mul_sub, Int.mul_comm (d : Int) f]; omega
  have h7 : -(d : Int) < (d : Int) * (f - q) := by rw [Int.mul_sub, Int.mul_comm (d : Int) f]; omega
  have h8 : f - q < 1 := by
    rcases Int.lt_or_le (f - q) 1 with h | h
    · exact h
    · have : (d : Int) * 1 ≤ (d : Int) * (f - q) := Int.mul_le_mul_of_nonneg_left h (by omega)
      omega
  have h9 : -1 < f - q := by
    rcases Int.lt_or_le (-1) (f - q) with h | h
    · exact h
    · have : (d : Int) * (f - q) ≤ (d : Int) * (-1) := Int.mul_le_mul_of_nonneg_left h (by omega)
      omega
  omega
theorem neg_div (m d r : Nat) (h0 : 0 < r) (hr : r < d) : (-((m * d + r : Nat) : Int)) / (d : Int) = -(m : Int) - 1 ∧ (-((m * d + r : Nat) : Int)) % (d : Int) = (d : Int) - r := by
  exact down_neg1 (a := m * d + r) (q := m) (b := d) (r := r) rfl hr h0
/-- Even is the nearest one. -/
theorem even_is (s : Bool) (n d r : Nat) (Q : Int) (h0 : 0 < d) (hQ : val s n / (d : Int) = Q) (hr : val s n % (d : Int) = r) :
    val s (evenN n d) = if d < r + r ∨ (r + r = d ∧ Q % 2 = 1) then Q + 1 else Q := by
  have hq := quo_rem n d
  have hlt : remN n d < d := rem_lt h0
  unfold evenN
  generalize hm : quoN n d = m at *
  generalize hk : remN n d = k at *
  have hup : (upE m k d = true) ↔ (d < k + k ∨ (k + k = d ∧ m % 2 = 1)) := by
    simp only [upE, Bool.or_eq_true, Bool.and_eq_true, decide_eq_true_eq]
    omega
  cases s
  · have e1 : Q = (m : Int) := by
      rw [← hQ]; exact (down_pos (a := n) (q := m) (b := d) (r := k) hq.symm hlt).1
    have e2 : (r : Int) = (k : Int) := by
      rw [← hr]; exact (down_pos (a := n) (q := m) (b := d) (r := k) hq.symm hlt).2
    have e2 : r = k := by omega
    subst e2 e1
    by_cases h : upE m r d = true
    · rw [if_pos h, if_pos (by have := hup.1 h; omega)]; simp [val]
    · rw [if_neg h, if_neg (fun h' => h (hup.2 (by omega)))]; simp [val]
  · by_cases hk0 : k = 0
    · subst hk0
      have hq' : n = m * d := by omega
      have e1 : Q = -(m : Int) := by rw [← hQ]; exact (down_neg0 (a := n) (q := m) (b := d) hq' h0).1
      have e2 : (r : Int) = 0 := by rw [← hr]; exact (down_neg0 (a := n) (q := m) (b := d) hq' h0).2
      have e2 : r = 0 := by omega
      subst e2 e1
      rw [if_neg (fun h => by have := hup.1 h; omega), if_neg (by omega)]; simp [val]
    · have e1 : Q = -(m : Int) - 1 := by rw [← hQ]; exact (down_neg1 (a := n) (q := m) (b := d) (r := k) hq.symm hlt (by omega)).1
      have e2 : (r : Int) = (d : Int) - k := by rw [← hr]; exact (down_neg1 (a := n) (q := m) (b := d) (r := k) hq.symm hlt (by omega)).2
      subst e1
      by_cases h : upE m k d = true
      · rw [if_pos h, if_neg (by have := hup.1 h; omega)]; simp [val]; omega
      · rw [if_neg h, if_pos (by
          have h' : ¬ (d < k + k ∨ (k + k = d ∧ m % 2 = 1)) := fun h' => h (hup.2 h')
          omega)]; simp [val]
theorem div_w (s b1 : Bool) (h l d r h1 l1 : Nat) (z : Int) (w : World) (hh : h < B64) (hl : l < B64) (hd : d < B64) (h0 : 0 < d) (hz : val s (quoN (nat2 h l) d) = z) (hr : remN (nat2 h l) d = r) (e1 : negB z = b1) (e2 : hiW z.natAbs = h1) (e3 : loW z.natAbs = l1) :
    Calls Try.prog 27 #[WV s h l, .int .u64 d] w fun e w' => e = .returned (.tuple #[WV b1 h1 l1, .int .u64 r, .int .i64 0]) ∧ Below w.heap.size w w' := by
  subst e1 e2 e3; exact div_z s h l d r z w hh hl hd h0 hz hr
theorem even_w (s b1 : Bool) (h l d h1 l1 : Nat) (z : Int) (w : World) (hh : h < B64) (hl : l < B64) (hd : d < B64) (h0 : 0 < d) (hz : val s (evenN (nat2 h l) d) = z) (e1 : negB z = b1) (e2 : hiW z.natAbs = h1) (e3 : loW z.natAbs = l1) :
    Calls Try.prog 28 #[WV s h l, .int .u64 d] w fun e w' => e = .returned (.tuple #[WV b1 h1 l1, .int .i64 0]) ∧ Below w.heap.size w w' := by
  subst e1 e2 e3; exact even_z s h l d z w hh hl hd h0 hz
theorem floor_w (s b1 : Bool) (h l d h1 l1 : Nat) (z : Int) (w : World) (hh : h < B64) (hl : l < B64) (hd : d < B64) (h0 : 0 < d) (hz : val s (floorN s (nat2 h l) d) = z) (e1 : negB z = b1) (e2 : hiW z.natAbs = h1) (e3 : loW z.natAbs = l1) :
    Calls Try.prog 29 #[WV s h l, .int .u64 d] w fun e w' => e = .returned (.tuple #[WV b1 h1 l1, .int .i64 0]) ∧ Below w.heap.size w w' := by
  subst e1 e2 e3; exact floor_z s h l d z w hh hl hd h0 hz

/-- 10 to the power n, 0 outside of 0 to 19. -/
def tenB (n : Int) : Bool := decide (0 ≤ n ∧ n ≤ 19)
def tenN (n : Int) : Nat := if 0 ≤ n ∧ n ≤ 19 then 10 ^ n.toNat else 0

theorem wten_any (nn : Int) (w : World) : Calls Try.prog 31 #[.int .i64 nn] w fun e w' => e = .returned (.int .u64 (tenN nn : Int)) ∧ w = w' := by
  unfold tenN
  by_cases h : 0 ≤ nn ∧ nn ≤ 19
  · rw [if_pos h]
    obtain ⟨k, rfl⟩ : ∃ k : Nat, nn = (k : Int) := ⟨nn.toNat, by omega⟩
    exact ten_ok k w (by omega)
  · rw [if_neg h]
    exact ten_no nn w (by omega)
end Go.Proofs.Ytgkogjlcecbfjaa
namespace Go.Proofs.Ytgkogjlcecbfjaa
open Go.RowKit Corr
set_option linter.unusedVariables false
/-- package wide's own answers, by their parts. -/
theorem mul_w (b : Bool) (h l : Nat) (x y z : Int) (w : World) (a1 : -9223372036854775808 ≤ x) (a2 : x ≤ 9223372036854775807) (b1 : -9223372036854775808 ≤ y) (b2 : y ≤ 9223372036854775807) (hz : x * y = z) (e1 : negB z = b) (e2 : hiW z.natAbs = h) (e3 : loW z.natAbs = l) :
    Calls Try.prog 19 #[.int .i64 x, .int .i64 y] w fun e w' => e = .returned (.agg #[.bool b, .int .u64 (h : Int), .int .u64 (l : Int)]) ∧ Below w.heap.size w w' := by
  subst hz e1 e2 e3; exact mul_any x y w a1 a2 b1 b2
theorem of_w (b : Bool) (h l : Nat) (x : Int) (w : World) (a1 : -9223372036854775808 ≤ x) (a2 : x ≤ 9223372036854775807) (e1 : negB x = b) (e2 : hiW x.natAbs = h) (e3 : loW x.natAbs = l) :
    Calls Try.prog 20 #[.int .i64 x] w fun e w' => e = .returned (.agg #[.bool b, .int .u64 (h : Int), .int .u64 (l : Int)]) ∧ Below w.heap.size w w' := by
  subst e1 e2 e3; exact of_any x w a1 a2
theorem neg_w (b s : Bool) (h l h' l' : Nat) (x z : Int) (w : World) (hh : h < B64) (hl : l < B64) (hx : val s (nat2 h l) = x) (hz : -x = z) (e1 : negB z = b) (e2 : hiW z.natAbs = h') (e3 : loW z.natAbs = l') :
    Calls Try.prog 21 #[WV s h l] w fun e w' => e = .returned (.agg #[.bool b, .int .u64 (h' : Int), .int .u64 (l' : Int)]) ∧ Below w.heap.size w w' := by
  subst hz e1 e2 e3; exact neg_any s h l x w hh hl hx
theorem cmp_w (s s' : Bool) (h l h' l' : Nat) (x y c : Int) (w : World) (hh : h < B64) (hl : l < B64) (hh' : h' < B64) (hl' : l' < B64) (hx : val s (nat2 h l) = x) (hy : val s' (nat2 h' l') = y) (hc : cmpI x y = c) :
    Calls Try.prog 22 #[WV s h l, WV s' h' l'] w fun e w' => e = .returned (.int .i64 c) ∧ Below w.heap.size w w' := by
  subst hx hy hc; exact cmp_walk s s' h l h' l' w hh hl hh' hl'
theorem abs7 {a : Int} (a1 : -9223372036854775808 ≤ a) (a2 : a ≤ 9223372036854775807) : a.natAbs < 1000 ^ 7 :=
  Nat.lt_of_le_of_lt (show a.natAbs ≤ 9223372036854775808 by omega) (by decide)
theorem abs128 {a : Int} (a1 : -9223372036854775808 ≤ a) (a2 : a ≤ 9223372036854775807) : a.natAbs < B128 :=
  Nat.lt_of_le_of_lt (show a.natAbs ≤ 9223372036854775808 by omega) (by decide)
theorem prod_abs {x y z : Int} (a1 : -9223372036854775808 ≤ x) (a2 : x ≤ 9223372036854775807) (b1 : -9223372036854775808 ≤ y) (b2 : y ≤ 9223372036854775807) (hz : x * y = z) : z.natAbs < B128 := by
  subst hz
  rw [Int.natAbs_mul]
  exact prod_lt (by unfold B64; omega) (by unfold B64; omega)
end Go.Proofs.Ytgkogjlcecbfjaa
