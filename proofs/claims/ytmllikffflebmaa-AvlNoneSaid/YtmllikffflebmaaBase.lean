/- Words for the walks of package wide: how a Wide lies as a value; its halves; small facts on words of 64 bits. -/
import Derived.Test.YtmllikffflebmaaChecked
import Derived.Test.YtmllikffflebmaaDivMath
import Derived.WalkKit
import Derived.Below
import Derived.IntWalk
import Derived.Laws.Bits64b
namespace Corr
open Go

/-- The upper and the lower word of a number. -/
def hiW (n : Nat) : Nat := n / B64
def loW (n : Nat) : Nat := n % B64
/-- A number below 2^128, out of its words. -/
def nat2 (h l : Nat) : Nat := h * B64 + l
/-- 2^128. -/
def B128 : Nat := B64 * B64
/-- A number with a sign. -/
def val (s : Bool) (n : Nat) : Int := if s = true then -(n : Int) else (n : Int)
/-- Is it below 0? -/
def negB (z : Int) : Bool := decide (z < 0)
/-- A Wide as a value. -/
abbrev WV (s : Bool) (h l : Nat) : Value := .agg #[.bool s, .int .u64 (h : Int), .int .u64 (l : Int)]
/-- .. the canonical one of a whole number. -/
abbrev ZW (z : Int) : Value := WV (negB z) (hiW z.natAbs) (loW z.natAbs)
/-- -1, 0, 1. -/
def cmpI (a b : Int) : Int := if a < b then -1 else if a = b then 0 else 1

theorem loW_lt (n : Nat) : loW n < B64 := Nat.mod_lt _ (by decide)
theorem hiW_lt {n : Nat} (h : n < B128) : hiW n < B64 := (Nat.div_lt_iff_lt_mul (by decide)).2 h
theorem nat2_hilo (n : Nat) : nat2 (hiW n) (loW n) = n := by
  unfold nat2 hiW loW; rw [Nat.mul_comm]; exact Nat.div_add_mod n B64
theorem hiW_nat2 {h l : Nat} (hl : l < B64) : hiW (nat2 h l) = h := by
  unfold nat2 hiW; rw [Nat.mul_comm, Nat.mul_add_div (by decide), Nat.div_eq_of_lt hl]; rfl
theorem loW_nat2 {h l : Nat} (hl : l < B64) : loW (nat2 h l) = l := by
  unfold nat2 loW; rw [Nat.mul_comm, Nat.mul_add_mod, Nat.mod_eq_of_lt hl]
theorem nat2_lt {h l : Nat} (hh : h < B64) (hl : l < B64) : nat2 h l < B128 := by
  unfold nat2 B128
  have h1 : (h + 1) * B64 ≤ B64 * B64 := Nat.mul_le_mul_right _ hh
  rw [Nat.add_mul, Nat.one_mul] at h1
  omega
theorem nat2_zero (a b : Nat) : nat2 a b = 0 ↔ a = 0 ∧ b = 0 := by
  unfold nat2 B64; omega
theorem natAbs_val (s : Bool) (n : Nat) : (val s n).natAbs = n := by cases s <;> simp [val]
theorem negB_val (s : Bool) (n : Nat) : negB (val s n) = (s && (n != 0)) := by
  cases s
  · simp [val, negB]
  · rw [Bool.eq_iff_iff]; simp [val, negB]; omega
theorem val_neg (z : Int) : val (negB z) z.natAbs = z := by
  unfold val negB
  by_cases h : z < 0
  · rw [if_pos (by simpa using h)]; omega
  · rw [if_neg (by simpa using h)]; omega
theorem val_ZW (z : Int) : val (negB z) (nat2 (hiW z.natAbs) (loW z.natAbs)) = z := by rw [nat2_hilo, val_neg]
/-- What canonical tells is the canonical one. -/
theorem ZW_val (s : Bool) (h l : Nat) (hl : l < B64) : ZW (val s (nat2 h l)) = WV (negB (val s (nat2 h l))) h l := by
  unfold ZW; rw [natAbs_val, hiW_nat2 hl, loW_nat2 hl]

theorem or_u64 (a b : Nat) (ha : a < B64) (hb : b < B64) : bits .or .u64 (a : Int) (b : Int) = ((a ||| b : Nat) : Int) := bits_or_u64_nat a b ha hb
theorem or_test (a b : Nat) (ha : a < B64) (hb : b < B64) : (bits .or .u64 (a : Int) (b : Int) != 0) = (nat2 a b != 0) := by
  rw [or_u64 a b ha hb, Bool.eq_iff_iff]
  simp only [bne_iff_ne, ne_eq]
  have h1 : (((a ||| b : Nat) : Int) = 0) ↔ (a ||| b = 0) := by omega
  rw [h1, nat2_zero, Nat.or_eq_zero_iff]
theorem neg_wrap (n : Int) (h1 : -9223372036854775808 ≤ n) (h : n < 0) : IntKind.u64.wrap (-IntKind.u64.wrap n) = (n.natAbs : Int) := by
  rw [IntKind.wrap_u64, IntKind.wrap_u64]; omega
theorem ret_int {k : IntKind} {a b : Int} (h : a = b) : Ending.returned (.int k a) = .returned (.int k b) := by rw [h]
theorem cmp_lt {h l h' l' : Nat} (hl : l < B64) (hl' : l' < B64) : nat2 h l < nat2 h' l' ↔ h < h' ∨ h = h' ∧ l < l' := by
  unfold nat2 B64 at *; omega
theorem cmp_eq {h l h' l' : Nat} (hl : l < B64) (hl' : l' < B64) : nat2 h l = nat2 h' l' ↔ h = h' ∧ l = l' := by
  unfold nat2 B64 at *; omega
theorem cmpI_lt {a b : Int} (h : a < b) : cmpI a b = -1 := by unfold cmpI; rw [if_pos h]
theorem cmpI_eq {a b : Int} (h : a = b) : cmpI a b = 0 := by unfold cmpI; rw [if_neg (by omega), if_pos h]
theorem cmpI_gt {a b : Int} (h : b < a) : cmpI a b = 1 := by unfold cmpI; rw [if_neg (by omega), if_neg (by omega)]
theorem val_int {k : IntKind} {a b : Int} (h : a = b) : Value.int k a = .int k b := by rw [h]
theorem size_alloc (w : World) (o : Obj) : (w.alloc o).heap.size = w.heap.size + 1 := by simp
theorem neg_val (s : Bool) (n : Nat) : val (!s) n = - val s n := by cases s <;> simp [val]
theorem ret_intbool {k : IntKind} {a b : Int} {c d : Bool} (h : a = b) (h' : c = d) : Ending.returned (.tuple #[.int k a, .bool c]) = .returned (.tuple #[.int k b, .bool d]) := by rw [h, h']
end Corr
