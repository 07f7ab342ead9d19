/- What math/bits.Div64 makes of its arguments, as natural numbers: no run of the program in this text. -/
import Derived.Test.YtmccmgplgdmjbaaGreatDoorBase
import Derived.Lib.ItoaNum
namespace Corr
open Go

structure Prep (hi lo y s Y y1 y0 U V v1 v0 : Nat) : Prop where
  eY : Y = y * 2 ^ s
  Ylt : Y < B64
  Yhalf : Y = y1 * B32 + y0
  Vhalf : V = v1 * B32 + v0
  Vlt : V < B64
  dig1 : Dig U v1 y1 y0
  v0lt : v0 < B32
  whole : nat2 hi lo * 2 ^ s = U * B64 + (v1 * B32 + v0)
  iY : IntKind.u64.wrap ((y : Int) * 2 ^ s) = (Y : Int)
  iy1 : (Y : Int) / 4294967296 = (y1 : Int)
  iy0 : bits .and .u64 (Y : Int) 4294967295 = (y0 : Int)
  iU : bits .or .u64 (IntKind.u64.wrap ((hi : Int) * 2 ^ s)) ((lo : Int) / 2 ^ (64 - s)) = (U : Int)
  iV : IntKind.u64.wrap ((lo : Int) * 2 ^ s) = (V : Int)
  iv1 : (V : Int) / 4294967296 = (v1 : Int)
  iv0 : bits .and .u64 (V : Int) 4294967295 = (v0 : Int)

theorem mask32 (a : Nat) (ha : a < B64) : bits .and .u64 (a : Int) 4294967295 = ((a % B32 : Nat) : Int) := by
  have h := bits_and_u64_nat a 4294967295 ha (by omega)
  have e : a &&& 4294967295 = a % 4294967296 := Nat.and_two_pow_sub_one_eq_mod a 32
  rw [e] at h
  exact h
theorem wrapN (a : Nat) (ha : a < B64) : IntKind.u64.wrap (a : Int) = (a : Int) := by rw [IntKind.wrap_u64]; unfold B64 at ha; omega
theorem wrapM (a : Nat) : IntKind.u64.wrap (a : Int) = ((a % B64 : Nat) : Int) := by rw [IntKind.wrap_u64]; unfold B64; omega
theorem halves (a : Nat) : a = a / B32 * B32 + a % B32 := by rw [Nat.mul_comm]; exact (Nat.div_add_mod a B32).symm

theorem div_prep (hi lo y s : Nat) (hl : lo < B64) (hy : y < B64) (hlt : hi < y) (hs : Lib.bitLen y + s = 64) :
    ∃ Y y1 y0 U V v1 v0 : Nat, Prep hi lo y s Y y1 y0 U V v1 v0 := by
  obtain ⟨b1, b2, b3⟩ := Lib.bitLenAux_bounds 64 y (by unfold B64 at hy; exact hy) (by omega)
  have eb : Lib.bitLenAux 64 y = Lib.bitLen y := rfl
  rw [eb] at b1 b2 b3
  have s64 : s ≤ 64 := by omega
  have hp : 0 < 2 ^ s := Nat.two_pow_pos s
  have hq : 0 < 2 ^ (64 - s) := Nat.two_pow_pos _
  have hqp : 2 ^ (64 - s) * 2 ^ s = B64 := by rw [← Nat.pow_add, Nat.sub_add_cancel s64]; rfl
  have eb2 : 64 - s = Lib.bitLen y := by omega
  have Ylt : y * 2 ^ s < B64 := by
    rw [← hqp, eb2]; exact Nat.mul_lt_mul_of_pos_right b3 hp
  have Yge : 9223372036854775808 ≤ y * 2 ^ s := by
    have h1 : 2 ^ (Lib.bitLen y - 1) * 2 ^ s ≤ y * 2 ^ s := Nat.mul_le_mul_right _ b2
    rw [← Nat.pow_add, show Lib.bitLen y - 1 + s = 63 by omega] at h1
    exact h1
  have rlt : lo / 2 ^ (64 - s) < 2 ^ s := (Nat.div_lt_iff_lt_mul hq).2 (by rw [Nat.mul_comm, hqp]; exact hl)
  have Ult : hi * 2 ^ s + lo / 2 ^ (64 - s) < y * 2 ^ s := by
    have h1 : (hi + 1) * 2 ^ s ≤ y * 2 ^ s := Nat.mul_le_mul_right _ hlt
    rw [Nat.add_mul, Nat.one_mul] at h1
    omega
  have hplt : hi * 2 ^ s < B64 := Nat.lt_of_le_of_lt (Nat.le_add_right _ _) (Nat.lt_trans Ult Ylt)
  have rlt64 : lo / 2 ^ (64 - s) < B64 := Nat.lt_of_le_of_lt (Nat.div_le_self _ _) hl
  have elo : lo * 2 ^ s = lo / 2 ^ (64 - s) * B64 + lo % 2 ^ (64 - s) * 2 ^ s := by
    have h1 := Nat.div_add_mod lo (2 ^ (64 - s))
    have h2 : (2 ^ (64 - s) * (lo / 2 ^ (64 - s)) + lo % 2 ^ (64 - s)) * 2 ^ s = lo * 2 ^ s := by rw [h1]
    rw [Nat.add_mul, Nat.mul_right_comm, hqp, Nat.mul_comm B64] at h2
    omega
  have Vlt : lo % 2 ^ (64 - s) * 2 ^ s < B64 := by
    rw [← hqp]; exact Nat.mul_lt_mul_of_pos_right (Nat.mod_lt _ hq) hp
  have eV : lo * 2 ^ s % B64 = lo % 2 ^ (64 - s) * 2 ^ s := by
    rw [elo, Nat.mul_comm (lo / _), Nat.mul_add_mod, Nat.mod_eq_of_lt Vlt]
  have h32 : 0 < B32 := B32_pos
  refine ⟨y * 2 ^ s, y * 2 ^ s / B32, y * 2 ^ s % B32, hi * 2 ^ s + lo / 2 ^ (64 - s), lo % 2 ^ (64 - s) * 2 ^ s, lo % 2 ^ (64 - s) * 2 ^ s / B32, lo % 2 ^ (64 - s) * 2 ^ s % B32,
    rfl, Ylt, halves _, halves _, Vlt, ⟨Nat.mod_lt _ h32, ?_, ?_, ?_, ?_⟩, Nat.mod_lt _ h32, ?_, ?_, ?_, ?_, ?_, ?_, ?_, ?_⟩
  · exact (Nat.div_lt_iff_lt_mul h32).2 (by rw [B32_sq]; exact Ylt)
  · exact (Nat.le_div_iff_mul_le h32).2 (by show 2147483648 * 4294967296 ≤ _; exact Yge)
  · rw [← halves]; exact Ult
  · exact (Nat.div_lt_iff_lt_mul h32).2 (by rw [B32_sq]; exact Vlt)
  · rw [← halves]
    unfold nat2
    rw [Nat.add_mul, elo, Nat.mul_right_comm, Nat.add_mul]
    omega
  · have e : (y : Int) * 2 ^ s = ((y * 2 ^ s : Nat) : Int) := by simp
    rw [e, wrapN _ Ylt]
  · unfold B32; omega
  · exact mask32 _ Ylt
  · have e : (hi : Int) * 2 ^ s = ((hi * 2 ^ s : Nat) : Int) := by simp
    have e2 : (lo : Int) / 2 ^ (64 - s) = ((lo / 2 ^ (64 - s) : Nat) : Int) := by simp
    rw [e, wrapN _ hplt, e2, or_u64 _ _ hplt rlt64]
    have e3 := Nat.two_pow_add_eq_or_of_lt rlt hi
    rw [Nat.mul_comm] at e3
    rw [← e3]
  · have e : (lo : Int) * 2 ^ s = ((lo * 2 ^ s : Nat) : Int) := by simp
    rw [e, wrapM, eV]
  · unfold B32; omega
  · exact mask32 _ Vlt

/-- The guess, and what is left of it, word by word. -/
theorem guess_q (U y1 : Nat) (hU : U < B64) : IntKind.u64.wrap ((U : Int) / (y1 : Int)) = ((U / y1 : Nat) : Int) := by
  have e : (U : Int) / (y1 : Int) = ((U / y1 : Nat) : Int) := by simp
  rw [e]; exact wrapN _ (Nat.lt_of_le_of_lt (Nat.div_le_self _ _) hU)
theorem guess_r (U y1 : Nat) (hU : U < B64) : IntKind.u64.wrap ((U : Int) - IntKind.u64.wrap (((U / y1 : Nat) : Int) * (y1 : Int))) = ((U % y1 : Nat) : Int) := by
  have h := Nat.div_add_mod U y1
  have e : ((U / y1 : Nat) : Int) * (y1 : Int) = ((y1 * (U / y1) : Nat) : Int) := by rw [Nat.mul_comm]; simp
  rw [e, wrapN _ (by omega)]
  have e2 : (U : Int) - ((y1 * (U / y1) : Nat) : Int) = ((U % y1 : Nat) : Int) := by omega
  rw [e2]; exact wrapN _ (by omega)
/-- The test of a round, as natural numbers (the guess below the base). -/
theorem test_iff (Q y0 R v : Nat) (hQ : Q < 4294967296) (hy : y0 < B32) : (4294967296 * (R : Int) + (v : Int) < IntKind.u64.wrap ((Q : Int) * (y0 : Int))) ↔ B32 * R + v < Q * y0 := by
  have h1 : Q * y0 ≤ 4294967295 * 4294967295 := Nat.mul_le_mul (by omega) (by unfold B32 at hy; omega)
  have e : (Q : Int) * (y0 : Int) = ((Q * y0 : Nat) : Int) := by simp
  rw [e, wrapN _ (by unfold B64; omega)]
  unfold B32
  omega
theorem test_int (Q R : Int) (y0 v : Nat) (q0 : 0 ≤ Q) (r0 : 0 ≤ R) (hQ : Q < 4294967296) (hy : y0 < B32) : (4294967296 * R + (v : Int) < IntKind.u64.wrap (Q * (y0 : Int))) ↔ B32 * R.toNat + v < Q.toNat * y0 := by
  obtain ⟨q, rfl⟩ := Int.eq_ofNat_of_zero_le q0
  obtain ⟨r, rfl⟩ := Int.eq_ofNat_of_zero_le r0
  rw [Int.toNat_natCast, Int.toNat_natCast]
  exact test_iff q y0 r v (by omega) hy
/-- What is left behind a digit, word by word. -/
theorem rest_of (U v Y : Nat) (hY : Y < B64) (h0 : 0 < Y) :
    IntKind.u64.wrap (IntKind.u64.wrap (IntKind.u64.wrap ((U : Int) * 4294967296) + (v : Int)) - IntKind.u64.wrap ((((U * B32 + v) / Y : Nat) : Int) * (Y : Int))) = (((U * B32 + v) % Y : Nat) : Int) := by
  have h := Nat.div_add_mod (U * B32 + v) Y
  have hm : (U * B32 + v) % Y < Y := Nat.mod_lt _ h0
  have e : (((U * B32 + v) / Y : Nat) : Int) * (Y : Int) = ((Y * ((U * B32 + v) / Y) : Nat) : Int) := by rw [Nat.mul_comm Y, Int.natCast_mul]
  rw [e]
  have e2 : ((U * B32 + v : Nat) : Int) = (U : Int) * 4294967296 + (v : Int) := by simp [B32]
  generalize (U * B32 + v) % Y = m at *
  generalize Y * ((U * B32 + v) / Y) = d at *
  rw [← h] at e2
  rw [IntKind.wrap_u64, IntKind.wrap_u64, IntKind.wrap_u64, IntKind.wrap_u64]
  unfold B64 at hY
  omega
end Corr
