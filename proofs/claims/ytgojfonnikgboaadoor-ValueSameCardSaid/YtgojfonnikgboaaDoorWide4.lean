/- DERIVED: THE SHELF's CONTRACTS AT THIS DUMP, IN PLAIN WORDS (tools/lay-plain.mjs out of 'TryShelf.lean', which tools/lay-shelf.mjs wrote): THE SAME DECLARATIONS UNDER THE SAME NAMES: 'import', 'namespace', 'open', 'def', 'theorem' AND NOTHING ELSE: no command of the shelf's: FOR A HAND-IN. Each laying: the table of numbers ('.._ren') and one theorem, a field a fact of the dump's own or the kernel's comparison; each contract: ONE APPLICATION. Contracts of package wide's small functions: canonical, size, cmpSize, Of, Neg. Contracts of package wide: Of, Neg, Mul, Times. What math/bits.Div64 makes of its arguments, as natural numbers: no run of the program in this text. The contract of math/bits.Div64: two words divided by one that is greater than the upper one. math/bits.Add64, Sub64 at this program; bits.Div64 at every input that it takes. Contracts of package wide: Times, apart, Add. A region that draws its order: a head whose operations yield one value in every world of a class (calls that make memory among them), and a tail in one forced order: the head's lexical walk, and then the tail's, serve every order. Over any program. Contracts of package wide: Add, Cmp. -/
import Derived.Shelf.Small.Bits
import Derived.Shelf.Strconv.Itoa0
import Derived.Test.YtgojfonnikgboaaDoorBase
import Derived.Lib.Hide
import Derived.Lib.ItoaNum
import Derived.Deep.QuietTactic
import Derived.BigQuiet
import Derived.Deep.DeepCutAuto
import Derived.Deep.CutBlock
import Derived.Deep.LoopGhost
import Derived.Deep.Quiet
import Derived.StillTail
import Derived.Test.YtgojfonnikgboaaDoorProg
import Derived.Lib.SmallJoins
namespace Go.Proofs
set_option maxRecDepth 8000
open Go.Shelf
def Tryd.lays134_ren : Go.Shelf.Ren := ⟨fun | 134 => 62 | 129 => 76 | n => n, fun | 53 => 48 | 3 => 3 | 4 => 4 | 46 => 94 | 5 => 5 | 9 => 9 | n => n, fun | n => n⟩
theorem Tryd.lays134 : Go.Proofs.Lays.n134 Tryd.prog Tryd.lays134_ren := {
  mixed := by kernel_rfl
  f129 := Tryd.func76.trans (congrArg some (by kernel_rfl))
  f134 := Tryd.func62.trans (congrArg some (by kernel_rfl))
  t3 := Tryd.underlying3
  a3 := Tryd.isAgg3
  z3 := Tryd.sizeOf3
  v3 := Tryd.zeroValue3
  t4 := Tryd.underlying4
  a4 := Tryd.isAgg4
  z4 := Tryd.sizeOf4
  v4 := Tryd.zeroValue4
  t5 := Tryd.underlying5
  a5 := Tryd.isAgg5
  z5 := Tryd.sizeOf5
  v5 := Tryd.zeroValue5
  t9 := Tryd.underlying9
  a9 := Tryd.isAgg9
  z9 := Tryd.sizeOf9
  v9 := Tryd.zeroValue9
  t46 := Tryd.underlying94
  a46 := Tryd.isAgg94
  z46 := Tryd.sizeOf94
  v46 := Tryd.zeroValue94
  t53 := Tryd.underlying48
  a53 := Tryd.isAgg48
  z53 := Tryd.sizeOf48
  v53 := Tryd.zeroValue48 }
/-- bits.LeadingZeros64: "LeadingZeros64 returns the number of leading zero bits in x; the result is 64 for x == 0.": IT RETURNS '64 - Lib.bitLen x'; the world is as it was. ITS CALLEE bits.Len64 IS MET BY ITS OWN CONTRACT OFF THE SHELF (lay that first): entered in place it sends the kernel out of memory. (LAID: no walk: one application.) -/
theorem Tryd.bits_LeadingZeros64 (x : Int) (w : World) (h0 : 0 ≤ x) (h1 : x ≤ 18446744073709551615) :
    Calls Tryd.prog 62 #[.int .u64 x] w fun e w' => e = .returned (.int .i64 (64 - (Lib.bitLen x.toNat : Int))) ∧ w' = w := Any.bits_LeadingZeros64 Tryd.lays134 x w h0 h1
end Go.Proofs
namespace Go.Proofs.YtgojfonnikgboaaDoor
set_option maxRecDepth 8000
open Go.RowKit Corr
set_option linter.unusedVariables false

theorem canonical_any (s : Bool) (h l : Nat) (w : World) (hh : h < B64) (hl : l < B64) :
    Calls Tryd.prog 33 #[.bool s, .int .u64 h, .int .u64 l] w fun e w' => e = .returned (ZW (val s (nat2 h l))) ∧ Below w.heap.size w w' := by
  rw [ZW_val s h l hl, negB_val]
  cases s
  · go_enter Tryd.func33, Tryd.ntmps33
    go_wp2
    exact bodyPost_ret (v := WV false h l) (by simp [results, Tryd.results33, go_sem]) rfl ⟨rfl, (Below.refl _ _).alloc (Nat.le_refl _) _⟩
  · rw [← or_test h l hh hl]
    go_enter Tryd.func33, Tryd.ntmps33
    go_wp2
    exact bodyPost_ret (v := WV (bits .or .u64 (h : Int) (l : Int) != 0) h l) (by simp [results, Tryd.results33, go_sem]) rfl ⟨rfl, (Below.refl _ _).alloc (Nat.le_refl _) _⟩

theorem size_any (n : Int) (w : World) (h1 : -9223372036854775808 ≤ n) (h2 : n ≤ 9223372036854775807) :
    Calls Tryd.prog 34 #[.int .i64 n] w fun e w' => e = .returned (.int .u64 n.natAbs) ∧ w = w' := by
  by_cases h : n < 0
  · go_enter Tryd.func34, Tryd.ntmps34
    go_wp2
    go_ret
    exact ⟨ret_int (neg_wrap n h1 h), rfl⟩
  · go_enter Tryd.func34, Tryd.ntmps34
    go_wp2
    go_ret
    exact ⟨ret_int (by omega), rfl⟩

end Go.Proofs.YtgojfonnikgboaaDoor
namespace Go.Proofs.YtgojfonnikgboaaDoor
set_option maxRecDepth 8000
open Go.RowKit Corr
set_option linter.unusedVariables false

theorem bcell {W w1 : World} (hb : Below W.heap.size W w1) : (∀ b o, b < W.heap.size → w1.cell? ⟨b, o, none⟩ = W.cell? ⟨b, o, none⟩) ∧ (∀ b o, b < W.heap.size → w1.frozen? ⟨b, o, none⟩ = W.frozen? ⟨b, o, none⟩) :=
  ⟨fun b o h => hb.cell (p := ⟨b, o, none⟩) h, fun b o h => hb.frozen (p := ⟨b, o, none⟩) h⟩

theorem canonical_z (s : Bool) (h l : Nat) (z : Int) (w : World) (hh : h < B64) (hl : l < B64) (hz : val s (nat2 h l) = z) :
    Calls Tryd.prog 33 #[.bool s, .int .u64 h, .int .u64 l] w fun e w' => e = .returned (ZW z) ∧ Below w.heap.size w w' := by
  rw [← hz]; exact canonical_any s h l w hh hl

theorem of_val (n : Int) : val (decide (n < 0)) (nat2 0 n.natAbs) = n := by
  have : nat2 0 n.natAbs = n.natAbs := by unfold nat2; omega
  rw [this]; exact val_neg n

theorem of_any (n : Int) (w : World) (h1 : -9223372036854775808 ≤ n) (h2 : n ≤ 9223372036854775807) :
    Calls Tryd.prog 20 #[.int .i64 n] w fun e w' => e = .returned (ZW n) ∧ Below w.heap.size w w' := by
  have hb64 : n.natAbs < B64 := by unfold B64; omega
  have h0 : 0 < B64 := by decide
  have hv := Lib.hid (of_val n)
  go_enter Tryd.func20, Tryd.ntmps20
  go_wp2_with fail
  refine (size_any _ _ h1 h2).mono ?_
  rintro e w' ⟨rfl, rfl⟩
  go_wp2_with fail
  refine (canonical_z _ 0 _ _ _ h0 hb64 hv.out).mono ?_
  rintro e w1 ⟨rfl, hb⟩
  obtain ⟨hc, hf⟩ := bcell hb
  go_wp2_with fail
  refine bodyPost_ret (v := ZW n) (by simp [results, Tryd.results20, go_sem, hc]) rfl ⟨rfl, ?_⟩
  exact (((((Below.refl _ _).alloc (Nat.le_refl _) _).trans (hb.mono (by simp))).setCell (by simp) _).setCell (by simp) _).setCell (by simp) _

end Go.Proofs.YtgojfonnikgboaaDoor
namespace Corr
set_option maxRecDepth 8000
open Go

structure Prep (hi lo y s Y y1 y0 U V v1 v0 : Nat) : Prop where
  eY : Y = y * 2 ^ s
  Ylt : Y < B64
  Yhalf : Y = y1 * B32 + y0
  Vhalf : V = v1 * B32 + v0
  Vlt : V < B64
  dig1 : Dig U v1 y1 y0
  v0lt : v0 < B32
  whole : nat2 hi lo * 2 ^ s = U * B64 + (v1 * B32 + v0)
  iY : IntKind.u64.wrap ((y : Int) * 2 ^ s) = (Y : Int)
  iy1 : (Y : Int) / 4294967296 = (y1 : Int)
  iy0 : bits .and .u64 (Y : Int) 4294967295 = (y0 : Int)
  iU : bits .or .u64 (IntKind.u64.wrap ((hi : Int) * 2 ^ s)) ((lo : Int) / 2 ^ (64 - s)) = (U : Int)
  iV : IntKind.u64.wrap ((lo : Int) * 2 ^ s) = (V : Int)
  iv1 : (V : Int) / 4294967296 = (v1 : Int)
  iv0 : bits .and .u64 (V : Int) 4294967295 = (v0 : Int)

theorem mask32 (a : Nat) (ha : a < B64) : bits .and .u64 (a : Int) 4294967295 = ((a % B32 : Nat) : Int) := by
  have h := bits_and_u64_nat a 4294967295 ha (by omega)
  have e : a &&& 4294967295 = a % 4294967296 := Nat.and_two_pow_sub_one_eq_mod a 32
  rw [e] at h
  exact h
theorem wrapN (a : Nat) (ha : a < B64) : IntKind.u64.wrap (a : Int) = (a : Int) := by rw [IntKind.wrap_u64]; unfold B64 at ha; omega
theorem wrapM (a : Nat) : IntKind.u64.wrap (a : Int) = ((a % B64 : Nat) : Int) := by rw [IntKind.wrap_u64]; unfold B64; omega
theorem halves (a : Nat) : a = a / B32 * B32 + a % B32 := by rw [Nat.mul_comm]; exact (Nat.div_add_mod a B32).symm

theorem div_prep (hi lo y s : Nat) (hl : lo < B64) (hy : y < B64) (hlt : hi < y) (hs : Lib.bitLen y + s = 64) :
    ∃ Y y1 y0 U V v1 v0 : Nat, Prep hi lo y s Y y1 y0 U V v1 v0 := by
  obtain ⟨b1, b2, b3⟩ := Lib.bitLenAux_bounds 64 y (by unfold B64 at hy; exact hy) (by omega)
  have eb : Lib.bitLenAux 64 y = Lib.bitLen y := rfl
  rw [eb] at b1 b2 b3
  have s64 : s ≤ 64 := by omega
  have hp : 0 < 2 ^ s := Nat.two_pow_pos s
  have hq : 0 < 2 ^ (64 - s) := Nat.two_pow_pos _
  have hqp : 2 ^ (64 - s) * 2 ^ s = B64 := by rw [← Nat.pow_add, Nat.sub_add_cancel s64]; rfl
  have eb2 : 64 - s = Lib.bitLen y := by omega
  have Ylt : y * 2 ^ s < B64 := by
    rw [← hqp, eb2]; exact Nat.mul_lt_mul_of_pos_right b3 hp
  have Yge : 9223372036854775808 ≤ y * 2 ^ s := by
    have h1 : 2 ^ (Lib.bitLen y - 1) * 2 ^ s ≤ y * 2 ^ s := Nat.mul_le_mul_right _ b2
    rw [← Nat.pow_add, show Lib.bitLen y - 1 + s = 63 by omega] at h1
    exact h1
  have rlt : lo / 2 ^ (64 - s) < 2 ^ s := (Nat.div_lt_iff_lt_mul hq).2 (by rw [Nat.mul_comm, hqp]; exact hl)
  have Ult : hi * 2 ^ s + lo / 2 ^ (64 - s) < y * 2 ^ s := by
    have h1 : (hi + 1) * 2 ^ s ≤ y * 2 ^ s := Nat.mul_le_mul_right _ hlt
    rw [Nat.add_mul, Nat.one_mul] at h1
    omega
  have hplt : hi * 2 ^ s < B64 := Nat.lt_of_le_of_lt (Nat.le_add_right _ _) (Nat.lt_trans Ult Ylt)
  have rlt64 : lo / 2 ^ (64 - s) < B64 := Nat.lt_of_le_of_lt (Nat.div_le_self _ _) hl
  have elo : lo * 2 ^ s = lo / 2 ^ (64 - s) * B64 + lo % 2 ^ (64 - s) * 2 ^ s := by
    have h1 := Nat.div_add_mod lo (2 ^ (64 - s))
    have h2 : (2 ^ (64 - s) * (lo / 2 ^ (64 - s)) + lo % 2 ^ (64 - s)) * 2 ^ s = lo * 2 ^ s := by rw [h1]
    rw [Nat.add_mul, Nat.mul_right_comm, hqp, Nat.mul_comm B64] at h2
    omega
  have Vlt : lo % 2 ^ (64 - s) * 2 ^ s < B64 := by
    rw [← hqp]; exact Nat.mul_lt_mul_of_pos_right (Nat.mod_lt _ hq) hp
  have eV : lo * 2 ^ s % B64 = lo % 2 ^ (64 - s) * 2 ^ s := by
    rw [elo, Nat.mul_comm (lo / _), Nat.mul_add_mod, Nat.mod_eq_of_lt Vlt]
  have h32 : 0 < B32 := B32_pos
  refine ⟨y * 2 ^ s, y * 2 ^ s / B32, y * 2 ^ s % B32, hi * 2 ^ s + lo / 2 ^ (64 - s), lo % 2 ^ (64 - s) * 2 ^ s, lo % 2 ^ (64 - s) * 2 ^ s / B32, lo % 2 ^ (64 - s) * 2 ^ s % B32,
    rfl, Ylt, halves _, halves _, Vlt, ⟨Nat.mod_lt _ h32, ?_, ?_, ?_, ?_⟩, Nat.mod_lt _ h32, ?_, ?_, ?_, ?_, ?_, ?_, ?_, ?_⟩
  · exact (Nat.div_lt_iff_lt_mul h32).2 (by rw [B32_sq]; exact Ylt)
  · exact (Nat.le_div_iff_mul_le h32).2 (by show 2147483648 * 4294967296 ≤ _; exact Yge)
  · rw [← halves]; exact Ult
  · exact (Nat.div_lt_iff_lt_mul h32).2 (by rw [B32_sq]; exact Vlt)
  · rw [← halves]
    unfold nat2
    rw [Nat.add_mul, elo, Nat.mul_right_comm, Nat.add_mul]
    omega
  · have e : (y : Int) * 2 ^ s = ((y * 2 ^ s : Nat) : Int) := by simp
    rw [e, wrapN _ Ylt]
  · unfold B32; omega
  · exact mask32 _ Ylt
  · have e : (hi : Int) * 2 ^ s = ((hi * 2 ^ s : Nat) : Int) := by simp
    have e2 : (lo : Int) / 2 ^ (64 - s) = ((lo / 2 ^ (64 - s) : Nat) : Int) := by simp
    rw [e, wrapN _ hplt, e2, or_u64 _ _ hplt rlt64]
    have e3 := Nat.two_pow_add_eq_or_of_lt rlt hi
    rw [Nat.mul_comm] at e3
    rw [← e3]
  · have e : (lo : Int) * 2 ^ s = ((lo * 2 ^ s : Nat) : Int) := by simp
    rw [e, wrapM, eV]
  · unfold B32; omega
  · exact mask32 _ Vlt

/-- The guess, and what is left of it, word by word. -/
theorem guess_q (U y1 : Nat) (hU : U < B64) : IntKind.u64.wrap ((U : Int) / (y1 : Int)) = ((U / y1 : Nat) : Int) := by
  have e : (U : Int) / (y1 : Int) = ((U / y1 : Nat) : Int) := by simp
  rw [e]; exact wrapN _ (Nat.lt_of_le_of_lt (Nat.div_le_self _ _) hU)
theorem guess_r (U y1 : Nat) (hU : U < B64) : IntKind.u64.wrap ((U : Int) - IntKind.u64.wrap (((U / y1 : Nat) : Int) * (y1 : Int))) = ((U % y1 : Nat) : Int) := by
  have h := Nat.div_add_mod U y1
  have e : ((U / y1 : Nat) : Int) * (y1 : Int) = ((y1 * (U / y1) : Nat) : Int) := by rw [Nat.mul_comm]; simp
  rw [e, wrapN _ (by omega)]
  have e2 : (U : Int) - ((y1 * (U / y1) : Nat) : Int) = ((U % y1 : Nat) : Int) := by omega
  rw [e2]; exact wrapN _ (by omega)
/-- The test of a round, as natural numbers (the guess below the base). -/
theorem test_iff (Q y0 R v : Nat) (hQ : Q < 4294967296) (hy : y0 < B32) : (4294967296 * (R : Int) + (v : Int) < IntKind.u64.wrap ((Q : Int) * (y0 : Int))) ↔ B32 * R + v < Q * y0 := by
  have h1 : Q * y0 ≤ 4294967295 * 4294967295 := Nat.mul_le_mul (by omega) (by unfold B32 at hy; omega)
  have e : (Q : Int) * (y0 : Int) = ((Q * y0 : Nat) : Int) := by simp
  rw [e, wrapN _ (by unfold B64; omega)]
  unfold B32
  omega
theorem test_int (Q R : Int) (y0 v : Nat) (q0 : 0 ≤ Q) (r0 : 0 ≤ R) (hQ : Q < 4294967296) (hy : y0 < B32) : (4294967296 * R + (v : Int) < IntKind.u64.wrap (Q * (y0 : Int))) ↔ B32 * R.toNat + v < Q.toNat * y0 := by
  obtain ⟨q, rfl⟩ := Int.eq_ofNat_of_zero_le q0
  obtain ⟨r, rfl⟩ := Int.eq_ofNat_of_zero_le r0
  rw [Int.toNat_natCast, Int.toNat_natCast]
  exact test_iff q y0 r v (by omega) hy
/-- What is left behind a digit, word by word. -/
theorem rest_of (U v Y : Nat) (hY : Y < B64) (h0 : 0 < Y) :
    IntKind.u64.wrap (IntKind.u64.wrap (IntKind.u64.wrap ((U : Int) * 4294967296) + (v : Int)) - IntKind.u64.wrap ((((U * B32 + v) / Y : Nat) : Int) * (Y : Int))) = (((U * B32 + v) % Y : Nat) : Int) := by
  have h := Nat.div_add_mod (U * B32 + v) Y
  have hm : (U * B32 + v) % Y < Y := Nat.mod_lt _ h0
  have e : (((U * B32 + v) / Y : Nat) : Int) * (Y : Int) = ((Y * ((U * B32 + v) / Y) : Nat) : Int) := by rw [Nat.mul_comm Y, Int.natCast_mul]
  rw [e]
  have e2 : ((U * B32 + v : Nat) : Int) = (U : Int) * 4294967296 + (v : Int) := by simp [B32]
  generalize (U * B32 + v) % Y = m at *
  generalize Y * ((U * B32 + v) / Y) = d at *
  rw [← h] at e2
  rw [IntKind.wrap_u64, IntKind.wrap_u64, IntKind.wrap_u64, IntKind.wrap_u64]
  unfold B64 at hY
  omega
end Corr
namespace Go.Proofs.YtgojfonnikgboaaDoor
set_option maxRecDepth 8000
open Go.RowKit Corr
set_option linter.unusedVariables false

theorem ret_pair {k k' : IntKind} {a b c d : Int} (h : a = b) (h' : c = d) : Ending.returned (.tuple #[.int k a, .int k' c]) = .returned (.tuple #[.int k b, .int k' d]) := by rw [h, h']

theorem lead_any (y s : Nat) (w : World) (h1 : y < B64) (hs : Lib.bitLen y + s = 64) :
    Calls Tryd.prog 62 #[.int .u64 y] w fun e w' => e = .returned (.int .i64 (s : Int)) ∧ w = w' :=
  (Tryd.bits_LeadingZeros64 (y : Int) w (by omega) (by unfold B64 at h1; omega)).mono fun e w' ⟨he, hw⟩ => ⟨he.trans (ret_int (by simp; omega)), hw.symm⟩

theorem div64_small (lo y : Nat) (w : World) (hl : lo < B64) (hy : y < B64) (h0 : 0 < y) :
    Calls Tryd.prog 48 #[.int .u64 (0 : Int), .int .u64 lo, .int .u64 y] w fun e w' => e = .returned (.tuple #[.int .u64 ((lo / y : Nat) : Int), .int .u64 ((lo % y : Nat) : Int)]) ∧ ∃ n, w' = w.drewN n := by
  go_enter Tryd.func48, Tryd.ntmps48
  go_wp2_with fail
  go_quiet (fail)
  go_wp2_with fail
  go_ret2
  refine ⟨ret_pair ?_ ?_, ⟨_, rfl⟩⟩
  · rw [show (lo : Int) / (y : Int) = ((lo / y : Nat) : Int) by simp]
    exact wrapN _ (Nat.lt_of_le_of_lt (Nat.div_le_self _ _) hl)
  · simp

set_option maxRecDepth 100000 in
set_option maxHeartbeats 1000000 in
theorem div64_big (hi lo y s : Nat) (w : World) (hl : lo < B64) (hy : y < B64) (hlt : hi < y) (h0 : 0 < hi) (hs : Lib.bitLen y + s = 64) (s63 : s ≤ 63) :
    Calls Tryd.prog 48 #[.int .u64 hi, .int .u64 lo, .int .u64 y] w fun e w' => e = .returned (.tuple #[.int .u64 ((nat2 hi lo / y : Nat) : Int), .int .u64 ((nat2 hi lo % y : Nat) : Int)]) ∧ w = w' := by
  obtain ⟨Y, y1, y0, U, V, v1, v0, pp⟩ := div_prep hi lo y s hl hy hlt hs
  have HS := Lib.hid hs
  clear hs
  have P := Lib.hid pp
  clear pp
  obtain ⟨D1, hD1⟩ : ∃ D, D = (U * B32 + v1) / (y1 * B32 + y0) := ⟨_, rfl⟩
  have HD1 := Lib.hid hD1
  clear hD1
  have y0pos : 0 < Y := by have := P.out.dig1.ypos; have := P.out.Yhalf; omega
  have HR1 := Lib.hid (rest_of U v1 Y P.out.Ylt y0pos)
  obtain ⟨M, hM⟩ : ∃ M, M = (U * B32 + v1) % Y := ⟨_, rfl⟩
  rw [← hM] at HR1
  have eYY := P.out.Yhalf
  rw [← eYY] at HD1
  rw [← HD1.out] at HR1
  have Mlt : M < Y := by rw [hM]; exact Nat.mod_lt _ y0pos
  have dig2 : Dig M v0 y1 y0 := ⟨P.out.dig1.y0lt, P.out.dig1.y1lt, P.out.dig1.y1ge, by rw [← eYY]; exact Mlt, P.out.v0lt⟩
  obtain ⟨D0, hD0⟩ : ∃ D, D = (M * B32 + v0) / (y1 * B32 + y0) := ⟨_, rfl⟩
  have HD0 := Lib.hid hD0
  clear hD0
  rw [← eYY] at HD0
  have HR2 := Lib.hid (rest_of M v0 Y P.out.Ylt y0pos)
  rw [← HD0.out] at HR2
  have HM := Lib.hid hM
  have HYY := Lib.hid eYY
  have d1lt : D1 < 4294967296 := by
    have h := P.out.dig1.digit_lt
    rw [← HYY.out, ← HD1.out] at h
    exact h
  have d0lt : D0 < 4294967296 := by
    have h := dig2.digit_lt
    rw [← HYY.out, ← HD0.out] at h
    exact h
  have HFin := Lib.hid (show nat2 hi lo / y = D1 * 4294967296 + D0 ∧ nat2 hi lo % y = (M * B32 + v0) % Y / 2 ^ s by
    have h2 := two_digits U v1 v0 Y y0pos
    have h3 := shifted (nat2 hi lo) y (2 ^ s) (Nat.two_pow_pos s)
    rw [P.out.whole, ← P.out.eY] at h3
    rw [← HM.out, ← HD1.out, ← HD0.out] at h2
    rw [← h3.1, ← h3.2, h2.1, h2.2]
    exact ⟨rfl, rfl⟩)
  clear hM eYY
  have M64 : M < B64 := Nat.lt_trans Mlt P.out.Ylt
  have U64 : U < B64 := by have := P.out.dig1.ult; have := P.out.Yhalf; have := P.out.Ylt; omega
  have b1 : y1 < 4294967296 := P.out.dig1.y1lt
  have b2 : 2147483648 ≤ y1 := P.out.dig1.y1ge
  have b3 : y0 < 4294967296 := P.out.dig1.y0lt
  have b4 : v1 < 4294967296 := P.out.dig1.vlt
  have b5 : v0 < 4294967296 := P.out.v0lt
  go_enter Tryd.func48, Tryd.ntmps48
  go_upto_region 15 with (go_at_call 62; refine (lead_any _ _ _ hy HS.out).mono ?_; rintro e w' ⟨rfl, rfl⟩)
  simp only [P.out.iY, P.out.iy1, P.out.iy0, P.out.iU, P.out.iV, P.out.iv1, P.out.iv0]
  go_upto_block 0 with fail
  simp only [guess_q U y1 U64, guess_r U y1 U64]
  go_cut [15] (fun q wx => q = .int .u64 (D1 : Int) ∧ wx = w)
  case first =>
    go_wp2_with fail
    go_loopg [15, 16] (U / y1) (fun k q r wr => ∃ Q R : Int, q = .int .u64 Q ∧ r = .int .u64 R ∧ 0 ≤ Q ∧ 0 ≤ R ∧ DInv U v1 y1 y0 Q.toNat R.toNat ∧ Q.toNat ≤ k ∧ wr = w)
    case atStart => exact ⟨_, _, rfl, rfl, Int.natCast_nonneg _, Int.natCast_nonneg _, by rw [Int.toNat_natCast, Int.toNat_natCast]; exact P.out.dig1.start, by rw [Int.toNat_natCast]; exact Nat.le_refl _, rfl⟩
    case round =>
      obtain ⟨Q, R, rfl, rfl, q0, r0, iv, hk, rfl⟩ := hrel
      have c1 : R < 4294967296 := by have := iv.rlt; unfold B32 at this; omega
      have c2 : Q ≤ 4294967297 := by have := iv.qle; unfold B32 at this; omega
      by_cases t1 : 4294967296 ≤ Q
      · have c3 : 1 ≤ Q := by omega
        have HT := Lib.hid (show B32 ≤ Q.toNat ∨ B32 * R.toNat + v1 < Q.toNat * y0 from .inl (by unfold B32; omega))
        by_cases t3 : 4294967296 ≤ R + y1
        · have HO := Lib.hid (iv.out P.out.dig1 HT.out (by unfold B32; omega))
          rw [← HYY.out, ← HD1.out] at HO
          go_wp2_with fail
          go_meet
          exact ⟨val_int (by have := HO.out; omega), rfl⟩
        · have HO := Lib.hid (iv.next P.out.dig1 HT.out (by unfold B32; omega))
          go_wp2_with fail
          go_roundg (gk - 1)
          case measure => omega
          case rel => exact ⟨Q - 1, R + y1, rfl, rfl, by omega, by omega, by have := HO.out; rwa [show Q.toNat - 1 = (Q - 1).toNat by omega, show R.toNat + y1 = (R + y1).toNat by omega] at this, by omega, rfl⟩
      · by_cases t2 : 4294967296 * R + (v1 : Int) < IntKind.u64.wrap (Q * (y0 : Int))
        · have HT := Lib.hid (show B32 ≤ Q.toNat ∨ B32 * R.toNat + v1 < Q.toNat * y0 from .inr ((test_int Q R y0 v1 q0 r0 (by omega) b3).1 t2))
          have c3 : 1 ≤ Q := by have := Nat.le_trans (Nat.le_add_left 1 _) (iv.yes P.out.dig1 HT.out); omega
          by_cases t3 : 4294967296 ≤ R + y1
          · have HO := Lib.hid (iv.out P.out.dig1 HT.out (by unfold B32; omega))
            rw [← HYY.out, ← HD1.out] at HO
            go_wp2_with fail
            go_meet
            exact ⟨val_int (by have := HO.out; omega), rfl⟩
          · have HO := Lib.hid (iv.next P.out.dig1 HT.out (by unfold B32; omega))
            go_wp2_with fail
            go_roundg (gk - 1)
            case measure => omega
            case rel => exact ⟨Q - 1, R + y1, rfl, rfl, by omega, by omega, by have := HO.out; rwa [show Q.toNat - 1 = (Q - 1).toNat by omega, show R.toNat + y1 = (R + y1).toNat by omega] at this, by omega, rfl⟩
        · have HO := Lib.hid (iv.no P.out.dig1 (Nat.le_of_not_lt (fun h => t2 ((test_int Q R y0 v1 q0 r0 (by omega) b3).2 h))))
          rw [← HYY.out, ← HD1.out] at HO
          go_wp2_with fail
          go_meet
          exact ⟨val_int (by have := HO.out; omega), rfl⟩
  case rest =>
    obtain ⟨rfl, rfl⟩ := hcut
    go_upto_region 22 with fail
    simp only [HR1.out]
    go_upto_block 2 with fail
    simp only [guess_q M y1 M64, guess_r M y1 M64]
    go_cut [18] (fun q wx => q = .int .u64 (D0 : Int) ∧ wx = wc)
    case first =>
      go_wp2_with fail
      go_loopg [18, 16] (M / y1) (fun k q r wr => ∃ Q R : Int, q = .int .u64 Q ∧ r = .int .u64 R ∧ 0 ≤ Q ∧ 0 ≤ R ∧ DInv M v0 y1 y0 Q.toNat R.toNat ∧ Q.toNat ≤ k ∧ wr = wc)
      case atStart => exact ⟨_, _, rfl, rfl, Int.natCast_nonneg _, Int.natCast_nonneg _, by rw [Int.toNat_natCast, Int.toNat_natCast]; exact dig2.start, by rw [Int.toNat_natCast]; exact Nat.le_refl _, rfl⟩
      case round =>
        obtain ⟨Q, R, rfl, rfl, q0, r0, iv, hk, rfl⟩ := hrel
        have c1 : R < 4294967296 := by have := iv.rlt; unfold B32 at this; omega
        have c2 : Q ≤ 4294967297 := by have := iv.qle; unfold B32 at this; omega
        by_cases t1 : 4294967296 ≤ Q
        · have c3 : 1 ≤ Q := by omega
          have HT := Lib.hid (show B32 ≤ Q.toNat ∨ B32 * R.toNat + v0 < Q.toNat * y0 from .inl (by unfold B32; omega))
          by_cases t3 : 4294967296 ≤ R + y1
          · have HO := Lib.hid (iv.out dig2 HT.out (by unfold B32; omega))
            rw [← HYY.out, ← HD0.out] at HO
            go_wp2_with fail
            go_meet
            exact ⟨val_int (by have := HO.out; omega), rfl⟩
          · have HO := Lib.hid (iv.next dig2 HT.out (by unfold B32; omega))
            go_wp2_with fail
            go_roundg (gk - 1)
            case measure => omega
            case rel => exact ⟨Q - 1, R + y1, rfl, rfl, by omega, by omega, by have := HO.out; rwa [show Q.toNat - 1 = (Q - 1).toNat by omega, show R.toNat + y1 = (R + y1).toNat by omega] at this, by omega, rfl⟩
        · by_cases t2 : 4294967296 * R + (v0 : Int) < IntKind.u64.wrap (Q * (y0 : Int))
          · have HT := Lib.hid (show B32 ≤ Q.toNat ∨ B32 * R.toNat + v0 < Q.toNat * y0 from .inr ((test_int Q R y0 v0 q0 r0 (by omega) b3).1 t2))
            have c3 : 1 ≤ Q := by have := Nat.le_trans (Nat.le_add_left 1 _) (iv.yes dig2 HT.out); omega
            by_cases t3 : 4294967296 ≤ R + y1
            · have HO := Lib.hid (iv.out dig2 HT.out (by unfold B32; omega))
              rw [← HYY.out, ← HD0.out] at HO
              go_wp2_with fail
              go_meet
              exact ⟨val_int (by have := HO.out; omega), rfl⟩
            · have HO := Lib.hid (iv.next dig2 HT.out (by unfold B32; omega))
              go_wp2_with fail
              go_roundg (gk - 1)
              case measure => omega
              case rel => exact ⟨Q - 1, R + y1, rfl, rfl, by omega, by omega, by have := HO.out; rwa [show Q.toNat - 1 = (Q - 1).toNat by omega, show R.toNat + y1 = (R + y1).toNat by omega] at this, by omega, rfl⟩
          · have HO := Lib.hid (iv.no dig2 (Nat.le_of_not_lt (fun h => t2 ((test_int Q R y0 v0 q0 r0 (by omega) b3).2 h))))
            rw [← HYY.out, ← HD0.out] at HO
            go_wp2_with fail
            go_meet
            exact ⟨val_int (by have := HO.out; omega), rfl⟩
    case rest =>
      obtain ⟨rfl, rfl⟩ := hcut
      go_wp2_with fail
      simp only [HR2.out]
      go_ret2
      refine ⟨ret_pair ?_ ?_, rfl⟩
      · rw [HFin.out.1]; omega
      · rw [HFin.out.2]; simp
end Go.Proofs.YtgojfonnikgboaaDoor
namespace Go.Proofs.YtgojfonnikgboaaDoor
set_option maxRecDepth 8000
open Go.RowKit Go.Shelf Corr
set_option linter.unusedVariables false

theorem div64_any (hi lo y : Nat) (w : World) (hl : lo < B64) (hy : y < B64) (hlt : hi < y) :
    Calls Tryd.prog 48 #[.int .u64 hi, .int .u64 lo, .int .u64 y] w fun e w' => e = .returned (.tuple #[.int .u64 ((nat2 hi lo / y : Nat) : Int), .int .u64 ((nat2 hi lo % y : Nat) : Int)]) ∧ ∃ n, w' = w.drewN n := by
  by_cases h0 : hi = 0
  · subst h0
    rw [show nat2 0 lo = lo by unfold nat2; omega]
    exact div64_small lo y w hl hy hlt
  · have b1 : 1 ≤ Lib.bitLen y ∧ Lib.bitLen y ≤ 64 := by
      have hy' : y < 2 ^ 64 := hy
      obtain ⟨b1, _, _⟩ := Lib.bitLenAux_bounds 64 y hy' (by omega)
      exact ⟨b1, Lib.bitLen_le y 64 (by omega) hy'⟩
    exact (div64_big hi lo y (64 - Lib.bitLen y) w hl hy hlt (by omega) (by omega) (by omega)).mono fun e w' ⟨he, hw⟩ => ⟨he, 0, hw.symm⟩
end Go.Proofs.YtgojfonnikgboaaDoor
namespace Go.Proofs.YtgojfonnikgboaaDoor
set_option maxRecDepth 8000
open Go.RowKit Corr
set_option linter.unusedVariables false

/-- A block of three cells, in a world that is as it was below. -/
theorem cells3 {W w1 : World} {k : Nat} {a b c : Value} {T : TypeId} (hb : Below W.heap.size W w1) (hk : W.heap[k]? = some (.cells #[a, b, c] T)) :
    (w1.cell? ⟨k, 0, none⟩ = some a ∧ w1.cell? ⟨k, 1, none⟩ = some b ∧ w1.cell? ⟨k, 2, none⟩ = some c) ∧ w1.frozen? ⟨k, 0, none⟩ = false ∧ w1.frozen? ⟨k, 1, none⟩ = false ∧ w1.frozen? ⟨k, 2, none⟩ = false := by
  have hlt : k < W.heap.size := by
    rcases Nat.lt_or_ge k W.heap.size with h | h
    · exact h
    · rw [Array.getElem?_eq_none h] at hk; cases hk
  have h1 : w1.heap[k]? = some (.cells #[a, b, c] T) := by rw [hb.block k hlt]; exact hk
  refine ⟨⟨?_, ?_, ?_⟩, ?_, ?_, ?_⟩
  · rw [Joins.cell_of_block h1]; rfl
  · rw [Joins.cell_of_block h1]; rfl
  · rw [Joins.cell_of_block h1]; rfl
  all_goals exact Joins.unfrozen_of_block h1 _

theorem heap_alloc_new (w : World) (o : Obj) : (w.alloc o).heap[w.heap.size]? = some o := by
  show (w.heap.push o)[w.heap.size]? = some o
  simp
end Go.Proofs.YtgojfonnikgboaaDoor
namespace Corr
set_option maxRecDepth 8000
open Go

section
variable {P : Program} {ops hd : Array Oper} {md : Region.Mode} {C : World → Prop} {n : Nat}

end
end Corr
namespace Go.Proofs.YtgojfonnikgboaaDoor
set_option maxRecDepth 8000
open Go.RowKit Corr
set_option linter.unusedVariables false

/-- Two blocks of three cells, side by side, that may be written. -/
structure Box6 (w : World) (k : Nat) (a b c d e f : Value) : Prop where
  c0 : w.cell? ⟨k, 0, none⟩ = some a
  c1 : w.cell? ⟨k, 1, none⟩ = some b
  c2 : w.cell? ⟨k, 2, none⟩ = some c
  d0 : w.cell? ⟨k + 1, 0, none⟩ = some d
  d1 : w.cell? ⟨k + 1, 1, none⟩ = some e
  d2 : w.cell? ⟨k + 1, 2, none⟩ = some f
  f0 : w.frozen? ⟨k, 0, none⟩ = false
  f1 : w.frozen? ⟨k, 1, none⟩ = false
  f2 : w.frozen? ⟨k, 2, none⟩ = false
  g0 : w.frozen? ⟨k + 1, 0, none⟩ = false
  g1 : w.frozen? ⟨k + 1, 1, none⟩ = false
  g2 : w.frozen? ⟨k + 1, 2, none⟩ = false
  sz : k + 1 < w.heap.size
theorem Box6.keep {W w1 : World} {k : Nat} {a b c d e f : Value} (h : Box6 W k a b c d e f) (hb : Below W.heap.size W w1) : Box6 w1 k a b c d e f := by
  have hk := h.sz
  have e1 : ∀ o, w1.cell? ⟨k, o, none⟩ = W.cell? ⟨k, o, none⟩ := fun o => hb.cell (by show k < _; omega)
  have e2 : ∀ o, w1.cell? ⟨k + 1, o, none⟩ = W.cell? ⟨k + 1, o, none⟩ := fun o => hb.cell (by show k + 1 < _; omega)
  have e3 : ∀ o, w1.frozen? ⟨k, o, none⟩ = W.frozen? ⟨k, o, none⟩ := fun o => hb.frozen (by show k < _; omega)
  have e4 : ∀ o, w1.frozen? ⟨k + 1, o, none⟩ = W.frozen? ⟨k + 1, o, none⟩ := fun o => hb.frozen (by show k + 1 < _; omega)
  exact ⟨(e1 _).trans h.c0, (e1 _).trans h.c1, (e1 _).trans h.c2, (e2 _).trans h.d0, (e2 _).trans h.d1, (e2 _).trans h.d2, (e3 _).trans h.f0, (e3 _).trans h.f1, (e3 _).trans h.f2, (e4 _).trans h.g0, (e4 _).trans h.g1, (e4 _).trans h.g2, Nat.lt_of_lt_of_le hk hb.size⟩
/-- Such blocks, new since the world w. -/
structure New6 (w W : World) (a b c d e f : Value) : Prop where
  box : Box6 W w.heap.size a b c d e f
  below : Below w.heap.size w W
theorem New6.keep {w W w1 : World} {a b c d e f : Value} (h : New6 w W a b c d e f) (hb : Below W.heap.size W w1) : New6 w w1 a b c d e f :=
  ⟨h.box.keep hb, h.below.trans (hb.mono (by have := h.box.sz; omega))⟩
theorem New6.stored {w W : World} {a b c d e f : Value} (h : New6 w W a b c d e f) (a' b' c' d' e' f' : Value) :
    New6 w ((((((W.setCell ⟨w.heap.size, 0, none⟩ a').setCell ⟨w.heap.size, 1, none⟩ b').setCell ⟨w.heap.size, 2, none⟩ c').setCell ⟨w.heap.size + 1, 0, none⟩ d').setCell ⟨w.heap.size + 1, 1, none⟩ e').setCell ⟨w.heap.size + 1, 2, none⟩ f') a' b' c' d' e' f' := by
  obtain ⟨⟨c0, c1, c2, d0, d1, d2, f0, f1, f2, g0, g1, g2, sz⟩, hb⟩ := h
  refine ⟨⟨?_, ?_, ?_, ?_, ?_, ?_, ?_, ?_, ?_, ?_, ?_, ?_, ?_⟩, ?_⟩
  · simp [go_sem, c0]
  · simp [go_sem, c1]
  · simp [go_sem, c2]
  · simp [go_sem, d0]
  · simp [go_sem, d1]
  · simp [go_sem, d2]
  · simp [go_sem, f0]
  · simp [go_sem, f1]
  · simp [go_sem, f2]
  · simp [go_sem, g0]
  · simp [go_sem, g1]
  · simp [go_sem, g2]
  · simp [go_sem]; omega
  · exact (((((hb.setCell (by simp) _).setCell (by simp) _).setCell (by simp) _).setCell (by simp) _).setCell (by simp) _).setCell (by simp) _

end Go.Proofs.YtgojfonnikgboaaDoor
