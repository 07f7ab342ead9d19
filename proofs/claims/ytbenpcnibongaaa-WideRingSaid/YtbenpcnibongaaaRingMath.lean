/- For WideRing: what package wide answers beside what the document does, with no case left. -/
import Derived.Test.YtbenpcnibongaaaRef16
import Derived.Test.YtbenpcnibongaaaRef17
import Derived.Test.YtbenpcnibongaaaTen
namespace Go.Proofs.Ytbenpcnibongaaa
open Go.RowKit Corr
set_option linter.unusedVariables false

/-- 'told' answers true at this answer and the row of z. -/
def Told (b : Bool) (h l : Nat) (e : Int) (z : Int) : Prop := ∀ (A : Option Addr) (n c : Nat) (w : World), Row w A n c (digs z.natAbs) → n ≤ 1000 →
  Calls Try.prog 13 #[.agg #[.bool b, .int .u64 (h : Int), .int .u64 (l : Int)], .int .i64 e, .agg #[.bool (negB z), .slice A n c]] w fun e w' => e = .returned (.bool true) ∧ Below w.heap.size w w'
theorem told_z (z : Int) (hz : z.natAbs < B128) : Told (negB z) (hiW z.natAbs) (loW z.natAbs) 0 z := fun A n c w hx hn => told_ok (negB z) A n c z.natAbs _ _ w hx hn hz rfl rfl
theorem told_no (z : Int) (hz : ¬ z.natAbs < B128) : Told false 0 0 11 z := fun A n c w hx hn => told_over (negB z) A n c z.natAbs w hx hn hz
theorem times_told (s : Bool) (h l n : Nat) (z : Int) (hh : h < B64) (hl : l < B64) (hn : n < B64) (hz : val s (nat2 h l) * n = z) : ∃ (b : Bool) (h' l' : Nat) (e : Int),
    (∀ w, Calls Try.prog 7 #[WV s h l, .int .u64 n] w fun x w' => x = .returned (.tuple #[.agg #[.bool b, .int .u64 (h' : Int), .int .u64 (l' : Int)], .int .i64 e]) ∧ Below w.heap.size w w') ∧ Told b h' l' e z := by
  have hza : z.natAbs = nat2 h l * n := by rw [← hz, val_mul, natAbs_val]
  by_cases hf : nat2 h l * n < B128
  · refine ⟨negB z, hiW z.natAbs, loW z.natAbs, 0, fun w => ?_, told_z z (by rw [hza]; exact hf)⟩
    have := times_ok s h l n w hh hl hn hf
    rw [← val_mul, hz] at this
    exact this
  · exact ⟨false, 0, 0, 11, fun w => times_over' s h l n w hh hl hn hf, told_no z (by rw [hza]; exact hf)⟩
theorem add_told (s s' : Bool) (h l h' l' : Nat) (z : Int) (hh : h < B64) (hl : l < B64) (hh' : h' < B64) (hl' : l' < B64) (hz : val s (nat2 h l) + val s' (nat2 h' l') = z) : ∃ (b : Bool) (hi lo : Nat) (e : Int),
    (∀ w, Calls Try.prog 8 #[WV s h l, WV s' h' l'] w fun x w' => x = .returned (.tuple #[.agg #[.bool b, .int .u64 (hi : Int), .int .u64 (lo : Int)], .int .i64 e]) ∧ Below w.heap.size w w') ∧ Told b hi lo e z := by
  by_cases hf : z.natAbs < B128
  · exact ⟨negB z, hiW z.natAbs, loW z.natAbs, 0, fun w => add_ok s s' h l h' l' z w hh hl hh' hl' hz hf, told_z z hf⟩
  · exact ⟨false, 0, 0, 11, fun w => add_over s s' h l h' l' z w hh hl hh' hl' hz hf, told_no z hf⟩
/-- Both Smalls answer one thing. -/
theorem small_both (s : Bool) (h l : Nat) (z : Int) (hl : l < B64) (hz : val s (nat2 h l) = z) : ∃ (c : Int) (ok : Bool),
    (∀ w, Calls Try.prog 21 #[WV s h l] w fun x w' => x = .returned (.tuple #[.int .i64 c, .bool ok]) ∧ Below w.heap.size w w') ∧
    (∀ (A : Option Addr) (n ca : Nat) (w : World), Row w A n ca (digs z.natAbs) → n ≤ 1000 → Calls Try.prog 22 #[.agg #[.bool (negB z), .slice A n ca]] w fun x w' => x = .returned (.tuple #[.int .i64 c, .bool ok]) ∧ Below w.heap.size w w') := by
  by_cases h1 : -9223372036854775808 ≤ z ∧ z ≤ 9223372036854775807
  · refine ⟨z, true, fun w => small_ok s h l z w hl hz h1.1 h1.2, fun A n ca w hx hn => ?_⟩
    cases hb : negB z with
    | false =>
      have hv := val_neg z
      rw [hb] at hv
      exact nsmall_pos A n ca z.natAbs z w hx hn hv h1.2
    | true =>
      have hv := val_neg z
      rw [hb] at hv
      exact nsmall_neg A n ca z.natAbs z w hx hn hv h1.1
  · refine ⟨0, false, fun w => small_no s h l z w hl hz h1, fun A n ca w hx hn => ?_⟩
    rcases Int.lt_or_le z (-9223372036854775808) with h2 | h2
    · exact nsmall_low (negB z) A n ca z.natAbs z w hx hn (val_neg z) h2
    · exact nsmall_high (negB z) A n ca z.natAbs z w hx hn (val_neg z) (by omega)
/-- As, where it fits. -/
theorem nas_fit (b : Bool) (h l : Nat) (A : Option Addr) (n c : Nat) (z : Int) (w : World) (hx : Row w A n c (digs z.natAbs)) (hn : n ≤ 1000) (hz : z.natAbs < B128) (e1 : negB z = b) (e2 : hiW z.natAbs = h) (e3 : loW z.natAbs = l) :
    Calls Try.prog 9 #[.agg #[.bool b, .slice A n c]] w fun x w' => x = .returned (.tuple #[.agg #[.bool b, .int .u64 (h : Int), .int .u64 (l : Int)], .bool true]) ∧ Below w.heap.size w w' := by
  subst e1 e2 e3
  refine (nas_any _ _ _ _ _ _ hx hn).mono ?_
  rintro e w' ⟨⟨_, rfl⟩ | ⟨hno, _⟩, hb⟩
  · exact ⟨rfl, hb⟩
  · exact absurd hz hno
theorem nof_w (b : Bool) (a : Int) (w : World) (h1 : -9223372036854775808 ≤ a) (h2 : a ≤ 9223372036854775807) (hb : negB a = b) : Calls Try.prog 11 #[.int .i64 a] w (RetN w b (digs a.natAbs)) := by
  subst hb; exact nof_any a w h1 h2
theorem nwide_w (b s : Bool) (h l : Nat) (z : Int) (w : World) (hh : h < B64) (hl : l < B64) (hz : val s (nat2 h l) = z) (hb : negB z = b) : Calls Try.prog 6 #[WV s h l] w (RetN w b (digs z.natAbs)) := by
  subst hb; exact nwide_any s h l z w hh hl hz
theorem nmul_w (b s s' : Bool) (A B : Option Addr) (n m ca cb : Nat) (x y z : Int) (w : World) (hx : Row w A n ca (digs x.natAbs)) (hy : Row w B m cb (digs y.natAbs)) (hn : n ≤ 2000) (hm : m ≤ 2000) (hs : negB x = s) (hs' : negB y = s') (hz : x * y = z) (hb : negB z = b) :
    Calls Try.prog 10 #[.agg #[.bool s, .slice A n ca], .agg #[.bool s', .slice B m cb]] w (RetN w b (digs z.natAbs)) := by
  subst hs hs' hb
  exact nmul_any _ _ A B n m ca cb _ _ z w hx hy hn hm (by rw [val_neg, val_neg]; exact hz)
theorem nadd_w (b s s' : Bool) (A B : Option Addr) (n m ca cb : Nat) (x y z : Int) (w : World) (hx : Row w A n ca (digs x.natAbs)) (hy : Row w B m cb (digs y.natAbs)) (hn : n ≤ 5000) (hm : m ≤ 5000) (hs : negB x = s) (hs' : negB y = s') (hz : x + y = z) (hb : negB z = b) :
    Calls Try.prog 15 #[.agg #[.bool s, .slice A n ca], .agg #[.bool s', .slice B m cb]] w (RetN w b (digs z.natAbs)) := by
  subst hs hs' hb
  exact nadd_any _ _ A B n m ca cb _ _ z w hx hy hn hm (by rw [val_neg, val_neg]; exact hz)
theorem ncmp_w (s s' : Bool) (A B : Option Addr) (n m ca cb : Nat) (x y c : Int) (w : World) (hx : Row w A n ca (digs x.natAbs)) (hy : Row w B m cb (digs y.natAbs)) (hn : n ≤ 5000) (hm : m ≤ 5000) (hs : negB x = s) (hs' : negB y = s') (hc : cmpI x y = c) :
    Calls Try.prog 20 #[.agg #[.bool s, .slice A n ca], .agg #[.bool s', .slice B m cb]] w (RetI w c) := by
  subst hs hs' hc
  have h := ncmp_any (negB x) (negB y) A B n m ca cb _ _ w hx hy hn hm
  rw [val_neg, val_neg] at h
  exact h
theorem nneg_w (b s : Bool) (A : Option Addr) (n c : Nat) (x z : Int) (w : World) (hx : Row w A n c (digs x.natAbs)) (hn : n ≤ 100000) (hs : negB x = s) (hz : -x = z) (hb : negB z = b) :
    Calls Try.prog 12 #[.agg #[.bool s, .slice A n c]] w (RetN w b (digs z.natAbs)) := by
  subst hs hz hb
  exact nneg_any _ A n c _ x w hx hn (val_neg x)
/-- package wide's own answers, by their parts. -/
theorem mul_w (b : Bool) (h l : Nat) (x y z : Int) (w : World) (a1 : -9223372036854775808 ≤ x) (a2 : x ≤ 9223372036854775807) (b1 : -9223372036854775808 ≤ y) (b2 : y ≤ 9223372036854775807) (hz : x * y = z) (e1 : negB z = b) (e2 : hiW z.natAbs = h) (e3 : loW z.natAbs = l) :
    Calls Try.prog 16 #[.int .i64 x, .int .i64 y] w fun e w' => e = .returned (.agg #[.bool b, .int .u64 (h : Int), .int .u64 (l : Int)]) ∧ Below w.heap.size w w' := by
  subst hz e1 e2 e3; exact mul_any x y w a1 a2 b1 b2
theorem of_w (b : Bool) (h l : Nat) (x : Int) (w : World) (a1 : -9223372036854775808 ≤ x) (a2 : x ≤ 9223372036854775807) (e1 : negB x = b) (e2 : hiW x.natAbs = h) (e3 : loW x.natAbs = l) :
    Calls Try.prog 17 #[.int .i64 x] w fun e w' => e = .returned (.agg #[.bool b, .int .u64 (h : Int), .int .u64 (l : Int)]) ∧ Below w.heap.size w w' := by
  subst e1 e2 e3; exact of_any x w a1 a2
theorem neg_w (b s : Bool) (h l h' l' : Nat) (x z : Int) (w : World) (hh : h < B64) (hl : l < B64) (hx : val s (nat2 h l) = x) (hz : -x = z) (e1 : negB z = b) (e2 : hiW z.natAbs = h') (e3 : loW z.natAbs = l') :
    Calls Try.prog 18 #[WV s h l] w fun e w' => e = .returned (.agg #[.bool b, .int .u64 (h' : Int), .int .u64 (l' : Int)]) ∧ Below w.heap.size w w' := by
  subst hz e1 e2 e3; exact neg_any s h l x w hh hl hx
theorem cmp_w (s s' : Bool) (h l h' l' : Nat) (x y c : Int) (w : World) (hh : h < B64) (hl : l < B64) (hh' : h' < B64) (hl' : l' < B64) (hx : val s (nat2 h l) = x) (hy : val s' (nat2 h' l') = y) (hc : cmpI x y = c) :
    Calls Try.prog 19 #[WV s h l, WV s' h' l'] w fun e w' => e = .returned (.int .i64 c) ∧ Below w.heap.size w w' := by
  subst hx hy hc; exact cmp_walk s s' h l h' l' w hh hl hh' hl'
theorem abs7 {a : Int} (a1 : -9223372036854775808 ≤ a) (a2 : a ≤ 9223372036854775807) : a.natAbs < 1000 ^ 7 :=
  Nat.lt_of_le_of_lt (show a.natAbs ≤ 9223372036854775808 by omega) (by decide)
theorem abs128 {a : Int} (a1 : -9223372036854775808 ≤ a) (a2 : a ≤ 9223372036854775807) : a.natAbs < B128 :=
  Nat.lt_of_le_of_lt (show a.natAbs ≤ 9223372036854775808 by omega) (by decide)
theorem prod_abs {x y z : Int} (a1 : -9223372036854775808 ≤ x) (a2 : x ≤ 9223372036854775807) (b1 : -9223372036854775808 ≤ y) (b2 : y ≤ 9223372036854775807) (hz : x * y = z) : z.natAbs < B128 := by
  subst hz
  rw [Int.natAbs_mul]
  exact prod_lt (by unfold B64; omega) (by unfold B64; omega)
end Go.Proofs.Ytbenpcnibongaaa
