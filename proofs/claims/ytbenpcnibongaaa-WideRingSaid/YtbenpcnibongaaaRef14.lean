/- Contracts of the statements' own 'told'. -/
import Derived.Test.YtbenpcnibongaaaRef13
namespace Go.Proofs.Ytbenpcnibongaaa
open Go.RowKit Corr
set_option linter.unusedVariables false

set_option maxHeartbeats 1000000 in
/-- An answer that is the document's number. -/
theorem told_ok (s : Bool) (A : Option Addr) (n c a h l : Nat) (w : World) (hx : Row w A n c (digs a)) (hn : n ≤ 1000) (ha : a < B128) (hh : hiW a = h) (hl : loW a = l) :
    Calls Try.prog 13 #[WV s h l, .int .i64 0, .agg #[.bool s, .slice A n c]] w fun e w' => e = .returned (.bool true) ∧ Below w.heap.size w w' := by
  have S0 := (((Mem.start w).add hx).push #[.bool s, .int .u64 (h : Int), .int .u64 (l : Int)] 24).push #[.bool s, .slice A n c] 27
  simp only [size_alloc] at S0
  have HA := Lib.hid ha
  have HH := Lib.hid hh
  have HL := Lib.hid hl
  clear ha hh hl
  go_enter Try.func13, Try.ntmps13
  go_wp2_with fail
  refine (nas_any _ _ _ _ _ _ (S0.r 0 rfl) hn).mono ?_
  rintro e w1 ⟨⟨_, rfl⟩ | ⟨h1, _⟩, hb⟩
  · rw [HH.out, HL.out]
    have S1 := (S0.keep hb).push #[.bool s, .int .u64 (h : Int), .int .u64 (l : Int)] 24
    have HB := Lib.hid S1.bl
    have x0 := S1.c 0 0 rfl rfl; have x1 := S1.c 0 1 rfl rfl; have x2 := S1.c 0 2 rfl rfl
    have y0 := S1.c 2 0 rfl rfl; have y1 := S1.c 2 1 rfl rfl; have y2 := S1.c 2 2 rfl rfl
    clear S0 S1 hb
    go_wp2_with fail
    go_ret
    exact ⟨rfl, HB.out⟩
  · exact absurd HA.out h1

set_option maxHeartbeats 1000000 in
/-- .. or is refused, where the document's number needs more bits. -/
theorem told_over (s : Bool) (A : Option Addr) (n c a : Nat) (w : World) (hx : Row w A n c (digs a)) (hn : n ≤ 1000) (ha : ¬ a < B128) :
    Calls Try.prog 13 #[.agg #[.bool false, .int .u64 0, .int .u64 0], .int .i64 11, .agg #[.bool s, .slice A n c]] w fun e w' => e = .returned (.bool true) ∧ Below w.heap.size w w' := by
  have S0 := (((Mem.start w).add hx).push #[.bool false, .int .u64 0, .int .u64 0] 24).push #[.bool s, .slice A n c] 27
  simp only [size_alloc] at S0
  have HA := Lib.hid ha
  clear ha
  go_enter Try.func13, Try.ntmps13
  go_wp2_with fail
  refine (nas_any _ _ _ _ _ _ (S0.r 0 rfl) hn).mono ?_
  rintro e w1 ⟨⟨h1, _⟩ | ⟨_, rfl⟩, hb⟩
  · exact absurd h1 HA.out
  · have S1 := (S0.keep hb).push #[.bool false, .int .u64 0, .int .u64 0] 24
    have HB := Lib.hid S1.bl
    have x0 := S1.c 0 0 rfl rfl; have x1 := S1.c 0 1 rfl rfl; have x2 := S1.c 0 2 rfl rfl
    clear S0 S1 hb
    go_wp2_with fail
    go_ret
    exact ⟨rfl, HB.out⟩
end Go.Proofs.Ytbenpcnibongaaa
