/- What a function tells; the contract of the statements' own 'known' of layer 2: it answers true. (Written by wip/gen/gendcl.py.) -/
import Derived.Test.YtgkogjlcecbfjaaDc6
namespace Corr
open Go
/-- A Dec: its C and its S. -/
structure IsD (C : Int) (S : Nat) : Prop where
  lo : -9223372036854775808 ≤ C
  hi : C ≤ 9223372036854775807
  s : S ≤ 9
abbrev DV (C S : Int) : Value := .agg #[.int .i64 C, .int .i64 S]
end Corr
namespace Go.Proofs.Ytgkogjlcecbfjaa
open Go.RowKit Corr
set_option linter.unusedVariables false
/-- f tells this of these arguments, whatever the world is. -/
def Ans (f : Nat) (args : Array Value) (c t e : Int) : Prop := ∀ w, Calls Try.prog f args w fun x w' => x = .returned (.tuple #[.agg #[.int .i64 c, .int .i64 t], .int .i64 e]) ∧ Below w.heap.size w w'
/-- .. an int. -/
def AnsI (f : Nat) (args : Array Value) (c : Int) : Prop := ∀ w, Calls Try.prog f args w fun x w' => x = .returned (.int .i64 c) ∧ Below w.heap.size w w'
/-- .. an int and an error. -/
def AnsIE (f : Nat) (args : Array Value) (c e : Int) : Prop := ∀ w, Calls Try.prog f args w fun x w' => x = .returned (.tuple #[.int .i64 c, .int .i64 e]) ∧ Below w.heap.size w w'
/-- .. a truth. -/
def AnsB (f : Nat) (args : Array Value) (b : Bool) : Prop := ∀ w, Calls Try.prog f args w fun x w' => x = .returned (.bool b) ∧ Below w.heap.size w w'
theorem kn_add : Ans 34 #[DV 1 1, DV 9 1] 1 0 0 := fun w => by
  have h := dadd_any 1 9 1 1 1000000000 w (by omega) (by omega) (by omega) (by omega) (by omega) (by omega) (by decide)
  rw [show mC 1000000000 9 = 1 by decide +kernel, show mS 1000000000 9 = 0 by decide +kernel, show mE 1000000000 9 = 0 by decide +kernel] at h
  exact h
theorem kn_div : Ans 37 #[DV 2 0, DV 3 0] 666666667 9 0 := fun w => by
  have h := ddiv_pos 2 3 0 0 666666667 w (by omega) (by omega) (by omega) (by omega) (by omega) (by omega) (by omega) (by decide +kernel)
  rw [show mC 666666667 9 = 666666667 by decide +kernel, show mS 666666667 9 = 9 by decide +kernel, show mE 666666667 9 = 0 by decide +kernel] at h
  exact h
theorem kn_r12 : Ans 49 #[DV 125 3, .int .i64 2] 12 2 0 := fun w => by
  have h := dround_any 125 3 2 12 w (by omega) (by omega) (by omega) (by omega) (by decide +kernel)
  rw [show mC 12 2 = 12 by decide +kernel, show mS 12 2 = 2 by decide +kernel, show mE 12 2 = 0 by decide +kernel] at h
  exact h
theorem kn_r13 : Ans 49 #[DV 135 3, .int .i64 2] 14 2 0 := fun w => by
  have h := dround_any 135 3 2 14 w (by omega) (by omega) (by omega) (by omega) (by decide +kernel)
  rw [show mC 14 2 = 14 by decide +kernel, show mS 14 2 = 2 by decide +kernel, show mE 14 2 = 0 by decide +kernel] at h
  exact h
theorem kn_mul : Ans 36 #[DV 10000000000 0, DV 1000000000 0] 0 0 11 := fun w => by
  have h := dmul_any 10000000000 1000000000 0 0 10000000000000000000000000000 w (by omega) (by omega) (by omega) (by omega) (by omega) (by omega) (by decide +kernel)
  rw [show mC 10000000000000000000000000000 9 = 0 by decide +kernel, show mS 10000000000000000000000000000 9 = 0 by decide +kernel, show mE 10000000000000000000000000000 9 = 11 by decide +kernel] at h
  exact h
set_option maxHeartbeats 2000000 in
theorem known2_any : AnsB 40 #[] true := fun w => by
  have HA := Lib.hid kn_add
  have HD := Lib.hid kn_div
  have HR := Lib.hid kn_r12
  have HS := Lib.hid kn_r13
  have HM := Lib.hid kn_mul
  have HO := Lib.hid dof_any
  have S0 := Mem.start w
  go_enter Try.func40, Try.ntmps40
  go_wp2_with fail
  refine (HA.out _).mono ?_
  rintro e w1 ⟨rfl, hb⟩
  have S1 := (S0.keep hb).push #[.int .i64 1, .int .i64 0] 59
  clear S0 hb
  go_wp2_with fail
  refine (HO.out 2 _).mono ?_
  rintro e w2 ⟨rfl, hb⟩
  have S2 := S1.keep hb
  clear S1 hb
  go_wp2_with fail
  refine (HO.out 3 _).mono ?_
  rintro e w3 ⟨rfl, hb⟩
  have S3 := S2.keep hb
  clear S2 hb
  go_wp2_with fail
  refine (HD.out _).mono ?_
  rintro e w4 ⟨rfl, hb⟩
  have S4 := (S3.keep hb).push #[.int .i64 666666667, .int .i64 9] 59
  clear S3 hb
  go_wp2_with fail
  refine (HR.out _).mono ?_
  rintro e w5 ⟨rfl, hb⟩
  have S5 := (S4.keep hb).push #[.int .i64 12, .int .i64 2] 59
  clear S4 hb
  go_wp2_with fail
  refine (HS.out _).mono ?_
  rintro e w6 ⟨rfl, hb⟩
  have S6 := (S5.keep hb).push #[.int .i64 14, .int .i64 2] 59
  clear S5 hb
  go_wp2_with fail
  refine (HO.out 10000000000 _).mono ?_
  rintro e w7 ⟨rfl, hb⟩
  have S7 := S6.keep hb
  clear S6 hb
  go_wp2_with fail
  refine (HO.out 1000000000 _).mono ?_
  rintro e w8 ⟨rfl, hb⟩
  have S8 := S7.keep hb
  clear S7 hb
  have x0_0 := S8.c 0 0 rfl rfl
  have x0_1 := S8.c 0 1 rfl rfl
  have x1_0 := S8.c 1 0 rfl rfl
  have x1_1 := S8.c 1 1 rfl rfl
  have x2_0 := S8.c 2 0 rfl rfl
  have x2_1 := S8.c 2 1 rfl rfl
  have x3_0 := S8.c 3 0 rfl rfl
  have x3_1 := S8.c 3 1 rfl rfl
  go_wp2_with fail
  refine (HM.out _).mono ?_
  rintro e w9 ⟨rfl, hb⟩
  have S9 := (S8.keep hb).push #[.int .i64 0, .int .i64 0] 59
  clear x0_0 x0_1 x1_0 x1_1 x2_0 x2_1 x3_0 x3_1 S8 hb
  have x0_0 := S9.c 0 0 rfl rfl
  have x0_1 := S9.c 0 1 rfl rfl
  have x1_0 := S9.c 1 0 rfl rfl
  have x1_1 := S9.c 1 1 rfl rfl
  have x2_0 := S9.c 2 0 rfl rfl
  have x2_1 := S9.c 2 1 rfl rfl
  have x3_0 := S9.c 3 0 rfl rfl
  have x3_1 := S9.c 3 1 rfl rfl
  have HB := Lib.hid S9.bl
  clear S9
  go_wp2_with fail
  go_ret
  exact ⟨rfl, HB.out⟩
end Go.Proofs.Ytgkogjlcecbfjaa
