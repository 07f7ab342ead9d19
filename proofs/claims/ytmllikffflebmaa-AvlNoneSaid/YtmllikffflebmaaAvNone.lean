/- The law AvlNone. -/
import Derived.Test.YtmllikffflebmaaAvKnown
namespace Go.Proofs.Ytmllikffflebmaa
set_option maxRecDepth 8000
open Go.RowKit Corr
set_option linter.unusedVariables false
set_option linter.unusedSimpArgs false
/-- What package avl does with a tree that is not there, or was not made: 'NilT w p' says that p is one in w. -/
structure AvlN (NilT : World → Value → Prop) : Prop where
  keep : ∀ {w w' p}, NilT w p → Below w.heap.size w w' → NilT w' p
  nil : ∀ w : World, NilT w (.pointer none)
  zero : ∀ w : World, NilT (w.alloc (.cells #[.pointer none] 45)) (.pointer (some ⟨w.heap.size, 0, none⟩))
  node : ∀ (w : World) (p : Value) (k : Int), NilT w p → Calls Try.prog 18 #[p, .int .i64 k] w fun e w' => e = .returned (.tuple #[.agg #[.int .i64 0, .int .i64 0, .int .i64 0, .int .i64 0, .int .i64 0, .int .i64 0, .int .i64 0], .bool false]) ∧ Below w.heap.size w w'
  insert : ∀ (w : World) (p : Value) (x : It), NilT w p → Calls Try.prog 8 #[p, itV x] w fun e w' => e = .returned (.int .i64 1) ∧ Below w.heap.size w w'
  delete : ∀ (w : World) (p : Value) (x : It), NilT w p → Calls Try.prog 10 #[p, itV x] w fun e w' => e = .returned (.int .i64 1) ∧ Below w.heap.size w w'
  has : ∀ (w : World) (p : Value) (x : It), NilT w p → Calls Try.prog 12 #[p, itV x] w fun e w' => e = .returned (.bool false) ∧ Below w.heap.size w w'
  len : ∀ (w : World) (p : Value), NilT w p → Calls Try.prog 16 #[p] w fun e w' => e = .returned (.int .i64 0) ∧ Below w.heap.size w w'
  items : ∀ (w : World) (p : Value), NilT w p → Calls Try.prog 14 #[p] w fun e w' => ∃ (A : Option Addr) (c : Nat), e = .returned (.slice A 0 c) ∧ Below w.heap.size w w'
  root : ∀ (w : World) (p : Value), NilT w p → Calls Try.prog 19 #[p] w fun e w' => e = .returned (.int .i64 (-1)) ∧ Below w.heap.size w w'
set_option maxHeartbeats 4000000 in
theorem avnone_any {Rep : RepT} (K : AvlK Rep) {NilT : World → Value → Prop} (V : AvlN NilT) (x : It) (place : Int) (w : World) : Calls Try.prog 5 #[itV x, .int .i64 place] w fun e w' => e = .returned (.bool true) ∧ Below w.heap.size w w' := by
  obtain ⟨x1, x2, x3⟩ := x
  have HK := Lib.hid K
  have HV := Lib.hid V
  clear K V
  have S0 := (((Mem.start w).push #[.int .i64 x1, .int .i64 x2, .int .i64 x3] 33).push #[.pointer none] 45).push #[.pointer none, .pointer (some ⟨w.heap.size + 1, 0, none⟩)] 24
  simp only [size_alloc] at S0
  have HZ : NilT (((w.alloc (.cells #[.int .i64 x1, .int .i64 x2, .int .i64 x3] 33)).alloc (.cells #[.pointer none] 45)).alloc (.cells #[.pointer none, .pointer (some ⟨w.heap.size + 1, 0, none⟩)] 24)) (.pointer (some ⟨w.heap.size + 1, 0, none⟩)) := by have h := HV.out.zero (w.alloc (.cells #[.int .i64 x1, .int .i64 x2, .int .i64 x3] 33)); simp only [size_alloc] at h; exact HV.out.keep h ((Below.refl _ _).alloc (Nat.le_refl _) _)
  have HZ := Lib.hid HZ
  have HS := Lib.hid S0
  clear S0
  go_enter Try.func5, Try.ntmps5
  have y0 := HS.out.c 0 0 rfl rfl; have y1 := HS.out.c 0 1 rfl rfl; have y2 := HS.out.c 0 2 rfl rfl; have z0 := HS.out.c 2 0 rfl rfl; have z1 := HS.out.c 2 1 rfl rfl
  go_wp2_with fail
  refine wp_loop_rounds 3 ?_
  clear y0 y1 y2 z0 z1
  rw [rounds_succ]
  have y0 := HS.out.c 0 0 rfl rfl; have y1 := HS.out.c 0 1 rfl rfl; have y2 := HS.out.c 0 2 rfl rfl; have z0 := HS.out.c 2 0 rfl rfl; have z1 := HS.out.c 2 1 rfl rfl
  go_wp2_with fail
  refine (HV.out.node _ (.pointer none) place (HV.out.nil _)).mono ?_
  rintro e w1 ⟨rfl, b1⟩
  clear y0 y1 y2 z0 z1
  have HS2 := Lib.hid (HS.out.keep b1)
  have HZ2 := Lib.hid (HV.out.keep HZ.out b1)
  clear HS HZ
  have HS := HS2
  have HZ := HZ2
  clear HS2 HZ2 b1
  have hk := (Below.refl w1.heap.size w1).alloc (Nat.le_refl _) (.cells #[.int .i64 0, .int .i64 0, .int .i64 0, .int .i64 0, .int .i64 0, .int .i64 0, .int .i64 0] 48)
  have HS2 := Lib.hid (HS.out.push #[.int .i64 0, .int .i64 0, .int .i64 0, .int .i64 0, .int .i64 0, .int .i64 0, .int .i64 0] 48)
  have HZ2 := Lib.hid (HV.out.keep HZ.out hk)
  clear HS HZ hk
  have HS := HS2
  have HZ := HZ2
  clear HS2 HZ2
  have y0 := HS.out.c 0 0 rfl rfl; have y1 := HS.out.c 0 1 rfl rfl; have y2 := HS.out.c 0 2 rfl rfl; have z0 := HS.out.c 2 0 rfl rfl; have z1 := HS.out.c 2 1 rfl rfl
  go_wp2_with fail
  refine (HV.out.insert _ (.pointer none) (x1, x2, x3) (HV.out.nil _)).mono ?_
  rintro e w2 ⟨rfl, b1⟩
  clear y0 y1 y2 z0 z1
  have HS2 := Lib.hid (HS.out.keep b1)
  have HZ2 := Lib.hid (HV.out.keep HZ.out b1)
  clear HS HZ
  have HS := HS2
  have HZ := HZ2
  clear HS2 HZ2 b1
  have y0 := HS.out.c 0 0 rfl rfl; have y1 := HS.out.c 0 1 rfl rfl; have y2 := HS.out.c 0 2 rfl rfl; have z0 := HS.out.c 2 0 rfl rfl; have z1 := HS.out.c 2 1 rfl rfl
  go_wp2_with fail
  refine (HV.out.delete _ (.pointer none) (x1, x2, x3) (HV.out.nil _)).mono ?_
  rintro e w3 ⟨rfl, b1⟩
  clear y0 y1 y2 z0 z1
  have HS2 := Lib.hid (HS.out.keep b1)
  have HZ2 := Lib.hid (HV.out.keep HZ.out b1)
  clear HS HZ
  have HS := HS2
  have HZ := HZ2
  clear HS2 HZ2 b1
  have y0 := HS.out.c 0 0 rfl rfl; have y1 := HS.out.c 0 1 rfl rfl; have y2 := HS.out.c 0 2 rfl rfl; have z0 := HS.out.c 2 0 rfl rfl; have z1 := HS.out.c 2 1 rfl rfl
  go_wp2_with fail
  refine (HV.out.has _ (.pointer none) (x1, x2, x3) (HV.out.nil _)).mono ?_
  rintro e w4 ⟨rfl, b1⟩
  clear y0 y1 y2 z0 z1
  have HS2 := Lib.hid (HS.out.keep b1)
  have HZ2 := Lib.hid (HV.out.keep HZ.out b1)
  clear HS HZ
  have HS := HS2
  have HZ := HZ2
  clear HS2 HZ2 b1
  have y0 := HS.out.c 0 0 rfl rfl; have y1 := HS.out.c 0 1 rfl rfl; have y2 := HS.out.c 0 2 rfl rfl; have z0 := HS.out.c 2 0 rfl rfl; have z1 := HS.out.c 2 1 rfl rfl
  go_wp2_with fail
  refine (HV.out.len _ (.pointer none) (HV.out.nil _)).mono ?_
  rintro e w5 ⟨rfl, b1⟩
  clear y0 y1 y2 z0 z1
  have HS2 := Lib.hid (HS.out.keep b1)
  have HZ2 := Lib.hid (HV.out.keep HZ.out b1)
  clear HS HZ
  have HS := HS2
  have HZ := HZ2
  clear HS2 HZ2 b1
  have y0 := HS.out.c 0 0 rfl rfl; have y1 := HS.out.c 0 1 rfl rfl; have y2 := HS.out.c 0 2 rfl rfl; have z0 := HS.out.c 2 0 rfl rfl; have z1 := HS.out.c 2 1 rfl rfl
  go_wp2_with fail
  refine (HV.out.items _ (.pointer none) (HV.out.nil _)).mono ?_
  rintro e w6 ⟨A0, c0, rfl, b1⟩
  clear y0 y1 y2 z0 z1
  have HS2 := Lib.hid (HS.out.keep b1)
  have HZ2 := Lib.hid (HV.out.keep HZ.out b1)
  clear HS HZ
  have HS := HS2
  have HZ := HZ2
  clear HS2 HZ2 b1
  have y0 := HS.out.c 0 0 rfl rfl; have y1 := HS.out.c 0 1 rfl rfl; have y2 := HS.out.c 0 2 rfl rfl; have z0 := HS.out.c 2 0 rfl rfl; have z1 := HS.out.c 2 1 rfl rfl
  go_wp2_with fail
  refine (HV.out.root _ (.pointer none) (HV.out.nil _)).mono ?_
  rintro e w7 ⟨rfl, b1⟩
  clear y0 y1 y2 z0 z1
  have HS2 := Lib.hid (HS.out.keep b1)
  have HZ2 := Lib.hid (HV.out.keep HZ.out b1)
  clear HS HZ
  have HS := HS2
  have HZ := HZ2
  clear HS2 HZ2 b1
  have q0 := HS.out.c 3 0 rfl rfl; have q1 := HS.out.c 3 1 rfl rfl; have q2 := HS.out.c 3 2 rfl rfl; have q3 := HS.out.c 3 3 rfl rfl; have q4 := HS.out.c 3 4 rfl rfl; have q5 := HS.out.c 3 5 rfl rfl; have q6 := HS.out.c 3 6 rfl rfl
  go_wp2_with fail
  clear q0 q1 q2 q3 q4 q5 q6
  rw [rounds_succ]
  have y0 := HS.out.c 0 0 rfl rfl; have y1 := HS.out.c 0 1 rfl rfl; have y2 := HS.out.c 0 2 rfl rfl; have z0 := HS.out.c 2 0 rfl rfl; have z1 := HS.out.c 2 1 rfl rfl
  go_wp2_with fail
  refine (HV.out.node _ (.pointer (some ⟨w.heap.size + 1, 0, none⟩)) place HZ.out).mono ?_
  rintro e w8 ⟨rfl, b1⟩
  clear y0 y1 y2 z0 z1
  have HS2 := Lib.hid (HS.out.keep b1)
  have HZ2 := Lib.hid (HV.out.keep HZ.out b1)
  clear HS HZ
  have HS := HS2
  have HZ := HZ2
  clear HS2 HZ2 b1
  have hk := (Below.refl w8.heap.size w8).alloc (Nat.le_refl _) (.cells #[.int .i64 0, .int .i64 0, .int .i64 0, .int .i64 0, .int .i64 0, .int .i64 0, .int .i64 0] 48)
  have HS2 := Lib.hid (HS.out.push #[.int .i64 0, .int .i64 0, .int .i64 0, .int .i64 0, .int .i64 0, .int .i64 0, .int .i64 0] 48)
  have HZ2 := Lib.hid (HV.out.keep HZ.out hk)
  clear HS HZ hk
  have HS := HS2
  have HZ := HZ2
  clear HS2 HZ2
  have y0 := HS.out.c 0 0 rfl rfl; have y1 := HS.out.c 0 1 rfl rfl; have y2 := HS.out.c 0 2 rfl rfl; have z0 := HS.out.c 2 0 rfl rfl; have z1 := HS.out.c 2 1 rfl rfl
  go_wp2_with fail
  refine (HV.out.insert _ (.pointer (some ⟨w.heap.size + 1, 0, none⟩)) (x1, x2, x3) HZ.out).mono ?_
  rintro e w9 ⟨rfl, b1⟩
  clear y0 y1 y2 z0 z1
  have HS2 := Lib.hid (HS.out.keep b1)
  have HZ2 := Lib.hid (HV.out.keep HZ.out b1)
  clear HS HZ
  have HS := HS2
  have HZ := HZ2
  clear HS2 HZ2 b1
  have y0 := HS.out.c 0 0 rfl rfl; have y1 := HS.out.c 0 1 rfl rfl; have y2 := HS.out.c 0 2 rfl rfl; have z0 := HS.out.c 2 0 rfl rfl; have z1 := HS.out.c 2 1 rfl rfl
  go_wp2_with fail
  refine (HV.out.delete _ (.pointer (some ⟨w.heap.size + 1, 0, none⟩)) (x1, x2, x3) HZ.out).mono ?_
  rintro e w10 ⟨rfl, b1⟩
  clear y0 y1 y2 z0 z1
  have HS2 := Lib.hid (HS.out.keep b1)
  have HZ2 := Lib.hid (HV.out.keep HZ.out b1)
  clear HS HZ
  have HS := HS2
  have HZ := HZ2
  clear HS2 HZ2 b1
  have y0 := HS.out.c 0 0 rfl rfl; have y1 := HS.out.c 0 1 rfl rfl; have y2 := HS.out.c 0 2 rfl rfl; have z0 := HS.out.c 2 0 rfl rfl; have z1 := HS.out.c 2 1 rfl rfl
  go_wp2_with fail
  refine (HV.out.has _ (.pointer (some ⟨w.heap.size + 1, 0, none⟩)) (x1, x2, x3) HZ.out).mono ?_
  rintro e w11 ⟨rfl, b1⟩
  clear y0 y1 y2 z0 z1
  have HS2 := Lib.hid (HS.out.keep b1)
  have HZ2 := Lib.hid (HV.out.keep HZ.out b1)
  clear HS HZ
  have HS := HS2
  have HZ := HZ2
  clear HS2 HZ2 b1
  have y0 := HS.out.c 0 0 rfl rfl; have y1 := HS.out.c 0 1 rfl rfl; have y2 := HS.out.c 0 2 rfl rfl; have z0 := HS.out.c 2 0 rfl rfl; have z1 := HS.out.c 2 1 rfl rfl
  go_wp2_with fail
  refine (HV.out.len _ (.pointer (some ⟨w.heap.size + 1, 0, none⟩)) HZ.out).mono ?_
  rintro e w12 ⟨rfl, b1⟩
  clear y0 y1 y2 z0 z1
  have HS2 := Lib.hid (HS.out.keep b1)
  have HZ2 := Lib.hid (HV.out.keep HZ.out b1)
  clear HS HZ
  have HS := HS2
  have HZ := HZ2
  clear HS2 HZ2 b1
  have y0 := HS.out.c 0 0 rfl rfl; have y1 := HS.out.c 0 1 rfl rfl; have y2 := HS.out.c 0 2 rfl rfl; have z0 := HS.out.c 2 0 rfl rfl; have z1 := HS.out.c 2 1 rfl rfl
  go_wp2_with fail
  refine (HV.out.items _ (.pointer (some ⟨w.heap.size + 1, 0, none⟩)) HZ.out).mono ?_
  rintro e w13 ⟨A1, c1, rfl, b1⟩
  clear y0 y1 y2 z0 z1
  have HS2 := Lib.hid (HS.out.keep b1)
  have HZ2 := Lib.hid (HV.out.keep HZ.out b1)
  clear HS HZ
  have HS := HS2
  have HZ := HZ2
  clear HS2 HZ2 b1
  have y0 := HS.out.c 0 0 rfl rfl; have y1 := HS.out.c 0 1 rfl rfl; have y2 := HS.out.c 0 2 rfl rfl; have z0 := HS.out.c 2 0 rfl rfl; have z1 := HS.out.c 2 1 rfl rfl
  go_wp2_with fail
  refine (HV.out.root _ (.pointer (some ⟨w.heap.size + 1, 0, none⟩)) HZ.out).mono ?_
  rintro e w14 ⟨rfl, b1⟩
  clear y0 y1 y2 z0 z1
  have HS2 := Lib.hid (HS.out.keep b1)
  have HZ2 := Lib.hid (HV.out.keep HZ.out b1)
  clear HS HZ
  have HS := HS2
  have HZ := HZ2
  clear HS2 HZ2 b1
  have q0 := HS.out.c 4 0 rfl rfl; have q1 := HS.out.c 4 1 rfl rfl; have q2 := HS.out.c 4 2 rfl rfl; have q3 := HS.out.c 4 3 rfl rfl; have q4 := HS.out.c 4 4 rfl rfl; have q5 := HS.out.c 4 5 rfl rfl; have q6 := HS.out.c 4 6 rfl rfl
  go_wp2_with fail
  clear q0 q1 q2 q3 q4 q5 q6
  rw [rounds_succ]
  go_wp2_with fail
  refine (avknown_any HK.out _).mono ?_
  rintro e w99 ⟨rfl, b1⟩
  have HB := Lib.hid ((HS.out.keep b1).bl)
  clear b1
  go_wp2_with fail
  go_ret
  exact ⟨rfl, HB.out⟩
end Go.Proofs.Ytmllikffflebmaa
