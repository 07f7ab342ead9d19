/- Package value: Truth, Bad, Num. -/
import Derived.Test.YtgojfonnikgboaaGreatDoorVlP2
namespace Corr
set_option maxRecDepth 8000
open Go Go.RowKit
theorem Mem.put40 {w wr : World} {bs : List (Nat × Array Value)} (S : Mem w wr bs []) (i : Nat) {k : Nat} {a b c d : Value} (h : bs[i]? = some (k, #[a, b, c, d])) (u v x y : Value) :
    Mem w ((((wr.setCell ⟨k, 0, none⟩ u).setCell ⟨k, 1, none⟩ v).setCell ⟨k, 2, none⟩ x).setCell ⟨k, 3, none⟩ y) (bs.set i (k, #[u, v, x, y])) [] := by
  have hil : i < bs.length := (List.getElem?_eq_some_iff.1 h).1
  have S1 := (S.set0 i h 0 u).set0 i (k := k) (vs := #[u, b, c, d]) (List.getElem?_set_self hil) 1 v
  rw [List.set_set] at S1
  have S2 := S1.set0 i (k := k) (vs := #[u, v, c, d]) (List.getElem?_set_self hil) 2 x
  rw [List.set_set] at S2
  have S3 := S2.set0 i (k := k) (vs := #[u, v, x, d]) (List.getElem?_set_self hil) 3 y
  rw [List.set_set] at S3
  exact S3
end Corr
namespace Go.Proofs.YtgojfonnikgboaaGreatDoor
set_option maxRecDepth 8000
open Go.RowKit Corr
set_option linter.unusedVariables false
set_option linter.unusedSimpArgs false
theorem truth_any (b : Bool) (w : World) : Calls Tryz.prog 12 #[.bool b] w fun e w' => e = .returned (vlV (if b = true then 2 else 3) 0 0 0) ∧ Below w.heap.size w w' := by
  have S1 := (Mem.start w).push #[.int .u8 0, .int .i64 0, .int .i64 0, .int .i64 0] 26
  have b0 := S1.c 0 0 rfl rfl
  have b1 := S1.c 0 1 rfl rfl
  have b2 := S1.c 0 2 rfl rfl
  have b3 := S1.c 0 3 rfl rfl
  have f0 := S1.f 0 0 rfl
  have f1 := S1.f 0 1 rfl
  have f2 := S1.f 0 2 rfl
  have f3 := S1.f 0 3 rfl
  cases b
  · have HF := Lib.hid ((Mem.start w).push #[.int .u8 3, .int .i64 0, .int .i64 0, .int .i64 0] 26).bl
    clear S1
    go_enter Tryz.func12, Tryz.ntmps12
    go_wp2_with fail
    exact bodyPost_ret (v := vlV 3 0 0 0) (by simp [results, Tryz.results12, go_sem, b0, b1, b2, b3]) rfl ⟨rfl, HF.out⟩
  · have HF := Lib.hid ((Mem.start w).push #[.int .u8 2, .int .i64 0, .int .i64 0, .int .i64 0] 26).bl
    clear S1
    go_enter Tryz.func12, Tryz.ntmps12
    go_wp2_with fail
    exact bodyPost_ret (v := vlV 2 0 0 0) (by simp [results, Tryz.results12, go_sem, b0, b1, b2, b3]) rfl ⟨rfl, HF.out⟩
set_option maxHeartbeats 2000000 in
theorem bad_any (n : Int) (w : World) : Calls Tryz.prog 11 #[.int .i64 n] w fun e w' => e = .returned (if mayV 4 0 0 n = true then .tuple #[vlV 4 0 0 n, .int .i64 0] else .tuple #[vlV 0 0 0 0, .int .i64 2]) ∧ Below w.heap.size w w' := by
  have HM := Lib.hid (fun w => may_any 4 0 0 n w (by decide) (by decide))
  have S1 := ((Mem.start w).push #[.int .u8 0, .int .i64 0, .int .i64 0, .int .i64 0] 26).push #[.int .u8 0, .int .i64 0, .int .i64 0, .int .i64 0] 26
  have S2 := ((Mem.start w).push #[.int .u8 0, .int .i64 0, .int .i64 0, .int .i64 0] 26).push #[.int .u8 4, .int .i64 0, .int .i64 0, .int .i64 n] 26
  have b0 := S1.c 1 0 rfl rfl
  have b1 := S1.c 1 1 rfl rfl
  have b2 := S1.c 1 2 rfl rfl
  have b3 := S1.c 1 3 rfl rfl
  have f0 := S1.f 1 0 rfl
  have f1 := S1.f 1 1 rfl
  have f2 := S1.f 1 2 rfl
  have f3 := S1.f 1 3 rfl
  simp only [size_alloc] at b0 b1 b2 b3 f0 f1 f2 f3 S2
  clear S1
  generalize mayV 4 0 0 n = m at *
  go_enter Tryz.func11, Tryz.ntmps11
  go_wp2_with fail
  refine (HM.out _).mono ?_
  rintro e w1 ⟨rfl, hb⟩
  have S3 := S2.keep hb
  clear b0 b1 b2 b3 f0 f1 f2 f3 hb S2
  have d0 := S3.c 1 0 rfl rfl
  have d1 := S3.c 1 1 rfl rfl
  have d2 := S3.c 1 2 rfl rfl
  have d3 := S3.c 1 3 rfl rfl
  have b0 := S3.c 0 0 rfl rfl
  have b1 := S3.c 0 1 rfl rfl
  have b2 := S3.c 0 2 rfl rfl
  have b3 := S3.c 0 3 rfl rfl
  have f0 := S3.f 0 0 rfl
  have f1 := S3.f 0 1 rfl
  have f2 := S3.f 0 2 rfl
  have f3 := S3.f 0 3 rfl
  cases m
  · have HF := Lib.hid (S3.put40 0 rfl (.int .u8 0) (.int .i64 0) (.int .i64 0) (.int .i64 0)).bl
    clear S3
    go_wp2_with fail
    exact bodyPost_ret (v := .tuple #[vlV 0 0 0 0, .int .i64 2]) (by simp [results, Tryz.results11, go_sem, b0, b1, b2, b3]) rfl ⟨rfl, HF.out⟩
  · have HF := Lib.hid (S3.put40 0 rfl (.int .u8 4) (.int .i64 0) (.int .i64 0) (.int .i64 n)).bl
    clear S3
    go_wp2_with fail
    exact bodyPost_ret (v := .tuple #[vlV 4 0 0 n, .int .i64 0]) (by simp [results, Tryz.results11, go_sem, b0, b1, b2, b3]) rfl ⟨rfl, HF.out⟩
set_option maxHeartbeats 2000000 in
theorem num_some (C : Int) (S : Nat) (w : World) (h1 : -9223372036854775808 ≤ C) (h2 : C ≤ 9223372036854775807) (hS : S ≤ 9) : Calls Tryz.prog 10 #[.agg #[.int .i64 C, .int .i64 (S : Int)]] w fun e w' => e = .returned (.tuple #[vlV 1 (mC (nine C S) 9) (mS (nine C S) 9 : Int) 0, .int .i64 0]) ∧ Below w.heap.size w w' := by
  have HP := Lib.hid (fun w => dput_any C S _ w h1 h2 hS rfl)
  have he : mE (nine C S) 9 = 0 := by
    obtain ⟨c, t, hc, ht, he, _⟩ := put_fit h1 h2 hS
    exact he
  rw [he] at HP
  clear he h1 h2 hS
  generalize mC (nine C S) 9 = c at *
  generalize (mS (nine C S) 9 : Int) = t at *
  have S1 := ((Mem.start w).push #[.int .i64 C, .int .i64 (S : Int)] 23).push #[.int .u8 0, .int .i64 0, .int .i64 0, .int .i64 0] 26
  simp only [size_alloc] at S1
  generalize (S : Int) = s at *
  have a0 := S1.c 0 0 rfl rfl
  have a1 := S1.c 0 1 rfl rfl
  go_enter Tryz.func10, Tryz.ntmps10
  go_wp2_with fail
  refine (HP.out _).mono ?_
  rintro e w1 ⟨rfl, hb⟩
  have S2 := (S1.keep hb).push #[.int .i64 c, .int .i64 t] 23
  clear a0 a1
  have d0 := S2.c 2 0 rfl rfl
  have d1 := S2.c 2 1 rfl rfl
  have g0 := S2.f 2 0 rfl
  have g1 := S2.f 2 1 rfl
  have b0 := S2.c 1 0 rfl rfl
  have b1 := S2.c 1 1 rfl rfl
  have b2 := S2.c 1 2 rfl rfl
  have b3 := S2.c 1 3 rfl rfl
  have f0 := S2.f 1 0 rfl
  have f1 := S2.f 1 1 rfl
  have f2 := S2.f 1 2 rfl
  have f3 := S2.f 1 3 rfl
  have hlt : w.heap.size + 1 < w1.heap.size := (S1.keep hb).sz 1 rfl
  have hne : ¬ w.heap.size + 1 = w1.heap.size := by omega
  have hne2 : ¬ w1.heap.size = w.heap.size + 1 := by omega
  have HF := Lib.hid (S2.put40 1 rfl (.int .u8 1) (.int .i64 c) (.int .i64 t) (.int .i64 0)).bl
  clear S1 S2 hlt hb
  go_wp2_with fail
  exact bodyPost_ret (v := .tuple #[vlV 1 c t 0, .int .i64 0]) (by simp [results, Tryz.results10, go_sem, b0, b1, b2, b3, hne, hne2]) rfl ⟨rfl, HF.out⟩
end Go.Proofs.YtgojfonnikgboaaGreatDoor
