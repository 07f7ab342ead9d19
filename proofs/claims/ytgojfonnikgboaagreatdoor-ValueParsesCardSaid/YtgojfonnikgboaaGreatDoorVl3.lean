/- Contract of corrodyref10: Text. (Written by wip/gen/genvl2.py.) Contract of corrodyref10: Parse. (Written by wip/gen/genvl3.py.) -/
import Derived.Test.YtgojfonnikgboaaGreatDoorVl1
import Derived.Test.YtgojfonnikgboaaGreatDoorTx5
namespace Corr
set_option maxRecDepth 8000
open Go Go.RowKit
/-- The text of a value that may be. -/
def textV (K C S E : Int) : List UInt8 :=
  if mayV K C S E = true then
    (if K = 0 then [97, 98, 115, 101, 110, 116] else if K = 1 then txt C S.toNat else if K = 2 then [116, 114, 117, 101] else if K = 3 then [102, 97, 108, 115, 101] else if E = 11 then [111, 118, 101, 114] else if E = 12 then [100, 105, 118] else [109, 105, 115, 115, 105, 110, 103])
  else []
theorem rets {a b : ByteArray} (h : a = b) : Ending.returned (.string a) = .returned (.string b) := by rw [h]
end Corr
namespace Go.Proofs.YtgojfonnikgboaaGreatDoor
set_option maxRecDepth 8000
open Go.RowKit Corr
set_option linter.unusedVariables false
set_option linter.unusedSimpArgs false
end Go.Proofs.YtgojfonnikgboaaGreatDoor
namespace Corr
set_option maxRecDepth 8000
open Go Go.RowKit Go.PlainAid
/-- What a text is read as: kind, number, error; and why it is none. -/
def readV (l : List UInt8) : Int × Int × Int × Int × Int :=
  if l = [97, 98, 115, 101, 110, 116] then (0, 0, 0, 0, 0) else if l = [116, 114, 117, 101] then (2, 0, 0, 0, 0) else if l = [102, 97, 108, 115, 101] then (3, 0, 0, 0, 0) else if l = [111, 118, 101, 114] then (4, 0, 0, 11, 0) else if l = [100, 105, 118] then (4, 0, 0, 12, 0) else if l = [109, 105, 115, 115, 105, 110, 103] then (4, 0, 0, 13, 0) else if l.length ≤ 21 ∧ pE l = 0 then (1, pC l, (pS l : Int), 0, 0) else (0, 0, 0, 0, 4)
/-- .. as an answer. -/
def readR (r : Int × Int × Int × Int × Int) : Value := .tuple #[vlV r.1 r.2.1 r.2.2.1 r.2.2.2.1, .int .i64 r.2.2.2.2]
theorem readV_rest {l : List UInt8} (h0 : ¬ l = [97, 98, 115, 101, 110, 116]) (h1 : ¬ l = [116, 114, 117, 101]) (h2 : ¬ l = [102, 97, 108, 115, 101]) (h3 : ¬ l = [111, 118, 101, 114]) (h4 : ¬ l = [100, 105, 118]) (h5 : ¬ l = [109, 105, 115, 115, 105, 110, 103]) : readV l = if l.length ≤ 21 ∧ pE l = 0 then (1, pC l, (pS l : Int), 0, 0) else (0, 0, 0, 0, 4) := by
  unfold readV
  rw [if_neg h0, if_neg h1, if_neg h2, if_neg h3, if_neg h4, if_neg h5]
end Corr
namespace Go.Proofs.YtgojfonnikgboaaGreatDoor
set_option maxRecDepth 8000
open Go.RowKit Go.PlainAid Corr
set_option linter.unusedVariables false
set_option linter.unusedSimpArgs false
set_option maxHeartbeats 1000000 in
theorem vparse_absent (w : World) : Calls Tryz.prog 16 #[.string ⟨#[97, 98, 115, 101, 110, 116]⟩] w fun e w' => e = .returned (readR (readV [97, 98, 115, 101, 110, 116])) ∧ Below w.heap.size w w' := by
  have HX0 := Blk.new w #[.int .u8 0, .int .i64 0, .int .i64 0, .int .i64 0] 26
  have b0 := HX0.get 0 rfl
  have b1 := HX0.get 1 rfl
  have b2 := HX0.get 2 rfl
  have b3 := HX0.get 3 rfl
  have f0 := HX0.f 0
  have f1 := HX0.f 1
  have f2 := HX0.f 2
  have f3 := HX0.f 3
  have HB0 := Lib.hid ((Below.refl w.heap.size w).alloc (Nat.le_refl _) (.cells #[.int .u8 0, .int .i64 0, .int .i64 0, .int .i64 0] 26))
  have HBF := Lib.hid ((((HB0.out.setCell (p := ⟨w.heap.size, 0, none⟩) (Nat.le_refl _) (.int .u8 0)).setCell (p := ⟨w.heap.size, 1, none⟩) (Nat.le_refl _) (.int .i64 0)).setCell (p := ⟨w.heap.size, 2, none⟩) (Nat.le_refl _) (.int .i64 0)).setCell (p := ⟨w.heap.size, 3, none⟩) (Nat.le_refl _) (.int .i64 0))
  have HR := Lib.hid (show readV [97, 98, 115, 101, 110, 116] = (0, 0, 0, 0, 0) by decide)
  rw [HR.out]
  clear HX0
  go_enter Tryz.func16, Tryz.ntmps16
  go_wp2_with fail
  exact bodyPost_ret (v := .tuple #[vlV 0 0 0 0, .int .i64 0]) (by simp [results, Tryz.results16, go_sem, b0, b1, b2, b3]) rfl ⟨rfl, by first | exact HBF.out | exact HB0.out | exact (Below.refl _ _).alloc (Nat.le_refl _) _⟩
set_option maxHeartbeats 1000000 in
theorem vparse_true (w : World) : Calls Tryz.prog 16 #[.string ⟨#[116, 114, 117, 101]⟩] w fun e w' => e = .returned (readR (readV [116, 114, 117, 101])) ∧ Below w.heap.size w w' := by
  have HX0 := Blk.new w #[.int .u8 0, .int .i64 0, .int .i64 0, .int .i64 0] 26
  have b0 := HX0.get 0 rfl
  have b1 := HX0.get 1 rfl
  have b2 := HX0.get 2 rfl
  have b3 := HX0.get 3 rfl
  have f0 := HX0.f 0
  have f1 := HX0.f 1
  have f2 := HX0.f 2
  have f3 := HX0.f 3
  have HB0 := Lib.hid ((Below.refl w.heap.size w).alloc (Nat.le_refl _) (.cells #[.int .u8 0, .int .i64 0, .int .i64 0, .int .i64 0] 26))
  have HBF := Lib.hid ((((HB0.out.setCell (p := ⟨w.heap.size, 0, none⟩) (Nat.le_refl _) (.int .u8 2)).setCell (p := ⟨w.heap.size, 1, none⟩) (Nat.le_refl _) (.int .i64 0)).setCell (p := ⟨w.heap.size, 2, none⟩) (Nat.le_refl _) (.int .i64 0)).setCell (p := ⟨w.heap.size, 3, none⟩) (Nat.le_refl _) (.int .i64 0))
  have HR := Lib.hid (show readV [116, 114, 117, 101] = (2, 0, 0, 0, 0) by decide)
  rw [HR.out]
  clear HX0
  go_enter Tryz.func16, Tryz.ntmps16
  go_wp2_with fail
  exact bodyPost_ret (v := .tuple #[vlV 2 0 0 0, .int .i64 0]) (by simp [results, Tryz.results16, go_sem, b0, b1, b2, b3]) rfl ⟨rfl, by first | exact HBF.out | exact HB0.out | exact (Below.refl _ _).alloc (Nat.le_refl _) _⟩
set_option maxHeartbeats 1000000 in
theorem vparse_false (w : World) : Calls Tryz.prog 16 #[.string ⟨#[102, 97, 108, 115, 101]⟩] w fun e w' => e = .returned (readR (readV [102, 97, 108, 115, 101])) ∧ Below w.heap.size w w' := by
  have HX0 := Blk.new w #[.int .u8 0, .int .i64 0, .int .i64 0, .int .i64 0] 26
  have b0 := HX0.get 0 rfl
  have b1 := HX0.get 1 rfl
  have b2 := HX0.get 2 rfl
  have b3 := HX0.get 3 rfl
  have f0 := HX0.f 0
  have f1 := HX0.f 1
  have f2 := HX0.f 2
  have f3 := HX0.f 3
  have HB0 := Lib.hid ((Below.refl w.heap.size w).alloc (Nat.le_refl _) (.cells #[.int .u8 0, .int .i64 0, .int .i64 0, .int .i64 0] 26))
  have HBF := Lib.hid ((((HB0.out.setCell (p := ⟨w.heap.size, 0, none⟩) (Nat.le_refl _) (.int .u8 3)).setCell (p := ⟨w.heap.size, 1, none⟩) (Nat.le_refl _) (.int .i64 0)).setCell (p := ⟨w.heap.size, 2, none⟩) (Nat.le_refl _) (.int .i64 0)).setCell (p := ⟨w.heap.size, 3, none⟩) (Nat.le_refl _) (.int .i64 0))
  have HR := Lib.hid (show readV [102, 97, 108, 115, 101] = (3, 0, 0, 0, 0) by decide)
  rw [HR.out]
  clear HX0
  go_enter Tryz.func16, Tryz.ntmps16
  go_wp2_with fail
  exact bodyPost_ret (v := .tuple #[vlV 3 0 0 0, .int .i64 0]) (by simp [results, Tryz.results16, go_sem, b0, b1, b2, b3]) rfl ⟨rfl, by first | exact HBF.out | exact HB0.out | exact (Below.refl _ _).alloc (Nat.le_refl _) _⟩
set_option maxHeartbeats 1000000 in
theorem vparse_over (w : World) : Calls Tryz.prog 16 #[.string ⟨#[111, 118, 101, 114]⟩] w fun e w' => e = .returned (readR (readV [111, 118, 101, 114])) ∧ Below w.heap.size w w' := by
  have HX0 := Blk.new w #[.int .u8 0, .int .i64 0, .int .i64 0, .int .i64 0] 26
  have b0 := HX0.get 0 rfl
  have b1 := HX0.get 1 rfl
  have b2 := HX0.get 2 rfl
  have b3 := HX0.get 3 rfl
  have f0 := HX0.f 0
  have f1 := HX0.f 1
  have f2 := HX0.f 2
  have f3 := HX0.f 3
  have HB0 := Lib.hid ((Below.refl w.heap.size w).alloc (Nat.le_refl _) (.cells #[.int .u8 0, .int .i64 0, .int .i64 0, .int .i64 0] 26))
  have HBF := Lib.hid ((((HB0.out.setCell (p := ⟨w.heap.size, 0, none⟩) (Nat.le_refl _) (.int .u8 4)).setCell (p := ⟨w.heap.size, 1, none⟩) (Nat.le_refl _) (.int .i64 0)).setCell (p := ⟨w.heap.size, 2, none⟩) (Nat.le_refl _) (.int .i64 0)).setCell (p := ⟨w.heap.size, 3, none⟩) (Nat.le_refl _) (.int .i64 11))
  have HR := Lib.hid (show readV [111, 118, 101, 114] = (4, 0, 0, 11, 0) by decide)
  rw [HR.out]
  clear HX0
  go_enter Tryz.func16, Tryz.ntmps16
  go_wp2_with fail
  exact bodyPost_ret (v := .tuple #[vlV 4 0 0 11, .int .i64 0]) (by simp [results, Tryz.results16, go_sem, b0, b1, b2, b3]) rfl ⟨rfl, by first | exact HBF.out | exact HB0.out | exact (Below.refl _ _).alloc (Nat.le_refl _) _⟩
set_option maxHeartbeats 1000000 in
theorem vparse_div (w : World) : Calls Tryz.prog 16 #[.string ⟨#[100, 105, 118]⟩] w fun e w' => e = .returned (readR (readV [100, 105, 118])) ∧ Below w.heap.size w w' := by
  have HX0 := Blk.new w #[.int .u8 0, .int .i64 0, .int .i64 0, .int .i64 0] 26
  have b0 := HX0.get 0 rfl
  have b1 := HX0.get 1 rfl
  have b2 := HX0.get 2 rfl
  have b3 := HX0.get 3 rfl
  have f0 := HX0.f 0
  have f1 := HX0.f 1
  have f2 := HX0.f 2
  have f3 := HX0.f 3
  have HB0 := Lib.hid ((Below.refl w.heap.size w).alloc (Nat.le_refl _) (.cells #[.int .u8 0, .int .i64 0, .int .i64 0, .int .i64 0] 26))
  have HBF := Lib.hid ((((HB0.out.setCell (p := ⟨w.heap.size, 0, none⟩) (Nat.le_refl _) (.int .u8 4)).setCell (p := ⟨w.heap.size, 1, none⟩) (Nat.le_refl _) (.int .i64 0)).setCell (p := ⟨w.heap.size, 2, none⟩) (Nat.le_refl _) (.int .i64 0)).setCell (p := ⟨w.heap.size, 3, none⟩) (Nat.le_refl _) (.int .i64 12))
  have HR := Lib.hid (show readV [100, 105, 118] = (4, 0, 0, 12, 0) by decide)
  rw [HR.out]
  clear HX0
  go_enter Tryz.func16, Tryz.ntmps16
  go_wp2_with fail
  exact bodyPost_ret (v := .tuple #[vlV 4 0 0 12, .int .i64 0]) (by simp [results, Tryz.results16, go_sem, b0, b1, b2, b3]) rfl ⟨rfl, by first | exact HBF.out | exact HB0.out | exact (Below.refl _ _).alloc (Nat.le_refl _) _⟩
set_option maxHeartbeats 1000000 in
theorem vparse_missing (w : World) : Calls Tryz.prog 16 #[.string ⟨#[109, 105, 115, 115, 105, 110, 103]⟩] w fun e w' => e = .returned (readR (readV [109, 105, 115, 115, 105, 110, 103])) ∧ Below w.heap.size w w' := by
  have HX0 := Blk.new w #[.int .u8 0, .int .i64 0, .int .i64 0, .int .i64 0] 26
  have b0 := HX0.get 0 rfl
  have b1 := HX0.get 1 rfl
  have b2 := HX0.get 2 rfl
  have b3 := HX0.get 3 rfl
  have f0 := HX0.f 0
  have f1 := HX0.f 1
  have f2 := HX0.f 2
  have f3 := HX0.f 3
  have HB0 := Lib.hid ((Below.refl w.heap.size w).alloc (Nat.le_refl _) (.cells #[.int .u8 0, .int .i64 0, .int .i64 0, .int .i64 0] 26))
  have HBF := Lib.hid ((((HB0.out.setCell (p := ⟨w.heap.size, 0, none⟩) (Nat.le_refl _) (.int .u8 4)).setCell (p := ⟨w.heap.size, 1, none⟩) (Nat.le_refl _) (.int .i64 0)).setCell (p := ⟨w.heap.size, 2, none⟩) (Nat.le_refl _) (.int .i64 0)).setCell (p := ⟨w.heap.size, 3, none⟩) (Nat.le_refl _) (.int .i64 13))
  have HR := Lib.hid (show readV [109, 105, 115, 115, 105, 110, 103] = (4, 0, 0, 13, 0) by decide)
  rw [HR.out]
  clear HX0
  go_enter Tryz.func16, Tryz.ntmps16
  go_wp2_with fail
  exact bodyPost_ret (v := .tuple #[vlV 4 0 0 13, .int .i64 0]) (by simp [results, Tryz.results16, go_sem, b0, b1, b2, b3]) rfl ⟨rfl, by first | exact HBF.out | exact HB0.out | exact (Below.refl _ _).alloc (Nat.le_refl _) _⟩
set_option maxHeartbeats 4000000 in
theorem vparse_rest (s : ByteArray) (w : World) (hs : s.size ≤ 100) (h0 : ¬ s.data.toList = [97, 98, 115, 101, 110, 116]) (h1 : ¬ s.data.toList = [116, 114, 117, 101]) (h2 : ¬ s.data.toList = [102, 97, 108, 115, 101]) (h3 : ¬ s.data.toList = [111, 118, 101, 114]) (h4 : ¬ s.data.toList = [100, 105, 118]) (h5 : ¬ s.data.toList = [109, 105, 115, 115, 105, 110, 103]) : Calls Tryz.prog 16 #[.string s] w fun e w' => e = .returned (readR (readV s.data.toList)) ∧ Below w.heap.size w w' := by
  have HX0 := Blk.new w #[.int .u8 0, .int .i64 0, .int .i64 0, .int .i64 0] 26
  have b0 := HX0.get 0 rfl
  have b1 := HX0.get 1 rfl
  have b2 := HX0.get 2 rfl
  have b3 := HX0.get 3 rfl
  have f0 := HX0.f 0
  have f1 := HX0.f 1
  have f2 := HX0.f 2
  have f3 := HX0.f 3
  have HB0 := Lib.hid ((Below.refl w.heap.size w).alloc (Nat.le_refl _) (.cells #[.int .u8 0, .int .i64 0, .int .i64 0, .int .i64 0] 26))
  have HBX := Lib.hid HX0
  have q0 : (s.toList == [97, 98, 115, 101, 110, 116]) = false := by rw [Lib.toList_data]; simpa using h0
  have q1 : (s.toList == [116, 114, 117, 101]) = false := by rw [Lib.toList_data]; simpa using h1
  have q2 : (s.toList == [102, 97, 108, 115, 101]) = false := by rw [Lib.toList_data]; simpa using h2
  have q3 : (s.toList == [111, 118, 101, 114]) = false := by rw [Lib.toList_data]; simpa using h3
  have q4 : (s.toList == [100, 105, 118]) = false := by rw [Lib.toList_data]; simpa using h4
  have q5 : (s.toList == [109, 105, 115, 115, 105, 110, 103]) = false := by rw [Lib.toList_data]; simpa using h5
  have HV := Lib.hid (readV_rest h0 h1 h2 h3 h4 h5)
  have hsl := size_len s
  clear HX0 h0 h1 h2 h3 h4 h5
  by_cases hl : s.size ≤ 21
  · have HN := Lib.hid (rparse_short s (w.alloc (.cells #[.int .u8 0, .int .i64 0, .int .i64 0, .int .i64 0] 26)) (by omega) hl)
    generalize s.data.toList = l at *
    obtain ⟨C, hC⟩ : ∃ C, pC l = C := ⟨_, rfl⟩
    obtain ⟨S, hS⟩ : ∃ S : Int, (pS l : Int) = S := ⟨_, rfl⟩
    obtain ⟨E, hE⟩ : ∃ E, pE l = E := ⟨_, rfl⟩
    rw [hC, hS, hE] at HN
    by_cases p : E = 0
    · have HR := Lib.hid (show readV l = (1, C, S, 0, 0) by rw [HV.out, if_pos ⟨by omega, by rw [hE]; exact p⟩, hC, hS])
      have d : (E != 0) = false := by simpa using p
      subst p
      clear hC hS hE HV
      go_enter Tryz.func16, Tryz.ntmps16
      go_wp2_with fail
      refine HN.out.mono ?_
      rintro e w1 ⟨rfl, hb⟩
      have HX1 := HBX.out.keep hb
      have c0 := HX1.get 0 rfl
      have c1 := HX1.get 1 rfl
      have c2 := HX1.get 2 rfl
      have c3 := HX1.get 3 rfl
      have g0 := HX1.f 0
      have g1 := HX1.f 1
      have g2 := HX1.f 2
      have g3 := HX1.f 3
      have hz := HX1.sz
      have hz2 : ¬ w.heap.size = w1.heap.size := by omega
      have HB1 := Lib.hid (HB0.out.trans (hb.mono HB0.out.size))
      have hq := HB1.out.size
      clear hb HX1 b0 b1 b2 b3 f0 f1 f2 f3
      have HBF := Lib.hid (Below.alloc ((((HB1.out.setCell (p := ⟨w.heap.size, 0, none⟩) (Nat.le_refl _) (.int .u8 1)).setCell (p := ⟨w.heap.size, 1, none⟩) (Nat.le_refl _) (.int .i64 C)).setCell (p := ⟨w.heap.size, 2, none⟩) (Nat.le_refl _) (.int .i64 S)).setCell (p := ⟨w.heap.size, 3, none⟩) (Nat.le_refl _) (.int .i64 0)) (by simp [go_sem]; omega) (.cells #[.int .i64 C, .int .i64 S] 23))
      go_wp2_with fail
      exact bodyPost_ret (v := .tuple #[vlV 1 C S 0, .int .i64 0]) (by simp [results, Tryz.results16, go_sem, c0, c1, c2, c3, hz, hz2]) rfl ⟨by rw [HR.out]; rfl, by first | exact HBF.out | exact HB1.out.alloc hq _ | exact (Below.refl _ _).alloc (Nat.le_refl _) _⟩
    · have HR := Lib.hid (show readV l = (0, 0, 0, 0, 4) by rw [HV.out, if_neg (fun h => p (by rw [← hE]; exact h.2))])
      have d : (E != 0) = true := by simpa using p
      clear hC hS hE HV p
      go_enter Tryz.func16, Tryz.ntmps16
      go_wp2_with fail
      refine HN.out.mono ?_
      rintro e w1 ⟨rfl, hb⟩
      have HX1 := HBX.out.keep hb
      have c0 := HX1.get 0 rfl
      have c1 := HX1.get 1 rfl
      have c2 := HX1.get 2 rfl
      have c3 := HX1.get 3 rfl
      have g0 := HX1.f 0
      have g1 := HX1.f 1
      have g2 := HX1.f 2
      have g3 := HX1.f 3
      have hz := HX1.sz
      have hz2 : ¬ w.heap.size = w1.heap.size := by omega
      have HB1 := Lib.hid (HB0.out.trans (hb.mono HB0.out.size))
      have hq := HB1.out.size
      clear hb HX1 b0 b1 b2 b3 f0 f1 f2 f3
      have HBF := Lib.hid (Below.alloc ((((HB1.out.setCell (p := ⟨w.heap.size, 0, none⟩) (Nat.le_refl _) (.int .u8 0)).setCell (p := ⟨w.heap.size, 1, none⟩) (Nat.le_refl _) (.int .i64 0)).setCell (p := ⟨w.heap.size, 2, none⟩) (Nat.le_refl _) (.int .i64 0)).setCell (p := ⟨w.heap.size, 3, none⟩) (Nat.le_refl _) (.int .i64 0)) (by simp [go_sem]; omega) (.cells #[.int .i64 C, .int .i64 S] 23))
      go_wp2_with fail
      exact bodyPost_ret (v := .tuple #[vlV 0 0 0 0, .int .i64 4]) (by simp [results, Tryz.results16, go_sem, c0, c1, c2, c3, hz, hz2]) rfl ⟨by rw [HR.out]; rfl, by first | exact HBF.out | exact HB1.out.alloc hq _ | exact (Below.refl _ _).alloc (Nat.le_refl _) _⟩
  · have HN := Lib.hid (rparse_long s (w.alloc (.cells #[.int .u8 0, .int .i64 0, .int .i64 0, .int .i64 0] 26)) (by omega) (by omega))
    have HR := Lib.hid (show readV s.data.toList = (0, 0, 0, 0, 4) by rw [HV.out, if_neg (fun h => hl (by omega))])
    clear HV
    go_enter Tryz.func16, Tryz.ntmps16
    go_wp2_with fail
    refine HN.out.mono ?_
    rintro e w1 ⟨rfl, hb⟩
    have HX1 := HBX.out.keep hb
    have c0 := HX1.get 0 rfl
    have c1 := HX1.get 1 rfl
    have c2 := HX1.get 2 rfl
    have c3 := HX1.get 3 rfl
    have g0 := HX1.f 0
    have g1 := HX1.f 1
    have g2 := HX1.f 2
    have g3 := HX1.f 3
    have hz := HX1.sz
    have hz2 : ¬ w.heap.size = w1.heap.size := by omega
    have HB1 := Lib.hid (HB0.out.trans (hb.mono HB0.out.size))
    have hq := HB1.out.size
    clear hb HX1 b0 b1 b2 b3 f0 f1 f2 f3
    have HBF := Lib.hid (Below.alloc ((((HB1.out.setCell (p := ⟨w.heap.size, 0, none⟩) (Nat.le_refl _) (.int .u8 0)).setCell (p := ⟨w.heap.size, 1, none⟩) (Nat.le_refl _) (.int .i64 0)).setCell (p := ⟨w.heap.size, 2, none⟩) (Nat.le_refl _) (.int .i64 0)).setCell (p := ⟨w.heap.size, 3, none⟩) (Nat.le_refl _) (.int .i64 0)) (by simp [go_sem]; omega) (.cells #[.int .i64 0, .int .i64 0] 23))
    go_wp2_with fail
    exact bodyPost_ret (v := .tuple #[vlV 0 0 0 0, .int .i64 4]) (by simp [results, Tryz.results16, go_sem, c0, c1, c2, c3, hz, hz2]) rfl ⟨by rw [HR.out]; rfl, by first | exact HBF.out | exact HB1.out.alloc hq _ | exact (Below.refl _ _).alloc (Nat.le_refl _) _⟩
theorem vparse_any (s : ByteArray) (w : World) (hs : s.size ≤ 100) : Calls Tryz.prog 16 #[.string s] w fun e w' => e = .returned (readR (readV s.data.toList)) ∧ Below w.heap.size w w' := by
  by_cases h0 : s.data.toList = [97, 98, 115, 101, 110, 116]
  · obtain rfl := ba_eq h0
    exact vparse_absent w
  by_cases h1 : s.data.toList = [116, 114, 117, 101]
  · obtain rfl := ba_eq h1
    exact vparse_true w
  by_cases h2 : s.data.toList = [102, 97, 108, 115, 101]
  · obtain rfl := ba_eq h2
    exact vparse_false w
  by_cases h3 : s.data.toList = [111, 118, 101, 114]
  · obtain rfl := ba_eq h3
    exact vparse_over w
  by_cases h4 : s.data.toList = [100, 105, 118]
  · obtain rfl := ba_eq h4
    exact vparse_div w
  by_cases h5 : s.data.toList = [109, 105, 115, 115, 105, 110, 103]
  · obtain rfl := ba_eq h5
    exact vparse_missing w
  exact vparse_rest s w hs h0 h1 h2 h3 h4 h5
end Go.Proofs.YtgojfonnikgboaaGreatDoor
