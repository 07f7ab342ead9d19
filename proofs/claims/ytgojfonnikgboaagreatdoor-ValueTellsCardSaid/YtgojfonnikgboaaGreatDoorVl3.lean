/- Contract of corrodyref10: Text. (Written by wip/gen/genvl2.py.) Contract of corrodyref10: Parse. (Written by wip/gen/genvl3.py.) -/
import Derived.Test.YtgojfonnikgboaaGreatDoorVl1
import Derived.Test.YtgojfonnikgboaaGreatDoorTxScan
import Derived.Test.YtgojfonnikgboaaGreatDoorTxBytes
import Derived.Test.YtgojfonnikgboaaGreatDoorDec2
import Derived.Test.YtgojfonnikgboaaGreatDoorNat
import Derived.Deep.QuietTactic
import Derived.Deep.DeepCutAuto
import Derived.Deep.CutBlock
namespace Corr
set_option maxRecDepth 8000
open Go Go.RowKit
/-- The text of a value that may be. -/
def textV (K C S E : Int) : List UInt8 :=
  if mayV K C S E = true then
    (if K = 0 then [97, 98, 115, 101, 110, 116] else if K = 1 then txt C S.toNat else if K = 2 then [116, 114, 117, 101] else if K = 3 then [102, 97, 108, 115, 101] else if E = 11 then [111, 118, 101, 114] else if E = 12 then [100, 105, 118] else [109, 105, 115, 115, 105, 110, 103])
  else []
theorem mayV_kind {K C S E : Int} (h : mayV K C S E = true) : K = 0 ∨ K = 1 ∨ K = 2 ∨ K = 3 ∨ K = 4 := by
  unfold mayV at h
  split at h
  · omega
  · split at h
    · omega
    · split at h
      · omega
      · cases h
theorem mayV_num {C S E : Int} (h : mayV 1 C S E = true) : 0 ≤ S ∧ S ≤ 9 ∧ (S = 0 ∨ ¬ C % 10 = 0) := by
  unfold mayV at h
  rw [if_neg (by decide), if_pos rfl, Bool.and_eq_true] at h
  exact of_decide_eq_true h.1
theorem mayV_bad {C S E : Int} (h : mayV 4 C S E = true) : E = 11 ∨ E = 12 ∨ E = 13 := by
  unfold mayV at h
  rw [if_neg (by decide), if_neg (by decide), if_pos rfl, Bool.and_eq_true] at h
  have h2 := h.2
  simp at h2
  omega
theorem rets {a b : ByteArray} (h : a = b) : Ending.returned (.string a) = .returned (.string b) := by rw [h]
end Corr
namespace Go.Proofs.YtgojfonnikgboaaGreatDoor
set_option maxRecDepth 8000
open Go.RowKit Corr
set_option linter.unusedVariables false
set_option linter.unusedSimpArgs false
set_option maxHeartbeats 4000000 in
theorem vtext_any (K C S E : Int) (w : World) (h1 : -9223372036854775808 ≤ C) (h2 : C ≤ 9223372036854775807) : Calls Tryz.prog 8 #[vlV K C S E] w fun e w' => e = .returned (.string ⟨(textV K C S E).toArray⟩) ∧ Below w.heap.size w w' := by
  have HB0 := Lib.hid ((Below.refl w.heap.size w).alloc (Nat.le_refl _) (.cells #[.int .u8 K, .int .i64 C, .int .i64 S, .int .i64 E] 26))
  have HX0 := Lib.hid (Blk.new w #[.int .u8 K, .int .i64 C, .int .i64 S, .int .i64 E] 26)
  have HM := Lib.hid (fun w => vmay_any K C S E w h1 h2)
  have HT := Lib.hid (show textV K C S E = textV K C S E from rfl)
  cases hm : mayV K C S E with
  | false =>
    have HF := Lib.hid (show (⟨#[]⟩ : ByteArray) = ⟨(textV K C S E).toArray⟩ by unfold textV; rw [if_neg (by rw [hm]; decide)])
    rw [hm] at HM
    clear hm h1 h2
    go_enter Tryz.func8, Tryz.ntmps8
    go_wp2_with fail
    refine (HM.out _).mono ?_
    rintro e w1 ⟨rfl, hb⟩
    have HB := Lib.hid (HB0.out.trans (hb.mono HB0.out.size))
    clear hb
    go_wp2_with fail
    go_ret
    exact ⟨rets HF.out, HB.out⟩
  | true =>
    have HK := Lib.hid (show ∀ l, (if K = 0 then [97, 98, 115, 101, 110, 116] else if K = 1 then txt C S.toNat else if K = 2 then [116, 114, 117, 101] else if K = 3 then [102, 97, 108, 115, 101] else if E = 11 then [111, 118, 101, 114] else if E = 12 then [100, 105, 118] else [109, 105, 115, 115, 105, 110, 103]) = l → textV K C S E = l by
      intro l hl; unfold textV; rw [if_pos hm]; exact hl)
    have hk := mayV_kind hm
    rw [hm] at HM
    rcases hk with rfl | rfl | rfl | rfl | rfl
    · have HF := Lib.hid (show (⟨#[97, 98, 115, 101, 110, 116]⟩ : ByteArray) = ⟨(textV 0 C S E).toArray⟩ by rw [HK.out [97, 98, 115, 101, 110, 116] (by rfl)])
      clear HK HT h1 h2 hm
      go_enter Tryz.func8, Tryz.ntmps8
      go_wp2_with fail
      refine (HM.out _).mono ?_
      rintro e w1 ⟨rfl, hb⟩
      have HB := Lib.hid (HB0.out.trans (hb.mono HB0.out.size))
      have HX := HX0.out.keep hb
      have x0 := HX.get 0 rfl
      have x1 := HX.get 1 rfl
      have x2 := HX.get 2 rfl
      have x3 := HX.get 3 rfl
      clear hb HX
      go_wp2_with fail
      go_ret
      exact ⟨rets HF.out, HB.out⟩
    · obtain ⟨s0, s9, sc⟩ := mayV_num hm
      obtain ⟨n, rfl⟩ : ∃ n : Nat, S = (n : Int) := ⟨S.toNat, by omega⟩
      have HN := Lib.hid (fun w => rtext_any C n w h1 h2 (by omega))
      obtain ⟨a1, a2, _⟩ := put_canon h1 h2 (by omega) (show n = 0 ∨ ¬ C % 10 = 0 by omega)
      rw [a1, a2] at HN
      have HF := Lib.hid (show (⟨(txt C n).toArray⟩ : ByteArray) = ⟨(textV 1 C (n : Int) E).toArray⟩ by rw [HK.out (txt C n) (by rw [if_neg (by decide), if_pos rfl, Int.toNat_natCast])])
      clear HK HT h1 h2 hm a1 a2 sc s0 s9
      go_enter Tryz.func8, Tryz.ntmps8
      go_wp2_with fail
      refine (HM.out _).mono ?_
      rintro e w1 ⟨rfl, hb⟩
      have HB := Lib.hid (HB0.out.trans (hb.mono HB0.out.size))
      have HX := HX0.out.keep hb
      have x0 := HX.get 0 rfl
      have x1 := HX.get 1 rfl
      have x2 := HX.get 2 rfl
      have x3 := HX.get 3 rfl
      clear hb HX
      go_wp2_with fail
      refine (HN.out _).mono ?_
      rintro e w2 ⟨rfl, hb⟩
      have HB2 := Lib.hid (HB.out.trans (hb.mono HB.out.size))
      clear hb
      go_wp2_with fail
      go_ret
      exact ⟨rets HF.out, HB2.out⟩
    · have HF := Lib.hid (show (⟨#[116, 114, 117, 101]⟩ : ByteArray) = ⟨(textV 2 C S E).toArray⟩ by rw [HK.out [116, 114, 117, 101] (by rfl)])
      clear HK HT h1 h2 hm
      go_enter Tryz.func8, Tryz.ntmps8
      go_wp2_with fail
      refine (HM.out _).mono ?_
      rintro e w1 ⟨rfl, hb⟩
      have HB := Lib.hid (HB0.out.trans (hb.mono HB0.out.size))
      have HX := HX0.out.keep hb
      have x0 := HX.get 0 rfl
      have x1 := HX.get 1 rfl
      have x2 := HX.get 2 rfl
      have x3 := HX.get 3 rfl
      clear hb HX
      go_wp2_with fail
      go_ret
      exact ⟨rets HF.out, HB.out⟩
    · have HF := Lib.hid (show (⟨#[102, 97, 108, 115, 101]⟩ : ByteArray) = ⟨(textV 3 C S E).toArray⟩ by rw [HK.out [102, 97, 108, 115, 101] (by rfl)])
      clear HK HT h1 h2 hm
      go_enter Tryz.func8, Tryz.ntmps8
      go_wp2_with fail
      refine (HM.out _).mono ?_
      rintro e w1 ⟨rfl, hb⟩
      have HB := Lib.hid (HB0.out.trans (hb.mono HB0.out.size))
      have HX := HX0.out.keep hb
      have x0 := HX.get 0 rfl
      have x1 := HX.get 1 rfl
      have x2 := HX.get 2 rfl
      have x3 := HX.get 3 rfl
      clear hb HX
      go_wp2_with fail
      go_ret
      exact ⟨rets HF.out, HB.out⟩
    · rcases mayV_bad hm with rfl | rfl | rfl
      · have HF := Lib.hid (show (⟨#[111, 118, 101, 114]⟩ : ByteArray) = ⟨(textV 4 C S 11).toArray⟩ by rw [HK.out [111, 118, 101, 114] (by rfl)])
        clear HK HT h1 h2 hm
        go_enter Tryz.func8, Tryz.ntmps8
        go_wp2_with fail
        refine (HM.out _).mono ?_
        rintro e w1 ⟨rfl, hb⟩
        have HB := Lib.hid (HB0.out.trans (hb.mono HB0.out.size))
        have HX := HX0.out.keep hb
        have x0 := HX.get 0 rfl
        have x1 := HX.get 1 rfl
        have x2 := HX.get 2 rfl
        have x3 := HX.get 3 rfl
        clear hb HX
        go_wp2_with fail
        go_ret
        exact ⟨rets HF.out, HB.out⟩
      · have HF := Lib.hid (show (⟨#[100, 105, 118]⟩ : ByteArray) = ⟨(textV 4 C S 12).toArray⟩ by rw [HK.out [100, 105, 118] (by rfl)])
        clear HK HT h1 h2 hm
        go_enter Tryz.func8, Tryz.ntmps8
        go_wp2_with fail
        refine (HM.out _).mono ?_
        rintro e w1 ⟨rfl, hb⟩
        have HB := Lib.hid (HB0.out.trans (hb.mono HB0.out.size))
        have HX := HX0.out.keep hb
        have x0 := HX.get 0 rfl
        have x1 := HX.get 1 rfl
        have x2 := HX.get 2 rfl
        have x3 := HX.get 3 rfl
        clear hb HX
        go_wp2_with fail
        go_ret
        exact ⟨rets HF.out, HB.out⟩
      · have HF := Lib.hid (show (⟨#[109, 105, 115, 115, 105, 110, 103]⟩ : ByteArray) = ⟨(textV 4 C S 13).toArray⟩ by rw [HK.out [109, 105, 115, 115, 105, 110, 103] (by rfl)])
        clear HK HT h1 h2 hm
        go_enter Tryz.func8, Tryz.ntmps8
        go_wp2_with fail
        refine (HM.out _).mono ?_
        rintro e w1 ⟨rfl, hb⟩
        have HB := Lib.hid (HB0.out.trans (hb.mono HB0.out.size))
        have HX := HX0.out.keep hb
        have x0 := HX.get 0 rfl
        have x1 := HX.get 1 rfl
        have x2 := HX.get 2 rfl
        have x3 := HX.get 3 rfl
        clear hb HX
        go_wp2_with fail
        go_ret
        exact ⟨rets HF.out, HB.out⟩
end Go.Proofs.YtgojfonnikgboaaGreatDoor
namespace Corr
set_option maxRecDepth 8000
open Go Go.RowKit Go.PlainAid
/-- What a text is read as: kind, number, error; and why it is none. -/
def readV (l : List UInt8) : Int × Int × Int × Int × Int :=
  if l = [97, 98, 115, 101, 110, 116] then (0, 0, 0, 0, 0) else if l = [116, 114, 117, 101] then (2, 0, 0, 0, 0) else if l = [102, 97, 108, 115, 101] then (3, 0, 0, 0, 0) else if l = [111, 118, 101, 114] then (4, 0, 0, 11, 0) else if l = [100, 105, 118] then (4, 0, 0, 12, 0) else if l = [109, 105, 115, 115, 105, 110, 103] then (4, 0, 0, 13, 0) else if l.length ≤ 21 ∧ pE l = 0 then (1, pC l, (pS l : Int), 0, 0) else (0, 0, 0, 0, 4)
/-- .. as an answer. -/
def readR (r : Int × Int × Int × Int × Int) : Value := .tuple #[vlV r.1 r.2.1 r.2.2.1 r.2.2.2.1, .int .i64 r.2.2.2.2]
theorem readV_rest {l : List UInt8} (h0 : ¬ l = [97, 98, 115, 101, 110, 116]) (h1 : ¬ l = [116, 114, 117, 101]) (h2 : ¬ l = [102, 97, 108, 115, 101]) (h3 : ¬ l = [111, 118, 101, 114]) (h4 : ¬ l = [100, 105, 118]) (h5 : ¬ l = [109, 105, 115, 115, 105, 110, 103]) : readV l = if l.length ≤ 21 ∧ pE l = 0 then (1, pC l, (pS l : Int), 0, 0) else (0, 0, 0, 0, 4) := by
  unfold readV
  rw [if_neg h0, if_neg h1, if_neg h2, if_neg h3, if_neg h4, if_neg h5]
end Corr
namespace Go.Proofs.YtgojfonnikgboaaGreatDoor
set_option maxRecDepth 8000
open Go.RowKit Go.PlainAid Corr
set_option linter.unusedVariables false
set_option linter.unusedSimpArgs false
end Go.Proofs.YtgojfonnikgboaaGreatDoor
