/- Contracts of corrodyref08: Delete, Same. (Written by wip/gen/genav4.py.) -/
import Derived.Test.YtmllikffflebmaaAv3
import Derived.Deep.RegionHeld3
namespace Corr
set_option maxRecDepth 8000
open Go Go.RowKit
/-- Without the item at its place. -/
def delI (x : It) (l : ItL) : ItL := l.take (cntI x l) ++ l.drop (cntI x l + 1)
theorem it_eq {l m : ItL} (hl : l.length = m.length) (h : ∀ (k : Nat) s t, l[k]? = some s → m[k]? = some t → s = t) : l = m := by
  apply List.ext_getElem?
  intro k
  by_cases hk : k < l.length
  · have h1 : l[k]? = some l[k] := List.getElem?_eq_getElem hk
    have h2 : m[k]? = some (m[k]'(by omega)) := List.getElem?_eq_getElem (by omega)
    rw [h1, h2, h k _ _ h1 h2]
  · rw [List.getElem?_eq_none (by omega), List.getElem?_eq_none (by omega)]
end Corr
namespace Go.Proofs.Ytmllikffflebmaa
set_option maxRecDepth 8000
open Go.RowKit Corr
set_option linter.unusedVariables false
set_option linter.unusedSimpArgs false
theorem rdel_no (g n c : Nat) (A : Option Addr) (l : ItL) (x : It) (w : World) (T : RTree w g A n c l) (hn : n ≤ 100000) (h2 : hasI x l = false) : Calls Try.prog 11 #[.pointer (some ⟨g, 0, none⟩), itV x] w fun e w' => e = .returned (.int .i64 5) ∧ Below w.heap.size w w' := by
  obtain ⟨x1, x2, x3⟩ := x
  have HB0 := Lib.hid ((Below.refl w.heap.size w).alloc (Nat.le_refl _) (.cells #[.int .i64 x1, .int .i64 x2, .int .i64 x3] 33))
  have HP := Lib.hid (place_any g n c A l (x1, x2, x3) _ (T.keep ((Below.refl _ w).alloc (Nat.le_refl _) (.cells #[.int .i64 x1, .int .i64 x2, .int .i64 x3] 33))) hn)
  rw [h2] at HP
  clear T h2
  go_enter Try.func11, Try.ntmps11
  go_wp2_with fail
  refine HP.out.mono ?_
  rintro e w1 ⟨rfl, hb⟩
  have HB := Lib.hid (HB0.out.trans (hb.mono HB0.out.size))
  clear hb
  go_wp2_with fail
  go_ret
  exact ⟨rfl, HB.out⟩
set_option maxHeartbeats 4000000 in
theorem rdel_ok (g n c : Nat) (M : Int) (A : Option Addr) (l : ItL) (x : It) (w : World) (T : RTreeW 33 w g M A n c l) (hn : n ≤ 100000) (h2 : hasI x l = true) : Calls Try.prog 11 #[.pointer (some ⟨g, 0, none⟩), itV x] w (RetTree 33 g w (delI x l)) := by
  have hkn : cntI x l < n := by
    have h3 := of_decide_eq_true h2
    have := (List.getElem?_eq_some_iff.1 h3).1
    rw [T.len] at this; exact this
  obtain ⟨x1, x2, x3⟩ := x
  have HB0 := Lib.hid ((Below.refl w.heap.size w).alloc (Nat.le_refl _) (.cells #[.int .i64 x1, .int .i64 x2, .int .i64 x3] 33))
  have T0 := T.keep ((Below.refl _ w).alloc (Nat.le_refl _) (.cells #[.int .i64 x1, .int .i64 x2, .int .i64 x3] 33))
  have HLEN := Lib.hid T.len
  have HTW := Lib.hid T
  have HP := Lib.hid (place_any g n c A l (x1, x2, x3) _ T0.r hn)
  have HK := Lib.hid (show delI (x1, x2, x3) l = l.take (cntI (x1, x2, x3) l) ++ l.drop (cntI (x1, x2, x3) l + 1) from rfl)
  rw [h2] at HP
  rw [HK.out]
  clear HK
  generalize cntI (x1, x2, x3) l = k at *
  have HT0 := Lib.hid T0
  clear T h2 T0
  go_enter Try.func11, Try.ntmps11
  go_wp2_with fail
  refine HP.out.mono ?_
  rintro e w1 ⟨rfl, hb⟩
  have HB := Lib.hid (HB0.out.trans (hb.mono HB0.out.size))
  have HT1 := Lib.hid (HT0.out.keep hb)
  have c1 := HT1.out.b.get 1 rfl
  have f1 := HT1.out.b.f 1
  have hgq := HT1.out.sz
  have hq := HB.out.size
  clear hb HB0 HT0 HP
  rcases Joins.ownsRow_forms HT1.out.o with ⟨hA, hn0⟩ | ⟨g1, d, hA⟩
  · omega
  · injection hA with e1 _ e3
    subst e1 e3
    have hcap := (own_lies HT1.out.o).cap
    have a1 : IntKind.i64.wrap ((k : Int) + 1) = (k : Int) + 1 := IntWalk.i64_in _ (by omega)
    have a2 : ((k : Int) + 1).toNat = k + 1 := by omega
    have a3 : (0 : Int) ≤ (k : Int) := by omega
    have a4 : (k : Int) ≤ (c : Int) := by omega
    have a5 : (0 : Int) ≤ (k : Int) + 1 := by omega
    have a6 : (k : Int) + 1 ≤ (n : Int) := by omega
    have a7 : k + 1 ≤ n := by omega
    have a8 : k ≤ c := by omega
    by_cases hck : c = k + 1
    · have hnk : n = k + 1 := by omega
      subst hnk
      subst hck
      clear a4 a6 a8 hcap
      have b4 : (k : Int) ≤ (k : Int) + 1 := by omega
      have b5 : k ≤ k + 1 := by omega
      go_upto_region 4 with fail
      go_region_law ((first
          | (refine step_app (by rfl) _ _ 29 (by rfl) (cells3 (l.take k)) elem_item (by rfl) ((own_empty w1 33 3 w.heap.size hq).drew) (by rfl) (cells3_tk HLEN.out (by omega)) (fun h => (Itm.take ((own_lies HT1.out.o).keep (((Below.refl _ w1).alloc (Nat.le_refl _) _).drew)) (by omega)).src h) (cells3_one _) (by omega) (by unfold maxLen; omega) (by simp; omega) ?_; intro v2 w2 hown2 hg2; have HB2 := Lib.hid (((HB.out.alloc hq (.cells #[] 33)).drew).grown hg2 (by simp; omega) (low_ge w1 hq 0 0)); have c2 := (HTW.out.keep HB2.out).b.get 1 rfl; have HO2 := Lib.hid (own_ge hown2))
          | (refine step_app (m := 0) (by rfl) _ _ 29 (by rfl) [] elem_item (by rfl) hown2 (by rfl) rfl (fun h => absurd h (by omega)) (fun u hu => by cases hu) (by omega) (by unfold maxLen; omega) HB2.out.size ?_; intro v3 w3 hown3 hg3; have HB3 := Lib.hid (HB2.out.grown hg3 HB2.out.size HO2.out); have c3 := (HTW.out.keep HB3.out).b.get 1 rfl; have f3 := (HTW.out.keep HB3.out).b.f 1; have HO3 := Lib.hid hown3; obtain ⟨A4, d4, rfl, L4⟩ := Lies.of_own hown3 (by have := hown3.1; exact this))))
      all_goals
        clear L4 hg2 hg3 hown2 hown3
        go_wp2_with fail
        go_ret
        exact ⟨A4, _, d4, w3, rfl, HB3.out, by
          have := HO3.out
          rw [cells3_append]
          rw [List.drop_of_length_le (by rw [HLEN.out]; omega)]; simpa [cells3] using this, rfl⟩
    · go_upto_region 4 with fail
      go_region_law ((first
          | (refine step_app (by rfl) _ _ 29 (by rfl) (cells3 (l.take k)) elem_item (by rfl) ((own_empty w1 33 3 w.heap.size hq).drew) (by rfl) (cells3_tk HLEN.out (by omega)) (fun h => (Itm.take ((own_lies HT1.out.o).keep (((Below.refl _ w1).alloc (Nat.le_refl _) _).drew)) (by omega)).src h) (cells3_one _) (by omega) (by unfold maxLen; omega) (by simp; omega) ?_; intro v2 w2 hown2 hg2; have HB2 := Lib.hid (((HB.out.alloc hq (.cells #[] 33)).drew).grown hg2 (by simp; omega) (low_ge w1 hq 0 0)); have c2 := (HTW.out.keep HB2.out).b.get 1 rfl; have HO2 := Lib.hid (own_ge hown2))
          | (refine step_app (by rfl) _ _ 29 (by rfl) (cells3 (l.drop (k + 1))) elem_item (by rfl) hown2 (by rfl) (by rw [cells3_len, List.length_drop, HLEN.out]) (Itm.drop0 (own_lies (HTW.out.keep HB2.out).o) a7).src (cells3_one _) (by omega) (by unfold maxLen; omega) HB2.out.size ?_; intro v3 w3 hown3 hg3; have HB3 := Lib.hid (HB2.out.grown hg3 HB2.out.size HO2.out); have c3 := (HTW.out.keep HB3.out).b.get 1 rfl; have f3 := (HTW.out.keep HB3.out).b.f 1; have HO3 := Lib.hid hown3; obtain ⟨A4, d4, rfl, L4⟩ := Lies.of_own hown3 (by have := hown3.1; exact this))))
      all_goals
        clear L4 hg2 hg3 hown2 hown3
        go_wp2_with fail
        go_ret
        exact ⟨A4, _, d4, w3, rfl, HB3.out, by
          have := HO3.out
          rw [cells3_append]
          simpa using this, rfl⟩
end Go.Proofs.Ytmllikffflebmaa
