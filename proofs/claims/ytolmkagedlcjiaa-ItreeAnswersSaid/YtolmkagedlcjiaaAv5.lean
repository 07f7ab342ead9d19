/- Contract of corrodyref08: Insert. (Written by wip/gen/genav3.py.) Contracts of corrodyref08: Delete, Same. (Written by wip/gen/genav4.py.) Contract of corrodyref08: Same. (Written by wip/gen/genav5.py.) -/
import Derived.Test.YtolmkagedlcjiaaAv2
import Derived.Deep.RegionLaw
import Derived.Deep.CutRange
import Derived.Deep.AppendLies
import Derived.Laws.IdiomStrings
import Derived.Deep.DeepCutAuto
import Derived.Deep.CutBlock
import Derived.Deep.RegionHeld3
namespace Corr
set_option maxRecDepth 8000
open Go Go.RowKit
/-- An item at its place. -/
def insI (x : It) (l : ItL) : ItL := l.take (cntI x l) ++ x :: l.drop (cntI x l)
theorem cntI_le (x : It) (l : ItL) : cntI x l ≤ l.length := by unfold cntI; exact (List.takeWhile_sublist _).length_le
theorem Itm.drop0 {w : World} {n c g : Nat} {l : ItL} (h : Itm w (some ⟨g, 0, none⟩) n c l) {k : Nat} (hk : k ≤ n) : Itm w (some ⟨g, k * 3, none⟩) (n - k) (c - k) (l.drop k) := by
  have := Itm.drop h hk
  rw [Nat.zero_add] at this; exact this
/-- The document's tree in a block that may be written; its items in a row of someone's own. -/
structure RTreeW (T : TypeId) (w : World) (g : Nat) (M : Int) (A : Option Addr) (n c : Nat) (l : ItL) : Prop where
  b : Blk w g #[.int .i64 M, .slice A n c]
  o : w.ownsRow 0 T 3 (.slice A n c) n (cells3 l)
section
variable {T : TypeId} {w w' : World} {g n c : Nat} {M : Int} {A : Option Addr} {l : ItL}
theorem RTreeW.r (h : RTreeW T w g M A n c l) : RTree w g A n c l := ⟨h.b.get 1 rfl, own_lies h.o⟩
theorem RTreeW.keep (h : RTreeW T w g M A n c l) (hb : Below w.heap.size w w') : RTreeW T w' g M A n c l := ⟨h.b.keep hb, own_keep h.o hb⟩
theorem RTreeW.sz (h : RTreeW T w g M A n c l) : g < w.heap.size := h.b.sz
theorem RTreeW.len (h : RTreeW T w g M A n c l) : l.length = n := Itm.count h.r.i
end
/-- What a call leaves that changed the tree at g: a new row, named by its cell. -/
def RetTree (T : TypeId) (g : Nat) (w : World) (l : ItL) (e : Ending) (w' : World) : Prop :=
  ∃ A n c w1, e = .returned (.int .i64 0) ∧ Below w.heap.size w w1 ∧ w1.ownsRow w.heap.size T 3 (.slice A n c) n (cells3 l) ∧ w' = w1.setCell ⟨g, 1, none⟩ (.slice A n c)
end Corr
namespace Go.Proofs.Ytolmkagedlcjiaa
set_option maxRecDepth 8000
open Go.RowKit Corr
set_option linter.unusedVariables false
set_option linter.unusedSimpArgs false
theorem elem_item : Elem Try.prog 22 30 (.agg #[.int .i64 0, .int .i64 0, .int .i64 0]) 3 24 := by
  obtain ⟨i, h0, h1, h2, h3⟩ := info_parts (show (Try.prog.info? 30).map (fun i => (i.zero, i.size, i.bytes)) = some (some (.agg #[.int .i64 0, .int .i64 0, .int .i64 0]), 3, 24) by kernel_rfl)
  exact ⟨Try.underlying22, ⟨i, h0, h1, h2, h3⟩, rfl, by decide⟩
theorem rins_bad (p : Value) (x : It) (w : World) (h : x.2.1 ≤ x.1) : Calls Try.prog 7 #[p, itV x] w fun e w' => e = .returned (.int .i64 2) ∧ Below w.heap.size w w' := by
  obtain ⟨x1, x2, x3⟩ := x
  have h : x2 ≤ x1 := h
  have HB0 := Lib.hid ((Below.refl w.heap.size w).alloc (Nat.le_refl _) (.cells #[.int .i64 x1, .int .i64 x2, .int .i64 x3] 30))
  have d1 : decide (x1 ≥ x2) = true := decide_eq_true h
  clear h
  go_enter Try.func7, Try.ntmps7
  go_wp2_with fail
  go_ret
  exact ⟨rfl, HB0.out⟩
theorem rins_twice (g n c : Nat) (A : Option Addr) (l : ItL) (x : It) (w : World) (T : RTree w g A n c l) (hn : n ≤ 100000) (h : x.1 < x.2.1) (h2 : hasI x l = true) : Calls Try.prog 7 #[.pointer (some ⟨g, 0, none⟩), itV x] w fun e w' => e = .returned (.int .i64 6) ∧ Below w.heap.size w w' := by
  obtain ⟨x1, x2, x3⟩ := x
  have h : x1 < x2 := h
  have HB0 := Lib.hid ((Below.refl w.heap.size w).alloc (Nat.le_refl _) (.cells #[.int .i64 x1, .int .i64 x2, .int .i64 x3] 30))
  have HP := Lib.hid (place_any g n c A l (x1, x2, x3) _ (T.keep ((Below.refl _ w).alloc (Nat.le_refl _) (.cells #[.int .i64 x1, .int .i64 x2, .int .i64 x3] 30))) hn)
  rw [h2] at HP
  have d1 : decide (x1 ≥ x2) = false := decide_eq_false (by omega)
  clear h T h2
  go_enter Try.func7, Try.ntmps7
  go_wp2_with fail
  refine HP.out.mono ?_
  rintro e w1 ⟨rfl, hb⟩
  have HB := Lib.hid (HB0.out.trans (hb.mono HB0.out.size))
  clear hb
  go_wp2_with fail
  go_ret
  exact ⟨rfl, HB.out⟩
theorem rins_full (g n c : Nat) (M : Int) (A : Option Addr) (l : ItL) (x : It) (w : World) (T : RTreeW 30 w g M A n c l) (hn : n ≤ 100000) (h : x.1 < x.2.1) (h2 : hasI x l = false) (h3 : (n : Int) = M) : Calls Try.prog 7 #[.pointer (some ⟨g, 0, none⟩), itV x] w fun e w' => e = .returned (.int .i64 7) ∧ Below w.heap.size w w' := by
  obtain ⟨x1, x2, x3⟩ := x
  have h : x1 < x2 := h
  have HB0 := Lib.hid ((Below.refl w.heap.size w).alloc (Nat.le_refl _) (.cells #[.int .i64 x1, .int .i64 x2, .int .i64 x3] 30))
  have T0 := T.keep ((Below.refl _ w).alloc (Nat.le_refl _) (.cells #[.int .i64 x1, .int .i64 x2, .int .i64 x3] 30))
  have HP := Lib.hid (place_any g n c A l (x1, x2, x3) _ T0.r hn)
  rw [h2] at HP
  have HT0 := Lib.hid T0
  have d1 : decide (x1 ≥ x2) = false := decide_eq_false (by omega)
  have d2 : ((n : Int) == M) = true := by simpa using h3
  clear h T h2 T0 h3
  go_enter Try.func7, Try.ntmps7
  go_wp2_with fail
  refine HP.out.mono ?_
  rintro e w1 ⟨rfl, hb⟩
  have HB := Lib.hid (HB0.out.trans (hb.mono HB0.out.size))
  have HT1 := Lib.hid (HT0.out.keep hb)
  have c0 := HT1.out.b.get 0 rfl
  have c1 := HT1.out.b.get 1 rfl
  clear hb
  go_upto_region 6 with fail
  go_quiet (fail)
  have HB2 := Lib.hid (HB.out.trans (Joins.below_draws _ w1 nq))
  go_wp2_with fail
  go_ret
  exact ⟨rfl, HB2.out⟩
theorem cells3_tk {l : ItL} {n k : Nat} (hl : l.length = n) (hk : k ≤ n) : (cells3 (l.take k)).length = k * 3 := by
  rw [cells3_len, List.length_take, hl, Nat.min_eq_left hk]
set_option maxHeartbeats 4000000 in
theorem rins_ok (g n c : Nat) (M : Int) (A : Option Addr) (l : ItL) (x : It) (w : World) (T : RTreeW 30 w g M A n c l) (hn : n ≤ 100000) (h : x.1 < x.2.1) (h2 : hasI x l = false) (h3 : ¬ (n : Int) = M) : Calls Try.prog 7 #[.pointer (some ⟨g, 0, none⟩), itV x] w (RetTree 30 g w (insI x l)) := by
  obtain ⟨x1, x2, x3⟩ := x
  have h : x1 < x2 := h
  have HB0 := Lib.hid ((Below.refl w.heap.size w).alloc (Nat.le_refl _) (.cells #[.int .i64 x1, .int .i64 x2, .int .i64 x3] 30))
  have HX0 := Lib.hid (Blk.new w #[.int .i64 x1, .int .i64 x2, .int .i64 x3] 30)
  have T0 := T.keep ((Below.refl _ w).alloc (Nat.le_refl _) (.cells #[.int .i64 x1, .int .i64 x2, .int .i64 x3] 30))
  have HLEN := Lib.hid T.len
  have HTW := Lib.hid T
  have HGL := Lib.hid T.sz
  have HP := Lib.hid (place_any g n c A l (x1, x2, x3) _ T0.r hn)
  have hkn := cntI_le (x1, x2, x3) l
  rw [HLEN.out] at hkn
  have HK := Lib.hid (show insI (x1, x2, x3) l = l.take (cntI (x1, x2, x3) l) ++ (x1, x2, x3) :: l.drop (cntI (x1, x2, x3) l) from rfl)
  rw [h2] at HP
  rw [HK.out]
  clear HK
  generalize cntI (x1, x2, x3) l = k at *
  have HT0 := Lib.hid T0
  have d1 : decide (x1 ≥ x2) = false := decide_eq_false (by omega)
  have d2 : ((n : Int) == M) = false := by simpa using h3
  clear h T h2 T0 h3
  go_enter Try.func7, Try.ntmps7
  go_wp2_with fail
  refine HP.out.mono ?_
  rintro e w1 ⟨rfl, hb⟩
  have HB := Lib.hid (HB0.out.trans (hb.mono HB0.out.size))
  have HT1 := Lib.hid (HT0.out.keep hb)
  have HX1 := Lib.hid (HX0.out.keep hb)
  have c0 := HT1.out.b.get 0 rfl
  have c1 := HT1.out.b.get 1 rfl
  have q0 := HX1.out.get 0 rfl
  have q1 := HX1.out.get 1 rfl
  have q2 := HX1.out.get 2 rfl
  clear hb HB0 HX0 HT0 HP
  rcases Joins.ownsRow_forms HT1.out.o with ⟨hA, hn0⟩ | ⟨g1, d, hA⟩
  · injection hA with e1 e2 e3
    subst e1 e2 e3
    have hk0 : k = 0 := by omega
    subst hk0
    go_upto_region 6 with fail
    go_quiet (fail)
    have HBQ := Lib.hid (HB.out.trans (Joins.below_draws _ w1 nq))
    have HTQ := Lib.hid (HT1.out.keep (Joins.below_draws _ w1 nq))
    have HXQ := Lib.hid (HX1.out.keep (Joins.below_draws _ w1 nq))
    generalize w1.drewN nq = wq at *
    clear c0 c1 q0 q1 q2
    have c1 := HTQ.out.b.get 1 rfl
    have hgq := HTQ.out.sz
    have hq := HBQ.out.size
    go_wp2_with (at_builtin; refine wpList_app rfl _ _ 22 rfl (cells3 (l.take 0)) elem_item rfl (own_empty wq 30 3 w.heap.size hq) rfl (cells3_tk HLEN.out hkn) (fun h => (Itm.take ((own_lies HTQ.out.o).keep ((Below.refl _ wq).alloc (Nat.le_refl _) _)) hkn).src h) (cells3_one _) (by omega) (by unfold maxLen; omega) (by simp; omega) ?_)
    intro v2 w2 hown2 hg2
    have HB2 := Lib.hid ((HBQ.out.alloc hq (.cells #[] 30)).grown hg2 (by simp; omega) (low_ge wq hq 0 0))
    have HQ2 := Lib.hid (((Below.refl wq.heap.size wq).alloc (Nat.le_refl _) (.cells #[] 30)).grown hg2 (by simp) (new_ge wq 0 0))
    have HO2 := Lib.hid (own_ge hown2)
    have HX2 := Lib.hid (HXQ.out.keep HQ2.out)
    have q0 := HX2.out.get 0 rfl
    have q1 := HX2.out.get 1 rfl
    have q2 := HX2.out.get 2 rfl
    have hq2 := HB2.out.size
    clear hg2 c1 hgq
    go_wp2_with (at_builtin; refine wpList_app rfl _ _ 22 rfl (cells3 [(x1, x2, x3)]) elem_item rfl (hown2.alloc _) rfl rfl (fun _ => ⟨_, rfl, new_cells w2 (cells3 [(x1, x2, x3)]) 30⟩) (cells3_one _) (by omega) (by unfold maxLen; omega) (by simp; omega) ?_)
    intro v3 w3 hown3 hg3
    have HB3 := Lib.hid ((HB2.out.alloc hq2 (.cells #[encZ x1, encZ x2, encZ x3] 30)).grown hg3 (by simp; omega) HO2.out)
    have HT3 := HTW.out.keep HB3.out
    have c1 := HT3.b.get 1 rfl
    have hgq := HT3.sz
    have hq3 := HB3.out.size
    have HO3 := Lib.hid (own_ge hown3)
    have f1 := HT3.b.f 1
    clear q0 q1 q2 hown2 hg3
    have HSRC : 0 < 0 → ∃ ad, (none : Option Addr) = some ad ∧ ∀ (j : Nat) (u : Value), (cells3 (l.drop 0))[j]? = some u → w3.cell? (ad.add j) = some u := fun h => absurd h (by omega)
    go_wp2_with (at_builtin; refine wpList_app rfl _ _ 22 rfl (cells3 (l.drop 0)) elem_item rfl hown3 rfl (by rw [cells3_len, List.length_drop, HLEN.out, Nat.sub_self]) HSRC (cells3_one _) (by omega) (by unfold maxLen; omega) (by omega) ?_)
    intro v4 w4 hown4 hg4
    have HB4 := Lib.hid (HB3.out.grown hg4 (by omega) HO3.out)
    have HT4 := HTW.out.keep HB4.out
    have f4 := HT4.b.f 1
    have c4 := HT4.b.get 1 rfl
    obtain ⟨A4, d4, rfl, L4⟩ := Lies.of_own hown4 (by have := hown4.1; exact this)
    have HO4 := Lib.hid hown4
    clear hown3 hown4 hg4 c1 f1 hgq hq3 HT3 HT4 L4
    go_wp2_with fail
    go_ret
    exact ⟨A4, _, d4, w4, rfl, HB4.out, by
      have := HO4.out
      rw [cells3_append, show cells3 ((x1, x2, x3) :: l.drop 0) = cells3 [(x1, x2, x3)] ++ cells3 (l.drop 0) from rfl, ← List.append_assoc]
      first | exact this | (rw [List.append_assoc]; exact this), rfl⟩
  · injection hA with e1 _ e3
    subst e1 e3
    by_cases hck : c = k
    · have hcap := (own_lies HT1.out.o).cap
      have e1 : k = n := by omega
      subst e1
      subst hck
      go_upto_region 6 with fail
      go_quiet (fail)
      have HBQ := Lib.hid (HB.out.trans (Joins.below_draws _ w1 nq))
      have HTQ := Lib.hid (HT1.out.keep (Joins.below_draws _ w1 nq))
      have HXQ := Lib.hid (HX1.out.keep (Joins.below_draws _ w1 nq))
      generalize w1.drewN nq = wq at *
      clear c0 c1 q0 q1 q2
      have c1 := HTQ.out.b.get 1 rfl
      have hgq := HTQ.out.sz
      have hq := HBQ.out.size
      go_wp2_with (at_builtin; refine wpList_app rfl _ _ 22 rfl (cells3 (l.take c)) elem_item rfl (own_empty wq 30 3 w.heap.size hq) rfl (cells3_tk HLEN.out hkn) (fun h => (Itm.take ((own_lies HTQ.out.o).keep ((Below.refl _ wq).alloc (Nat.le_refl _) _)) hkn).src h) (cells3_one _) (by omega) (by unfold maxLen; omega) (by simp; omega) ?_)
      intro v2 w2 hown2 hg2
      have HB2 := Lib.hid ((HBQ.out.alloc hq (.cells #[] 30)).grown hg2 (by simp; omega) (low_ge wq hq 0 0))
      have HQ2 := Lib.hid (((Below.refl wq.heap.size wq).alloc (Nat.le_refl _) (.cells #[] 30)).grown hg2 (by simp) (new_ge wq 0 0))
      have HO2 := Lib.hid (own_ge hown2)
      have HX2 := Lib.hid (HXQ.out.keep HQ2.out)
      have q0 := HX2.out.get 0 rfl
      have q1 := HX2.out.get 1 rfl
      have q2 := HX2.out.get 2 rfl
      have hq2 := HB2.out.size
      clear hg2 c1 hgq
      go_wp2_with (at_builtin; refine wpList_app rfl _ _ 22 rfl (cells3 [(x1, x2, x3)]) elem_item rfl (hown2.alloc _) rfl rfl (fun _ => ⟨_, rfl, new_cells w2 (cells3 [(x1, x2, x3)]) 30⟩) (cells3_one _) (by omega) (by unfold maxLen; omega) (by simp; omega) ?_)
      intro v3 w3 hown3 hg3
      have HB3 := Lib.hid ((HB2.out.alloc hq2 (.cells #[encZ x1, encZ x2, encZ x3] 30)).grown hg3 (by simp; omega) HO2.out)
      have HT3 := HTW.out.keep HB3.out
      have c1 := HT3.b.get 1 rfl
      have hgq := HT3.sz
      have hq3 := HB3.out.size
      have HO3 := Lib.hid (own_ge hown3)
      have f1 := HT3.b.f 1
      clear q0 q1 q2 hown2 hg3
      have HSRC : 0 < 0 → ∃ ad, (some ⟨g1, 0, none⟩ : Option Addr) = some ad ∧ ∀ (j : Nat) (u : Value), (cells3 (l.drop c))[j]? = some u → w3.cell? (ad.add j) = some u := fun h => absurd h (by omega)
      go_wp2_with (at_builtin; refine wpList_app rfl _ _ 22 rfl (cells3 (l.drop c)) elem_item rfl hown3 rfl (by rw [cells3_len, List.length_drop, HLEN.out, Nat.sub_self]) HSRC (cells3_one _) (by omega) (by unfold maxLen; omega) (by omega) ?_)
      intro v4 w4 hown4 hg4
      have HB4 := Lib.hid (HB3.out.grown hg4 (by omega) HO3.out)
      have HT4 := HTW.out.keep HB4.out
      have f4 := HT4.b.f 1
      have c4 := HT4.b.get 1 rfl
      obtain ⟨A4, d4, rfl, L4⟩ := Lies.of_own hown4 (by have := hown4.1; exact this)
      have HO4 := Lib.hid hown4
      clear hown3 hown4 hg4 c1 f1 hgq hq3 HT3 HT4 L4
      go_wp2_with fail
      go_ret
      exact ⟨A4, _, d4, w4, rfl, HB4.out, by
        have := HO4.out
        rw [cells3_append, show cells3 ((x1, x2, x3) :: l.drop c) = cells3 [(x1, x2, x3)] ++ cells3 (l.drop c) from rfl, ← List.append_assoc]
        first | exact this | (rw [List.append_assoc]; exact this), rfl⟩
    · have hkc : (k : Int) ≤ (c : Int) := by have := (own_lies HT1.out.o).cap; omega
      go_upto_region 6 with fail
      go_quiet (fail)
      have HBQ := Lib.hid (HB.out.trans (Joins.below_draws _ w1 nq))
      have HTQ := Lib.hid (HT1.out.keep (Joins.below_draws _ w1 nq))
      have HXQ := Lib.hid (HX1.out.keep (Joins.below_draws _ w1 nq))
      generalize w1.drewN nq = wq at *
      clear c0 c1 q0 q1 q2
      have c1 := HTQ.out.b.get 1 rfl
      have hgq := HTQ.out.sz
      have hq := HBQ.out.size
      go_wp2_with (at_builtin; refine wpList_app rfl _ _ 22 rfl (cells3 (l.take k)) elem_item rfl (own_empty wq 30 3 w.heap.size hq) rfl (cells3_tk HLEN.out hkn) (fun h => (Itm.take ((own_lies HTQ.out.o).keep ((Below.refl _ wq).alloc (Nat.le_refl _) _)) hkn).src h) (cells3_one _) (by omega) (by unfold maxLen; omega) (by simp; omega) ?_)
      intro v2 w2 hown2 hg2
      have HB2 := Lib.hid ((HBQ.out.alloc hq (.cells #[] 30)).grown hg2 (by simp; omega) (low_ge wq hq 0 0))
      have HQ2 := Lib.hid (((Below.refl wq.heap.size wq).alloc (Nat.le_refl _) (.cells #[] 30)).grown hg2 (by simp) (new_ge wq 0 0))
      have HO2 := Lib.hid (own_ge hown2)
      have HX2 := Lib.hid (HXQ.out.keep HQ2.out)
      have q0 := HX2.out.get 0 rfl
      have q1 := HX2.out.get 1 rfl
      have q2 := HX2.out.get 2 rfl
      have hq2 := HB2.out.size
      clear hg2 c1 hgq
      go_wp2_with (at_builtin; refine wpList_app rfl _ _ 22 rfl (cells3 [(x1, x2, x3)]) elem_item rfl (hown2.alloc _) rfl rfl (fun _ => ⟨_, rfl, new_cells w2 (cells3 [(x1, x2, x3)]) 30⟩) (cells3_one _) (by omega) (by unfold maxLen; omega) (by simp; omega) ?_)
      intro v3 w3 hown3 hg3
      have HB3 := Lib.hid ((HB2.out.alloc hq2 (.cells #[encZ x1, encZ x2, encZ x3] 30)).grown hg3 (by simp; omega) HO2.out)
      have HT3 := HTW.out.keep HB3.out
      have c1 := HT3.b.get 1 rfl
      have hgq := HT3.sz
      have hq3 := HB3.out.size
      have HO3 := Lib.hid (own_ge hown3)
      have f1 := HT3.b.f 1
      clear q0 q1 q2 hown2 hg3
      have HSRC := (Itm.drop0 (own_lies HT3.o) hkn).src
      go_wp2_with (at_builtin; refine wpList_app rfl _ _ 22 rfl (cells3 (l.drop k)) elem_item rfl hown3 rfl (by rw [cells3_len, List.length_drop, HLEN.out]) HSRC (cells3_one _) (by omega) (by unfold maxLen; omega) (by omega) ?_)
      intro v4 w4 hown4 hg4
      have HB4 := Lib.hid (HB3.out.grown hg4 (by omega) HO3.out)
      have HT4 := HTW.out.keep HB4.out
      have f4 := HT4.b.f 1
      have c4 := HT4.b.get 1 rfl
      obtain ⟨A4, d4, rfl, L4⟩ := Lies.of_own hown4 (by have := hown4.1; exact this)
      have HO4 := Lib.hid hown4
      clear hown3 hown4 hg4 c1 f1 hgq hq3 HT3 HT4 L4
      go_wp2_with fail
      go_ret
      exact ⟨A4, _, d4, w4, rfl, HB4.out, by
        have := HO4.out
        rw [cells3_append, show cells3 ((x1, x2, x3) :: l.drop k) = cells3 [(x1, x2, x3)] ++ cells3 (l.drop k) from rfl, ← List.append_assoc]
        first | exact this | (rw [List.append_assoc]; exact this), rfl⟩
end Go.Proofs.Ytolmkagedlcjiaa
namespace Corr
set_option maxRecDepth 8000
open Go Go.RowKit
/-- Without the item at its place. -/
def delI (x : It) (l : ItL) : ItL := l.take (cntI x l) ++ l.drop (cntI x l + 1)
theorem it_eq {l m : ItL} (hl : l.length = m.length) (h : ∀ (k : Nat) s t, l[k]? = some s → m[k]? = some t → s = t) : l = m := by
  apply List.ext_getElem?
  intro k
  by_cases hk : k < l.length
  · have h1 : l[k]? = some l[k] := List.getElem?_eq_getElem hk
    have h2 : m[k]? = some (m[k]'(by omega)) := List.getElem?_eq_getElem (by omega)
    rw [h1, h2, h k _ _ h1 h2]
  · rw [List.getElem?_eq_none (by omega), List.getElem?_eq_none (by omega)]
end Corr
namespace Go.Proofs.Ytolmkagedlcjiaa
set_option maxRecDepth 8000
open Go.RowKit Corr
set_option linter.unusedVariables false
set_option linter.unusedSimpArgs false
end Go.Proofs.Ytolmkagedlcjiaa
namespace Go.Proofs.Ytolmkagedlcjiaa
set_option maxRecDepth 8000
open Go.RowKit Corr
set_option linter.unusedVariables false
set_option linter.unusedSimpArgs false
set_option maxHeartbeats 4000000 in
theorem isame_any (A B : Option Addr) (n c m d : Nat) (l k : ItL) (w : World) (R : Itm w A n c l) (S : Itm w B m d k) (hn : n ≤ 1000000) (hm : m ≤ 1000000) : Calls Try.prog 13 #[.slice A n c, .slice B m d] w fun e w' => e = .returned (.bool (decide (l = k))) ∧ Below w.heap.size w w' := by
  have HR := Lib.hid R
  have HS := Lib.hid S
  have C1 := Lib.hid (Itm.count R)
  have C2 := Lib.hid (Itm.count S)
  clear R S
  by_cases hnm : n = m
  · subst hnm
    obtain ⟨D, hD⟩ : ∃ D, decide (l = k) = D := ⟨_, rfl⟩
    have HD := Lib.hid hD
    rw [hD]
    clear hD
    go_enter Try.func13, Try.ntmps13
    go_wp2_with fail
    go_loopw [5] (fun t wr => ∃ i : Nat, t = .int .i64 (i : Int) ∧ i ≤ n ∧ Hid (∀ j, j < i → ∀ s t, l[j]? = some s → k[j]? = some t → s = t) ∧ Below w.heap.size w wr) (fun t _ => (n - intOf t).toNat)
    case atStart => exact ⟨0, rfl, by omega, Lib.hid (fun j h => absurd h (by omega)), Below.refl _ _⟩
    case round =>
      obtain ⟨i, rfl, hi, HE, hb⟩ := hrel
      have HB := Lib.hid hb
      clear hb
      by_cases hlt : i < n
      · obtain ⟨g, off, s, rfl, hs, hg, c0, c1, c2⟩ := Itm.get (HR.out.keep HB.out) hlt
        obtain ⟨g2, off2, t, rfl, ht, hg2, d0, d1, d2⟩ := Itm.get (HS.out.keep HB.out) hlt
        obtain ⟨s1, s2, s3⟩ := s
        obtain ⟨t1, t2, t3⟩ := t
        have H1 := Lib.hid hs
        have H2 := Lib.hid ht
        clear hs ht
        have hi1 : (0 : Int) ≤ (i : Int) := by omega
        have hi2 : (i : Int) < (n : Int) := by omega
        by_cases p1 : s1 = t1
        · by_cases p2 : s2 = t2
          · by_cases p3 : s3 = t3
            · have HE2 : Hid (∀ j, j < i + 1 → ∀ s t, l[j]? = some s → k[j]? = some t → s = t) := Lib.hid (fun j hj s t h1 h2 => by
                by_cases e : j = i
                · subst e
                  rw [H1.out] at h1; rw [H2.out] at h2
                  rw [← Option.some.inj h1, ← Option.some.inj h2, p1, p2, p3]
                · exact HE.out j (by omega) s t h1 h2)
              have q1 : (s1 == t1) = true := by simpa using p1
              have q2 : (s2 == t2) = true := by simpa using p2
              have q3 : (s3 == t3) = true := by simpa using p3
              clear p1 p2 p3
              go_upto_region 6 with fail
              go_quiet (fail)
              have HB2 := Lib.hid (HB.out.trans (Joins.below_draws _ wr nq))
              go_wp2_with fail
              go_roundw
              case rel => exact ⟨i + 1, by go_num, by omega, HE2, HB2.out⟩
              case measure => simp [intOf]; omega
            · have q1 : (s1 == t1) = true := by simpa using p1
              have q2 : (s2 == t2) = true := by simpa using p2
              have HF := Lib.hid (show false = D by
                rw [← HD.out, eq_comm, decide_eq_false_iff_not]
                intro e
                have h1 := H1.out; have h2 := H2.out
                rw [e, h2] at h1
                have h3 := Option.some.inj h1
                exact p3 (by rw [Prod.mk.injEq, Prod.mk.injEq] at h3; exact h3.2.2.symm))
              have q3 : (s3 == t3) = false := by simpa using p3
              go_upto_region 6 with fail
              go_quiet (fail)
              have HB2 := Lib.hid (HB.out.trans (Joins.below_draws _ wr nq))
              go_wp2_with fail
              go_ret
              exact ⟨congrArg (fun b => Ending.returned (.bool b)) HF.out, HB2.out⟩
          · have q1 : (s1 == t1) = true := by simpa using p1
            have HF := Lib.hid (show false = D by
              rw [← HD.out, eq_comm, decide_eq_false_iff_not]
              intro e
              have h1 := H1.out; have h2 := H2.out
              rw [e, h2] at h1
              have h3 := Option.some.inj h1
              exact p2 (by rw [Prod.mk.injEq, Prod.mk.injEq] at h3; exact h3.2.1.symm))
            have q2 : (s2 == t2) = false := by simpa using p2
            go_upto_region 6 with fail
            go_quiet (fail)
            have HB2 := Lib.hid (HB.out.trans (Joins.below_draws _ wr nq))
            go_wp2_with fail
            go_ret
            exact ⟨congrArg (fun b => Ending.returned (.bool b)) HF.out, HB2.out⟩
        · have HF := Lib.hid (show false = D by
            rw [← HD.out, eq_comm, decide_eq_false_iff_not]
            intro e
            have h1 := H1.out; have h2 := H2.out
            rw [e, h2] at h1
            have h3 := Option.some.inj h1
            exact p1 (by rw [Prod.mk.injEq, Prod.mk.injEq] at h3; exact h3.1.symm))
          have q1 : (s1 == t1) = false := by simpa using p1
          go_upto_region 6 with fail
          go_quiet (fail)
          have HB2 := Lib.hid (HB.out.trans (Joins.below_draws _ wr nq))
          go_wp2_with fail
          go_ret
          exact ⟨congrArg (fun b => Ending.returned (.bool b)) HF.out, HB2.out⟩
      · have hin : i = n := by omega
        subst hin
        have HF := Lib.hid (show true = D by
          rw [← HD.out, eq_comm, decide_eq_true_iff]
          refine it_eq (by rw [C1.out, C2.out]) fun j s t h1 h2 => HE.out j ?_ s t h1 h2
          have := (List.getElem?_eq_some_iff.1 h1).1
          have := C1.out
          omega)
        go_wp2_with fail
        go_ret
        exact ⟨congrArg (fun b => Ending.returned (.bool b)) HF.out, HB.out⟩
  · have HF := Lib.hid (show decide (l = k) = false by
      rw [decide_eq_false_iff_not]
      intro e
      have := C1.out; have := C2.out; rw [← e] at this; omega)
    rw [HF.out]
    have q : ((n : Int) == (m : Int)) = false := by rw [beq_eq_false_iff_ne]; omega
    go_enter Try.func13, Try.ntmps13
    go_wp2_with fail
    go_ret
    exact ⟨rfl, Below.refl _ _⟩
end Go.Proofs.Ytolmkagedlcjiaa
