/- Contracts of package avl: push, pop: a way. Contracts of package avl: side, height. -/
import Derived.Test.YtolmkagedlcjiaaAkMem
import Derived.BigQuiet
namespace Go.Proofs.Ytolmkagedlcjiaa
set_option maxRecDepth 8000
open Go.RowKit Corr
set_option linter.unusedVariables false
set_option linter.unusedSimpArgs false
set_option maxHeartbeats 4000000 in
theorem push_any (g : Nat) (l : WyL) (p : Nat) (b : Bool) (w : World) (W : WayM w g l) (hl : l.length < 28) : Calls Try.prog 39 #[.pointer (some ⟨g, 0, none⟩), stV p b] w fun e w' => e = .returned (.tuple #[]) ∧ WayM w' g (l ++ [(p, b)]) ∧ Off (· = g) w w' := by
  obtain ⟨vs, B, V⟩ := W
  have HV := Lib.hid V
  have hg := B.sz
  obtain ⟨s, hs⟩ : ∃ s, sdI b = s := ⟨_, rfl⟩
  obtain ⟨k, hk⟩ : ∃ k, l.length = k := ⟨_, rfl⟩
  have HK := Lib.hid hk
  have HBX := Lib.hid (Blk.new w #[.int .i64 (p : Int), .int .i64 s] 65)
  have hB1 := B.keep ((Below.refl _ w).alloc (Nat.le_refl _) (.cells #[.int .i64 (p : Int), .int .i64 s] 65))
  have c56 := hB1.get 56 (by have := V.cnt; rw [hk] at this; exact this)
  have HB1 := Lib.hid hB1
  have f0 := hB1.f (k * 2)
  have f1 := hB1.f (k * 2 + 1)
  have f2 := hB1.f 56
  have x0 := HBX.out.get 0 rfl
  have x1 := HBX.out.get 1 rfl
  have hk1 : k < 28 := by omega
  have j0 : decide ((k : Int) < 0) = false := decide_eq_false (by omega)
  have j1 : (0 : Int) ≤ (k : Int) := by omega
  have j2 : (k : Int) < 28 := by omega
  have j3 : ((k : Int)).toNat = k := by omega
  obtain ⟨v0, hv0⟩ : ∃ v, vs.toList[k * 2]? = some v := ⟨_, List.getElem?_eq_getElem (by rw [Array.length_toList, V.sz]; omega)⟩
  obtain ⟨v1, hv1⟩ : ∃ v, vs.toList[k * 2 + 1]? = some v := ⟨_, List.getElem?_eq_getElem (by rw [Array.length_toList, V.sz]; omega)⟩
  have y0 := hB1.get _ hv0
  have y1 := hB1.get _ hv1
  have HS := Lib.hid hs
  unfold stV
  rw [hs]
  clear hv0 hv1 V B hB1 hk hs
  go_enter Try.func39, Try.ntmps39
  go_upto_region 1 with fail
  have HOW := Lib.hid (Off.of (F := (· = g)) ((Below.refl _ w).alloc (Nat.le_refl _) (.cells #[.int .i64 (p : Int), .int .i64 s] 65)))
  have hgn : g ≠ w.heap.size := by omega
  generalize w.heap.size = hw at *
  generalize w.alloc (.cells #[.int .i64 (p : Int), .int .i64 s] 65) = wq at *
  go_region
  have HB2 := Lib.hid ((HB1.out.set (k * 2) (.int .i64 (p : Int))).set (k * 2 + 1) (.int .i64 s)).drew
  have HO2 := Lib.hid ((HOW.out.trans (Off.set (F := (· = g)) (a := ⟨g, k * 2, none⟩) rfl (.int .i64 (p : Int)))).trans (Off.set (F := (· = g)) (a := ⟨g, k * 2 + 1, none⟩) rfl (.int .i64 s))).drew
  have z56 : (((wq.setCell ⟨g, k * 2, none⟩ (.int .i64 (p : Int))).setCell ⟨g, k * 2 + 1, none⟩ (.int .i64 s)).drew).cell? ⟨g, 56, none⟩ = some (.int .i64 (k : Int)) := HB2.out.get 56 (by
    simp only [Array.toList_setIfInBounds]
    rw [List.getElem?_set_ne (by omega), List.getElem?_set_ne (by omega)]
    have := HV.out.cnt; rw [HK.out] at this; exact this)
  have f3 := HB2.out.f 56
  generalize ((wq.setCell ⟨g, k * 2, none⟩ (.int .i64 (p : Int))).setCell ⟨g, k * 2 + 1, none⟩ (.int .i64 s)).drew = wr at *
  clear c56 f0 f1 f2 y0 y1 x0 x1
  go_wp2_with fail
  go_end0
  refine ⟨rfl, ⟨_, HB2.out.set 56 _, ?_⟩, HO2.out.trans (Off.set (F := (· = g)) (a := ⟨g, 56, none⟩) rfl _)⟩
  have := HV.out.push (by rw [HK.out]; omega) p b
  rw [HK.out, HS.out] at this
  exact this
set_option maxHeartbeats 4000000 in
theorem pop_any (g : Nat) (l : WyL) (p : Nat) (b : Bool) (w : World) (W : WayM w g (l ++ [(p, b)])) : Calls Try.prog 50 #[.pointer (some ⟨g, 0, none⟩)] w fun e w' => e = .returned (stV p b) ∧ WayM w' g l ∧ Off (· = g) w w' := by
  obtain ⟨vs, B, V⟩ := W
  have HV := Lib.hid V
  have hg := B.sz
  unfold stV
  obtain ⟨s, hs⟩ : ∃ s, sdI b = s := ⟨_, rfl⟩
  obtain ⟨k, hk⟩ : ∃ k, l.length = k := ⟨_, rfl⟩
  have HK := Lib.hid hk
  have hk1 : k < 28 := by have := V.le; simp at this; omega
  have hat := V.at_ k p b (by rw [List.getElem?_append_right (by omega), hk, Nat.sub_self]; rfl)
  rw [hs] at hat
  have hcn : vs.toList[56]? = some (.int .i64 ((k : Int) + 1)) := by have := V.cnt; rw [List.length_append, hk] at this; exact this
  have hB1 := B.keep ((Below.refl _ w).alloc (Nat.le_refl _) (.cells #[.int .i64 0, .int .i64 0] 65))
  have HOW := Lib.hid (Off.of (F := (· = g)) ((Below.refl _ w).alloc (Nat.le_refl _) (.cells #[.int .i64 0, .int .i64 0] 65)))
  have HR := Lib.hid (Blk.new w #[.int .i64 0, .int .i64 0] 65)
  have c56 := hB1.get 56 hcn
  have HB1 := Lib.hid hB1
  have f56 := hB1.f 56
  have j0 : decide ((k : Int) < 0) = false := decide_eq_false (by omega)
  have j1 : (0 : Int) ≤ (k : Int) := by omega
  have j2 : (k : Int) < 28 := by omega
  have j3 : ((k : Int)).toNat = k := by omega
  have HA := Lib.hid hat
  rw [hs]
  clear V B hB1 hk hs hcn hat
  go_enter Try.func50, Try.ntmps50
  go_upto_region 1 with fail
  have hgn : g ≠ w.heap.size := by omega
  generalize hhw : w.heap.size = hw at *
  have HHW := Lib.hid (Nat.le_of_eq hhw)
  clear hhw
  generalize w.alloc (.cells #[.int .i64 0, .int .i64 0] 65) = wq at *
  go_upto_region 2 with fail
  have HB2 := Lib.hid (HB1.out.set 56 (.int .i64 (k : Int)))
  have HO2 := Lib.hid (HOW.out.trans (Off.set (F := (· = g)) (a := ⟨g, 56, none⟩) rfl (.int .i64 (k : Int))))
  have HR2 := Lib.hid (HR.out.far (Ne.symm hgn) 56 (.int .i64 (k : Int)))
  have z56 := HB2.out.get 56 (v := .int .i64 (k : Int)) (by rw [Array.toList_setIfInBounds, List.getElem?_set_self (by rw [Array.length_toList, HV.out.sz]; omega)])
  have y0 := HB2.out.get (k * 2) (v := .int .i64 (p : Int)) (by rw [Array.toList_setIfInBounds, List.getElem?_set_ne (by omega)]; exact HA.out.1)
  have y1 := HB2.out.get (k * 2 + 1) (v := .int .i64 s) (by rw [Array.toList_setIfInBounds, List.getElem?_set_ne (by omega)]; exact HA.out.2)
  have x0 := HR2.out.get 0 rfl
  have x1 := HR2.out.get 1 rfl
  have f0 := HR2.out.f 0
  have f1 := HR2.out.f 1
  generalize wq.setCell ⟨g, 56, none⟩ (.int .i64 (k : Int)) = wr at *
  clear c56 f56 HB1
  go_region
  have HB3 := Lib.hid ((HB2.out.far hgn 0 (.int .i64 (p : Int))).far hgn 1 (.int .i64 s)).drew
  have HR3 := Lib.hid ((HR2.out.set 0 (.int .i64 (p : Int))).set 1 (.int .i64 s)).drew
  have r0 := HR3.out.get 0 rfl
  have r1 := HR3.out.get 1 rfl
  have HO3 := Lib.hid ((HO2.out.put ⟨hw, 0, none⟩ (.inr HHW.out) (.int .i64 (p : Int))).put ⟨hw, 1, none⟩ (.inr HHW.out) (.int .i64 s)).drew
  go_wp2_with fail
  exact bodyPost_ret (v := .agg #[.int .i64 (p : Int), .int .i64 s]) (by simp [results, Try.results50, go_sem, r0, r1]) rfl ⟨rfl, ⟨_, HB3.out, by have := HV.out.pop; rw [HK.out] at this; exact this⟩, HO3.out⟩
end Go.Proofs.Ytolmkagedlcjiaa
namespace Corr
set_option maxRecDepth 8000
open Go Go.RowKit
/-- Where a side stands within a knot. -/
def sdO (b : Bool) : Nat := if b then 4 else 3
/-- What stands at a knot's side. -/
def Kn.sd (k : Kn) (b : Bool) : Int := if b then k.r else k.l
/-- The height of what is at a place, or of none. -/
def hAt (K : KnL) (z h : Int) : Prop := (z = -1 ∧ h = 0) ∨ ∃ q k, z = ((q : Nat) : Int) ∧ K[q]? = some k ∧ h = k.h
end Corr
namespace Go.Proofs.Ytolmkagedlcjiaa
set_option maxRecDepth 8000
open Go.RowKit Corr
set_option linter.unusedVariables false
set_option linter.unusedSimpArgs false
set_option maxHeartbeats 4000000 in
theorem side_false (g n c gK : Nat) (M r : Int) (K : KnL) (p : Nat) (k : Kn) (w : World) (H : Ar 59 w g M r (some ⟨gK, 0, none⟩) n c K) (hk : K[p]? = some k) (hn : n ≤ 2000) : Calls Try.prog 40 #[.pointer (some ⟨g, 0, none⟩), .agg #[.int .i64 (p : Int), .int .i64 0]] w fun e w' => e = .returned (.pointer (some ⟨gK, p * 7 + 3, none⟩)) ∧ Below w.heap.size w w' := by
  have hp := H.lt hk
  have HA := Lib.hid (H.keep ((Below.refl _ w).alloc (Nat.le_refl _) (.cells #[.int .i64 (p : Int), .int .i64 0] 65)))
  have HBW := Lib.hid (show Ext w _ from (Below.refl w.heap.size w).alloc (Nat.le_refl _) (.cells #[.int .i64 (p : Int), .int .i64 0] 65))
  have HBX := Lib.hid (Blk.new w #[.int .i64 (p : Int), .int .i64 0] 65)
  have a2 := HA.out.b.get 2 rfl
  have j0 : decide ((p : Int) < 0) = false := decide_eq_false (by omega)
  have j1 : (0 : Int) ≤ (p : Int) := by omega
  have j2 : (p : Int) < (n : Int) := by omega
  have j3 : ((p : Int)).toNat = p := by omega
  have x0 := HBX.out.get 0 rfl
  have x1 := HBX.out.get 1 rfl
  clear H hk
  go_enter Try.func40, Try.ntmps40
  go_upto_region 2 with fail
  generalize w.heap.size = hw at *
  generalize w.alloc (.cells #[.int .i64 (p : Int), .int .i64 0] 65) = wq at *
  go_quiet (fail)
  have HB2 := Lib.hid (HBW.out.grow (Joins.below_draws _ wq nq))
  go_wp2_with fail
  go_ret
  exact ⟨rfl, HB2.out⟩
set_option maxHeartbeats 4000000 in
theorem side_true (g n c gK : Nat) (M r : Int) (K : KnL) (p : Nat) (k : Kn) (w : World) (H : Ar 59 w g M r (some ⟨gK, 0, none⟩) n c K) (hk : K[p]? = some k) (hn : n ≤ 2000) : Calls Try.prog 40 #[.pointer (some ⟨g, 0, none⟩), .agg #[.int .i64 (p : Int), .int .i64 1]] w fun e w' => e = .returned (.pointer (some ⟨gK, p * 7 + 4, none⟩)) ∧ Below w.heap.size w w' := by
  have hp := H.lt hk
  have HA := Lib.hid (H.keep ((Below.refl _ w).alloc (Nat.le_refl _) (.cells #[.int .i64 (p : Int), .int .i64 1] 65)))
  have HBW := Lib.hid (show Ext w _ from (Below.refl w.heap.size w).alloc (Nat.le_refl _) (.cells #[.int .i64 (p : Int), .int .i64 1] 65))
  have HBX := Lib.hid (Blk.new w #[.int .i64 (p : Int), .int .i64 1] 65)
  have a2 := HA.out.b.get 2 rfl
  have j0 : decide ((p : Int) < 0) = false := decide_eq_false (by omega)
  have j1 : (0 : Int) ≤ (p : Int) := by omega
  have j2 : (p : Int) < (n : Int) := by omega
  have j3 : ((p : Int)).toNat = p := by omega
  have x0 := HBX.out.get 0 rfl
  have x1 := HBX.out.get 1 rfl
  clear H hk
  go_enter Try.func40, Try.ntmps40
  go_upto_region 3 with fail
  generalize w.heap.size = hw at *
  generalize w.alloc (.cells #[.int .i64 (p : Int), .int .i64 1] 65) = wq at *
  go_quiet (fail)
  have HB2 := Lib.hid (HBW.out.grow (Joins.below_draws _ wq nq))
  go_wp2_with fail
  go_ret
  exact ⟨rfl, HB2.out⟩
/-- The place of a node's side. -/
theorem side_any (g n c gK : Nat) (M r : Int) (K : KnL) (p : Nat) (b : Bool) (k : Kn) (w : World) (H : Ar 59 w g M r (some ⟨gK, 0, none⟩) n c K) (hk : K[p]? = some k) (hn : n ≤ 2000) : Calls Try.prog 40 #[.pointer (some ⟨g, 0, none⟩), stV p b] w fun e w' => e = .returned (.pointer (some ⟨gK, p * 7 + sdO b, none⟩)) ∧ Below w.heap.size w w' := by
  cases b with
  | false => exact side_false g n c gK M r K p k w H hk hn
  | true => exact side_true g n c gK M r K p k w H hk hn
set_option maxHeartbeats 4000000 in
/-- The height of what is at a node's side. -/
theorem height_any (g n c gK : Nat) (M r : Int) (K : KnL) (p : Nat) (b : Bool) (k : Kn) (h : Int) (w : World) (H : Ar 59 w g M r (some ⟨gK, 0, none⟩) n c K) (hk : K[p]? = some k) (hh : hAt K (k.sd b) h) (hn : n ≤ 2000) : Calls Try.prog 53 #[.pointer (some ⟨g, 0, none⟩), stV p b] w fun e w' => e = .returned (.int .i64 h) ∧ Below w.heap.size w w' := by
  unfold stV
  obtain ⟨s, hs⟩ : ∃ s, sdI b = s := ⟨_, rfl⟩
  have HSD := Lib.hid (fun (w' : World) (H : Ar 59 w' g M r (some ⟨gK, 0, none⟩) n c K) => by have := side_any g n c gK M r K p b k w' H hk hn; unfold stV at this; rw [hs] at this; exact this)
  have HA := Lib.hid (H.keep ((Below.refl _ w).alloc (Nat.le_refl _) (.cells #[.int .i64 (p : Int), .int .i64 s] 65)))
  have HBW := Lib.hid (show Ext w _ from (Below.refl w.heap.size w).alloc (Nat.le_refl _) (.cells #[.int .i64 (p : Int), .int .i64 s] 65))
  have HBX := Lib.hid (Blk.new w #[.int .i64 (p : Int), .int .i64 s] 65)
  have x0 := HBX.out.get 0 rfl
  have x1 := HBX.out.get 1 rfl
  rw [hs]
  obtain ⟨z, hz⟩ : ∃ z, k.sd b = z := ⟨_, rfl⟩
  have HCE := Lib.hid (fun (w' : World) (H : Ar 59 w' g M r (some ⟨gK, 0, none⟩) n c K) => show w'.cell? ⟨gK, p * 7 + sdO b, none⟩ = some (.int .i64 z) by
    rw [← hz]
    cases b with
    | false => exact H.c3 hk
    | true => exact H.c4 hk)
  rw [hz] at hh
  obtain ⟨o, ho⟩ : ∃ o, p * 7 + sdO b = o := ⟨_, rfl⟩
  rw [ho] at HCE HSD
  clear hz hs ho hk H
  go_enter Try.func53, Try.ntmps53
  go_wp2_with fail
  generalize w.heap.size = hw at *
  generalize w.alloc (.cells #[.int .i64 (p : Int), .int .i64 s] 65) = wq at *
  refine (HSD.out wq HA.out).mono ?_
  rintro e w1 ⟨rfl, hb⟩
  have HB1 := Lib.hid (HBW.out.grow hb)
  have HA1 := Lib.hid (HA.out.keep hb)
  have cz := HCE.out w1 HA1.out
  clear hb x0 x1 HSD HCE
  rcases hh with ⟨rfl, rfl⟩ | ⟨q, k', rfl, hq, rfl⟩
  · go_wp2_with fail
    go_ret
    exact ⟨rfl, HB1.out⟩
  · have a2 := HA1.out.b.get 2 rfl
    have hq1 := HA1.out.lt hq
    have c5 := HA1.out.c5 hq
    have j0 : decide ((q : Int) < 0) = false := decide_eq_false (by omega)
    have j1 : (0 : Int) ≤ (q : Int) := by omega
    have j2 : (q : Int) < (n : Int) := by omega
    have j3 : ((q : Int)).toNat = q := by omega
    have j4 : ((q : Int) == -1) = false := by simp
    go_wp2_with fail
    go_ret
    exact ⟨rfl, HB1.out⟩
end Go.Proofs.Ytolmkagedlcjiaa
