/- The shelf's contracts at this dump, in plain words (laid by the kit's lay-shelf.mjs and lay-plain.mjs; numbers by names: wip/gen/shelf.py). Contract of package refine: Cut. What Cut of package refine asks of slices.Sort and of slices.Compact is so: the library's contracts, over rows of the caller's own. -/
import Derived.Shelf.Sort.Plain
import Derived.Shelf.Slices.CompactI
import Derived.Test.YtonfjjmgjgmanaaGreatProg
import Derived.Test.YtonfjjmgjgmanaaGreatRfQ
import Derived.Test.YtonfjjmgjgmanaaGreatRf3
import Derived.Sort.Grow
import Derived.Deep.RegionLaw
import Derived.Deep.AppendLies
import Derived.Laws.OwnMore
namespace Go.Proofs
set_option maxRecDepth 8000
open Go.Shelf
def Tryz.lays189_ren : Go.Shelf.Ren := ⟨fun | 189 => 46 | 125 => 58 | 257 => 57 | 128 => 77 | 129 => 78 | 294 => 68 | 295 => 69 | 296 => 70 | 297 => 71 | 298 => 72 | 299 => 73 | 216 => 74 | 300 => 75 | 301 => 76 | 328 => 90 | 329 => 91 | 330 => 92 | 331 => 93 | 332 => 94 | 215 => 95 | 343 => 100 | n => n, fun | 28 => 54 | 3 => 3 | 46 => 118 | 0 => 0 | 51 => 144 | 53 => 146 | 4 => 4 | 183 => 137 | 182 => 136 | 131 => 141 | 5 => 5 | 9 => 9 | 218 => 158 | 222 => 150 | 228 => 167 | 229 => 168 | n => n, fun | n => n⟩
theorem Tryz.lays189 : Go.Proofs.Lays.n189 Tryz.prog Tryz.lays189_ren := {
  mixed := by kernel_rfl
  f125 := Tryz.func58.trans (congrArg some (by kernel_rfl))
  f128 := Tryz.func77.trans (congrArg some (by kernel_rfl))
  f129 := Tryz.func78.trans (congrArg some (by kernel_rfl))
  f189 := Tryz.func46.trans (congrArg some (by kernel_rfl))
  f215 := Tryz.func95.trans (congrArg some (by kernel_rfl))
  f216 := Tryz.func74.trans (congrArg some (by kernel_rfl))
  f257 := Tryz.func57.trans (congrArg some (by kernel_rfl))
  f294 := Tryz.func68.trans (congrArg some (by kernel_rfl))
  f295 := Tryz.func69.trans (congrArg some (by kernel_rfl))
  f296 := Tryz.func70.trans (congrArg some (by kernel_rfl))
  f297 := Tryz.func71.trans (congrArg some (by kernel_rfl))
  f298 := Tryz.func72.trans (congrArg some (by kernel_rfl))
  f299 := Tryz.func73.trans (congrArg some (by kernel_rfl))
  f300 := Tryz.func75.trans (congrArg some (by kernel_rfl))
  f301 := Tryz.func76.trans (congrArg some (by kernel_rfl))
  f328 := Tryz.func90.trans (congrArg some (by kernel_rfl))
  f329 := Tryz.func91.trans (congrArg some (by kernel_rfl))
  f330 := Tryz.func92.trans (congrArg some (by kernel_rfl))
  f331 := Tryz.func93.trans (congrArg some (by kernel_rfl))
  f332 := Tryz.func94.trans (congrArg some (by kernel_rfl))
  f343 := Tryz.func100.trans (congrArg some (by kernel_rfl))
  t0 := Tryz.underlying0
  a0 := Tryz.isAgg0
  z0 := Tryz.sizeOf0
  v0 := Tryz.zeroValue0
  t3 := Tryz.underlying3
  a3 := Tryz.isAgg3
  z3 := Tryz.sizeOf3
  v3 := Tryz.zeroValue3
  t4 := Tryz.underlying4
  a4 := Tryz.isAgg4
  z4 := Tryz.sizeOf4
  v4 := Tryz.zeroValue4
  t5 := Tryz.underlying5
  a5 := Tryz.isAgg5
  z5 := Tryz.sizeOf5
  v5 := Tryz.zeroValue5
  t9 := Tryz.underlying9
  a9 := Tryz.isAgg9
  z9 := Tryz.sizeOf9
  v9 := Tryz.zeroValue9
  t28 := Tryz.underlying54
  a28 := Tryz.isAgg54
  z28 := Tryz.sizeOf54
  v28 := Tryz.zeroValue54
  t46 := Tryz.underlying118
  a46 := Tryz.isAgg118
  z46 := Tryz.sizeOf118
  v46 := Tryz.zeroValue118
  t51 := Tryz.underlying144
  a51 := Tryz.isAgg144
  z51 := Tryz.sizeOf144
  v51 := Tryz.zeroValue144
  t53 := Tryz.underlying146
  a53 := Tryz.isAgg146
  z53 := Tryz.sizeOf146
  v53 := Tryz.zeroValue146
  t131 := Tryz.underlying141
  a131 := Tryz.isAgg141
  z131 := Tryz.sizeOf141
  v131 := Tryz.zeroValue141
  t182 := Tryz.underlying136
  a182 := Tryz.isAgg136
  z182 := Tryz.sizeOf136
  v182 := Tryz.zeroValue136
  t183 := Tryz.underlying137
  a183 := Tryz.isAgg137
  z183 := Tryz.sizeOf137
  v183 := Tryz.zeroValue137
  t218 := Tryz.underlying158
  a218 := Tryz.isAgg158
  z218 := Tryz.sizeOf158
  v218 := Tryz.zeroValue158
  t222 := Tryz.underlying150
  a222 := Tryz.isAgg150
  z222 := Tryz.sizeOf150
  v222 := Tryz.zeroValue150
  t228 := Tryz.underlying167
  a228 := Tryz.isAgg167
  z228 := Tryz.sizeOf167
  v228 := Tryz.zeroValue167
  t229 := Tryz.underlying168
  a229 := Tryz.isAgg168
  z229 := Tryz.sizeOf168
  v229 := Tryz.zeroValue168 }
open Go.Sort Go.RowKit in
theorem Tryz.slices_Sort_int (blk off cap : Nat) (zs : List Int) (w : World) (hH : Holds (Value.int .i64) w blk off zs.toArray) (hblk : blk < w.heap.size) (hsz : zs.length < 4611686018427387904) :
    Calls Tryz.prog 46 #[.slice (some ⟨blk, off, none⟩) zs.length cap] w fun e w' =>
      e = .returned (.tuple #[]) ∧ ∃ n os, w' = grow (putRow (Value.int .i64) (Sort.ahead w n) blk off (zs.mergeSort fun x y => decide (x ≤ y)).toArray) os := Any.slices_Sort_int Tryz.lays189 blk off cap zs w hH hblk hsz
def Tryz.laysNm220_ren : Go.Shelf.Ren := ⟨fun | 20 => 47 | n => n, fun | 22 => 54 | 3 => 3 | 4 => 4 | 0 => 0 | n => n, fun | n => n⟩
theorem Tryz.laysNm220 : Go.Proofs.Lays2.n20 Tryz.prog Tryz.laysNm220_ren := {
  mixed := by kernel_rfl
  f20 := Tryz.func47.trans (congrArg some (by kernel_rfl))
  t0 := Tryz.underlying0
  a0 := Tryz.isAgg0
  z0 := Tryz.sizeOf0
  v0 := Tryz.zeroValue0
  t3 := Tryz.underlying3
  a3 := Tryz.isAgg3
  z3 := Tryz.sizeOf3
  v3 := Tryz.zeroValue3
  t4 := Tryz.underlying4
  a4 := Tryz.isAgg4
  z4 := Tryz.sizeOf4
  v4 := Tryz.zeroValue4
  t22 := Tryz.underlying54
  a22 := Tryz.isAgg54
  z22 := Tryz.sizeOf54
  v22 := Tryz.zeroValue54
  i3 := by kernel_rfl }
open Go.RowKit Go.Lib Go.Sort in
/-- slices.Compact at []int: "Compact replaces consecutive runs of equal elements with a single copy. This is like the uniq command found on Unix. Compact modifies the contents of the slice s and returns the modified slice, which may have a smaller length. Compact zeroes the elements between the new length and the original length. The result preserves the nilness of s.": IT RETURNS THE SLICE CUT TO 'Lib.compact zs'; ITS CELLS HOLD 'Lib.compact zs', THEN ZERO VALUES up to the old length; all else is as it was, but for the count of draws. IN THE WORDS OF slices.Sort's CONTRACT ('Holds', 'putRow'): so the everyday 'slices.Sort(xs); xs = slices.Compact(xs)' goes from the one contract to the other. It asks 'zs.length ≤ cap' (every slice's: the reslicing 's[:k]' looks at it). Length 0, nil: '.._empty'. (LAID: no walk: one application.) -/
theorem Tryz.slices_Compact_int (blk off cap : Nat) (zs : List Int) (w : World) (hH : Holds (Value.int .i64) w blk off zs.toArray) (hsz : zs.length ≤ 9223372036854775807) (hcap : zs.length ≤ cap) :
    Calls Tryz.prog 47 #[.slice (some ⟨blk, off, none⟩) zs.length cap] w fun e w' => e = .returned (.slice (some ⟨blk, off, none⟩) (Lib.compact zs).length cap) ∧ ∃ q, w' = putRow (Value.int .i64) (Sort.ahead w q) blk off (Lib.compact zs ++ List.replicate (zs.length - (Lib.compact zs).length) 0).toArray := Any.slices_Compact_int Tryz.laysNm220 blk off cap zs w hH hsz hcap
end Go.Proofs
namespace Corr
set_option maxRecDepth 8000
open Go Go.RowKit Go.Sort
set_option linter.unusedVariables false
/-- A row of numbers of the caller's own, written over. -/
theorem own_putI {w : World} {B g n c q : Nat} {T : TypeId} {l l' : List Int} {os : Array Obj} (h : w.ownsRow B T 1 (.slice (some ⟨g, 0, none⟩) n c) n (ints l)) (hd : l'.length = n) :
    (grow (putRow (Value.int .i64) (Sort.ahead w q) g 0 l'.toArray) os).ownsRow B T 1 (.slice (some ⟨g, 0, none⟩) n c) n (ints l') ∧ Go.RowKit.Below B w (grow (putRow (Value.int .i64) (Sort.ahead w q) g 0 l'.toArray) os) := by
  have hheap0 : (grow (putRow (Value.int .i64) (Sort.ahead w q) g 0 l'.toArray) os).heap = (w.heap.modify g (onCells (putCells (Value.int .i64) 0 l'.toArray))) ++ os := rfl
  rcases h.2 with ⟨h', _⟩ | ⟨g', cap', cur, hv, hb, hg, hnc, hcm, hcs, htake⟩
  · cases h'
  injection hv with e1 _ e3
  injection e1 with e1
  injection e1 with e1 _ _
  subst e1 e3
  have hgs := (Array.getElem?_eq_some_iff.1 hg).1
  have hheap : (grow (putRow (Value.int .i64) (Sort.ahead w q) g 0 l'.toArray) os).heap[g]? = some (.cells (putCells (Value.int .i64) 0 l'.toArray cur) T) := by
    rw [hheap0, Array.getElem?_append_left (by simpa using hgs), Array.getElem?_modify, if_pos rfl, hg]; rfl
  refine ⟨⟨by rw [ints_len]; omega, .inr ⟨g, c, putCells (Value.int .i64) 0 l'.toArray cur, rfl, hb, hheap, hnc, hcm, ?_, ?_⟩⟩, ⟨rfl, rfl, rfl, ?_, ?_⟩⟩
  · unfold putCells; simpa using hcs
  · apply List.ext_getElem?
    intro t
    rw [List.getElem?_take]
    by_cases ht : t < n * 1
    · have htc : t < cur.size := by rw [hcs]; omega
      rw [if_pos ht, Array.getElem?_toList]
      unfold putCells
      have htl : t < l'.length := by omega
      rw [Array.getElem?_mapIdx, Array.getElem?_eq_getElem htc, Option.map_some, if_pos ⟨Nat.zero_le _, by simpa using htl⟩]
      simp only [Nat.sub_zero]
      rw [getElem!_pos _ t (by simpa using htl)]
      unfold ints
      rw [List.getElem?_map, List.getElem?_eq_getElem htl]
      simp [encZ]
    · rw [if_neg ht, List.getElem?_eq_none (by rw [ints_len]; omega)]
  · rw [hheap0]; simp
  · intro k hk
    have hkg : k ≠ g := by omega
    rw [hheap0]
    by_cases hks : k < w.heap.size
    · rw [Array.getElem?_append_left (by simpa using hks), Array.getElem?_modify, if_neg (Ne.symm hkg)]
    · omega
theorem holds_ints {w : World} {B g n c : Nat} {T : TypeId} {l : List Int} (h : w.ownsRow B T 1 (.slice (some ⟨g, 0, none⟩) n c) n (ints l)) : Holds (Value.int .i64) w g 0 l.toArray := by
  have hl : l.length = n := Nums.count (own_lies h)
  intro j hj
  have hj2 : j < l.length := by simpa using hj
  refine ⟨?_, ?_⟩
  · rw [Nat.zero_add, h.cellAt j (by omega)]
    unfold ints
    rw [List.getElem?_map, List.getElem?_eq_getElem hj2, getElem!_pos _ j hj]
    simp [encZ]
  · rw [Nat.zero_add]; exact h.frozenAt j
end Corr
namespace Go.Proofs.YtonfjjmgjgmanaaGreat
set_option maxRecDepth 8000
open Go.RowKit Corr
set_option linter.unusedVariables false
set_option linter.unusedSimpArgs false
/-- What Cut asks of slices.Sort. -/
def SortI : Prop := ∀ (B g n c : Nat) (l : List Int) (w : World), w.ownsRow B 3 1 (.slice (some ⟨g, 0, none⟩) n c) n (ints l) → n ≤ 2000000000 →
  Calls Tryz.prog 46 #[.slice (some ⟨g, 0, none⟩) n c] w fun e w' => e = .returned (.tuple #[]) ∧ w'.ownsRow B 3 1 (.slice (some ⟨g, 0, none⟩) n c) n (ints (l.mergeSort fun x y => decide (x ≤ y))) ∧ Below B w w'
/-- .. and of slices.Compact. -/
def CompI : Prop := ∀ (B g n c : Nat) (l : List Int) (w : World), w.ownsRow B 3 1 (.slice (some ⟨g, 0, none⟩) n c) n (ints l) → n ≤ 2000000000 →
  Calls Tryz.prog 47 #[.slice (some ⟨g, 0, none⟩) n c] w fun e w' => e = .returned (.slice (some ⟨g, 0, none⟩) (Lib.compact l).length c) ∧ Nums w' (some ⟨g, 0, none⟩) (Lib.compact l).length c (Lib.compact l) ∧ g < w'.heap.size ∧ Below B w w'
theorem rfcut_no (E : Value) (ends : List Int) (a b : Int) (w : World) (h : mayB a b = false) : Calls Tryz.prog 34 #[.agg #[.int .i64 a, .int .i64 b], E] w (RetCut 24 w ends a b) := by
  have HM := Lib.hid (rfmay_any a b (w.alloc (.cells #[.int .i64 a, .int .i64 b] 24)))
  rw [h] at HM
  have HB0 := Lib.hid (show Ext w _ from (Below.refl w.heap.size w).alloc (Nat.le_refl _) (.cells #[.int .i64 a, .int .i64 b] 24))
  have HX := Lib.hid (Blk.new w #[.int .i64 a, .int .i64 b] 24)
  have HP := Lib.hid (show cutS ends a b [] by unfold cutS; rw [if_neg (by rw [h]; decide)])
  clear h
  go_enter Tryz.func34, Tryz.ntmps34
  go_upto_region 1 with fail
  generalize w.heap.size = hx at HX ⊢
  generalize w.alloc (.cells #[.int .i64 a, .int .i64 b] 24) = wq at *
  have x0 := HX.out.get 0 rfl
  have x1 := HX.out.get 1 rfl
  go_wp2_with fail
  refine HM.out.mono ?_
  rintro e w1 ⟨rfl, hb⟩
  have HB := Lib.hid (HB0.out.grow hb)
  clear hb x0 x1
  go_wp2_with fail
  go_ret
  exact ⟨[], none, 0, 0, rfl, HP.out, World.ownsRow_nil _ _ _ _, HB.out⟩
set_option maxHeartbeats 8000000 in
theorem rfcut_yes (KS : SortI) (KC : CompI) (E : Option Addr) (N c : Nat) (ends : List Int) (a b : Int) (w : World) (R : Nums w E N c ends) (hN : N ≤ 1000000000) (h : mayB a b = true) : Calls Tryz.prog 34 #[.agg #[.int .i64 a, .int .i64 b], .slice E N c] w (RetCut 24 w ends a b) := by
  have HM := Lib.hid (rfmay_any a b (w.alloc (.cells #[.int .i64 a, .int .i64 b] 24)))
  rw [h] at HM
  have HP := Lib.hid (cutS_row ends h)
  have HB0 := Lib.hid (show Ext w _ from (Below.refl w.heap.size w).alloc (Nat.le_refl _) (.cells #[.int .i64 a, .int .i64 b] 24))
  have HX := Lib.hid (Blk.new w #[.int .i64 a, .int .i64 b] 24)
  have HR := Lib.hid R
  have HC := Lib.hid R.count
  have HKS := Lib.hid KS
  have HKC := Lib.hid KC
  have HSX := Lib.hid (show w.heap.size + 1 = (w.alloc (.cells #[.int .i64 a, .int .i64 b] 24)).heap.size by simp)
  clear h R KS KC
  go_enter Tryz.func34, Tryz.ntmps34
  go_upto_region 1 with fail
  obtain ⟨hx, hhx⟩ : ∃ k, w.heap.size = k := ⟨_, rfl⟩
  have HHX := Lib.hid hhx
  rw [hhx] at HX HSX ⊢
  clear hhx
  generalize w.alloc (.cells #[.int .i64 a, .int .i64 b] 24) = wq at *
  have x0 := HX.out.get 0 rfl
  have x1 := HX.out.get 1 rfl
  go_wp2_with fail
  refine HM.out.mono ?_
  rintro e w1 ⟨rfl, hb⟩
  have HB := Lib.hid (HB0.out.grow hb)
  have HX1 := Lib.hid (HX.out.keep hb)
  have hs1 : hx + 1 ≤ w1.heap.size := by rw [HSX.out]; exact hb.size
  clear hb x0 x1
  have x1 := HX1.out.get 1 rfl
  go_upto_region 5 with fail
  have HOW := Lib.hid (World.ownsRow_lit (base := hx + 1) (e := 3) (size := 1) w1 #[.int .i64 b] 1 hs1 (by unfold maxLen; omega) rfl)
  have HX2 := Lib.hid (HX1.out.keep ((Below.refl _ w1).alloc (Nat.le_refl _) (.cells #[.int .i64 b] 3)))
  have HB2 := Lib.hid (show Below w.heap.size w _ from HB.out.trans (((Below.refl _ w1).alloc (Nat.le_refl _) (.cells #[.int .i64 b] 3)).mono HB.out.size))
  obtain ⟨g1, hg1⟩ : ∃ k, w1.heap.size = k := ⟨_, rfl⟩
  rw [hg1] at HOW ⊢
  clear hg1 hs1 x1 HX1 HB
  generalize w1.alloc (.cells #[.int .i64 b] 3) = w2 at *
  go_loopg [5, 7, 20] N (fun kk v u z wr => ∃ (i n d : Nat) (A : Option Addr), v = .slice A n d ∧ z = .int .i64 (i : Int) ∧ i ≤ N ∧ n ≤ i + 1 ∧ wr.ownsRow (hx + 1) 3 1 (.slice A n d) n (ints (cutDays (ends.take i) a b)) ∧ Hid (kk = N - i) ∧ Hid (Blk wr hx #[.int .i64 a, .int .i64 b]) ∧ Hid (Below w.heap.size w wr))
  case atStart => exact ⟨0, 1, 1, _, rfl, rfl, by omega, by omega, HOW.out, Lib.hid rfl, HX2, HB2⟩
  case round =>
    clear HX2 HB2 HOW
    obtain ⟨i, n, d, A, rfl, rfl, hi, hn, hown, HK, HX, HB⟩ := hrel
    have HO := Lib.hid hown
    have HOB := Lib.hid (own_ge hown)
    clear hown
    by_cases hlt : i < N
    · obtain ⟨gE, oE, e, rfl, he, hgE, ce⟩ := Nums.get (HR.out.keep HB.out) hlt
      have HE := Lib.hid (cutDays_more (a := a) (b := b) he)
      have i0 : decide ((i : Int) < (N : Int)) = true := decide_eq_true (by omega)
      have i1 : (0 : Int) ≤ (i : Int) := by omega
      have i2 : (i : Int) < (N : Int) := by omega
      have i3 : ((i : Int)).toNat = i := by omega
      have i4 : decide ((i : Int) < 0) = false := decide_eq_false (by omega)
      have x0 := HX.out.get 0 rfl
      have x1 := HX.out.get 1 rfl
      clear he
      by_cases h1 : a < e
      · have d1 : decide (a < e) = true := decide_eq_true h1
        by_cases h2 : e < b
        · have d2 : decide (e < b) = true := decide_eq_true h2
          have HE2 := Lib.hid (show cutDays (ends.take (i + 1)) a b = cutDays (ends.take i) a b ++ [e] by rw [HE.out, if_pos ⟨h1, h2⟩])
          have hsz := HB.out.size
          have hxs := HX.out.sz
          have hwx := HHX.out
          clear h1 h2
          go_wp2_with (at_builtin; refine wpList_app2 rfl _ _ 54 rfl (ints [e]) elem_int12 rfl (HO.out.alloc (.cells (ints [e]).toArray 3)) rfl rfl (new_cells wr (ints [e]) 3) (ints_one _) (by omega) (by unfold maxLen; omega) (by simp; omega) ?_)
          intro v4 w4 hown4 hg4 hat4
          have HB4 := Lib.hid ((HB.out.alloc hsz (.cells (ints [e]).toArray 3)).grown hg4 (by simp; omega) (fun k hk => by have := HOB.out k hk; omega))
          have hoff4 := (Off.of (F := fun k => (Value.slice A n d).ownBlock = some k) ((Below.refl _ wr).alloc (Nat.le_refl _) (.cells (ints [e]).toArray 3))).trans (Off.grown (v := .slice A n d) hg4)
          have HX4 := Lib.hid (hoff4.blk HX.out (fun e => by have := HOB.out hx e; omega))
          obtain ⟨A4, d4, rfl, _⟩ := Lies.of_own hown4 (by have := hown4.1; exact this)
          have HO4 := Lib.hid hown4
          clear hown4 hg4 hat4 hoff4 x0 x1 hgE hxs ce
          go_wp2_with fail
          go_roundg (N - (i + 1))
          case measure => rw [HK.out]; omega
          case rel => exact ⟨i + 1, n + 1, d4, A4, rfl, val_int (by omega), by omega, by omega, by rw [HE2.out, ints_append]; exact HO4.out, Lib.hid rfl, HX4, HB4⟩
        · have d2 : decide (e < b) = false := decide_eq_false h2
          have HE2 := Lib.hid (show cutDays (ends.take (i + 1)) a b = cutDays (ends.take i) a b by rw [HE.out, if_neg (fun h => h2 h.2), List.append_nil])
          clear h1 h2
          go_wp2_with fail
          go_roundg (N - (i + 1))
          case measure => rw [HK.out]; omega
          case rel => exact ⟨i + 1, n, d, A, rfl, val_int (by omega), by omega, by omega, by rw [HE2.out]; exact HO.out, Lib.hid rfl, HX, HB⟩
      · have d1 : decide (a < e) = false := decide_eq_false h1
        have HE2 := Lib.hid (show cutDays (ends.take (i + 1)) a b = cutDays (ends.take i) a b by rw [HE.out, if_neg (fun h => h1 h.1), List.append_nil])
        clear h1
        go_wp2_with fail
        go_roundg (N - (i + 1))
        case measure => rw [HK.out]; omega
        case rel => exact ⟨i + 1, n, d, A, rfl, val_int (by omega), by omega, by omega, by rw [HE2.out]; exact HO.out, Lib.hid rfl, HX, HB⟩
    · have i0 : decide ((i : Int) < (N : Int)) = false := decide_eq_false (by omega)
      have hcd : cutDays (ends.take i) a b = cutDays ends a b := by rw [List.take_of_length_le (by rw [HC.out]; omega)]
      have hown := HO.out
      rw [hcd] at hown
      have hnl : n = (cutDays ends a b).length := by have := hown.1; rw [ints_len] at this; omega
      have hn1 : 1 ≤ n := by rw [hnl]; unfold cutDays; simp
      obtain ⟨g, dd, hv⟩ : ∃ g dd, Value.slice A n d = .slice (some ⟨g, 0, none⟩) n dd := by
        rcases Joins.ownsRow_forms hown with ⟨_, h1⟩ | h
        · omega
        · exact h
      injection hv with e1 _ e3
      subst e1 e3
      have HOW := Lib.hid hown
      have hn4 : n ≤ 2000000000 := by omega
      clear hcd hown hnl hn1 HO
      go_wp2_with fail
      refine (HKS.out (hx + 1) g n d _ _ HOW.out hn4).mono ?_
      rintro e w3 ⟨rfl, ho3, hb3⟩
      have HO3 := Lib.hid ho3
      have HB3 := Lib.hid (HB.out.trans (hb3.mono (by rw [HHX.out]; omega)))
      have HX3 := Lib.hid (show Blk w3 hx #[.int .i64 a, .int .i64 b] from ⟨HX.out.blk.imp fun T h => (hb3.block hx (by omega)).trans h⟩)
      clear ho3 hb3
      have x0 := HX3.out.get 0 rfl
      go_wp2_with fail
      refine (HKC.out (hx + 1) g n d _ _ HO3.out hn4).mono ?_
      rintro e w4 ⟨rfl, hr4, hg4, hb4⟩
      have HR4 := Lib.hid (show Nums w4 (some ⟨g, 0, none⟩) (cutRow ends a b).length d (cutRow ends a b) from hr4)
      have HB4 := Lib.hid (HB3.out.trans (hb4.mono (by rw [HHX.out]; omega)))
      have HLN := Lib.hid (show (Lib.compact ((cutDays ends a b).mergeSort fun x y => decide (x ≤ y))).length = (cutRow ends a b).length from rfl)
      have HLL := Lib.hid (cutRow_len ends a b)
      rw [HLN.out]
      obtain ⟨L, hL⟩ : ∃ L, cutRow ends a b = L := ⟨_, rfl⟩
      rw [hL] at HR4 HP HLL ⊢
      obtain ⟨M, hM⟩ : ∃ M, L.length = M := ⟨_, rfl⟩
      have HML := Lib.hid hM
      rw [hM] at HR4 HLL ⊢
      have hM4 : M ≤ 2000000000 := by have := HLL.out; have := HC.out; omega
      obtain ⟨B4, hB4⟩ : ∃ k, w4.heap.size = k := ⟨_, rfl⟩
      have HB4E := Lib.hid hB4
      have hwB : w.heap.size ≤ B4 := by rw [← hB4]; exact HB4.out.size
      clear hr4 hg4 hb4 hL hM hB4 x0
      go_upto_region 14 with fail
      go_loopg [8, 9, 11, 46] M (fun kk v z u y wr => ∃ (k cO : Nat) (AO : Option Addr) (fr : Int), v = .slice AO k cO ∧ z = .int .i64 fr ∧ y = .int .i64 (k : Int) ∧ k ≤ M ∧ wr.ownsRow B4 24 2 (.slice AO k cO) k (cells2 (pairsF a (L.take k))) ∧ Hid (fr = lastD a (L.take k)) ∧ Hid (kk = M - k) ∧ Hid (Below B4 w4 wr))
      case atStart => exact ⟨0, 0, none, a, rfl, rfl, rfl, by omega, World.ownsRow_nil _ _ _ _, Lib.hid rfl, Lib.hid rfl, Lib.hid (Below.refl _ _)⟩
      case round =>
        clear HX HB HOB HK HX3 HB3 HO3 HOW
        obtain ⟨k, cO, AO, fr, rfl, rfl, rfl, hk, hown, HF, HK, HB5⟩ := hrel
        have HO := Lib.hid hown
        have HOB := Lib.hid (own_ge hown)
        clear hown
        by_cases hlt2 : k < M
        · obtain ⟨gE, oE, t, hA, ht, hgE, ce⟩ := Nums.get (HR4.out.keep (by rw [HB4E.out]; exact HB5.out)) hlt2
          obtain ⟨rfl, rfl⟩ : g = gE ∧ 0 = oE := by injection hA with hA; injection hA with h1 h2 _; exact ⟨h1, h2⟩
          have ce' : wr.cell? ⟨g, k, none⟩ = some (.int .i64 t) := by simpa using ce
          have HT := Lib.hid (show L.take (k + 1) = L.take k ++ [t] by rw [List.take_add_one, ht]; rfl)
          have j0 : decide ((k : Int) < (M : Int)) = true := decide_eq_true (by omega)
          have j1 : (0 : Int) ≤ (k : Int) := by omega
          have j2 : (k : Int) < (M : Int) := by omega
          have j3 : ((k : Int)).toNat = k := by omega
          have j4 : decide ((k : Int) < 0) = false := decide_eq_false (by omega)
          have hsz := HB5.out.size
          have hBE := HB4E.out
          clear ht hA ce
          go_wp2_with (at_builtin; refine wpList_app2 rfl _ _ 32 rfl (cells2 [(fr, t)]) elem_span12 rfl (HO.out.alloc (.cells (cells2 [(fr, t)]).toArray 24)) rfl rfl (new_cells wr (cells2 [(fr, t)]) 24) (cells2_one _) (by omega) (by unfold maxLen; omega) (by simp; omega) ?_)
          intro v4 w5 hown4 hg4 hat4
          have HB6 := Lib.hid ((HB5.out.alloc (by rw [← HB4E.out]; exact hsz) (.cells (cells2 [(fr, t)]).toArray 24)).grown hg4 (by simp; omega) (own_ge HO.out))
          obtain ⟨A4, d4, rfl, _⟩ := Lies.of_own hown4 (by have := hown4.1; exact this)
          have HO4 := Lib.hid hown4
          clear hown4 hg4 hat4 hgE ce'
          go_wp2_with fail
          go_roundg (M - (k + 1))
          case measure => rw [HK.out]; omega
          case rel => exact ⟨k + 1, d4, A4, t, rfl, rfl, val_int (by omega), by omega, by rw [HT.out, pairsF_snoc, cells2_append, ← HF.out]; exact HO4.out, Lib.hid (by rw [HT.out, lastD_snoc]), Lib.hid rfl, HB6⟩
        · have j0 : decide ((k : Int) < (M : Int)) = false := decide_eq_false (by omega)
          have HFI := Lib.hid (show L.take k = L from List.take_of_length_le (by rw [HML.out]; omega))
          have HBF := Lib.hid (show Below w.heap.size w wr from HB4.out.trans (HB5.out.mono hwB))
          have HOF := Lib.hid (own_low HO.out hwB)
          go_wp2_with fail
          refine bodyPost_ret (results_tmp rfl _ _ _) rfl ?_
          exact ⟨pairsF a L, AO, k, cO, rfl, HP.out, by have := HOF.out; rwa [HFI.out] at this, HBF.out⟩
theorem rfcut_any (KS : SortI) (KC : CompI) (E : Option Addr) (N c : Nat) (ends : List Int) (a b : Int) (w : World) (R : Nums w E N c ends) (hN : N ≤ 1000000000) : Calls Tryz.prog 34 #[.agg #[.int .i64 a, .int .i64 b], .slice E N c] w (RetCut 24 w ends a b) := by
  cases h : mayB a b with
  | false => exact rfcut_no _ ends a b w h
  | true => exact rfcut_yes KS KC E N c ends a b w R hN h
end Go.Proofs.YtonfjjmgjgmanaaGreat
namespace Go.Proofs.YtonfjjmgjgmanaaGreat
set_option maxRecDepth 8000
open Go.RowKit Corr Go.Sort Go.Shelf
set_option linter.unusedVariables false
theorem sorti : SortI := by
  intro B g n c l w hown hn
  have hl : l.length = n := Nums.count (own_lies hown)
  have h := Tryz.slices_Sort_int g 0 c l w (holds_ints hown) (hown.lt g rfl).2 (by omega)
  rw [hl] at h
  refine h.mono ?_
  rintro e w' ⟨rfl, q, os, rfl⟩
  have hs : (l.mergeSort fun x y => decide (x ≤ y)).length = n := by rw [List.length_mergeSort]; exact hl
  obtain ⟨k1, k2⟩ := own_putI (q := q) (os := os) (l' := l.mergeSort fun x y => decide (x ≤ y)) hown hs
  exact ⟨rfl, k1, k2⟩
theorem compi : CompI := by
  intro B g n c l w hown hn
  have hL := own_lies hown
  have hl : l.length = n := Nums.count hL
  have h := Tryz.slices_Compact_int g 0 c l w (holds_ints hown) (by omega) (by rw [hl]; exact hL.cap)
  rw [hl] at h
  refine h.mono ?_
  rintro e w' ⟨rfl, q, rfl⟩
  have hc := compact_len l
  have hs : (Lib.compact l ++ List.replicate (n - (Lib.compact l).length) 0).length = n := by rw [List.length_append, List.length_replicate]; omega
  obtain ⟨k1, k2⟩ := own_putI (q := q) (os := #[]) (l' := Lib.compact l ++ List.replicate (n - (Lib.compact l).length) 0) hown hs
  rw [grow_empty] at k1 k2
  have k3 := own_lies k1
  refine ⟨rfl, ⟨by rw [ints_len]; omega, by have := hL.cap; omega, fun h0 => ?_⟩, ?_, k2⟩
  · obtain ⟨g', o', e, h1, h2⟩ := k3.at_ (by omega)
    refine ⟨g', o', e, h1, fun i v hv => h2 i v ?_⟩
    rw [ints_append, List.getElem?_append_left (List.getElem?_eq_some_iff.1 hv).1]; exact hv
  · exact (k1.lt g rfl).2
end Go.Proofs.YtonfjjmgjgmanaaGreat
