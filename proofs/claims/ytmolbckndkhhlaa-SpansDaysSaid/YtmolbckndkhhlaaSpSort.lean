/- The sort's contract, as Of of package spans asks for it: a row of the caller's own is put in order by where its spans begin. -/
import Derived.Test.YtmolbckndkhhlaaShelfSp
import Derived.Test.YtmolbckndkhhlaaSpOf
namespace Corr
set_option maxRecDepth 8000
open Go Go.RowKit Go.Sort Go.Proofs
/-- A span's two cells. -/
def encS (x : Int × Int) : List Value := [.int .i64 x.1, .int .i64 x.2]
theorem ltS (x y : Int × Int) : ltOf (fun x y : Int × Int => Lib.compareInt x.1 y.1) x y = decide (x.1 < y.1) := by
  unfold ltOf Lib.compareInt
  by_cases h1 : x.1 < y.1
  · simp [h1]
  · by_cases h2 : y.1 < x.1 <;> simp [h1, h2]
theorem swoS : SWO (ltOf fun x y : Int × Int => Lib.compareInt x.1 y.1) where
  irrefl x := by rw [ltS]; simp
  trans x y z h1 h2 := by rw [ltS] at *; simp at *; omega
  ntrans x y z h1 h2 := by rw [ltS] at *; simp at *; omega
theorem cells2_get {l : SpL} {t : Nat} (h : t < l.length * 2) : (cells2 l)[t]? = some ((encS l.toArray[t / 2]!)[t % 2]!) := by
  have hs : t / 2 < l.length := by omega
  have hg : l[t / 2]? = some l[t / 2] := List.getElem?_eq_getElem hs
  have hb : l.toArray[t / 2]! = l[t / 2] := by simp [hs]
  rw [hb]
  rcases Nat.mod_two_eq_zero_or_one t with h0 | h1
  · have := cells2_0 hg
    rw [show t / 2 * 2 = t by omega] at this
    rw [this, h0]; rfl
  · have := cells2_1 hg
    rw [show t / 2 * 2 + 1 = t by omega] at this
    rw [this, h1]; rfl
theorem flat_cells2 (l : SpL) : (flatK encS 2 l.toArray).toList = cells2 l := by
  apply List.ext_getElem?
  intro t
  by_cases h : t < l.length * 2
  · rw [cells2_get h, Array.getElem?_toList]
    have h2 : t < l.toArray.size * 2 := by simpa using h
    have := get_flatK encS 2 l.toArray t h2
    rw [getElem!_pos _ t (by simpa using h2)] at this
    rw [Array.getElem?_eq_getElem (by simpa using h2), this]
  · rw [List.getElem?_eq_none (by simp; omega), List.getElem?_eq_none (by rw [cells2_len]; omega)]
/-- A row of the caller's own holds its spans, as the sort asks. -/
theorem holds_own {w : World} {B g n c : Nat} {T : TypeId} {l : SpL} (h : w.ownsRow B T 2 (.slice (some ⟨g, 0, none⟩) n c) n (cells2 l)) : HoldsK encS 2 w g 0 l.toArray := by
  have hl : l.length = n := Spn.count (own_lies h)
  intro j hj
  rw [size_flatK] at hj
  have hj2 : j < l.length * 2 := by simpa using hj
  refine ⟨?_, ?_⟩
  · rw [Nat.zero_add, h.cellAt j (by omega), cells2_get hj2, get_flatK encS 2 l.toArray j hj]; rfl
  · rw [Nat.zero_add]; exact h.frozenAt j
theorem heap_sortWorld (w : World) (g m : Nat) (dk : Array (Int × Int)) (os : Array Obj) : (sortWorldK encS 2 w g 0 m dk os).heap = (w.heap.modify g (onCells (putCells id 0 (flatK encS 2 dk)))) ++ os := rfl
/-- .. and behind the sort. -/
theorem own_sorted {w : World} {B g n c m : Nat} {T : TypeId} {l : SpL} {dk : Array (Int × Int)} {os : Array Obj} (h : w.ownsRow B T 2 (.slice (some ⟨g, 0, none⟩) n c) n (cells2 l)) (hd : dk.size = n) :
    (sortWorldK encS 2 w g 0 m dk os).ownsRow B T 2 (.slice (some ⟨g, 0, none⟩) n c) n (cells2 dk.toList) ∧ Go.RowKit.Below B w (sortWorldK encS 2 w g 0 m dk os) := by
  have hl := h.1
  rcases h.2 with ⟨h', _⟩ | ⟨g', cap', cur, hv, hb, hg, hnc, hcm, hcs, htake⟩
  · cases h'
  injection hv with e1 _ e3
  injection e1 with e1
  injection e1 with e1 _ _
  subst e1 e3
  have hgs := (Array.getElem?_eq_some_iff.1 hg).1
  have hF : (flatK encS 2 dk).toList = cells2 dk.toList := by simpa using flat_cells2 dk.toList
  have hFs : (flatK encS 2 dk).size = n * 2 := by simp [hd]
  have hheap : (sortWorldK encS 2 w g 0 m dk os).heap[g]? = some (.cells (putCells id 0 (flatK encS 2 dk) cur) T) := by
    rw [heap_sortWorld, Array.getElem?_append_left (by simpa using hgs), Array.getElem?_modify, if_pos rfl, hg]; rfl
  refine ⟨⟨by rw [cells2_len]; simp [hd], .inr ⟨g, c, putCells id 0 (flatK encS 2 dk) cur, rfl, hb, hheap, hnc, hcm, ?_, ?_⟩⟩, ⟨rfl, rfl, rfl, ?_, ?_⟩⟩
  · unfold putCells; simpa using hcs
  · rw [← hF]
    apply List.ext_getElem?
    intro t
    rw [List.getElem?_take]
    by_cases ht : t < n * 2
    · have htc : t < cur.size := by rw [hcs]; omega
      rw [if_pos ht, Array.getElem?_toList, Array.getElem?_toList]
      unfold putCells
      rw [Array.getElem?_mapIdx, Array.getElem?_eq_getElem htc, Option.map_some, if_pos ⟨Nat.zero_le _, by rw [hFs]; omega⟩, Array.getElem?_eq_getElem (by rw [hFs]; exact ht)]
      simp only [Nat.sub_zero, id]
      rw [getElem!_pos _ t (by rw [hFs]; exact ht)]
    · rw [if_neg ht, List.getElem?_eq_none (by simp; omega)]
  · rw [heap_sortWorld]; simp
  · intro k hk
    have hkg : k ≠ g := by omega
    rw [heap_sortWorld]
    by_cases hks : k < w.heap.size
    · rw [Array.getElem?_append_left (by simpa using hks), Array.getElem?_modify, if_neg (Ne.symm hkg)]
    · omega
end Corr
namespace Go.Proofs.Ytmolbckndkhhlaa
set_option maxRecDepth 8000
open Go.RowKit Corr Go.Sort Go.Shelf
set_option linter.unusedVariables false
set_option linter.unusedSimpArgs false
set_option maxHeartbeats 1000000 in
/-- By where they begin. -/
theorem begins_any (x y : Int × Int) (W : World) : Calls Try.prog 27 #[.agg #[.int .i64 x.1, .int .i64 x.2], .agg #[.int .i64 y.1, .int .i64 y.2]] W fun e w' => e = .returned (.int .i64 (Lib.compareInt x.1 y.1)) ∧ ∃ q os', w' = grow (W.drewN q) os' := by
  have hcon := fun W' => AnyG.cmp_Compare_int Try.laysCmp x.1 y.1 W'
  change ∀ W', Calls Try.prog 28 _ _ _ at hcon
  generalize Lib.compareInt x.1 y.1 = r at hcon ⊢
  go_enter Try.func27, Try.ntmps27
  go_wp2_with (go_at_call 28; refine (hcon _).mono ?_; rintro e w' ⟨rfl, rfl⟩)
  go_ret
  exact ⟨rfl, 0, _, by rw [alloc_eq_grow, alloc_eq_grow, grow_grow]; rfl⟩
theorem sort_any : SortC := by
  intro B A n c l w hown hn
  have hl : l.length = n := Spn.count (own_lies hown)
  rcases Nat.eq_zero_or_pos n with h0 | h0
  · subst h0
    obtain rfl := List.length_eq_zero_iff.1 hl
    have := AnyF.slices_SortFunc_none Try.laysSort A c (.func (.func 27) #[] #[]) w
    change Calls Try.prog 26 _ _ _ at this
    refine this.mono ?_
    rintro e w' ⟨rfl, rfl⟩
    exact ⟨rfl, [], List.Perm.refl _, List.Pairwise.nil, hown, Go.RowKit.Below.refl _ _⟩
  · rcases Joins.ownsRow_forms hown with ⟨_, h1⟩ | ⟨g, d, hv⟩
    · omega
    injection hv with e1 _ e3
    subst e1 e3
    have hlt : g < w.heap.size := (hown.lt g rfl).2
    have hsz : l.toArray.size = n := by simp [hl]
    have eg : ∀ args w, (callFunc 27 args).run Try.prog w = .ok (.enter 27 args) w := enters_of Try.func27 (by kernel_rfl) rfl
    have hcl : CmpLays Try.prog 27 #[] encS 2 (fun x y => Lib.compareInt x.1 y.1) g 0 l.toArray.size w := fun _ _ _ _ x y => begins_any x y _
    have hcon := AnyQ.slices_SortFunc Try.laysSort 2 Try.isAgg37 Try.sizeOf37 encS (fun _ => rfl) (fun x v hv => by simp [encS] at hv; rcases hv with rfl | rfl <;> rfl) (fun x y => Lib.compareInt x.1 y.1) swoS 27 #[] g 0 c l.toArray w eg hcl (holds_own hown) hlt (by rw [hsz]; omega)
    rw [hsz] at hcon
    change Calls Try.prog 26 _ _ _ at hcon
    refine hcon.mono ?_
    rintro e w' ⟨rfl, d', m, os, hp, hs, rfl⟩
    obtain ⟨p1, _, p3⟩ := hp
    have hd : d'.size = n := by rw [p1, hsz]
    obtain ⟨k1, k2⟩ := own_sorted (m := m) (os := os) hown hd
    refine ⟨rfl, d'.toList, ?_, ?_, k1, k2⟩
    · have a1 : d'.extract 0 n = d' := by rw [← hd]; simp
      have a2 : l.toArray.extract 0 n = l.toArray := by rw [← hsz]; simp
      rw [a1, a2] at p3
      simpa using p3
    · rw [List.pairwise_iff_getElem]
      intro i j hi hj hij
      have := hs i j (Nat.zero_le _) hij (by simpa [hd] using hj)
      rw [ltS, getElem!_pos _ i (by simpa using hi), getElem!_pos _ j (by simpa using hj)] at this
      have := of_decide_eq_false this
      simpa using this
end Go.Proofs.Ytmolbckndkhhlaa
