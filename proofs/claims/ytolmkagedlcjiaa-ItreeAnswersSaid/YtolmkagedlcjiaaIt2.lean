/- Contracts of corrodyref09: Stab, Overlap. (Written by wip/gen/genit1.py.) Contracts of corrodyref09: First, Last. (Written by wip/gen/genit2.py.) -/
import Derived.Test.YtolmkagedlcjiaaAv5
namespace Corr
set_option maxRecDepth 8000
open Go Go.RowKit
def stabB (day : Int) (y : It) : Bool := decide (y.1 ≤ day) && decide (day < y.2.1)
def overB (a b : Int) (y : It) : Bool := decide (a < b) && (decide (y.1 < b) && decide (a < y.2.1))
theorem filter_yes {p : It → Bool} {l : ItL} {k : Nat} {y : It} (h : l[k]? = some y) (hp : p y = true) : (l.take (k + 1)).filter p = (l.take k).filter p ++ [y] := by
  rw [List.take_add_one, h, List.filter_append]; simp [hp]
theorem filter_no {p : It → Bool} {l : ItL} {k : Nat} {y : It} (h : l[k]? = some y) (hp : p y = false) : (l.take (k + 1)).filter p = (l.take k).filter p := by
  rw [List.take_add_one, h, List.filter_append]; simp [hp]
/-- What a call leaves that tells items, in memory of its own. -/
def RetItm (T : TypeId) (w : World) (l : ItL) (e : Ending) (w' : World) : Prop := ∃ A n c, e = .returned (.slice A n c) ∧ w'.ownsRow w.heap.size T 3 (.slice A n c) n (cells3 l) ∧ Below w.heap.size w w'
end Corr
namespace Go.Proofs.Ytolmkagedlcjiaa
set_option maxRecDepth 8000
open Go.RowKit Corr
set_option linter.unusedVariables false
set_option linter.unusedSimpArgs false
set_option maxHeartbeats 4000000 in
theorem stab_any (A : Option Addr) (n c : Nat) (l : ItL) (day : Int) (w : World) (R : Itm w A n c l) (hn : n ≤ 100000) : Calls Try.prog 15 #[.slice A n c, .int .i64 day] w (RetItm 30 w (l.filter (stabB day))) := by
  have HC := Lib.hid (Itm.count R)
  have HR := Lib.hid R
  clear R
  go_enter Try.func15, Try.ntmps15
  go_wp2_with fail
  go_loopw [5, 6] (fun v t wr => ∃ k q : Nat, t = .int .i64 (k : Int) ∧ k ≤ n ∧ q ≤ k ∧ wr.ownsRow w.heap.size 30 3 v q (cells3 ((l.take k).filter (stabB day))) ∧ Below (w.heap.size) w wr) (fun _ t _ => (n - intOf t).toNat)
  case atStart => exact ⟨0, 0, rfl, by omega, by omega, World.ownsRow_nil _ _ _ _, Below.refl _ _⟩
  case round =>
    obtain ⟨k, q, rfl, hk, hq, hown, hb⟩ := hrel
    have HB := Lib.hid hb
    have hsz : w.heap.size ≤ wr.heap.size := by have := hb.size; simpa using this
    clear hb
    have HOB := Lib.hid (own_ge hown)
    by_cases hlt : k < n
    · obtain ⟨g, off, y, rfl, hy, hg, c0, c1, c2⟩ := Itm.get (HR.out.keep HB.out) hlt
      obtain ⟨y1, y2, y3⟩ := y
      by_cases p1 : y1 ≤ day
      · by_cases p2 : day < y2
        · have HF := Lib.hid (filter_yes (p := stabB day) hy (by unfold stabB; rw [decide_eq_true p1, decide_eq_true p2]; rfl))
          clear hy
          go_wp2_with (at_builtin; refine wpList_app rfl _ _ 22 rfl (cells3 [(y1, y2, y3)]) elem_item rfl (hown.alloc _) rfl rfl (fun _ => ⟨_, rfl, new_cells wr (cells3 [(y1, y2, y3)]) 30⟩) (cells3_one _) (by omega) (by unfold maxLen; omega) (by simp; omega) ?_)
          intro v1 w1 hown1 hgrow
          have HB1 := Lib.hid ((HB.out.alloc hsz (.cells #[encZ y1, encZ y2, encZ y3] 30)).grown hgrow (by simp; omega) HOB.out)
          have HO1 := Lib.hid (show w1.ownsRow w.heap.size 30 3 v1 (q + 1) (cells3 ((l.take (k + 1)).filter (stabB day))) by rw [HF.out, cells3_append]; exact hown1)
          clear hown1 hgrow hown
          go_wp2_with fail
          go_roundw
          case rel => exact ⟨k + 1, q + 1, by go_num, by omega, by omega, HO1.out, HB1.out⟩
          case measure => simp [intOf]; omega
        · have HF := Lib.hid (filter_no (p := stabB day) hy (by unfold stabB; rw [decide_eq_false p2, Bool.and_false]))
          have q2 : decide (day < y2) = false := decide_eq_false p2
          clear hy p2
          go_wp2_with fail
          go_roundw
          case rel => exact ⟨k + 1, q, by go_num, by omega, by omega, by rw [HF.out]; exact hown, HB.out⟩
          case measure => simp [intOf]; omega
      · have HF := Lib.hid (filter_no (p := stabB day) hy (by unfold stabB; rw [decide_eq_false p1]; rfl))
        have q1 : decide (y1 ≤ day) = false := decide_eq_false p1
        clear hy p1
        go_wp2_with fail
        go_roundw
        case rel => exact ⟨k + 1, q, by go_num, by omega, by omega, by rw [HF.out]; exact hown, HB.out⟩
        case measure => simp [intOf]; omega
    · have hkn : k = n := by omega
      subst hkn
      obtain ⟨A3, d3, rfl, _⟩ := Lies.of_own hown (by have := hown.1; exact this)
      have HLE := Lib.hid (show l.take k = l from List.take_of_length_le (by rw [HC.out]; exact Nat.le_refl _))
      rw [HLE.out] at hown
      have HO := Lib.hid (own_low (base' := w.heap.size) hown (by omega))
      have HBF := Lib.hid (show Below w.heap.size w wr from HB.out)
      clear hown
      go_wp2_with fail
      go_ret
      exact ⟨A3, _, d3, rfl, HO.out, HBF.out⟩
set_option maxHeartbeats 4000000 in
theorem over_any (A : Option Addr) (n c : Nat) (l : ItL) (a b : Int) (w : World) (R : Itm w A n c l) (hn : n ≤ 100000) : Calls Try.prog 17 #[.slice A n c, .agg #[.int .i64 a, .int .i64 b]] w (RetItm 30 w (l.filter (overB a b))) := by
  have HC := Lib.hid (Itm.count R)
  have HB0 := Lib.hid ((Below.refl w.heap.size w).alloc (Nat.le_refl _) (.cells #[.int .i64 a, .int .i64 b] 24))
  have HX0 := Lib.hid (Blk.new w #[.int .i64 a, .int .i64 b] 24)
  have HR := Lib.hid (R.keep ((Below.refl w.heap.size w).alloc (Nat.le_refl _) (.cells #[.int .i64 a, .int .i64 b] 24)))
  clear R
  go_enter Try.func17, Try.ntmps17
  go_wp2_with fail
  go_loopw [5, 6] (fun v t wr => ∃ k q : Nat, t = .int .i64 (k : Int) ∧ k ≤ n ∧ q ≤ k ∧ wr.ownsRow (w.heap.size + 1) 30 3 v q (cells3 ((l.take k).filter (overB a b))) ∧ Below ((w.heap.size + 1)) (w.alloc (.cells #[.int .i64 a, .int .i64 b] 24)) wr) (fun _ t _ => (n - intOf t).toNat)
  case atStart => exact ⟨0, 0, rfl, by omega, by omega, World.ownsRow_nil _ _ _ _, Below.refl _ _⟩
  case round =>
    obtain ⟨k, q, rfl, hk, hq, hown, hb⟩ := hrel
    have HB := Lib.hid hb
    have hsz : (w.heap.size + 1) ≤ wr.heap.size := by have := hb.size; simpa using this
    have HX := HX0.out.keep (hb.mono (by simp))
    have b0 := HX.get 0 rfl
    have b1 := HX.get 1 rfl
    clear HX
    clear hb
    have HOB := Lib.hid (own_ge hown)
    by_cases hlt : k < n
    · obtain ⟨g, off, y, rfl, hy, hg, c0, c1, c2⟩ := Itm.get (HR.out.keep (HB.out.mono (by simp))) hlt
      obtain ⟨y1, y2, y3⟩ := y
      have hki : (k : Int) < (n : Int) := by omega
      by_cases p0 : a < b
      · by_cases p1 : y1 < b
        · by_cases p2 : a < y2
          · have HF := Lib.hid (filter_yes (p := overB a b) hy (by unfold overB; rw [decide_eq_true p0, decide_eq_true p1, decide_eq_true p2]; rfl))
            clear hy
            go_upto_region 5 with fail
            go_quiet (fail)
            have hown := own_keep hown (Joins.below_draws _ wr nq)
            have HB := Lib.hid (HB.out.trans (Joins.below_draws _ wr nq))
            have hsz : w.heap.size + 1 ≤ (wr.drewN nq).heap.size := by have := HB.out.size; simpa using this
            have z0 : (wr.drewN nq).cell? ⟨g, off + k * 3, none⟩ = some (.int .i64 y1) := (Below.cell (Joins.below_draws _ wr nq) hg).trans c0
            have z1 : (wr.drewN nq).cell? ⟨g, off + k * 3 + 1, none⟩ = some (.int .i64 y2) := (Below.cell (p := ⟨g, off + k * 3 + 1, none⟩) (Joins.below_draws _ wr nq) hg).trans c1
            have z2 : (wr.drewN nq).cell? ⟨g, off + k * 3 + 2, none⟩ = some (.int .i64 y3) := (Below.cell (p := ⟨g, off + k * 3 + 2, none⟩) (Joins.below_draws _ wr nq) hg).trans c2
            generalize wr.drewN nq = wq at *
            clear c0 c1 c2 hg
            go_wp2_with (at_builtin; refine wpList_app rfl _ _ 22 rfl (cells3 [(y1, y2, y3)]) elem_item rfl (hown.alloc _) rfl rfl (fun _ => ⟨_, rfl, new_cells wq (cells3 [(y1, y2, y3)]) 30⟩) (cells3_one _) (by omega) (by unfold maxLen; omega) (by simp; omega) ?_)
            intro v1 w1 hown1 hgrow
            have HB1 := Lib.hid ((HB.out.alloc hsz (.cells #[encZ y1, encZ y2, encZ y3] 30)).grown hgrow (by simp; omega) HOB.out)
            have HO1 := Lib.hid (show w1.ownsRow (w.heap.size + 1) 30 3 v1 (q + 1) (cells3 ((l.take (k + 1)).filter (overB a b))) by rw [HF.out, cells3_append]; exact hown1)
            clear hown1 hgrow hown
            go_wp2_with fail
            go_roundw
            case rel => exact ⟨k + 1, q + 1, by go_num, by omega, by omega, HO1.out, HB1.out⟩
            case measure => simp [intOf]; omega
          · have HF := Lib.hid (filter_no (p := overB a b) hy (by unfold overB; rw [decide_eq_false p2]; simp))
            have q2 : decide (a < y2) = false := decide_eq_false p2
            clear hy p2
            go_upto_region 5 with fail
            go_quiet (fail)
            have hown := own_keep hown (Joins.below_draws _ wr nq)
            have HB := Lib.hid (HB.out.trans (Joins.below_draws _ wr nq))
            have hsz : w.heap.size + 1 ≤ (wr.drewN nq).heap.size := by have := HB.out.size; simpa using this
            have z0 : (wr.drewN nq).cell? ⟨g, off + k * 3, none⟩ = some (.int .i64 y1) := (Below.cell (Joins.below_draws _ wr nq) hg).trans c0
            have z1 : (wr.drewN nq).cell? ⟨g, off + k * 3 + 1, none⟩ = some (.int .i64 y2) := (Below.cell (p := ⟨g, off + k * 3 + 1, none⟩) (Joins.below_draws _ wr nq) hg).trans c1
            have z2 : (wr.drewN nq).cell? ⟨g, off + k * 3 + 2, none⟩ = some (.int .i64 y3) := (Below.cell (p := ⟨g, off + k * 3 + 2, none⟩) (Joins.below_draws _ wr nq) hg).trans c2
            generalize wr.drewN nq = wq at *
            clear c0 c1 c2 hg
            go_wp2_with fail
            go_roundw
            case rel => exact ⟨k + 1, q, by go_num, by omega, by omega, by rw [HF.out]; exact hown, HB.out⟩
            case measure => simp [intOf]; omega
        · have HF := Lib.hid (filter_no (p := overB a b) hy (by unfold overB; rw [decide_eq_false p1]; simp))
          have q1 : decide (y1 < b) = false := decide_eq_false p1
          clear hy p1
          go_upto_region 5 with fail
          go_quiet (fail)
          have hown := own_keep hown (Joins.below_draws _ wr nq)
          have HB := Lib.hid (HB.out.trans (Joins.below_draws _ wr nq))
          have hsz : w.heap.size + 1 ≤ (wr.drewN nq).heap.size := by have := HB.out.size; simpa using this
          have z0 : (wr.drewN nq).cell? ⟨g, off + k * 3, none⟩ = some (.int .i64 y1) := (Below.cell (Joins.below_draws _ wr nq) hg).trans c0
          have z1 : (wr.drewN nq).cell? ⟨g, off + k * 3 + 1, none⟩ = some (.int .i64 y2) := (Below.cell (p := ⟨g, off + k * 3 + 1, none⟩) (Joins.below_draws _ wr nq) hg).trans c1
          have z2 : (wr.drewN nq).cell? ⟨g, off + k * 3 + 2, none⟩ = some (.int .i64 y3) := (Below.cell (p := ⟨g, off + k * 3 + 2, none⟩) (Joins.below_draws _ wr nq) hg).trans c2
          generalize wr.drewN nq = wq at *
          clear c0 c1 c2 hg
          go_wp2_with fail
          go_roundw
          case rel => exact ⟨k + 1, q, by go_num, by omega, by omega, by rw [HF.out]; exact hown, HB.out⟩
          case measure => simp [intOf]; omega
      · have HF := Lib.hid (filter_no (p := overB a b) hy (by unfold overB; rw [decide_eq_false p0]; simp))
        have q0 : decide (a < b) = false := decide_eq_false p0
        clear hy p0
        go_upto_region 5 with fail
        go_quiet (fail)
        have hown := own_keep hown (Joins.below_draws _ wr nq)
        have HB := Lib.hid (HB.out.trans (Joins.below_draws _ wr nq))
        have hsz : w.heap.size + 1 ≤ (wr.drewN nq).heap.size := by have := HB.out.size; simpa using this
        have z0 : (wr.drewN nq).cell? ⟨g, off + k * 3, none⟩ = some (.int .i64 y1) := (Below.cell (Joins.below_draws _ wr nq) hg).trans c0
        have z1 : (wr.drewN nq).cell? ⟨g, off + k * 3 + 1, none⟩ = some (.int .i64 y2) := (Below.cell (p := ⟨g, off + k * 3 + 1, none⟩) (Joins.below_draws _ wr nq) hg).trans c1
        have z2 : (wr.drewN nq).cell? ⟨g, off + k * 3 + 2, none⟩ = some (.int .i64 y3) := (Below.cell (p := ⟨g, off + k * 3 + 2, none⟩) (Joins.below_draws _ wr nq) hg).trans c2
        generalize wr.drewN nq = wq at *
        clear c0 c1 c2 hg
        go_wp2_with fail
        go_roundw
        case rel => exact ⟨k + 1, q, by go_num, by omega, by omega, by rw [HF.out]; exact hown, HB.out⟩
        case measure => simp [intOf]; omega
    · have hkn : k = n := by omega
      subst hkn
      obtain ⟨A3, d3, rfl, _⟩ := Lies.of_own hown (by have := hown.1; exact this)
      have HLE := Lib.hid (show l.take k = l from List.take_of_length_le (by rw [HC.out]; exact Nat.le_refl _))
      rw [HLE.out] at hown
      have HO := Lib.hid (own_low (base' := w.heap.size) hown (by simp))
      have HBF := Lib.hid (show Below w.heap.size w wr from HB0.out.trans (HB.out.mono (by simp)))
      clear hown
      go_wp2_with fail
      go_ret
      exact ⟨A3, _, d3, rfl, HO.out, HBF.out⟩
end Go.Proofs.Ytolmkagedlcjiaa
namespace Corr
set_option maxRecDepth 8000
open Go Go.RowKit
theorem find_upto {p : It → Bool} {l : ItL} {k : Nat} {y : It} (h : ∀ z ∈ l.take k, p z = false) (hy : l[k]? = some y) (hp : p y = true) : l.find? p = some y := by
  have hk := (List.getElem?_eq_some_iff.1 hy).1
  have e : l = l.take k ++ y :: l.drop (k + 1) := by
    rw [← (List.getElem?_eq_some_iff.1 hy).2, ← List.drop_eq_getElem_cons hk, List.take_append_drop]
  rw [e, List.find?_append, List.find?_eq_none.2 (fun z hz => by rw [h z hz]; decide)]
  simp [hp]
theorem take_none {p : It → Bool} {l : ItL} {k : Nat} {y : It} (h : ∀ z ∈ l.take k, p z = false) (hy : l[k]? = some y) (hp : p y = false) : ∀ z ∈ l.take (k + 1), p z = false := by
  rw [List.take_add_one, hy]
  intro z hz
  rcases List.mem_append.1 hz with hz | hz
  · exact h z hz
  · have : z = y := by simpa using hz
    rw [this]; exact hp
theorem last_find {p : It → Bool} {l : ItL} {k : Nat} {y : It} (h : ∀ z ∈ l.drop (k + 1), p z = false) (hy : l[k]? = some y) (hp : p y = true) : l.reverse.find? p = some y := by
  have hk := (List.getElem?_eq_some_iff.1 hy).1
  have e : l = l.take k ++ y :: l.drop (k + 1) := by
    rw [← (List.getElem?_eq_some_iff.1 hy).2, ← List.drop_eq_getElem_cons hk, List.take_append_drop]
  rw [e, List.reverse_append, List.reverse_cons, List.append_assoc, List.find?_append, List.find?_eq_none.2 (fun z hz => by rw [h z (List.mem_reverse.1 hz)]; decide)]
  simp [hp]
theorem drop_none {p : It → Bool} {l : ItL} {k : Nat} {y : It} (h : ∀ z ∈ l.drop (k + 1), p z = false) (hy : l[k]? = some y) (hp : p y = false) : ∀ z ∈ l.drop k, p z = false := by
  have hk := (List.getElem?_eq_some_iff.1 hy).1
  rw [List.drop_eq_getElem_cons hk, (List.getElem?_eq_some_iff.1 hy).2]
  intro z hz
  rcases List.mem_cons.1 hz with rfl | hz
  · exact hp
  · exact h z hz
/-- One item, if there is one. -/
def oneI (o : Option It) : Value := .tuple #[itV (o.getD (0, 0, 0)), .bool o.isSome]
end Corr
namespace Go.Proofs.Ytolmkagedlcjiaa
set_option maxRecDepth 8000
open Go.RowKit Corr
set_option linter.unusedVariables false
set_option linter.unusedSimpArgs false
set_option maxHeartbeats 2000000 in
theorem first_any (A : Option Addr) (n c : Nat) (l : ItL) (day : Int) (w : World) (R : Itm w A n c l) (hn : n ≤ 100000) : Calls Try.prog 11 #[.slice A n c, .int .i64 day] w fun e w' => e = .returned (oneI (l.find? (fun y => decide (y.1 ≥ day)))) ∧ Below w.heap.size w w' := by
  have HC := Lib.hid (Itm.count R)
  have HB0 := Lib.hid ((Below.refl w.heap.size w).alloc (Nat.le_refl _) (.cells #[.int .i64 0, .int .i64 0, .int .i64 0] 30))
  have HX0 := Blk.new w #[.int .i64 0, .int .i64 0, .int .i64 0] 30
  have b0 := HX0.get 0 rfl
  have b1 := HX0.get 1 rfl
  have b2 := HX0.get 2 rfl
  have f0 := HX0.f 0
  have f1 := HX0.f 1
  have f2 := HX0.f 2
  have HR := Lib.hid (R.keep HB0.out)
  clear R HX0
  go_enter Try.func11, Try.ntmps11
  go_wp2_with fail
  go_loop [6] (fun t => ∃ k : Nat, t = .int .i64 (k : Int) ∧ k ≤ n ∧ Hid (∀ z ∈ l.take k, decide (z.1 ≥ day) = false)) (fun t => (n - intOf t).toNat)
  case atStart => exact ⟨0, rfl, by omega, Lib.hid (by simp)⟩
  case round =>
    obtain ⟨k, rfl, hk, HX⟩ := hrel
    by_cases hlt : k < n
    · obtain ⟨g, off, y, rfl, hy, hg, c0, c1, c2⟩ := Itm.get HR.out hlt
      obtain ⟨y1, y2, y3⟩ := y
      by_cases p1 : y1 ≥ day
      · have HF := Lib.hid (find_upto (p := (fun y => decide (y.1 ≥ day))) HX.out hy (decide_eq_true p1))
        clear hy
        have HBF := Lib.hid (((HB0.out.setCell (p := ⟨w.heap.size, 0, none⟩) (Nat.le_refl _) (.int .i64 y1)).setCell (p := ⟨w.heap.size, 1, none⟩) (Nat.le_refl _) (.int .i64 y2)).setCell (p := ⟨w.heap.size, 2, none⟩) (Nat.le_refl _) (.int .i64 y3))
        go_wp2_with fail
        exact bodyPost_ret (v := .tuple #[itV (y1, y2, y3), .bool true]) (by simp [results, Try.results11, go_sem, b0, b1, b2]) rfl ⟨by rw [HF.out]; rfl, by first | exact HBF.out | exact (Below.refl _ _).alloc (Nat.le_refl _) _⟩
      · have HX2 := Lib.hid (take_none (p := (fun y => decide (y.1 ≥ day))) HX.out hy (decide_eq_false p1))
        have q1 : decide (y1 ≥ day) = false := decide_eq_false p1
        clear hy p1
        go_wp2_with fail
        go_round
        case rel => exact ⟨k + 1, by go_num, by omega, HX2⟩
        case measure => first | (simp [intOf]; done) | (simp [intOf]; omega)
    · have HF := Lib.hid (show l.find? (fun y => decide (y.1 ≥ day)) = none from List.find?_eq_none.2 (fun z hz => by
        have := HX.out z (by rw [List.take_of_length_le (by rw [HC.out]; omega)]; exact hz)
        rw [this]; decide))
      have HBF := Lib.hid (((HB0.out.setCell (p := ⟨w.heap.size, 0, none⟩) (Nat.le_refl _) (.int .i64 0)).setCell (p := ⟨w.heap.size, 1, none⟩) (Nat.le_refl _) (.int .i64 0)).setCell (p := ⟨w.heap.size, 2, none⟩) (Nat.le_refl _) (.int .i64 0))
      go_wp2_with fail
      exact bodyPost_ret (v := .tuple #[itV (0, 0, 0), .bool false]) (by simp [results, Try.results11, go_sem, b0, b1, b2]) rfl ⟨by rw [HF.out]; rfl, by first | exact HB0.out | exact HBF.out | exact (Below.refl _ _).alloc (Nat.le_refl _) _⟩
set_option maxHeartbeats 2000000 in
theorem last_any (A : Option Addr) (n c : Nat) (l : ItL) (day : Int) (w : World) (R : Itm w A n c l) (hn : n ≤ 100000) : Calls Try.prog 12 #[.slice A n c, .int .i64 day] w fun e w' => e = .returned (oneI (l.reverse.find? (fun y => decide (y.1 ≤ day)))) ∧ Below w.heap.size w w' := by
  have HC := Lib.hid (Itm.count R)
  have HB0 := Lib.hid ((Below.refl w.heap.size w).alloc (Nat.le_refl _) (.cells #[.int .i64 0, .int .i64 0, .int .i64 0] 30))
  have HX0 := Blk.new w #[.int .i64 0, .int .i64 0, .int .i64 0] 30
  have b0 := HX0.get 0 rfl
  have b1 := HX0.get 1 rfl
  have b2 := HX0.get 2 rfl
  have f0 := HX0.f 0
  have f1 := HX0.f 1
  have f2 := HX0.f 2
  have HR := Lib.hid (R.keep HB0.out)
  clear R HX0
  go_enter Try.func12, Try.ntmps12
  go_wp2_with fail
  go_loop [6] (fun t => ∃ k : Nat, t = .int .i64 ((k : Int) - 1) ∧ k ≤ n ∧ Hid (∀ z ∈ l.drop k, decide (z.1 ≤ day) = false)) (fun t => (intOf t + 1).toNat)
  case atStart => exact ⟨n, rfl, by omega, Lib.hid (by rw [List.drop_of_length_le (by rw [HC.out]; omega)]; intro z hz; cases hz)⟩
  case round =>
    obtain ⟨k, rfl, hk, HX⟩ := hrel
    rcases Nat.eq_zero_or_pos k with hk0 | hk0
    · subst hk0
      have HF := Lib.hid (show l.reverse.find? (fun y => decide (y.1 ≤ day)) = none from List.find?_eq_none.2 (fun z hz => by
        have := HX.out z (by rw [List.drop_zero]; exact List.mem_reverse.1 hz)
        rw [this]; decide))
      have HBF := Lib.hid (((HB0.out.setCell (p := ⟨w.heap.size, 0, none⟩) (Nat.le_refl _) (.int .i64 0)).setCell (p := ⟨w.heap.size, 1, none⟩) (Nat.le_refl _) (.int .i64 0)).setCell (p := ⟨w.heap.size, 2, none⟩) (Nat.le_refl _) (.int .i64 0))
      go_wp2_with fail
      exact bodyPost_ret (v := .tuple #[itV (0, 0, 0), .bool false]) (by simp [results, Try.results12, go_sem, b0, b1, b2]) rfl ⟨by rw [HF.out]; rfl, by first | exact HB0.out | exact HBF.out | exact (Below.refl _ _).alloc (Nat.le_refl _) _⟩
    · obtain ⟨j, rfl⟩ : ∃ j, k = j + 1 := ⟨k - 1, by omega⟩
      have hj : (((j + 1 : Nat) : Int) - 1) = (j : Int) := by omega
      obtain ⟨g, off, y, rfl, hy, hg, c0, c1, c2⟩ := Itm.get HR.out (k := j) (by omega)
      obtain ⟨y1, y2, y3⟩ := y
      have hjn : (j : Int) < (n : Int) := by omega
      by_cases p1 : y1 ≤ day
      · have HF := Lib.hid (last_find (p := (fun y => decide (y.1 ≤ day))) HX.out hy (decide_eq_true p1))
        clear hy
        have HBF := Lib.hid (((HB0.out.setCell (p := ⟨w.heap.size, 0, none⟩) (Nat.le_refl _) (.int .i64 y1)).setCell (p := ⟨w.heap.size, 1, none⟩) (Nat.le_refl _) (.int .i64 y2)).setCell (p := ⟨w.heap.size, 2, none⟩) (Nat.le_refl _) (.int .i64 y3))
        go_wp2_with fail
        exact bodyPost_ret (v := .tuple #[itV (y1, y2, y3), .bool true]) (by simp [results, Try.results12, go_sem, b0, b1, b2]) rfl ⟨by rw [HF.out]; rfl, by first | exact HBF.out | exact (Below.refl _ _).alloc (Nat.le_refl _) _⟩
      · have HX2 := Lib.hid (drop_none (p := (fun y => decide (y.1 ≤ day))) HX.out hy (decide_eq_false p1))
        have q1 : decide (y1 ≤ day) = false := decide_eq_false p1
        clear hy p1
        go_wp2_with fail
        go_round
        case rel => exact ⟨j, rfl, by omega, HX2⟩
        case measure => first | (simp [intOf]; done) | (simp [intOf]; omega)
end Go.Proofs.Ytolmkagedlcjiaa
