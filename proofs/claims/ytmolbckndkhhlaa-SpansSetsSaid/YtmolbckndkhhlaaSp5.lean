/- Contract of corrodyref07.Right. -/
import Derived.Test.YtmolbckndkhhlaaSp4
import Derived.BigQuiet
namespace Corr
set_option maxRecDepth 8000
open Go Go.RowKit
/-- One piece more: joined to the last one where they touch. -/
def pieceR (out : SpL) (a b : Int) (is : Bool) : SpL :=
  if is = true then (match out.getLast? with | some s => if s.2 = a then out.dropLast ++ [(s.1, b)] else out ++ [(a, b)] | none => [(a, b)]) else out
def rightK (es : List Int) (bs : List Bool) : Nat → SpL
  | 0 => []
  | k + 1 => pieceR (rightK es bs k) (es.getD k 0) (es.getD (k + 1) 0) (bs.getD k false)
theorem pieceR_len (out : SpL) (a b : Int) (is : Bool) : (pieceR out a b is).length ≤ out.length + 1 := by
  unfold pieceR
  split
  · split
    · rename_i s h
      split
      · have : out ≠ [] := fun e => by rw [e] at h; cases h
        have := List.length_pos_iff.2 this
        rw [List.length_append, List.length_dropLast]
        simp only [List.length_singleton]
        omega
      · simp
    · simp
  · omega
theorem rightK_len (es : List Int) (bs : List Bool) : ∀ k, (rightK es bs k).length ≤ k
  | 0 => by simp [rightK]
  | k + 1 => by
    have h1 := rightK_len es bs k
    have h2 := pieceR_len (rightK es bs k) (es.getD k 0) (es.getD (k + 1) 0) (bs.getD k false)
    rw [rightK]; omega
theorem pieceR_no {out : SpL} {a b : Int} : pieceR out a b false = out := rfl
theorem pieceR_nil {a b : Int} : pieceR [] a b true = [(a, b)] := rfl
theorem last_at {out : SpL} {j : Nat} (h : out.length = j + 1) : ∃ s, out[j]? = some s ∧ out.getLast? = some s := by
  have hj : j < out.length := by omega
  refine ⟨out[j], List.getElem?_eq_getElem hj, ?_⟩
  rw [List.getLast?_eq_getElem?, h, Nat.add_sub_cancel, List.getElem?_eq_getElem hj]
theorem pieceR_join {out : SpL} {j : Nat} {s : Int × Int} {a b : Int} (hl : out.length = j + 1) (hs : out[j]? = some s) (h : s.2 = a) : pieceR out a b true = out.set j (s.1, b) := by
  obtain ⟨s', h1, h2⟩ := last_at hl
  obtain rfl := Option.some.inj (hs.symm.trans h1)
  unfold pieceR
  rw [if_pos rfl, h2]
  simp only [if_pos h]
  apply List.ext_getElem?
  intro i
  by_cases e : i = j
  · subst e
    rw [List.getElem?_set_self (by omega), List.getElem?_append_right (by rw [List.length_dropLast]; omega), List.length_dropLast, hl]
    simp
  · rw [List.getElem?_set_ne (by omega)]
    by_cases h3 : i < j
    · rw [List.getElem?_append_left (by rw [List.length_dropLast]; omega), List.getElem?_dropLast, if_pos (by omega)]
    · rw [List.getElem?_eq_none (by simp; omega), List.getElem?_eq_none (by omega)]
theorem pieceR_apart {out : SpL} {j : Nat} {s : Int × Int} {a b : Int} (hl : out.length = j + 1) (hs : out[j]? = some s) (h : ¬ s.2 = a) : pieceR out a b true = out ++ [(a, b)] := by
  obtain ⟨s', h1, h2⟩ := last_at hl
  obtain rfl := Option.some.inj (hs.symm.trans h1)
  unfold pieceR
  rw [if_pos rfl, h2]
  simp only [if_neg h]
theorem cells2_set : ∀ {l : SpL} {j : Nat} {x y y' : Int}, l[j]? = some (x, y) → (cells2 l).set (j * 2 + 1) (.int .i64 y') = cells2 (l.set j (x, y'))
  | [], _, _, _, _, h => by simp at h
  | s :: r, 0, x, y, y', h => by
    have : s = (x, y) := by simpa using h
    subst this; rfl
  | s :: r, j + 1, x, y, y', h => by
    have := cells2_set (l := r) (j := j) (x := x) (y := y) (y' := y') (by simpa using h)
    rw [show (j + 1) * 2 + 1 = j * 2 + 1 + 1 + 1 by omega]
    simp [cells2, this]
/-- What a call leaves that tells spans, in memory of its own. -/
def RetSpn (T : TypeId) (w : World) (l : SpL) (e : Ending) (w' : World) : Prop := ∃ A n c, e = .returned (.slice A n c) ∧ w'.ownsRow w.heap.size T 2 (.slice A n c) n (cells2 l) ∧ Below w.heap.size w w'
end Corr
namespace Go.Proofs.Ytmolbckndkhhlaa
set_option maxRecDepth 8000
open Go.RowKit Corr
set_option linter.unusedVariables false
set_option linter.unusedSimpArgs false
theorem elem_span : Elem Try.prog 22 37 (.agg #[.int .i64 0, .int .i64 0]) 2 16 := by
  obtain ⟨i, h0, h1, h2, h3⟩ := info_parts (show (Try.prog.info? 37).map (fun i => (i.zero, i.size, i.bytes)) = some (some (.agg #[.int .i64 0, .int .i64 0]), 2, 16) by kernel_rfl)
  exact ⟨Try.underlying22, ⟨i, h0, h1, h2, h3⟩, rfl, by decide⟩
set_option maxHeartbeats 4000000 in
theorem right_any (A B : Option Addr) (n c m d : Nat) (es : List Int) (bs : List Bool) (w : World) (R : Nums w A n c es) (S : Bits w B m d bs) (hn : n ≤ 100000) (hm : n ≤ m) : Calls Try.prog 33 #[.slice A n c, .slice B m d] w (RetSpn 37 w (rightK es bs (n - 1))) := by
  have HR := Lib.hid R
  have HS := Lib.hid S
  have HC := Lib.hid R.count
  clear R S
  go_enter Try.func33, Try.ntmps33
  go_wp2_with fail
  go_loopw [5, 6] (fun v t wr => ∃ (k q : Nat) (out : SpL), t = .int .i64 (k : Int) ∧ k ≤ n - 1 ∧ Hid (rightK es bs k = out) ∧ Hid (out.length = q) ∧ q ≤ k ∧ wr.ownsRow w.heap.size 37 2 v q (cells2 out) ∧ Below w.heap.size w wr) (fun _ t _ => (n - intOf t).toNat)
  case atStart => exact ⟨0, 0, [], rfl, by omega, Lib.hid rfl, Lib.hid rfl, Nat.le_refl _, World.ownsRow_nil _ _ _ _, Below.refl _ _⟩
  case round =>
    obtain ⟨k, q, out, rfl, hk, HO, HL, hq, hown, hb⟩ := hrel
    have HB := Lib.hid hb
    have hsz := hb.size
    clear hb
    by_cases hlt : k + 1 < n
    · obtain ⟨g, off, a, rfl, ha, hg, c0⟩ := Nums.get (HR.out.keep HB.out) (k := k) (by omega)
      obtain ⟨g1, off1, b, hA1, hb1, _, c1⟩ := Nums.get (HR.out.keep HB.out) hlt
      injection hA1 with hA1
      injection hA1 with e1 e2 _
      subst e1 e2
      obtain ⟨g2, off2, is, rfl, his, hg2, c2⟩ := Bits.get (HS.out.keep HB.out) (k := k) (by omega)
      have HN := Lib.hid (show rightK es bs (k + 1) = pieceR out a b is by
        rw [rightK, HO.out, List.getD_eq_getElem?_getD, List.getD_eq_getElem?_getD, List.getD_eq_getElem?_getD, ha, hb1, his]; rfl)
      clear ha hb1 his
      cases is with
      | false =>
        have HN2 := Lib.hid (HN.out.trans pieceR_no)
        go_wp2_with fail
        go_roundw
        case rel => exact ⟨k + 1, q, out, by go_num, by omega, HN2, HL, by omega, hown, HB.out⟩
        case measure => simp [intOf]; omega
      | true =>
        have HOB := Lib.hid (own_ge hown)
        obtain ⟨A2, d2, rfl, L2⟩ := Lies.of_own hown (by have := hown.1; exact this)
        have HL2 := Lib.hid L2
        clear L2
        rcases Nat.eq_zero_or_pos q with hq0 | hq0
        · subst hq0
          have HE := Lib.hid (show out = [] from List.length_eq_zero_iff.1 HL.out)
          have HN2 := Lib.hid (show rightK es bs (k + 1) = [(a, b)] by rw [HN.out, HE.out]; rfl)
          go_upto_region 7 with fail
          go_quiet (fail)
          go_wp2_with fail
          have hszq : w.heap.size ≤ (wr.drewN nq).heap.size := Nat.le_trans hsz (Joins.below_draws wr.heap.size wr nq).size
          have k0 := (Below.cell (Joins.below_draws _ wr nq) hg).trans c0
          have k1 := (Below.cell (p := ⟨g, off + (k + 1), none⟩) (Joins.below_draws _ wr nq) hg).trans c1
          have HOA := Lib.hid (((own_keep hown (Joins.below_draws _ wr nq)).alloc (.cells #[encZ a, encZ b] 37)).drew)
          have HBA := Lib.hid (((HB.out.trans (Joins.below_draws _ wr nq)).alloc hszq (.cells #[encZ a, encZ b] 37)).drew)
          generalize wr.drewN nq = wq at *
          have HSZ := Lib.hid hszq
          have hk1 : k < n := by omega
          have ha1 : IntKind.i64.wrap ((k : Int) + 1) = (k : Int) + 1 := IntWalk.i64_in _ (by omega)
          have ha2 : (0 : Int) ≤ (k : Int) + 1 := by omega
          have ha3 : (k : Int) + 1 < (n : Int) := by omega
          have ha4 : ((k : Int) + 1).toNat = k + 1 := by omega
          clear hszq hown c0 c1 c2
          go_region_law (first
            | (refine step_app (by rfl) _ _ 22 (by rfl) [encZ a, encZ b] elem_span (by rfl) HOA.out (by rfl) (by rfl) (fun _ => ⟨_, rfl, new_cells wq [encZ a, encZ b] 37⟩) (ints_one [a, b]) (by omega) (by unfold maxLen; omega) (by have := HSZ.out; simp; omega) ?_; intro v1 w1 hown1 hgrow1))
          all_goals
            have HB2 := Lib.hid (HBA.out.grown hgrow1 (by have := HSZ.out; simp; omega) HOB.out)
            have HO2 := Lib.hid (show w1.ownsRow w.heap.size 37 2 v1 (0 + 1) (cells2 ([(a, b)])) by rw [HE.out] at hown1; simpa [cells2] using hown1)
            clear hown1 hgrow1 HOA HBA
            go_wp2_with fail
            go_roundw
            case rel => exact ⟨k + 1, 0 + 1, _, by go_num, by omega, HN2, Lib.hid rfl, by omega, HO2.out, HB2.out⟩
            case measure => simp [intOf]; omega
        · obtain ⟨j, rfl⟩ : ∃ j, q = j + 1 := ⟨q - 1, by omega⟩
          rcases Joins.ownsRow_forms hown with ⟨_, h0⟩ | ⟨g3, d3, hv⟩
          · cases h0
          · injection hv with e1 _ e3
            subst e1 e3
            obtain ⟨s, hs0, _⟩ := last_at HL.out
            obtain ⟨x, y⟩ := s
            have hs := Lib.hid hs0
            have c3 : wr.cell? ⟨g3, j * 2, none⟩ = some (.int .i64 x) := by rw [hown.cellAt _ (by omega)]; exact cells2_0 hs.out
            have c4 : wr.cell? ⟨g3, j * 2 + 1, none⟩ = some (.int .i64 y) := by rw [hown.cellAt _ (by omega)]; exact cells2_1 hs.out
            clear hs0
            by_cases p1 : y = a
            · have HN2 := Lib.hid (show rightK es bs (k + 1) = out.set j (x, b) by rw [HN.out]; exact pieceR_join HL.out hs.out p1)
              have d1 : (y == a) = true := by simpa using p1
              clear p1
              go_upto_region 7 with fail
              go_quiet (fail)
              have HOQ := own_keep hown (Joins.below_draws _ wr nq)
              have f1 : (wr.drewN nq).frozen? ⟨g3, j * 2 + 1, none⟩ = false := HOQ.frozenAt _
              have HST := HOQ.stored (j * 2 + 1) (encZ b)
              have HO2 := Lib.hid (show ((wr.drewN nq).setCell ⟨g3, j * 2 + 1, none⟩ (encZ b)).ownsRow w.heap.size 37 2 (.slice (some ⟨g3, 0, none⟩) (j + 1) d2) (j + 1) (cells2 (out.set j (x, b))) by rw [← cells2_set hs.out]; exact HST.1)
              have HB2 := Lib.hid ((HB.out.trans (Joins.below_draws _ wr nq)).setCell (p := ⟨g3, j * 2 + 1, none⟩) (HOB.out g3 rfl) (encZ b))
              clear HST HOQ hown
              go_wp2_with fail
              go_roundw
              case rel => exact ⟨k + 1, j + 1, _, by go_num, by omega, HN2, Lib.hid (by rw [List.length_set, HL.out]), by omega, HO2.out, HB2.out⟩
              case measure => simp [intOf]; omega
            · have HN2 := Lib.hid (show rightK es bs (k + 1) = out ++ [(a, b)] by rw [HN.out]; exact pieceR_apart HL.out hs.out p1)
              have d1 : (y == a) = false := by simpa using p1
              clear p1
              go_upto_region 7 with fail
              go_quiet (fail)
              go_wp2_with fail
              have hszq : w.heap.size ≤ (wr.drewN nq).heap.size := Nat.le_trans hsz (Joins.below_draws wr.heap.size wr nq).size
              have k0 := (Below.cell (Joins.below_draws _ wr nq) hg).trans c0
              have k1 := (Below.cell (p := ⟨g, off + (k + 1), none⟩) (Joins.below_draws _ wr nq) hg).trans c1
              have HOA := Lib.hid (((own_keep hown (Joins.below_draws _ wr nq)).alloc (.cells #[encZ a, encZ b] 37)).drew)
              have HBA := Lib.hid (((HB.out.trans (Joins.below_draws _ wr nq)).alloc hszq (.cells #[encZ a, encZ b] 37)).drew)
              generalize wr.drewN nq = wq at *
              have HSZ := Lib.hid hszq
              have hk1 : k < n := by omega
              have ha1 : IntKind.i64.wrap ((k : Int) + 1) = (k : Int) + 1 := IntWalk.i64_in _ (by omega)
              have ha2 : (0 : Int) ≤ (k : Int) + 1 := by omega
              have ha3 : (k : Int) + 1 < (n : Int) := by omega
              have ha4 : ((k : Int) + 1).toNat = k + 1 := by omega
              clear hszq hown c0 c1 c2
              go_region_law (first
                | (refine step_app (by rfl) _ _ 22 (by rfl) [encZ a, encZ b] elem_span (by rfl) HOA.out (by rfl) (by rfl) (fun _ => ⟨_, rfl, new_cells wq [encZ a, encZ b] 37⟩) (ints_one [a, b]) (by omega) (by unfold maxLen; omega) (by have := HSZ.out; simp; omega) ?_; intro v1 w1 hown1 hgrow1))
              all_goals
                have HB2 := Lib.hid (HBA.out.grown hgrow1 (by have := HSZ.out; simp; omega) HOB.out)
                have HO2 := Lib.hid (show w1.ownsRow w.heap.size 37 2 v1 ((j + 1) + 1) (cells2 (out ++ [(a, b)])) by rw [cells2_append]; exact hown1)
                clear hown1 hgrow1 HOA HBA
                go_wp2_with fail
                go_roundw
                case rel => exact ⟨k + 1, (j + 1) + 1, _, by go_num, by omega, HN2, Lib.hid (by rw [List.length_append, HL.out]; rfl), by omega, HO2.out, HB2.out⟩
                case measure => simp [intOf]; omega
    · have hkn : k = n - 1 := by omega
      have HF := Lib.hid (show rightK es bs (n - 1) = out by rw [← hkn]; exact HO.out)
      go_wp2_with fail
      obtain ⟨A2, d2, rfl, L2⟩ := Lies.of_own hown (by have := hown.1; exact this)
      go_ret
      exact ⟨A2, _, d2, rfl, by rw [HF.out]; exact hown, HB.out⟩
end Go.Proofs.Ytmolbckndkhhlaa
