/- The helper great of the laws of layer 12. The helpers of the laws of layer 12: spans, same, great. (Written by wip/gen/genrfh.py.) The helper known of the laws of layer 12. -/
import Derived.Test.YtonfjjmgjgmanaaGreatRfK
import Derived.BigQuiet
namespace Corr
set_option maxRecDepth 8000
open Go Go.RowKit
set_option linter.unusedVariables false
/-- A row of rows of calls. -/
structure SlsR (w : World) (E : Option Addr) (N c : Nat) (ls : List ItL) : Prop where
  at_ : ∃ vs : List Value, Lies w 1 E N c vs ∧ vs.length = ls.length ∧ ∀ (i : Nat) (v : Value) (l : ItL), vs[i]? = some v → ls[i]? = some l → ∃ A m d, v = .slice A m d ∧ Itm w A m d l
theorem SlsR.num {w : World} {E : Option Addr} {N c : Nat} {ls : List ItL} (h : SlsR w E N c ls) : ls.length = N := by
  obtain ⟨vs, h1, h2, _⟩ := h.at_
  have := h1.len
  omega
theorem SlsR.keep {w w' : World} {E : Option Addr} {N c : Nat} {ls : List ItL} (h : SlsR w E N c ls) (hb : Below w.heap.size w w') : SlsR w' E N c ls := by
  obtain ⟨vs, h1, h2, h3⟩ := h.at_
  exact ⟨vs, h1.keep hb, h2, fun i v l k1 k2 => by obtain ⟨A, m, d, k3, k4⟩ := h3 i v l k1 k2; exact ⟨A, m, d, k3, k4.keep hb⟩⟩
theorem SlsR.get {w : World} {E : Option Addr} {N c : Nat} {ls : List ItL} (h : SlsR w E N c ls) {i : Nat} (hi : i < N) : ∃ (g off : Nat) (l : ItL) (A : Option Addr) (m d : Nat), E = some ⟨g, off, none⟩ ∧ ls[i]? = some l ∧ Itm w A m d l ∧ g < w.heap.size ∧ w.cell? ⟨g, off + i, none⟩ = some (.slice A m d) := by
  have hn := h.num
  obtain ⟨vs, h1, h2, h3⟩ := h.at_
  obtain ⟨g, off, hA, hg, hc⟩ := h1.at_ (by omega)
  have hv : vs[i]? = some (vs[i]'(by omega)) := List.getElem?_eq_getElem (by omega)
  have hl : ls[i]? = some (ls[i]'(by omega)) := List.getElem?_eq_getElem (by omega)
  obtain ⟨A, m, d, k1, k2⟩ := h3 i _ _ hv hl
  exact ⟨g, off, _, A, m, d, hA, hl, k2, hg, by rw [hc i _ hv, k1]⟩
/-- More than is looked at. -/
def grB (ls : List ItL) : Bool := ls.any (fun l => decide (30 < l.length)) || decide (5 < ls.length)
theorem grB_long {ls : List ItL} {i : Nat} {l : ItL} (h : ls[i]? = some l) (hl : 30 < l.length) : grB ls = true := by
  unfold grB
  rw [List.any_eq_true.2 ⟨l, List.mem_of_getElem? h, by simpa using hl⟩]; rfl
theorem grB_short {ls : List ItL} (h : ∀ l ∈ ls, l.length ≤ 30) : grB ls = decide (5 < ls.length) := by
  unfold grB
  rw [List.any_eq_false.2 fun l hl => by have := h l hl; simp; omega]; rfl
end Corr
namespace Go.Proofs.YtonfjjmgjgmanaaGreat
set_option maxRecDepth 8000
open Go.RowKit Corr
set_option linter.unusedVariables false
set_option linter.unusedSimpArgs false
theorem great_any (E : Option Addr) (N c : Nat) (ls : List ItL) (w : World) (R : SlsR w E N c ls) (hN : N ≤ 9223372036854775807) : Calls Tryz.prog 4 #[.slice E N c] w fun e w' => e = .returned (.bool (grB ls)) ∧ Below w.heap.size w w' := by
  have HR := Lib.hid R
  have HN := Lib.hid R.num
  have HNM := Lib.hid hN
  clear R hN
  obtain ⟨gb, hgb⟩ : ∃ b, grB ls = b := ⟨_, rfl⟩
  rw [hgb]
  have HGB := Lib.hid hgb
  clear hgb
  go_enter Tryz.func4, Tryz.ntmps4
  go_wp2_with fail
  go_loopw [7] (fun u wr => ∃ i : Nat, u = .int .i64 (i : Int) ∧ i ≤ N ∧ Hid (Below w.heap.size w wr) ∧ Hid (∀ l ∈ ls.take i, l.length ≤ 30)) (fun u _ => (N - intOf u).toNat)
  case atStart => exact ⟨0, rfl, by omega, Lib.hid (Below.refl _ _), Lib.hid (by simp)⟩
  case round =>
    obtain ⟨i, rfl, hi, HB, HS⟩ := hrel
    by_cases hlt : i < N
    · obtain ⟨g, off, l, A, m, d, rfl, hl, hIt, hg, c0⟩ := SlsR.get (HR.out.keep HB.out) hlt
      have hlm := Itm.count hIt
      have HL := Lib.hid hl
      have HIM := Lib.hid hlm
      clear hl hIt hlm
      by_cases h30 : 30 < m
      · have d1 : decide ((m : Int) > 30) = true := decide_eq_true (by omega)
        have HT := Lib.hid (show gb = true by rw [← HGB.out]; exact grB_long HL.out (by rw [HIM.out]; exact h30))
        clear h30
        go_wp2_with fail
        go_ret
        exact ⟨by rw [HT.out]; rfl, HB.out⟩
      · have d1 : decide ((m : Int) > 30) = false := decide_eq_false (by omega)
        have HS2 := Lib.hid (show ∀ l ∈ ls.take (i + 1), l.length ≤ 30 by
          intro y hy
          rw [List.take_add_one, HL.out] at hy
          rcases List.mem_append.1 hy with hy | hy
          · exact HS.out y hy
          · have : y = l := by simpa using hy
            rw [this, HIM.out]; omega)
        have ha1 : IntKind.i64.wrap ((i : Int) + 1) = (i : Int) + 1 := IntWalk.i64_in _ (by have := HNM.out; omega)
        clear h30
        go_wp2_with fail
        go_roundw
        case rel => exact ⟨i + 1, rfl, hlt, HB, HS2⟩
        case measure => show (N - intOf (.int .i64 ((i : Int) + 1))).toNat < (N - intOf (.int .i64 (i : Int))).toNat; simp [intOf]; omega
    · have HT := Lib.hid (show gb = decide ((N : Int) > 5) by
        rw [← HGB.out, grB_short (fun l hl => HS.out l (by rw [List.take_of_length_le (by rw [HN.out]; omega)]; exact hl)), HN.out]
        by_cases h : 5 < N
        · rw [decide_eq_true h, decide_eq_true (by omega)]
        · rw [decide_eq_false h, decide_eq_false (by omega)])
      go_wp2_with fail
      go_ret
      exact ⟨by rw [HT.out]; rfl, HB.out⟩
end Go.Proofs.YtonfjjmgjgmanaaGreat
namespace Corr
set_option maxRecDepth 8000
open Go Go.RowKit
set_option linter.unusedVariables false
/-- Parts as they lie in a row. -/
def PtR (w : World) (A : Option Addr) (n c : Nat) (ps : PtL) : Prop := ∃ qs, Lies w 3 A n c (cellsP qs) ∧ PtsIn w qs ps
theorem PtR.keep {w w' : World} {A : Option Addr} {n c : Nat} {ps : PtL} (h : PtR w A n c ps) (hb : Below w.heap.size w w') : PtR w' A n c ps := by
  obtain ⟨qs, h1, h2⟩ := h
  exact ⟨qs, h1.keep hb, h2.len, fun i q p h3 h4 => by
    obtain ⟨k1, k2, B, m, d, k3, k4⟩ := h2.each i q p h3 h4
    exact ⟨k1, k2, B, m, d, k3, k4.keep hb⟩⟩
theorem PtR.num {w : World} {A : Option Addr} {n c : Nat} {ps : PtL} (h : PtR w A n c ps) : ps.length = n := by
  obtain ⟨qs, h1, h2⟩ := h
  have := h1.len
  rw [cellsP_len] at this
  rw [← h2.len]; omega
theorem PtR.get {w : World} {A : Option Addr} {n c : Nat} {ps : PtL} (h : PtR w A n c ps) {i : Nat} (hi : i < n) : ∃ (g off : Nat) (p : Int × Int × List Int) (B : Option Addr) (m d : Nat), A = some ⟨g, off, none⟩ ∧ ps[i]? = some p ∧ Nums w B m d p.2.2 ∧ g < w.heap.size ∧ w.cell? ⟨g, off + i * 3, none⟩ = some (.int .i64 p.1) ∧ w.cell? ⟨g, off + i * 3 + 1, none⟩ = some (.int .i64 p.2.1) ∧ w.cell? ⟨g, off + i * 3 + 2, none⟩ = some (.slice B m d) := by
  have hn := h.num
  obtain ⟨qs, h1, h2⟩ := h
  obtain ⟨g, off, hA, hg, hc⟩ := h1.at_ (by omega)
  have hp : ps[i]? = some (ps[i]'(by omega)) := List.getElem?_eq_getElem (by omega)
  have hq : qs[i]? = some (qs[i]'(by rw [h2.len]; omega)) := List.getElem?_eq_getElem (by rw [h2.len]; omega)
  obtain ⟨k1, k2, B, m, d, k3, k4⟩ := h2.each i _ _ hq hp
  obtain ⟨c0, c1, c2⟩ := cellsP_at hq
  refine ⟨g, off, _, B, m, d, hA, hp, k4, hg, ?_, ?_, ?_⟩
  · rw [hc _ _ c0, k1]
  · have := hc _ _ c1
    rw [← Nat.add_assoc] at this
    rw [this, k2]
  · have := hc _ _ c2
    rw [← Nat.add_assoc] at this
    rw [this, k3]
end Corr
namespace Go.Proofs.YtonfjjmgjgmanaaGreat
set_option maxRecDepth 8000
open Go.RowKit Corr
set_option linter.unusedVariables false
set_option linter.unusedSimpArgs false
/-- The same spans are the same. -/
theorem spans12_yes {A B : Option Addr} {n c m d : Nat} {l : SpL} {w : World} (R : Spn w A n c l) (S : Spn w B m d l) (hl : l.length ≤ 4000000) : Calls Tryz.prog 7 #[.slice A n c, .slice B m d] w fun e w' => e = .returned (.bool true) ∧ Below w.heap.size w w' := by
  have hn := Spn.count R
  have hm := Spn.count S
  obtain rfl : n = m := hn.symm.trans hm
  have HR := Lib.hid R
  have HS := Lib.hid S
  have hn4 : n ≤ 4000000 := by omega
  clear R S hm
  go_enter Tryz.func7, Tryz.ntmps7
  go_wp2_with fail
  go_loopw [13] (fun u wr => ∃ i : Nat, u = .int .i64 (i : Int) ∧ i ≤ n ∧ Below w.heap.size w wr) (fun u _ => (n - intOf u).toNat)
  case atStart => exact ⟨0, rfl, by omega, Below.refl _ _⟩
  case round =>
    obtain ⟨i, rfl, hi, hb⟩ := hrel
    have HB := Lib.hid hb
    clear hb
    by_cases hlt : i < n
    · obtain ⟨g5, off, s, rfl, hs, hg, c0, c1⟩ := Spn.get (HR.out.keep HB.out) hlt
      obtain ⟨g6, off2, t, rfl, ht, hg2, d0, d1⟩ := Spn.get (HS.out.keep HB.out) hlt
      rw [hs] at ht
      obtain rfl := Option.some.inj ht
      obtain ⟨s1, s2⟩ := s
      clear hs ht
      go_wp2_with fail
      go_quiet (fail)
      go_wp2_with fail
      go_roundw
      case rel => exact ⟨i + 1, by go_num, by omega, by first | exact HB.out | exact HB.out.drewN _ | exact HB.out.trans (Joins.below_draws _ _ _)⟩
      case measure => simp [intOf]; omega
    · go_wp2_with fail
      go_ret
      exact ⟨rfl, HB.out⟩
set_option maxHeartbeats 4000000 in
/-- The same parts are the same. -/
theorem same12_yes {A B : Option Addr} {n c m d : Nat} {ps : PtL} {w : World} (R : PtR w A n c ps) (S : PtR w B m d ps) (hl : ps.length ≤ 4000000) (hv : ∀ p ∈ ps, p.2.2.length ≤ 300) : Calls Tryz.prog 16 #[.slice A n c, .slice B m d] w fun e w' => e = .returned (.bool true) ∧ Below w.heap.size w w' := by
  have hn := PtR.num R
  have hm := PtR.num S
  obtain rfl : n = m := hn.symm.trans hm
  have HR := Lib.hid R
  have HS := Lib.hid S
  have HV := Lib.hid hv
  have hn4 : n ≤ 4000000 := by omega
  clear R S hm hv
  go_enter Tryz.func16, Tryz.ntmps16
  go_wp2_with fail
  go_loopw [14] (fun u wr => ∃ i : Nat, u = .int .i64 (i : Int) ∧ i ≤ n ∧ Below w.heap.size w wr) (fun u _ => (n - intOf u).toNat)
  case atStart => exact ⟨0, rfl, by omega, Below.refl _ _⟩
  case round =>
    obtain ⟨i, rfl, hi, hb⟩ := hrel
    have HB := Lib.hid hb
    clear hb
    by_cases hlt : i < n
    · obtain ⟨g5, off, p, E, k, e, rfl, hp, hN, hg, c0, c1, c2⟩ := PtR.get (HR.out.keep HB.out) hlt
      obtain ⟨g6, off2, p', E2, k2, e2, rfl, hp', hN2, hg2, d0, d1, d2⟩ := PtR.get (HS.out.keep HB.out) hlt
      rw [hp] at hp'
      obtain rfl := Option.some.inj hp'
      have hk := hN.count
      have hk2 := hN2.count
      obtain rfl : k = k2 := hk.symm.trans hk2
      have hkl : k ≤ 300 := by have := HV.out p (List.mem_of_getElem? hp); omega
      obtain ⟨p1, p2, pv⟩ := p
      have HN := Lib.hid hN
      have HN2 := Lib.hid hN2
      clear hp hp' hN hN2 hk hk2
      have j0 : decide ((i : Int) < 0) = false := decide_eq_false (by omega)
      have j1 : (0 : Int) ≤ (i : Int) := by omega
      have j2 : (i : Int) < (n : Int) := by omega
      have j3 : ((i : Int)).toNat = i := by omega
      dsimp only at c0 c1 d0 d1
      go_upto_region 6 with fail
      go_quiet (fail)
      have hdr := Joins.below_draws wr.heap.size wr nq
      have k2 := (Below.cell (p := ⟨g5, off + i * 3 + 2, none⟩) hdr hg).trans c2
      have m2 := (Below.cell (p := ⟨g6, off2 + i * 3 + 2, none⟩) hdr hg2).trans d2
      have HB2 := Lib.hid (HB.out.trans (hdr.mono HB.out.size))
      have HNq := Lib.hid (HN.out.keep hdr)
      have HNq2 := Lib.hid (HN2.out.keep hdr)
      have hgq : g5 < (wr.drewN nq).heap.size := Nat.lt_of_lt_of_le hg hdr.size
      have hgq2 : g6 < (wr.drewN nq).heap.size := Nat.lt_of_lt_of_le hg2 hdr.size
      generalize wr.drewN nq = wq at *
      clear c0 c1 c2 d0 d1 d2 hdr HB HN HN2 hg hg2
      go_wp2_with fail
      go_loopw [62] (fun u wx => ∃ j : Nat, u = .int .i64 (j : Int) ∧ j ≤ k ∧ Hid (Below wq.heap.size wq wx)) (fun u _ => (k - intOf u).toNat)
      case atStart => exact ⟨0, rfl, by omega, Lib.hid (Below.refl _ _)⟩
      case round =>
        obtain ⟨j, rfl, hj, HX⟩ := hrel
        by_cases hjt : j < k
        · obtain ⟨g7, o7, z, hA7, hz, hg7, v0⟩ := Nums.get (HNq.out.keep HX.out) hjt
          obtain ⟨g8, o8, z', hA8, hz', hg8, v1⟩ := Nums.get (HNq2.out.keep HX.out) hjt
          rw [hz] at hz'
          obtain rfl := Option.some.inj hz'
          subst hA7 hA8
          have y2 := (Below.cell (p := ⟨g5, off + i * 3 + 2, none⟩) HX.out hgq).trans k2
          have n2 := (Below.cell (p := ⟨g6, off2 + i * 3 + 2, none⟩) HX.out hgq2).trans m2
          have l1 : (0 : Int) ≤ (j : Int) := by omega
          have l2 : (j : Int) < (k : Int) := by omega
          have l3 : ((j : Int)).toNat = j := by omega
          clear hz hz' k2 m2
          go_upto_region 11 with fail
          go_quiet (fail)
          go_wp2_with fail
          go_roundw
          case rel => exact ⟨j + 1, by go_num, by omega, Lib.hid (HX.out.trans ((Joins.below_draws _ _ _).mono HX.out.size))⟩
          case measure => simp [intOf]; omega
        · have hjk : j = k := by omega
          have HB3 := Lib.hid (HB2.out.trans (HX.out.mono HB2.out.size))
          have l2 : decide ((j : Int) < (k : Int)) = false := decide_eq_false (by omega)
          go_wp2_with fail
          go_roundw
          case rel => exact ⟨i + 1, by go_num, by omega, HB3.out⟩
          case measure => simp [intOf]; omega
    · go_wp2_with fail
      go_ret
      exact ⟨rfl, HB.out⟩
end Go.Proofs.YtonfjjmgjgmanaaGreat
namespace Corr
set_option maxRecDepth 8000
open Go Go.RowKit
set_option linter.unusedVariables false
def kA : Int → Int := atL (putAll [(2, 4, 5)])
def kB : Int → Int := atL (putAll [(3, 6, 7)])
theorem kA_eq (d : Int) : kA d = if 2 ≤ d ∧ d < 4 then 5 else 0 := by
  unfold kA
  rw [show putAll [(2, 4, 5)] = [(2, 4, 5)] by decide]
  rw [show ([(2, 4, 5)] : ItL) = [] ++ [(2, 4, 5)] from rfl, rfAt_snoc]
  by_cases h : 2 ≤ d ∧ d < 4
  · rw [if_pos (onB_iff.2 h), if_pos h]
  · rw [if_neg (fun e => h (onB_iff.1 e)), if_neg h]; rfl
theorem kB_eq (d : Int) : kB d = if 3 ≤ d ∧ d < 6 then 7 else 0 := by
  unfold kB
  rw [show putAll [(3, 6, 7)] = [(3, 6, 7)] by decide]
  rw [show ([(3, 6, 7)] : ItL) = [] ++ [(3, 6, 7)] from rfl, rfAt_snoc]
  by_cases h : 3 ≤ d ∧ d < 6
  · rw [if_pos (onB_iff.2 h), if_pos h]
  · rw [if_neg (fun e => h (onB_iff.1 e)), if_neg h]; rfl
def kPts : PtL := [(1, 2, [0, 0]), (2, 3, [5, 0]), (3, 4, [5, 7]), (4, 6, [0, 7])]
theorem kparts : partsF [kA, kB] 1 6 kPts := by
  unfold partsF
  rw [if_pos (by decide)]
  unfold kPts
  refine ⟨rfl, by decide, fun d h1 h2 => ?_, ?_, rfl, by decide, fun d h1 h2 => ?_, ?_, rfl, by decide, fun d h1 h2 => ?_, ?_, rfl, by decide, fun d h1 h2 => ?_, ?_, rfl⟩
  · have h1 : 1 ≤ d := h1; have h2 : d < 2 := h2
    simp only [List.map_cons, List.map_nil, kA_eq, kB_eq]
    rw [if_neg (by omega), if_neg (by omega)]
  · intro t ht; have : (2, 3, [5, 0]) = t := by simpa using ht
    rw [← this]; decide
  · have h1 : 2 ≤ d := h1; have h2 : d < 3 := h2
    simp only [List.map_cons, List.map_nil, kA_eq, kB_eq]
    rw [if_pos (by omega), if_neg (by omega)]
  · intro t ht; have : (3, 4, [5, 7]) = t := by simpa using ht
    rw [← this]; decide
  · have h1 : 3 ≤ d := h1; have h2 : d < 4 := h2
    simp only [List.map_cons, List.map_nil, kA_eq, kB_eq]
    rw [if_pos (by omega), if_pos (by omega)]
  · intro t ht; have : (4, 6, [0, 7]) = t := by simpa using ht
    rw [← this]; decide
  · have h1 : 4 ≤ d := h1; have h2 : d < 6 := h2
    simp only [List.map_cons, List.map_nil, kA_eq, kB_eq]
    rw [if_neg (by omega), if_pos (by omega)]
  · intro t ht; simp at ht
theorem kdif : difS kA kB 1 9 [(2, 6)] := by
  unfold difS
  rw [if_pos (by decide)]
  refine ⟨[(1, 2, false), (2, 6, true), (6, 9, false)], ⟨rfl, by decide, fun d h1 h2 => ?_, ?_, rfl, by decide, fun d h1 h2 => ?_, ?_, rfl, by decide, fun d h1 h2 => ?_, ?_, rfl⟩, rfl⟩
  · have h1 : 1 ≤ d := h1; have h2 : d < 2 := h2
    simp only [kA_eq, kB_eq]
    rw [if_neg (by omega), if_neg (by omega)]; rfl
  · intro t ht; have : (2, 6, true) = t := by simpa using ht
    rw [← this]; decide
  · have h1 : 2 ≤ d := h1; have h2 : d < 6 := h2
    simp only [kA_eq, kB_eq]
    refine decide_eq_true ?_
    split <;> split <;> omega
  · intro t ht; have : (6, 9, false) = t := by simpa using ht
    rw [← this]; decide
  · have h1 : 6 ≤ d := h1; have h2 : d < 9 := h2
    simp only [kA_eq, kB_eq]
    rw [if_neg (by omega), if_neg (by omega)]; rfl
  · intro t ht; simp at ht
theorem blk_itm {w : World} {k n : Nat} {l : ItL} (B : Blk w k (cells3 l).toArray) (hn : l.length = n) : Itm w (some ⟨k, 0, none⟩) n n l :=
  ⟨by rw [cells3_len, hn], Nat.le_refl _, fun _ => ⟨k, 0, rfl, B.sz, fun i v hi => by simpa using B.get i (v := v) (by simpa using hi)⟩⟩
theorem blk_nums {w : World} {k n : Nat} {l : List Int} (B : Blk w k (ints l).toArray) (hn : l.length = n) : Nums w (some ⟨k, 0, none⟩) n n l :=
  ⟨by rw [ints_len, hn]; omega, Nat.le_refl _, fun _ => ⟨k, 0, rfl, B.sz, fun i v hi => by simpa using B.get i (v := v) (by simpa using hi)⟩⟩
theorem blk_spn {w : World} {k n : Nat} {l : SpL} (B : Blk w k (cells2 l).toArray) (hn : l.length = n) : Spn w (some ⟨k, 0, none⟩) n n l :=
  ⟨by rw [cells2_len, hn], Nat.le_refl _, fun _ => ⟨k, 0, rfl, B.sz, fun i v hi => by simpa using B.get i (v := v) (by simpa using hi)⟩⟩
theorem blk_pts {w : World} {k k1 k2 k3 k4 : Nat} (B1 : Blk w k1 #[.int .i64 0, .int .i64 0]) (B2 : Blk w k2 #[.int .i64 5, .int .i64 0]) (B3 : Blk w k3 #[.int .i64 5, .int .i64 7]) (B4 : Blk w k4 #[.int .i64 0, .int .i64 7])
    (B : Blk w k #[.int .i64 1, .int .i64 2, .slice (some ⟨k1, 0, none⟩) 2 2, .int .i64 2, .int .i64 3, .slice (some ⟨k2, 0, none⟩) 2 2, .int .i64 3, .int .i64 4, .slice (some ⟨k3, 0, none⟩) 2 2, .int .i64 4, .int .i64 6, .slice (some ⟨k4, 0, none⟩) 2 2]) : PtR w (some ⟨k, 0, none⟩) 4 4 kPts := by
  refine ⟨[(1, 2, .slice (some ⟨k1, 0, none⟩) 2 2), (2, 3, .slice (some ⟨k2, 0, none⟩) 2 2), (3, 4, .slice (some ⟨k3, 0, none⟩) 2 2), (4, 6, .slice (some ⟨k4, 0, none⟩) 2 2)], ⟨rfl, Nat.le_refl _, fun _ => ⟨k, 0, rfl, B.sz, fun i v hi => by simpa using B.get i (v := v) hi⟩⟩, rfl, ?_⟩
  intro i q p h1 h2
  unfold kPts at h2
  match i, h1, h2 with
  | 0, h1, h2 =>
    have e1 := Option.some.inj h1; have e2 := Option.some.inj h2
    subst e1 e2
    exact ⟨rfl, rfl, _, _, _, rfl, blk_nums B1 rfl⟩
  | 1, h1, h2 =>
    have e1 := Option.some.inj h1; have e2 := Option.some.inj h2
    subst e1 e2
    exact ⟨rfl, rfl, _, _, _, rfl, blk_nums B2 rfl⟩
  | 2, h1, h2 =>
    have e1 := Option.some.inj h1; have e2 := Option.some.inj h2
    subst e1 e2
    exact ⟨rfl, rfl, _, _, _, rfl, blk_nums B3 rfl⟩
  | 3, h1, h2 =>
    have e1 := Option.some.inj h1; have e2 := Option.some.inj h2
    subst e1 e2
    exact ⟨rfl, rfl, _, _, _, rfl, blk_nums B4 rfl⟩
  | i + 4, h1, h2 => simp at h2
end Corr
namespace Go.Proofs.YtonfjjmgjgmanaaGreat
set_option maxRecDepth 8000
open Go.RowKit Corr
set_option linter.unusedVariables false
set_option linter.unusedSimpArgs false
set_option maxHeartbeats 4000000 in
theorem rfknown_any {Rep : RepL} (K : RfK Rep) (w : World) : Calls Tryz.prog 5 #[] w fun e w' => e = .returned (.bool true) ∧ Below w.heap.size w w' := by
  have HK := Lib.hid K
  have HS0 := Lib.hid (show Sep w [blkT w.heap.size #[.int .i64 2, .int .i64 4, .int .i64 5]] _ from (Sep.nil w).push #[.int .i64 2, .int .i64 4, .int .i64 5] 50)
  clear K
  go_enter Tryz.func5, Tryz.ntmps5
  go_wp2_with fail
  refine (made12_any HK.out.toTlK0 HS0.out (some ⟨w.heap.size, 0, none⟩) 1 1 [(2, 4, 5)] (fun us wx h => blk_itm (h.b 0 rfl) rfl) (by decide)).mono ?_
  rintro e w1 ⟨qa, ga, rfl, s1⟩
  have HS1 := Lib.hid (s1.push #[.int .i64 3, .int .i64 6, .int .i64 7] 50)
  clear s1
  go_wp2_with fail
  refine (made12_any HK.out.toTlK0 HS1.out (some ⟨w1.heap.size, 0, none⟩) 1 1 [(3, 6, 7)] (fun us wx h => blk_itm (h.b 3 rfl) rfl) (by decide)).mono ?_
  rintro e w3 ⟨qb, gb, rfl, s3⟩
  have HS3 := Lib.hid (s3.push #[.pointer (some qa), .pointer (some qb)] 27)
  clear s3
  go_wp2_with fail
  have B3 := HS3.out.b 6 (k := w3.heap.size) (vs := #[.pointer (some qa), .pointer (some qb)]) rfl
  refine (HK.out.parts _ (some ⟨w3.heap.size, 0, none⟩) 2 2 [(.pointer (some qa), 1, kA), (.pointer (some qb), 1, kB)] 1 6 ⟨rfl, Nat.le_refl _, fun _ => ⟨w3.heap.size, 0, rfl, B3.sz, fun i v hi => by simpa using B3.get i (v := v) hi⟩⟩ (fun x hx => by
    rcases List.mem_cons.1 hx with rfl | hx
    · obtain ⟨F, h, _⟩ := HS3.out.get (i := 1) rfl
      exact ⟨F, h, show 1 ≤ 300 by decide⟩
    · have : x = (.pointer (some qb), 1, kB) := by simpa using hx
      subst this
      obtain ⟨F, h, _⟩ := HS3.out.get (i := 4) rfl
      exact ⟨F, h, show 1 ≤ 300 by decide⟩) (by decide)).mono ?_
  rintro e w5 ⟨qs, ps, A, n, c, rfl, hp, ho, hin, hb⟩
  obtain rfl : ps = kPts := partsF_one hp kparts
  have HR5 := Lib.hid (show PtR w5 A n c kPts from ⟨qs, own_lies ho, hin⟩)
  have h5 := HS3.out.keep hb
  have h6 := ((((h5.push #[.int .i64 0, .int .i64 0] 3).push #[.int .i64 5, .int .i64 0] 3).push #[.int .i64 5, .int .i64 7] 3).push #[.int .i64 0, .int .i64 7] 3).push #[.int .i64 1, .int .i64 2, .slice (some ⟨w5.heap.size, 0, none⟩) 2 2, .int .i64 2, .int .i64 3, .slice (some ⟨w5.heap.size + 1, 0, none⟩) 2 2, .int .i64 3, .int .i64 4, .slice (some ⟨w5.heap.size + 1 + 1, 0, none⟩) 2 2, .int .i64 4, .int .i64 6, .slice (some ⟨w5.heap.size + 1 + 1 + 1, 0, none⟩) 2 2] 56
  simp only [size_alloc] at h6
  have HS6 := Lib.hid h6
  have b5 := (((((Below.refl w5.heap.size w5).alloc (Nat.le_refl _) (.cells #[.int .i64 0, .int .i64 0] 3)).alloc (by simp) (.cells #[.int .i64 5, .int .i64 0] 3)).alloc (by simp; omega) (.cells #[.int .i64 5, .int .i64 7] 3)).alloc (by simp; omega) (.cells #[.int .i64 0, .int .i64 7] 3)).alloc (by simp; omega) (.cells #[.int .i64 1, .int .i64 2, .slice (some ⟨w5.heap.size, 0, none⟩) 2 2, .int .i64 2, .int .i64 3, .slice (some ⟨w5.heap.size + 1, 0, none⟩) 2 2, .int .i64 3, .int .i64 4, .slice (some ⟨w5.heap.size + 1 + 1, 0, none⟩) 2 2, .int .i64 4, .int .i64 6, .slice (some ⟨w5.heap.size + 1 + 1 + 1, 0, none⟩) 2 2] 56)
  have HR6 := Lib.hid (HR5.out.keep b5)
  clear hp ho hin hb h5 h6 b5 B3 HR5 HS0 HS1 HS3
  go_wp2_with fail
  refine (same12_yes HR6.out (blk_pts (HS6.out.b 7 rfl) (HS6.out.b 8 rfl) (HS6.out.b 9 rfl) (HS6.out.b 10 rfl) (HS6.out.b 11 rfl)) (by decide) (by decide)).mono ?_
  rintro e w7 ⟨rfl, b7⟩
  have HS7 := Lib.hid (HS6.out.keep b7)
  clear b7 HS6 HR6
  have hdf := (show Calls Tryz.prog 8 #[.pointer (some qa), .pointer (some qb), .agg #[.int .i64 1, .int .i64 9]] w7 (RetDif 24 w7 kA kB 1 9) from by
    obtain ⟨F, hA, _⟩ := HS7.out.get (i := 1) rfl
    obtain ⟨G, hB, _⟩ := HS7.out.get (i := 4) rfl
    exact HK.out.differ w7 _ _ F G 1 1 kA kB 1 9 hA hB (by decide) (by decide))
  go_wp2_with fail
  refine hdf.mono ?_
  clear hdf
  rintro e w8 ⟨out, A8, n8, c8, rfl, hd, ho, hb⟩
  obtain rfl : out = [(2, 6)] := difS_one hd kdif
  have h8 := (HS7.out.keep hb).push #[.int .i64 2, .int .i64 6] 24
  have HS8 := Lib.hid h8
  have HR8 := Lib.hid (show Spn _ A8 n8 c8 [(2, 6)] from (own_lies ho).keep ((Below.refl w8.heap.size w8).alloc (Nat.le_refl _) (.cells #[.int .i64 2, .int .i64 6] 24)))
  clear hd ho hb h8 HS7
  go_wp2_with fail
  refine (spans12_yes HR8.out (blk_spn (n := 1) (HS8.out.b 12 rfl) rfl) (by decide)).mono ?_
  rintro e w9 ⟨rfl, b9⟩
  have HS9 := Lib.hid (HS8.out.keep b9)
  clear b9 HS8 HR8
  have hmv := (show Calls Tryz.prog 10 #[.pointer (some qa), .int .i64 3] w9 _ from by
    obtain ⟨F, hA, _⟩ := HS9.out.get (i := 1) rfl
    exact HK.out.moved w9 _ F 1 kA 3 hA (by decide) (by decide) (by decide))
  go_wp2_with fail
  refine hmv.mono ?_
  clear hmv
  rintro e w10 ⟨q, F, rfl, hr, hb, _⟩
  have HS10 := Lib.hid (HS9.out.keep hb)
  have hat := HK.out.at_ w10 _ F _ _ 5 hr (by decide)
  rw [show mvF kA 3 5 = 5 from rfl] at hat
  clear hb hr HS9
  go_wp2_with fail
  refine hat.mono ?_
  rintro e w11 ⟨rfl, b11⟩
  have HB := Lib.hid (HS10.out.keep b11).bl
  clear b11 hat
  go_wp2_with fail
  go_ret
  exact ⟨rfl, HB.out⟩
end Go.Proofs.YtonfjjmgjgmanaaGreat
