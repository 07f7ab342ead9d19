/- Contracts of corrodyref07: Two, Of. -/
import Derived.Test.YtmolbckndkhhlaaSp5
namespace Corr
set_option maxRecDepth 8000
open Go Go.RowKit
/-- Which days to take. -/
def takeB (kind : Int) (x y : Bool) : Bool := if kind = 0 then x || y else if kind = 1 then x && y else x && !y
/-- At each end. -/
def markL (kind : Int) (a b : SpL) (es : List Int) : List Bool := es.map fun e => takeB kind (hasB a e) (hasB b e)
def endsAB (a b : SpL) : List Int := endsL (endsL [] a) b
/-- What Two tells. -/
def twoL (kind : Int) (a b : SpL) : SpL := rightK (endsAB a b) (markL kind a b (endsAB a b)) ((endsAB a b).length - 1)
theorem endsAB_len (a b : SpL) : (endsAB a b).length ≤ 2 * a.length + 2 * b.length := by
  have h1 := endsL_len (endsL [] a) b
  have h2 := endsL_len [] a
  unfold endsAB
  simp at h2; omega
theorem mark_more {kind : Int} {a b : SpL} {es : List Int} {k : Nat} {e : Int} (h : es[k]? = some e) : truths (markL kind a b (es.take (k + 1))) = truths (markL kind a b (es.take k)) ++ [.bool (takeB kind (hasB a e) (hasB b e))] := by
  unfold markL
  rw [List.take_add_one, h, List.map_append, truths_append]; rfl
end Corr
namespace Go.Proofs.Ytmolbckndkhhlaa
set_option maxRecDepth 8000
open Go.RowKit Corr
set_option linter.unusedVariables false
set_option linter.unusedSimpArgs false
theorem elem_bool : Elem Try.prog 47 4 (.bool false) 1 1 := by
  obtain ⟨i, h0, h1, h2, h3⟩ := info_parts (show (Try.prog.info? 4).map (fun i => (i.zero, i.size, i.bytes)) = some (some (.bool false), 1, 1) by kernel_rfl)
  exact ⟨Try.underlying47, ⟨i, h0, h1, h2, h3⟩, rfl, by decide⟩
theorem has_at (A : Option Addr) (n c : Nat) (l : SpL) (day : Int) (w0 w : World) (R : Spn w0 A n c l) (hn : n ≤ 1000000) (q : Nat) (hq : w = w0.drewN q) : Calls Try.prog 21 #[.slice A n c, .int .i64 day] w fun e w' => e = .returned (.bool (hasB l day)) ∧ w' = w := by
  refine (has_any A n c l day w (R.keep (hq ▸ Joins.below_draws _ _ _)) hn).mono ?_
  rintro e w' ⟨rfl, rfl⟩
  exact ⟨rfl, rfl⟩
set_option maxHeartbeats 4000000 in
theorem two_any (A B : Option Addr) (N c M d : Nat) (a b : SpL) (kind : Int) (w : World) (R : Spn w A N c a) (S : Spn w B M d b) (hN : N ≤ 200) (hM : M ≤ 200) : Calls Try.prog 15 #[.slice A N c, .slice B M d, .int .i64 kind] w (RetSpn 37 w (twoL kind a b)) := by
  have HR := Lib.hid R
  have HS := Lib.hid S
  have K1 := Lib.hid (ends_any none A 0 0 N c [] a w (Lies.nil_ w 1) R (by omega) (by omega))
  have hlA : (endsL [] a).length ≤ 400 := by have := endsL_len [] a; have := R.count; simp at *; omega
  have HLA := Lib.hid hlA
  have HAB := Lib.hid (show (endsAB a b).length ≤ 800 by have := endsAB_len a b; have := R.count; have := S.count; omega)
  clear R S hlA
  go_enter Try.func15, Try.ntmps15
  go_wp2_with fail
  refine K1.out.mono ?_
  rintro e w1 ⟨E1, n1, c1, rfl, R1, b1⟩
  have h1 : n1 ≤ 400 := by have := Nums.count R1; have := HLA.out; omega
  have K2 := Lib.hid (ends_any E1 B n1 c1 M d (endsL [] a) b w1 R1 (HS.out.keep b1) (by omega) (by omega))
  clear K1
  go_wp2_with fail
  refine K2.out.mono ?_
  rintro e w2 ⟨E2, n2, c2, rfl, R2, b2⟩
  have h2 : n2 ≤ 800 := by have := Nums.count R2; have := HAB.out; unfold endsAB at this; omega
  have HB2 := Lib.hid (b1.trans (b2.mono b1.size))
  have HR2 := Lib.hid (show Nums w2 E2 n2 c2 (endsAB a b) from R2)
  have HC2 := Lib.hid (show (endsAB a b).length = n2 from Nums.count R2)
  clear K2 b1 b2 R1 R2 h1
  go_wp2_with fail
  have HT := Lib.hid (show twoL kind a b = rightK (endsAB a b) (markL kind a b (endsAB a b)) (n2 - 1) by unfold twoL; rw [HC2.out])
  generalize endsAB a b = es at *
  go_loopw [8, 9] (fun v t wr => ∃ (k : Nat), t = .int .i64 (k : Int) ∧ k ≤ n2 ∧ wr.ownsRow w2.heap.size 4 1 v k (truths (markL kind a b (es.take k))) ∧ Below w2.heap.size w2 wr) (fun _ t _ => (n2 - intOf t).toNat)
  case atStart => exact ⟨0, rfl, by omega, World.ownsRow_nil _ _ _ _, Below.refl _ _⟩
  case round =>
    obtain ⟨k, rfl, hk, hown, hb⟩ := hrel
    have HB := Lib.hid hb
    have hsz := hb.size
    have HOB := Lib.hid (own_ge hown)
    clear hb
    by_cases hlt : k < n2
    · obtain ⟨g, off, e, rfl, he, hg, c0⟩ := Nums.get (HR2.out.keep HB.out) hlt
      have HM := Lib.hid (mark_more (kind := kind) (a := a) (b := b) he)
      clear he
      have HE := Lib.hid (show Below w.heap.size w wr from HB2.out.trans (HB.out.mono HB2.out.size))
      have H1 := Lib.hid (fun q => has_at A N c a e wr (wr.drewN q) (HR.out.keep HE.out) (by omega) q rfl)
      have H2 := Lib.hid (fun q => has_at B M d b e wr (wr.drewN q) (HS.out.keep HE.out) (by omega) q rfl)
      generalize hasB a e = x at *
      generalize hasB b e = y at *
      go_upto_region 6 with fail
      go_quiet ((go_at_call 21; first | with_reducible exact Calls.quiet_of_same (H1.out _) | with_reducible exact Calls.quiet_of_same (H2.out _)))
      have hown := own_keep hown (Joins.below_draws _ wr nq)
      have HBQ := Lib.hid (HB.out.trans (Joins.below_draws _ wr nq))
      have hsz : w2.heap.size ≤ (wr.drewN nq).heap.size := HBQ.out.size
      generalize wr.drewN nq = wq at *
      clear H1 H2 c0 hg
      by_cases k0 : kind = 0
      · have d0 : (kind == 0) = true := by simpa using k0
        have HK0 := Lib.hid (show ∀ x y, takeB kind x y = (x || y) by intro x y; unfold takeB; rw [if_pos k0])
        rw [HK0.out] at HM
        clear k0
        cases x <;> cases y
        · go_wp2_with (at_builtin; refine wpList_app rfl _ _ 47 rfl [.bool (false)] elem_bool rfl (hown.alloc _) rfl rfl (fun _ => ⟨_, rfl, new_cells wq [.bool (false)] 4⟩) (truths_one [false]) (by omega) (by unfold maxLen; omega) (by simp; omega) ?_)
          intro v1 v2 hown1 hgrow
          have HB3 := Lib.hid ((HBQ.out.alloc hsz _).grown hgrow (by simp; omega) HOB.out)
          have HO3 := Lib.hid (show v2.ownsRow w2.heap.size 4 1 v1 (k + 1) (truths (markL kind a b (es.take (k + 1)))) by rw [HM.out]; exact hown1)
          clear hown1 hgrow hown
          go_wp2_with fail
          go_roundw
          case rel => exact ⟨k + 1, by go_num, by omega, HO3.out, HB3.out⟩
          case measure => simp [intOf]; omega
        · go_wp2_with (at_builtin; refine wpList_app rfl _ _ 47 rfl [.bool (true)] elem_bool rfl (hown.alloc _) rfl rfl (fun _ => ⟨_, rfl, new_cells wq [.bool (true)] 4⟩) (truths_one [true]) (by omega) (by unfold maxLen; omega) (by simp; omega) ?_)
          intro v1 v2 hown1 hgrow
          have HB3 := Lib.hid ((HBQ.out.alloc hsz _).grown hgrow (by simp; omega) HOB.out)
          have HO3 := Lib.hid (show v2.ownsRow w2.heap.size 4 1 v1 (k + 1) (truths (markL kind a b (es.take (k + 1)))) by rw [HM.out]; exact hown1)
          clear hown1 hgrow hown
          go_wp2_with fail
          go_roundw
          case rel => exact ⟨k + 1, by go_num, by omega, HO3.out, HB3.out⟩
          case measure => simp [intOf]; omega
        · go_wp2_with (at_builtin; refine wpList_app rfl _ _ 47 rfl [.bool (true)] elem_bool rfl (hown.alloc _) rfl rfl (fun _ => ⟨_, rfl, new_cells wq [.bool (true)] 4⟩) (truths_one [true]) (by omega) (by unfold maxLen; omega) (by simp; omega) ?_)
          intro v1 v2 hown1 hgrow
          have HB3 := Lib.hid ((HBQ.out.alloc hsz _).grown hgrow (by simp; omega) HOB.out)
          have HO3 := Lib.hid (show v2.ownsRow w2.heap.size 4 1 v1 (k + 1) (truths (markL kind a b (es.take (k + 1)))) by rw [HM.out]; exact hown1)
          clear hown1 hgrow hown
          go_wp2_with fail
          go_roundw
          case rel => exact ⟨k + 1, by go_num, by omega, HO3.out, HB3.out⟩
          case measure => simp [intOf]; omega
        · go_wp2_with (at_builtin; refine wpList_app rfl _ _ 47 rfl [.bool (true)] elem_bool rfl (hown.alloc _) rfl rfl (fun _ => ⟨_, rfl, new_cells wq [.bool (true)] 4⟩) (truths_one [true]) (by omega) (by unfold maxLen; omega) (by simp; omega) ?_)
          intro v1 v2 hown1 hgrow
          have HB3 := Lib.hid ((HBQ.out.alloc hsz _).grown hgrow (by simp; omega) HOB.out)
          have HO3 := Lib.hid (show v2.ownsRow w2.heap.size 4 1 v1 (k + 1) (truths (markL kind a b (es.take (k + 1)))) by rw [HM.out]; exact hown1)
          clear hown1 hgrow hown
          go_wp2_with fail
          go_roundw
          case rel => exact ⟨k + 1, by go_num, by omega, HO3.out, HB3.out⟩
          case measure => simp [intOf]; omega
      · have d0 : (kind == 0) = false := by simpa using k0
        by_cases k1 : kind = 1
        · have d1 : (kind == 1) = true := by simpa using k1
          have HK0 := Lib.hid (show ∀ x y, takeB kind x y = (x && y) by intro x y; unfold takeB; rw [if_neg k0, if_pos k1])
          rw [HK0.out] at HM
          clear k0 k1
          cases x <;> cases y
          · go_wp2_with (at_builtin; refine wpList_app rfl _ _ 47 rfl [.bool (false)] elem_bool rfl (hown.alloc _) rfl rfl (fun _ => ⟨_, rfl, new_cells wq [.bool (false)] 4⟩) (truths_one [false]) (by omega) (by unfold maxLen; omega) (by simp; omega) ?_)
            intro v1 v2 hown1 hgrow
            have HB3 := Lib.hid ((HBQ.out.alloc hsz _).grown hgrow (by simp; omega) HOB.out)
            have HO3 := Lib.hid (show v2.ownsRow w2.heap.size 4 1 v1 (k + 1) (truths (markL kind a b (es.take (k + 1)))) by rw [HM.out]; exact hown1)
            clear hown1 hgrow hown
            go_wp2_with fail
            go_roundw
            case rel => exact ⟨k + 1, by go_num, by omega, HO3.out, HB3.out⟩
            case measure => simp [intOf]; omega
          · go_wp2_with (at_builtin; refine wpList_app rfl _ _ 47 rfl [.bool (false)] elem_bool rfl (hown.alloc _) rfl rfl (fun _ => ⟨_, rfl, new_cells wq [.bool (false)] 4⟩) (truths_one [false]) (by omega) (by unfold maxLen; omega) (by simp; omega) ?_)
            intro v1 v2 hown1 hgrow
            have HB3 := Lib.hid ((HBQ.out.alloc hsz _).grown hgrow (by simp; omega) HOB.out)
            have HO3 := Lib.hid (show v2.ownsRow w2.heap.size 4 1 v1 (k + 1) (truths (markL kind a b (es.take (k + 1)))) by rw [HM.out]; exact hown1)
            clear hown1 hgrow hown
            go_wp2_with fail
            go_roundw
            case rel => exact ⟨k + 1, by go_num, by omega, HO3.out, HB3.out⟩
            case measure => simp [intOf]; omega
          · go_wp2_with (at_builtin; refine wpList_app rfl _ _ 47 rfl [.bool (false)] elem_bool rfl (hown.alloc _) rfl rfl (fun _ => ⟨_, rfl, new_cells wq [.bool (false)] 4⟩) (truths_one [false]) (by omega) (by unfold maxLen; omega) (by simp; omega) ?_)
            intro v1 v2 hown1 hgrow
            have HB3 := Lib.hid ((HBQ.out.alloc hsz _).grown hgrow (by simp; omega) HOB.out)
            have HO3 := Lib.hid (show v2.ownsRow w2.heap.size 4 1 v1 (k + 1) (truths (markL kind a b (es.take (k + 1)))) by rw [HM.out]; exact hown1)
            clear hown1 hgrow hown
            go_wp2_with fail
            go_roundw
            case rel => exact ⟨k + 1, by go_num, by omega, HO3.out, HB3.out⟩
            case measure => simp [intOf]; omega
          · go_wp2_with (at_builtin; refine wpList_app rfl _ _ 47 rfl [.bool (true)] elem_bool rfl (hown.alloc _) rfl rfl (fun _ => ⟨_, rfl, new_cells wq [.bool (true)] 4⟩) (truths_one [true]) (by omega) (by unfold maxLen; omega) (by simp; omega) ?_)
            intro v1 v2 hown1 hgrow
            have HB3 := Lib.hid ((HBQ.out.alloc hsz _).grown hgrow (by simp; omega) HOB.out)
            have HO3 := Lib.hid (show v2.ownsRow w2.heap.size 4 1 v1 (k + 1) (truths (markL kind a b (es.take (k + 1)))) by rw [HM.out]; exact hown1)
            clear hown1 hgrow hown
            go_wp2_with fail
            go_roundw
            case rel => exact ⟨k + 1, by go_num, by omega, HO3.out, HB3.out⟩
            case measure => simp [intOf]; omega
        · have d1 : (kind == 1) = false := by simpa using k1
          have HK0 := Lib.hid (show ∀ x y, takeB kind x y = (x && !y) by intro x y; unfold takeB; rw [if_neg k0, if_neg k1])
          rw [HK0.out] at HM
          clear k0 k1
          cases x <;> cases y
          · go_wp2_with (at_builtin; refine wpList_app rfl _ _ 47 rfl [.bool (false)] elem_bool rfl (hown.alloc _) rfl rfl (fun _ => ⟨_, rfl, new_cells wq [.bool (false)] 4⟩) (truths_one [false]) (by omega) (by unfold maxLen; omega) (by simp; omega) ?_)
            intro v1 v2 hown1 hgrow
            have HB3 := Lib.hid ((HBQ.out.alloc hsz _).grown hgrow (by simp; omega) HOB.out)
            have HO3 := Lib.hid (show v2.ownsRow w2.heap.size 4 1 v1 (k + 1) (truths (markL kind a b (es.take (k + 1)))) by rw [HM.out]; exact hown1)
            clear hown1 hgrow hown
            go_wp2_with fail
            go_roundw
            case rel => exact ⟨k + 1, by go_num, by omega, HO3.out, HB3.out⟩
            case measure => simp [intOf]; omega
          · go_wp2_with (at_builtin; refine wpList_app rfl _ _ 47 rfl [.bool (false)] elem_bool rfl (hown.alloc _) rfl rfl (fun _ => ⟨_, rfl, new_cells wq [.bool (false)] 4⟩) (truths_one [false]) (by omega) (by unfold maxLen; omega) (by simp; omega) ?_)
            intro v1 v2 hown1 hgrow
            have HB3 := Lib.hid ((HBQ.out.alloc hsz _).grown hgrow (by simp; omega) HOB.out)
            have HO3 := Lib.hid (show v2.ownsRow w2.heap.size 4 1 v1 (k + 1) (truths (markL kind a b (es.take (k + 1)))) by rw [HM.out]; exact hown1)
            clear hown1 hgrow hown
            go_wp2_with fail
            go_roundw
            case rel => exact ⟨k + 1, by go_num, by omega, HO3.out, HB3.out⟩
            case measure => simp [intOf]; omega
          · go_wp2_with (at_builtin; refine wpList_app rfl _ _ 47 rfl [.bool (true)] elem_bool rfl (hown.alloc _) rfl rfl (fun _ => ⟨_, rfl, new_cells wq [.bool (true)] 4⟩) (truths_one [true]) (by omega) (by unfold maxLen; omega) (by simp; omega) ?_)
            intro v1 v2 hown1 hgrow
            have HB3 := Lib.hid ((HBQ.out.alloc hsz _).grown hgrow (by simp; omega) HOB.out)
            have HO3 := Lib.hid (show v2.ownsRow w2.heap.size 4 1 v1 (k + 1) (truths (markL kind a b (es.take (k + 1)))) by rw [HM.out]; exact hown1)
            clear hown1 hgrow hown
            go_wp2_with fail
            go_roundw
            case rel => exact ⟨k + 1, by go_num, by omega, HO3.out, HB3.out⟩
            case measure => simp [intOf]; omega
          · go_wp2_with (at_builtin; refine wpList_app rfl _ _ 47 rfl [.bool (false)] elem_bool rfl (hown.alloc _) rfl rfl (fun _ => ⟨_, rfl, new_cells wq [.bool (false)] 4⟩) (truths_one [false]) (by omega) (by unfold maxLen; omega) (by simp; omega) ?_)
            intro v1 v2 hown1 hgrow
            have HB3 := Lib.hid ((HBQ.out.alloc hsz _).grown hgrow (by simp; omega) HOB.out)
            have HO3 := Lib.hid (show v2.ownsRow w2.heap.size 4 1 v1 (k + 1) (truths (markL kind a b (es.take (k + 1)))) by rw [HM.out]; exact hown1)
            clear hown1 hgrow hown
            go_wp2_with fail
            go_roundw
            case rel => exact ⟨k + 1, by go_num, by omega, HO3.out, HB3.out⟩
            case measure => simp [intOf]; omega
    · have hkn : k = n2 := by omega
      subst hkn
      obtain ⟨A3, d3, rfl, L3⟩ := Lies.of_own hown (by have := hown.1; exact this)
      have HLE := Lib.hid (show es.take k = es from List.take_of_length_le (by rw [HC2.out]; exact Nat.le_refl _))
      rw [HLE.out] at L3
      have K3 := Lib.hid (right_any E2 A3 k c2 k d3 es (markL kind a b es) wr (HR2.out.keep HB.out) L3 (by omega) (Nat.le_refl _))
      have HE := Lib.hid (show Below w.heap.size w wr from HB2.out.trans (HB.out.mono HB2.out.size))
      clear hown L3
      go_wp2_with fail
      refine K3.out.mono ?_
      rintro e w4 ⟨A4, n4, c4, rfl, R4, b4⟩
      have HF := Lib.hid (show Below w.heap.size w w4 from HE.out.trans (b4.mono HE.out.size))
      clear b4
      go_wp2_with fail
      go_ret
      exact ⟨_, _, _, rfl, by rw [HT.out]; exact own_low R4 HE.out.size, HF.out⟩
theorem of_any (A : Option Addr) (N c : Nat) (a : SpL) (w : World) (R : Spn w A N c a) (hN : N ≤ 200) : Calls Try.prog 13 #[.slice A N c] w (RetSpn 37 w (twoL 0 a [])) := by
  have K1 := Lib.hid (two_any A none N c 0 0 a [] 0 w R (Lies.nil_ w 2) hN (by omega))
  clear R
  go_enter Try.func13, Try.ntmps13
  go_wp2_with fail
  refine K1.out.mono ?_
  rintro e w1 ⟨E1, n1, c1, rfl, R1, b1⟩
  go_wp2_with fail
  go_ret
  exact ⟨_, _, _, rfl, R1, b1⟩
end Go.Proofs.Ytmolbckndkhhlaa
