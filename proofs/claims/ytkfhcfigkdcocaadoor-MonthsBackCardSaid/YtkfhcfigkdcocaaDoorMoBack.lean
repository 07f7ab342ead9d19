/- The law MonthsBack. -/
import Derived.Test.YtkfhcfigkdcocaaDoorMoLaws
namespace Go.Proofs.YtkfhcfigkdcocaaDoor
set_option maxRecDepth 8000
open Go.RowKit Corr
set_option linter.unusedVariables false
set_option maxHeartbeats 4000000 in
theorem back_any (d n : Int) (w : World) (g : LV w) : Calls Tryd.prog 5 #[.int .i64 d, .int .i64 n] w fun e w' => e = .returned (.bool true) ∧ Below w.heap.size w w' := by
  have HK := Lib.hid known_any
  have G := Lib.hid g
  have none : (Calls Tryd.prog 6 #[.int .i64 d, .int .i64 n] w fun e w' => e = .returned (.tuple #[.int .i64 0, .int .i64 15]) ∧ Below w.heap.size w w') → Calls Tryd.prog 5 #[.int .i64 d, .int .i64 n] w fun e w' => e = .returned (.bool true) ∧ Below w.heap.size w w' := by
    intro h
    have HA := Lib.hid h
    clear h g
    go_enter Tryd.func5, Tryd.ntmps5
    go_wp2_with fail
    refine HA.out.mono ?_
    rintro e w1 ⟨rfl, b1⟩
    go_wp2_with fail
    refine (HK.out _ (G.out.keep b1)).mono ?_
    rintro e w5 ⟨rfl, b5⟩
    have b5 := b1.trans (b5.mono b1.size)
    go_wp2_with fail
    go_ret
    exact ⟨rfl, b5⟩
  rcases day_or d with h | ⟨y, m, k, h⟩
  · exact none (padd_no d n w h)
  · cases hx : monV (12 * y + (m - 1) + n) k with
    | mk x ok =>
      cases ok with
      | false =>
        obtain rfl := monV_none hx
        exact none (padd_in d n y m k 0 false w g h hx)
      | true =>
        clear none
        have k1 := h.1
        have hk2 := h.2.1
        obtain ⟨t1, t2, hd⟩ := monV_some hx k1
        obtain ⟨y1, y2, m1, m2⟩ := lenI_pos (show 1 ≤ lenI y m by omega)
        have A1 := Lib.hid (padd_in d n y m k x true w g h hx)
        have hmon : 12 * ((12 * y + (m - 1) + n) / 12) + ((12 * y + (m - 1) + n) % 12 + 1 - 1) = 12 * y + (m - 1) + n := by omega
        obtain ⟨z, hz⟩ : ∃ z, (12 * y + (m - 1) + n) / 12 = z := ⟨_, rfl⟩
        obtain ⟨o, ho⟩ : ∃ o, (12 * y + (m - 1) + n) % 12 + 1 = o := ⟨_, rfl⟩
        rw [hz, ho] at hd hmon
        have q28 := lenI_28 (show 1 ≤ lenI z o by have := hd.1; have := hd.2.1; omega)
        have qb := lenI_bd z o
        obtain ⟨z1, z2, o1, o2⟩ := lenI_pos (show 1 ≤ lenI z o by omega)
        have HL := Lib.hid (fun w => length_any z o w)
        obtain ⟨l, hl⟩ : ∃ l, (if lenI z o < k then lenI z o else k) = l := ⟨_, rfl⟩
        rw [hl] at hd
        have l1 := hd.1
        have l2 := hd.2.1
        have D1 := Lib.hid (fun w => date_at d y m k w h)
        have D2 := Lib.hid (fun w => date_at x z o l w hd)
        have B1 := Lib.hid (fun w g => pbegin_in x z o l _ w g hd (begin_mon hd))
        have B2 := Lib.hid (fun w g => pend_in x z o l _ w g hd (end_mon hd))
        obtain ⟨r, hr⟩ : ∃ r, monV (12 * z + (o - 1) + -n) l = (r, true) := ⟨_, Prod.ext rfl (monV_in (by omega) (by omega))⟩
        have A2 := Lib.hid (fun w g => padd_in x (-n) z o l r true w g hd hr)
        have HR := Lib.hid (show k ≤ 28 → r = d by
          intro hk
          rw [if_neg (by omega)] at hl
          subst hl
          rw [show 12 * z + (o - 1) + -n = 12 * y + (m - 1) by omega, monV_self h] at hr
          exact (Prod.mk.inj hr).1.symm)
        have hxb := date_in hd
        have kb : k ≤ 31 := by have := lenI_bd y m; omega
        have HD := Lib.hid hl
        have T5 : ((z * 12 + o != y * 12 + m + n) = false) := by rw [bne_eq_false_iff_eq]; omega
        have n1 : -200000 ≤ n := by omega
        have n2 : n ≤ 200000 := by omega
        obtain ⟨q, hq⟩ : ∃ q, lenI z o = q := ⟨_, rfl⟩
        rw [hq] at HL HD B2 l2 q28 qb
        have e0 : erV true = 0 := rfl
        rw [e0] at A1 A2
        clear e0
        clear h hx hd hl hr hz ho hmon hq hk2 t1 t2 g
        go_enter Tryd.func5, Tryd.ntmps5
        go_wp2_with fail
        refine A1.out.mono ?_
        rintro e w1 ⟨rfl, b1⟩
        go_wp2_with fail
        refine (D1.out _).mono ?_
        rintro e w' ⟨rfl, rfl⟩
        go_wp2_with fail
        refine (D2.out _).mono ?_
        rintro e w' ⟨rfl, rfl⟩
        go_upto_region 6 with fail
        clear D1 D2 A1
        obtain ⟨u, hu⟩ : ∃ u, x - l + 1 = u := ⟨_, rfl⟩
        obtain ⟨v, hv⟩ : ∃ v, x - l + q = v := ⟨_, rfl⟩
        rw [hu] at B1
        rw [hv] at B2
        have U1 := Lib.hid (show decide (u ≤ x) = true from decide_eq_true (by omega))
        have U2 := Lib.hid (show decide (x ≤ v) = true from decide_eq_true (by omega))
        have U3 := Lib.hid (show (v - u + 1 == q) = true by rw [beq_iff_eq]; omega)
        have U4 := Lib.hid (show -4000000 ≤ u ∧ u ≤ 4000000 ∧ -4000000 ≤ v ∧ v ≤ 4000000 by omega)
        clear hxb hu hv
        go_wp2_with fail
        refine (HL.out _).mono ?_
        rintro e w' ⟨rfl, rfl⟩
        by_cases hqk : q < k
        · have hlq : l = q := by have := HD.out; rw [if_pos hqk] at this; exact this.symm
          have t6 : (l != q) = false := by rw [bne_eq_false_iff_eq]; exact hlq
          clear HD hlq
          go_wp2_with fail
          refine (B1.out _ (G.out.keep b1)).mono ?_
          rintro e w2 ⟨rfl, b2⟩
          have b2 := b1.trans (b2.mono b1.size)
          go_wp2_with fail
          refine (B2.out _ (G.out.keep b2)).mono ?_
          rintro e w3 ⟨rfl, b3⟩
          have b3 := b2.trans (b3.mono b2.size)
          go_wp2_with fail
          refine (A2.out _ (G.out.keep b3)).mono ?_
          rintro e w4 ⟨rfl, b4⟩
          have b4 := b3.trans (b4.mono b3.size)
          have u1 := U1.out
          have u2 := U2.out
          have u3 := U3.out
          obtain ⟨u4, u5, u6, u7⟩ := U4.out
          go_wp2_with fail
          refine (HL.out _).mono ?_
          rintro e w' ⟨rfl, rfl⟩
          have u3 := U3.out
          have hk28 : 28 < k := by omega
          go_wp2_with fail
          refine (HK.out _ (G.out.keep b4)).mono ?_
          rintro e w5 ⟨rfl, b5⟩
          have b5 := b4.trans (b5.mono b4.size)
          go_wp2_with fail
          go_ret
          exact ⟨rfl, b5⟩
        · have hlk : l = k := by have := HD.out; rw [if_neg hqk] at this; exact this.symm
          have t6 : (l != k) = false := by rw [bne_eq_false_iff_eq]; exact hlk
          clear HD hlk
          go_wp2_with fail
          refine (B1.out _ (G.out.keep b1)).mono ?_
          rintro e w2 ⟨rfl, b2⟩
          have b2 := b1.trans (b2.mono b1.size)
          go_wp2_with fail
          refine (B2.out _ (G.out.keep b2)).mono ?_
          rintro e w3 ⟨rfl, b3⟩
          have b3 := b2.trans (b3.mono b2.size)
          go_wp2_with fail
          refine (A2.out _ (G.out.keep b3)).mono ?_
          rintro e w4 ⟨rfl, b4⟩
          have b4 := b3.trans (b4.mono b3.size)
          have u1 := U1.out
          have u2 := U2.out
          have u3 := U3.out
          obtain ⟨u4, u5, u6, u7⟩ := U4.out
          go_wp2_with fail
          refine (HL.out _).mono ?_
          rintro e w' ⟨rfl, rfl⟩
          have u3 := U3.out
          by_cases hk28 : 28 < k
          · go_wp2_with fail
            refine (HK.out _ (G.out.keep b4)).mono ?_
            rintro e w5 ⟨rfl, b5⟩
            have b5 := b4.trans (b5.mono b4.size)
            go_wp2_with fail
            go_ret
            exact ⟨rfl, b5⟩
          · have t8 : (r == d) = true := beq_iff_eq.2 (HR.out (by omega))
            go_wp2_with fail
            refine (HK.out _ (G.out.keep b4)).mono ?_
            rintro e w5 ⟨rfl, b5⟩
            have b5 := b4.trans (b5.mono b4.size)
            go_wp2_with fail
            go_ret
            exact ⟨rfl, b5⟩
end Go.Proofs.YtkfhcfigkdcocaaDoor
