/- Contract of package refine: Differ. (Written by wip/gen/genrfdf.py.) -/
import Derived.Test.YtonfjjmgjgmanaaGreatRfPt
import Derived.Test.YtonfjjmgjgmanaaGreatRf4
import Derived.BigQuiet
namespace Go.Proofs.YtonfjjmgjgmanaaGreat
set_option maxRecDepth 8000
open Go.RowKit Corr
set_option linter.unusedVariables false
set_option linter.unusedSimpArgs false
set_option maxHeartbeats 8000000 in
theorem rfdiffer_any {Rep : RepL} (K : TlK0 Rep) (KS : SortI) (KC : CompI) (pa qa : Option Addr) (F G : Nat → Prop) (N M : Nat) (f g : Int → Int) (a b : Int) (w : World) (H1 : Rep w (.pointer pa) F N f) (H2 : Rep w (.pointer qa) G M g) (hN : N ≤ 300) (hM : M ≤ 300) : Calls Tryz.prog 8 #[.pointer pa, .pointer qa, .agg #[.int .i64 a, .int .i64 b]] w (RetDif 24 w f g a b) := by
  have hb0 := (Below.refl w.heap.size w).alloc (Nat.le_refl _) (.cells #[.int .i64 a, .int .i64 b] 24)
  have hb1 := Joins.below_alloc2 w (.cells #[.int .i64 a, .int .i64 b] 24) (.cells #[.pointer pa, .pointer qa] 27)
  have hx := Blk.new w #[.int .i64 a, .int .i64 b] 24
  have x0 := hx.get 0 rfl
  have x1 := hx.get 1 rfl
  have hv := Blk.new (w.alloc (.cells #[.int .i64 a, .int .i64 b] 24)) #[.pointer pa, .pointer qa] 27
  simp only [size_alloc] at hv
  have HP := Lib.hid (rfpt_any K KS KC (some ⟨w.heap.size + 1, 0, none⟩) 2 2 [f, g] a b _ (show LinesP Rep _ _ 2 [f, g] from ⟨rfl, fun k hk => by
      match k, hk with
      | 0, _ => exact ⟨w.heap.size + 1, 0, .pointer pa, F, N, f, rfl, hv.sz, hv.get 0 rfl, rfl, K.keep H1 (Off.of (F := fun _ => False) hb1) (fun _ _ e => e), hN⟩
      | 1, _ => exact ⟨w.heap.size + 1, 0, .pointer qa, G, M, g, rfl, hv.sz, hv.get 1 rfl, rfl, K.keep H2 (Off.of (F := fun _ => False) hb1) (fun _ _ e => e), hM⟩
      | k + 2, hk => omega⟩) (by omega))
  have HB1 := Lib.hid hb1
  clear H1 H2 hb0 hb1 hx hv hN hM K KS KC
  go_enter Tryz.func8, Tryz.ntmps8
  go_wp2_with fail
  refine HP.out.mono ?_
  clear HP
  rintro e w3 ⟨qs, ps, A, nP, cP, rfl, hps, ho, hin, hb⟩
  have HPS := Lib.hid hps
  have HO := Lib.hid ho
  have HIN := Lib.hid hin
  have HB3 := Lib.hid (HB1.out.trans (hb.mono HB1.out.size))
  have HLN := Lib.hid (show qs.length = nP from by have := (own_lies ho).len; rw [cellsP_len] at this; omega)
  obtain ⟨B3, hB3⟩ : ∃ B, w3.heap.size = B := ⟨_, rfl⟩
  have HB3E := Lib.hid hB3
  clear hps ho hin hb HB1 x0 x1 hB3
  by_cases hm : mayB a b = true
  · have HF := Lib.hid (show covG (fun d => [f, g].map (· d)) a b ps by have := HPS.out; unfold partsF at this; rwa [if_pos hm] at this)
    have HMM := Lib.hid (mayB_iff.1 hm)
    have HNP := Lib.hid (show nP ≤ 3652060 by have h1 := covG_le HF.out; have h2 := HMM.out; have h3 := HIN.out.len; have h4 := HLN.out; omega)
    go_wp2_with fail
    go_loopw [7, 17] (fun v z wr => ∃ (i nO cO : Nat) (AO : Option Addr) (out : SpL) (mm : Int), v = .slice AO nO cO ∧ z = .int .i64 (i : Int) ∧ i ≤ nP ∧ wr.ownsRow B3 24 2 (.slice AO nO cO) nO (cells2 out) ∧ Hid (covG (fun d => [f, g].map (· d)) mm b (ps.drop i)) ∧ Hid (difI f g a mm out) ∧ Hid (Below w3.heap.size w3 wr)) (fun _ z _ => (nP - intOf z).toNat)
    case atStart => exact ⟨0, 0, 0, none, [], a, rfl, rfl, Nat.zero_le _, World.ownsRow_nil _ _ _ _, by rw [List.drop_zero]; exact HF, Lib.hid difI.start, Lib.hid (Below.refl _ _)⟩
    case round =>
      obtain ⟨i, nO, cO, AO, out, mm, rfl, rfl, hi, hown, HC, HD, HBW⟩ := hrel
      have HNPV := HNP.out
      by_cases hlt : i < nP
      · obtain ⟨q, hq⟩ : ∃ q, qs[i]? = some q := ⟨_, List.getElem?_eq_getElem (by rw [HLN.out]; exact hlt)⟩
        obtain ⟨p, hp⟩ : ∃ p, ps[i]? = some p := ⟨_, List.getElem?_eq_getElem (by rw [← HIN.out.len, HLN.out]; exact hlt)⟩
        obtain ⟨i1, i2, AV, nV, cV, i3, hnum⟩ := HIN.out.each i q p hq hp
        obtain ⟨q1, q2, q3⟩ := q
        obtain ⟨p1, p2, pv⟩ := p
        have i1 : q1 = p1 := i1
        have i2 : q2 = p2 := i2
        have i3 : q3 = .slice AV nV cV := i3
        subst i1 i2 i3
        have hcov := HC.out
        rw [drop_at hp] at hcov
        obtain ⟨k1, k2, k3, k4, k5⟩ := hcov
        have k1 : q1 = mm := k1
        subst k1
        have k2 : q1 < q2 := k2
        have hpv : pv = [f q1, g q1] := (k3 q1 (Int.le_refl _) k2).symm
        subst hpv
        have HK3 := Lib.hid (show ∀ d, q1 ≤ d → d < q2 → [f d, g d] = [f q1, g q1] from k3)
        have HK5 := Lib.hid (show covG (fun d => [f, g].map (· d)) q2 b (ps.drop (i + 1)) from k5)
        obtain ⟨u1, hu1⟩ : ∃ u, f q1 = u := ⟨_, rfl⟩
        obtain ⟨u2, hu2⟩ : ∃ u, g q1 = u := ⟨_, rfl⟩
        rw [hu1, hu2] at hnum HK3
        have hlies := (own_lies HO.out).keep HBW.out
        obtain ⟨gp, off, rfl, hgp, hcell⟩ := hlies.at_ (by omega)
        obtain ⟨cc0, cc1, cc2⟩ := cellsP_at hq
        have c0 := hcell _ _ cc0
        have c1 := hcell _ _ cc1
        have c2 := hcell _ _ cc2
        rw [← Nat.add_assoc] at c1 c2
        have hnV : nV = 2 := by have := hnum.count; simpa using this.symm
        subst hnV
        obtain ⟨gv, ov, z1, rfl, hz1, hgv, v0⟩ := Nums.get (hnum.keep HBW.out) (k := 0) (by omega)
        obtain ⟨gv', ov', z2, hA, hz2, _, v1⟩ := Nums.get (hnum.keep HBW.out) (k := 1) (by omega)
        injection hA with hA
        injection hA with e1 e2 _
        subst e1 e2
        obtain rfl : u1 = z1 := by simpa using hz1
        obtain rfl : u2 = z2 := by simpa using hz2
        rw [Nat.add_zero] at v0
        have hcV : (2 : Nat) ≤ cV := hnum.cap
        have d0 : decide ((i : Int) < (nP : Int)) = true := decide_eq_true (by omega)
        have j0 : decide ((i : Int) < 0) = false := decide_eq_false (by omega)
        have j1 : (0 : Int) ≤ (i : Int) := by omega
        have j2 : (i : Int) < (nP : Int) := by omega
        have j3 : ((i : Int)).toNat = i := by omega
        have HU := Lib.hid (show f q1 = u1 ∧ g q1 = u2 from ⟨hu1, hu2⟩)
        have HK2 := Lib.hid k2
        have HNO := Lib.hid (show nO ≤ 3652060 by have h1 := difI_le HD.out; have h2 := covG_le HK5.out; have h3 := HMM.out; have h4 := HK2.out; have h5 := hown.1; rw [cells2_len] at h5; omega)
        have hno := HNO.out
        clear hq hp k3 k4 k5 hnum hlies hcell cc0 cc1 cc2 hz1 hz2 hu1 hu2 k2 i1 i2
        go_upto_region 5 with fail
        obtain ⟨w4, hw4⟩ : ∃ v, v = wr := ⟨_, rfl⟩
        subst wr
        obtain ⟨hp, hhp⟩ : ∃ k, w4.heap.size = k := ⟨_, rfl⟩
        have HP0 := Lib.hid (Blk.new w4 #[.int .i64 q1, .int .i64 q2, .slice (some ⟨gv, ov, none⟩) 2 cV] 62)
        have HBP := Lib.hid (show Below w4.heap.size w4 _ from (Below.refl w4.heap.size w4).alloc (Nat.le_refl _) (.cells #[.int .i64 q1, .int .i64 q2, .slice (some ⟨gv, ov, none⟩) 2 cV] 62))
        have HV0 := Lib.hid ((Below.cell (p := ⟨gv, ov, none⟩) HBP.out hgv).trans v0)
        have HV1 := Lib.hid ((Below.cell (p := ⟨gv, ov + 1, none⟩) HBP.out hgv).trans v1)
        have HVG := Lib.hid (Nat.lt_of_lt_of_le hgv HBP.out.size)
        have HO4 := Lib.hid (own_keep hown HBP.out)
        have HB4 := Lib.hid (HBW.out.trans (HBP.out.mono HBW.out.size))
        rw [hhp] at HP0 ⊢
        clear hhp c0 c1 c2 v0 v1 hown HBW HBP hgp
        generalize w4.alloc (.cells #[.int .i64 q1, .int .i64 q2, .slice (some ⟨gv, ov, none⟩) 2 cV] 62) = wp at *
        go_upto_region 7 with fail
        have x2 := HP0.out.get 2 rfl
        have hps := HP0.out.sz
        have v0 := HV0.out
        have v1 := HV1.out
        have hgv := HVG.out
        refine wp_region_rel 10 (Ext wp)
          (fun iV => List.getD [VE (.pointer (some ⟨hp, 2, none⟩)), VE (.slice (some ⟨gv, ov, none⟩) 2 cV), VE (.pointer (some ⟨gv, ov, none⟩)), VE (.int .i64 u1), VE (.pointer (some ⟨hp, 2, none⟩)), VE (.slice (some ⟨gv, ov, none⟩) 2 cV), VE (.pointer (some ⟨gv, ov + 1, none⟩)), VE (.int .i64 u2), VE (.bool (u1 == u2)), VE (.bool (u1 == u2))] iV (fun _ _ => False)) [] [0, 2, 4, 6, 9] (by kernel_rfl) (by kernel_rfl) (Ext.start wp) (fun _ _ h hb => h.grow hb)
          (stays_all (stays_cons (stays_VE _) (stays_cons (stays_VE _) (stays_cons (stays_VE _) (stays_cons (stays_VE _) (stays_cons (stays_VE _) (stays_cons (stays_VE _) (stays_cons (stays_VE _) (stays_cons (stays_VE _) (stays_cons (stays_VE _) (stays_cons (stays_VE _) stays_nil))))))))))) ⟨?_, ?_, ?_, ?_, ?_, ?_, ?_, ?_, ?_, ?_, trivial⟩ ?_
        · intro ev wv hE hw hd
          refine ifw rfl (ifw rfl ?_)
          have v9 : ev (.tmp 9) = .pointer (some ⟨hp, 0, none⟩) := hE.tmp 9 rfl
          refine ⟨.pointer (some ⟨hp, 2, none⟩), fun w => ?_, rfl⟩
          have e1 := hE.const; have e2 := hE.func; clear hE hd hw
          go_simp
        · intro ev wv hE hw hd
          refine ifw rfl (ifn rfl ?_)
          have v33 : ev (.tmp 33) = .pointer (some ⟨hp, 2, none⟩) := hd 0 (by decide)
          have kx := (Below.cell hw hps).trans x2
          refine rel_val (u := .slice (some ⟨gv, ov, none⟩) 2 cV) (w' := wv) ?_ (Below.refl _ _) ⟨rfl, fun h => by cases h⟩
          have e1 := hE.const; clear hE hd hw
          go_simp
        · intro ev wv hE hw hd
          refine ifw rfl (ifw rfl ?_)
          have v34 : ev (.tmp 34) = .slice (some ⟨gv, ov, none⟩) 2 cV := hd 1 (by decide)
          refine ⟨.pointer (some ⟨gv, ov, none⟩), fun w => ?_, rfl⟩
          have e1 := hE.const; have e2 := hE.func; clear hE hd hw
          go_simp
        · intro ev wv hE hw hd
          refine ifw rfl (ifn rfl ?_)
          have v35 : ev (.tmp 35) = .pointer (some ⟨gv, ov, none⟩) := hd 2 (by decide)
          have kx := (Below.cell hw hgv).trans v0
          refine rel_val (u := .int .i64 u1) (w' := wv) ?_ (Below.refl _ _) ⟨rfl, fun h => by cases h⟩
          have e1 := hE.const; clear hE hd hw
          go_simp
        · intro ev wv hE hw hd
          refine ifw rfl (ifw rfl ?_)
          have v9 : ev (.tmp 9) = .pointer (some ⟨hp, 0, none⟩) := hE.tmp 9 rfl
          refine ⟨.pointer (some ⟨hp, 2, none⟩), fun w => ?_, rfl⟩
          have e1 := hE.const; have e2 := hE.func; clear hE hd hw
          go_simp
        · intro ev wv hE hw hd
          refine ifw rfl (ifn rfl ?_)
          have v37 : ev (.tmp 37) = .pointer (some ⟨hp, 2, none⟩) := hd 4 (by decide)
          have kx := (Below.cell hw hps).trans x2
          refine rel_val (u := .slice (some ⟨gv, ov, none⟩) 2 cV) (w' := wv) ?_ (Below.refl _ _) ⟨rfl, fun h => by cases h⟩
          have e1 := hE.const; clear hE hd hw
          go_simp
        · intro ev wv hE hw hd
          refine ifw rfl (ifw rfl ?_)
          have v38 : ev (.tmp 38) = .slice (some ⟨gv, ov, none⟩) 2 cV := hd 5 (by decide)
          refine ⟨.pointer (some ⟨gv, ov + 1, none⟩), fun w => ?_, rfl⟩
          have e1 := hE.const; have e2 := hE.func; clear hE hd hw
          go_simp
        · intro ev wv hE hw hd
          refine ifw rfl (ifn rfl ?_)
          have v39 : ev (.tmp 39) = .pointer (some ⟨gv, ov + 1, none⟩) := hd 6 (by decide)
          have kx := (Below.cell hw hgv).trans v1
          refine rel_val (u := .int .i64 u2) (w' := wv) ?_ (Below.refl _ _) ⟨rfl, fun h => by cases h⟩
          have e1 := hE.const; clear hE hd hw
          go_simp
        · intro ev wv hE hw hd
          refine ifw rfl (ifn rfl ?_)
          have v36 : ev (.tmp 36) = .int .i64 u1 := hd 3 (by decide)
          have v40 : ev (.tmp 40) = .int .i64 u2 := hd 7 (by decide)
          refine rel_call (f := 21) (args := #[.int .i64 u1, .int .i64 u2]) ?_ (rfsame_any u1 u2 _) ?_
          · have e0 := hE.func; have e1 := hE.const; clear hE hd hw
            go_simp
          · rintro e w' ⟨rfl, hb⟩
            exact ⟨_, rfl, hb, rfl, fun h => by cases h⟩
        · intro ev wv hE hw hd
          refine ifw rfl (ifw rfl ?_)
          have v41 : ev (.tmp 41) = .bool (u1 == u2) := hd 8 (by decide)
          refine ⟨.bool (u1 == u2), fun w => ?_, rfl⟩
          have e1 := hE.const; have e2 := hE.func; clear hE hd hw
          go_simp
        · intro wz hw
          intro v0 h0 _ v1 h1 _ v2 h2 _ v3 h3 _ v4 h4 _ v5 h5 _ v6 h6 _ v7 h7 _ v8 h8 _ v9 h9 _
          simp only [Act.put, List.setIfInBounds_toArray, List.set_cons_zero, List.set_cons_succ, List.drop_succ_cons, List.drop_zero]
          obtain rfl : v0 = _ := h0
          obtain rfl : v1 = _ := h1
          obtain rfl : v2 = _ := h2
          obtain rfl : v3 = _ := h3
          obtain rfl : v4 = _ := h4
          obtain rfl : v5 = _ := h5
          obtain rfl : v6 = _ := h6
          obtain rfl : v7 = _ := h7
          obtain rfl : v8 = _ := h8
          obtain rfl : v9 = _ := h9
          change wpList Tryz.prog _ _ _ _ wz
          have HPZ := Lib.hid (HP0.out.keep hw)
          have HOZ := Lib.hid (own_keep HO4.out hw)
          have HBZ := Lib.hid (HB4.out.trans (Below.mono hw HB4.out.size))
          clear hw x2 v0 v1 hgv hps HP0 HO4 HB4
          by_cases hv : u1 = u2
          · have e1 : (u1 == u2) = true := by simpa using hv
            have HD2 := Lib.hid (HD.out.same HK2.out (fun d h1 h2 => by have := HK3.out d h1 h2; simp at this; omega))
            clear hv
            go_wp2_with fail
            refine calm_normal ?_
            go_wp2_with fail
            go_roundw
            case rel => exact ⟨i + 1, nO, cO, AO, out, q2, rfl, by go_num, by omega, HOZ.out, HK5, HD2, HBZ⟩
            case measure => simp [intOf]; omega
          · have e1 : (u1 == u2) = false := by simpa using hv
            have HNE := Lib.hid (show ∀ d, q1 ≤ d → d < q2 → f d ≠ g d from fun d h1 h2 => by have := HK3.out d h1 h2; simp at this; omega)
            have HLO := Lib.hid (show out.length = nO from by have := HOZ.out.1; rw [cells2_len] at this; omega)
            clear hv
            rcases snoc_cases out with rfl | ⟨r, ⟨x, e⟩, rfl⟩
            · have hn0 : nO = 0 := HLO.out.symm
              have HD2 := Lib.hid (HD.out.new (fun _ h => by cases h) HK2.out HNE.out)
              obtain ⟨la, hla⟩ : ∃ la : Int, (nO : Int) - 1 = la := ⟨_, rfl⟩
              rw [hla]
              have hl0 : decide (la ≥ 0) = false := decide_eq_false (by omega)
              have hn0' : nO ≤ 0 := by omega
              clear hla hn0
              go_wp2_with fail
              refine calm_normal ?_
              go_upto_region 8 with fail
              go_quiet (fail)
              have hdr := Joins.below_draws wz.heap.size wz nq
              have HPD := Lib.hid (HPZ.out.keep hdr)
              have HOD := Lib.hid (own_keep HOZ.out hdr)
              have HBD := Lib.hid (HBZ.out.trans (hdr.mono HBZ.out.size))
              generalize wz.drewN nq = wd at *
              clear hdr
              have y0 := HPD.out.get 0 rfl
              have y1 := HPD.out.get 1 rfl
              have hszD := HBD.out.size
              have hb3 := HB3E.out
              go_wp2_with (at_builtin; refine wpList_app2 rfl _ _ 32 rfl (cells2 [(q1, q2)]) elem_span12 rfl (HOD.out.alloc (.cells (cells2 [(q1, q2)]).toArray 24)) rfl rfl (new_cells wd (cells2 [(q1, q2)]) 24) (cells2_one _) (by omega) (by unfold maxLen; omega) (by simp; omega) ?_)
              intro v5 w5 hown5 hg5 hat5
              have HB5 := Lib.hid ((HBD.out.alloc hszD (.cells (cells2 [(q1, q2)]).toArray 24)).grown hg5 (by simp; omega) (fun k hk => by have := own_ge HOD.out k hk; have := HB3E.out; omega))
              obtain ⟨A5, d5, rfl, _⟩ := Lies.of_own hown5 (by have := hown5.1; exact this)
              have HO5 := Lib.hid hown5
              clear hown5 hg5 hat5 y0 y1
              go_wp2_with fail
              go_roundw
              case rel => exact ⟨i + 1, nO + 1, d5, A5, [] ++ [(q1, q2)], q2, rfl, by go_num, by omega, by rw [cells2_append]; exact HO5.out, HK5, HD2, HB5⟩
              case measure => simp [intOf]; omega
            · obtain ⟨k, hk⟩ : ∃ k, r.length = k := ⟨_, rfl⟩
              have hn0 : nO = k + 1 := by rw [← HLO.out, List.length_append, hk]; rfl
              subst hn0
              have hown := HOZ.out
              rcases Joins.ownsRow_forms hown with ⟨_, h0⟩ | ⟨g3, d3, hv3⟩
              · cases h0
              · injection hv3 with a1 _ a3
                subst a1 a3
                have hs : (r ++ [(x, e)])[k]? = some (x, e) := by rw [← hk]; simp
                have HKL := Lib.hid hk
                have hk9 : k ≤ 3652060 := by omega
                rw [show ((k + 1 : Nat) : Int) - 1 = (k : Int) by omega]
                have wk0 : decide ((k : Int) < 0) = false := decide_eq_false (by omega)
                have wk1 : (0 : Int) ≤ (k : Int) := by omega
                have wk2 : (k : Int) < (k : Int) + 1 := by omega
                have wk3 : ((k : Int)).toNat = k := by omega
                have wk4 : decide ((k : Int) ≥ 0) = true := decide_eq_true (by omega)
                have c4 : wz.cell? ⟨g3, k * 2 + 1, none⟩ = some (.int .i64 e) := by rw [hown.cellAt _ (by omega)]; exact cells2_1 hs
                have hg3 : g3 < wz.heap.size := own_lt hown rfl
                have z0 := HPZ.out.get 0 rfl
                clear hs hk hown
                by_cases p1 : e = q1
                · have d1 : (e == q1) = true := by simpa using p1
                  subst p1
                  have HD2 := Lib.hid (HD.out.more HK2.out HNE.out)
                  go_wp2_with fail
                  refine calm_normal ?_
                  go_upto_region 8 with fail
                  go_quiet (fail)
                  have hdr := Joins.below_draws wz.heap.size wz nq
                  have HPD := Lib.hid (HPZ.out.keep hdr)
                  have HOD := Lib.hid (own_keep HOZ.out hdr)
                  have HBD := Lib.hid (HBZ.out.trans (hdr.mono HBZ.out.size))
                  have HCD := Lib.hid ((Below.cell (p := ⟨g3, k * 2 + 1, none⟩) hdr hg3).trans c4)
                  generalize wz.drewN nq = wd at *
                  clear hdr
                  have y1 := HPD.out.get 1 rfl
                  have f1 : wd.frozen? ⟨g3, k * 2 + 1, none⟩ = false := HOD.out.frozenAt _
                  have HST := HOD.out.stored (k * 2 + 1) (.int .i64 q2)
                  have HO9 := Lib.hid (show (wd.setCell ⟨g3, k * 2 + 1, none⟩ (.int .i64 q2)).ownsRow B3 24 2 (.slice (some ⟨g3, 0, none⟩) (k + 1) cO) (k + 1) (cells2 (r ++ [(x, q2)])) by rw [← cells2_setD (e := e), HKL.out]; exact HST.1)
                  have HB9 := Lib.hid (HBD.out.setCell (p := ⟨g3, k * 2 + 1, none⟩) (by have := own_ge HOD.out g3 rfl; have := HB3E.out; show w3.heap.size ≤ g3; omega) (.int .i64 q2))
                  have y4 := HCD.out
                  clear HST c4 z0
                  go_wp2_with fail
                  go_roundw
                  case rel => exact ⟨i + 1, k + 1, cO, some ⟨g3, 0, none⟩, r ++ [(x, q2)], q2, rfl, by go_num, by omega, HO9.out, HK5, HD2, HB9⟩
                  case measure => simp [intOf]; omega
                · have d1 : (e == q1) = false := by simpa using p1
                  have HD2 := Lib.hid (HD.out.new (fun s hs => by rw [last_snoc hs]; exact p1) HK2.out HNE.out)
                  clear p1
                  go_wp2_with fail
                  refine calm_normal ?_
                  go_upto_region 8 with fail
                  go_quiet (fail)
                  have hdr := Joins.below_draws wz.heap.size wz nq
                  have HPD := Lib.hid (HPZ.out.keep hdr)
                  have HOD := Lib.hid (own_keep HOZ.out hdr)
                  have HBD := Lib.hid (HBZ.out.trans (hdr.mono HBZ.out.size))
                  generalize wz.drewN nq = wd at *
                  clear hdr
                  clear c4 z0
                  have y0 := HPD.out.get 0 rfl
                  have y1 := HPD.out.get 1 rfl
                  have hszD := HBD.out.size
                  have hb3 := HB3E.out
                  go_wp2_with (at_builtin; refine wpList_app2 rfl _ _ 32 rfl (cells2 [(q1, q2)]) elem_span12 rfl (HOD.out.alloc (.cells (cells2 [(q1, q2)]).toArray 24)) rfl rfl (new_cells wd (cells2 [(q1, q2)]) 24) (cells2_one _) (by omega) (by unfold maxLen; omega) (by simp; omega) ?_)
                  intro v5 w5 hown5 hg5 hat5
                  have HB5 := Lib.hid ((HBD.out.alloc hszD (.cells (cells2 [(q1, q2)]).toArray 24)).grown hg5 (by simp; omega) (fun k hk => by have := own_ge HOD.out k hk; have := HB3E.out; omega))
                  obtain ⟨A5, d5, rfl, _⟩ := Lies.of_own hown5 (by have := hown5.1; exact this)
                  have HO5 := Lib.hid hown5
                  clear hown5 hg5 hat5 y0 y1
                  go_wp2_with fail
                  go_roundw
                  case rel => exact ⟨i + 1, (k + 1) + 1, d5, A5, (r ++ [(x, e)]) ++ [(q1, q2)], q2, rfl, by go_num, by omega, by rw [cells2_append]; exact HO5.out, HK5, HD2, HB5⟩
                  case measure => simp [intOf]; omega
      · have hik : i = nP := by omega
        have HDD := Lib.hid (show difI f g a b out by
          have h1 := HC.out
          rw [List.drop_eq_nil_of_le (by rw [← HIN.out.len, HLN.out]; omega)] at h1
          have h1 : mm = b := h1
          rw [← h1]; exact HD.out)
        have HWW := Lib.hid (show Below w.heap.size w wr from HB3.out.trans (HBW.out.mono HB3.out.size))
        have hB3w : w.heap.size ≤ B3 := by rw [← HB3E.out]; exact HB3.out.size
        have d0 : decide ((i : Int) < (nP : Int)) = false := decide_eq_false (by omega)
        go_wp2_with fail
        refine bodyPost_ret (results_tmp rfl _ _ _) rfl ?_
        exact ⟨out, AO, nO, cO, rfl, by unfold difS; rw [if_pos hm]; exact HDD.out, own_low hown hB3w, HWW.out⟩
  · have h0 := HPS.out
    unfold partsF at h0
    rw [if_neg hm] at h0
    have hnP : nP = 0 := by have h1 := HIN.out.len; have h2 := HLN.out; rw [h0, List.length_nil] at h1; omega
    subst hnP
    have HMM := Lib.hid hm
    clear hm h0
    go_wp2_with fail
    refine wp_loop_rounds 1 ?_
    rw [rounds_succ]
    go_wp2_with fail
    refine bodyPost_ret (results_tmp rfl _ _ _) rfl ?_
    exact ⟨[], none, 0, 0, rfl, by unfold difS; rw [if_neg HMM.out], World.ownsRow_nil _ _ _ _, HB3.out⟩
end Go.Proofs.YtonfjjmgjgmanaaGreat
