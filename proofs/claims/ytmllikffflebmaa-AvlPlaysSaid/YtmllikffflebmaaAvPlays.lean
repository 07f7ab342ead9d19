/- The law AvlPlays. -/
import Derived.Test.YtmllikffflebmaaAvKnown
import Derived.Test.YtmllikffflebmaaRelSet
import Derived.Test.YtmllikffflebmaaRelMem
namespace Go.Proofs.Ytmllikffflebmaa
set_option maxRecDepth 8000
open Go.RowKit Corr
set_option linter.unusedVariables false
set_option linter.unusedSimpArgs false
theorem cells3_set1 : ∀ {l : ItL} {j : Nat} {x y z y' : Int}, l[j]? = some (x, y, z) → (cells3 l).set (j * 3 + 1) (.int .i64 y') = cells3 (l.set j (x, y', z))
  | [], _, _, _, _, _, h => by simp at h
  | s :: r, 0, x, y, z, y', h => by simp at h; subst h; rfl
  | s :: r, j + 1, x, y, z, y', h => by
    have := cells3_set1 (l := r) (j := j) (y' := y') (by simpa using h)
    rw [show (j + 1) * 3 + 1 = (j * 3 + 1) + 1 + 1 + 1 by omega]
    simp only [cells3, List.set_cons_succ, this]
theorem avplays_long {Rep : RepT} (K : AvlK Rep) (most : Int) (A : Option Addr) (N c : Nat) (ops : ClL) (w : World) (Ro : Cls w A N c ops) (hN : ¬ N ≤ 200) : Calls Try.prog 3 #[.int .i64 most, .slice A N c] w fun e w' => e = .returned (.bool true) ∧ Below w.heap.size w w' := by
  have d0 : decide ((N : Int) > 200) = true := decide_eq_true (by omega)
  have HK := Lib.hid K
  clear K Ro hN
  go_enter Try.func3, Try.ntmps3
  go_wp2_with fail
  refine (avknown_any HK.out _).mono ?_
  rintro e w1 ⟨rfl, hb⟩
  go_wp2_with fail
  go_ret
  exact ⟨rfl, hb⟩
theorem avplays_low {Rep : RepT} (K : AvlK Rep) (most : Int) (A : Option Addr) (N c : Nat) (ops : ClL) (w : World) (Ro : Cls w A N c ops) (hN : N ≤ 200) (h1 : most < 1) : Calls Try.prog 3 #[.int .i64 most, .slice A N c] w fun e w' => e = .returned (.bool true) ∧ Below w.heap.size w w' := by
  have d0 : decide ((N : Int) > 200) = false := decide_eq_false (by omega)
  have HM := Lib.hid (fun w => K.none most w (by omega))
  have d1 : decide (most < 1) = true := decide_eq_true h1
  have HK := Lib.hid K
  clear K Ro hN h1
  go_enter Try.func3, Try.ntmps3
  go_wp2_with fail
  refine (HM.out _).mono ?_
  rintro e w1 ⟨rfl, b1⟩
  have HB := Lib.hid b1
  clear b1
  go_wp2_with fail
  refine (avknown_any HK.out _).mono ?_
  rintro e w2 ⟨rfl, hb⟩
  have HB2 := Lib.hid (HB.out.trans (hb.mono HB.out.size))
  clear hb
  go_wp2_with fail
  go_ret
  exact ⟨rfl, HB2.out⟩
theorem avplays_high {Rep : RepT} (K : AvlK Rep) (most : Int) (A : Option Addr) (N c : Nat) (ops : ClL) (w : World) (Ro : Cls w A N c ops) (hN : N ≤ 200) (h1 : ¬ most < 1) (h2 : most > 1000000) : Calls Try.prog 3 #[.int .i64 most, .slice A N c] w fun e w' => e = .returned (.bool true) ∧ Below w.heap.size w w' := by
  have d0 : decide ((N : Int) > 200) = false := decide_eq_false (by omega)
  have HM := Lib.hid (fun w => K.none most w (by omega))
  have d1 : decide (most < 1) = false := decide_eq_false h1
  have d2 : decide (most > 1000000) = true := decide_eq_true h2
  have HK := Lib.hid K
  clear K Ro hN h1 h2
  go_enter Try.func3, Try.ntmps3
  go_wp2_with fail
  refine (HM.out _).mono ?_
  rintro e w1 ⟨rfl, b1⟩
  have HB := Lib.hid b1
  clear b1
  go_wp2_with fail
  refine (avknown_any HK.out _).mono ?_
  rintro e w2 ⟨rfl, hb⟩
  have HB2 := Lib.hid (HB.out.trans (hb.mono HB.out.size))
  clear hb
  go_wp2_with fail
  go_ret
  exact ⟨rfl, HB2.out⟩
theorem isame_yes {A B : Option Addr} {n c m d : Nat} {l : ItL} {w : World} (R : Itm w A n c l) (S : Itm w B m d l) (hl : l.length ≤ 100000) : Calls Try.prog 15 #[.slice A n c, .slice B m d] w fun e w' => e = .returned (.bool true) ∧ Below w.heap.size w w' := by
  have := isame_any A B n c m d l l w R S (by rw [← R.count]; omega) (by rw [← S.count]; omega)
  rwa [decide_eq_true rfl] at this
theorem avlen_at {Rep : RepT} (K : AvlK Rep) {w : World} {p : Value} {F : Nat → Prop} {M : Int} {l : ItL} (h : Rep w p F M l) {n : Nat} (hn : l.length = n) (hl : l.length ≤ 1000) : Calls Try.prog 16 #[p] w fun e w' => e = .returned (.int .i64 (n : Int)) ∧ Below w.heap.size w w' := by
  have := K.len w p F M l h hl
  rwa [hn] at this
theorem avhas_at {Rep : RepT} (K : AvlK Rep) {w : World} {p : Value} {F : Nat → Prop} {M : Int} {l : ItL} (h : Rep w p F M l) (x : It) (hl : l.length ≤ 1000) {b : Bool} (hb : hasI x l = b) : Calls Try.prog 12 #[p, itV x] w fun e w' => e = .returned (.bool b) ∧ Below w.heap.size w w' := by
  have := K.has w p F M l x h hl
  rwa [hb] at this
theorem rhas_at {w : World} {g n c : Nat} {A : Option Addr} {l : ItL} (T : RTree w g A n c l) (x : It) (hl : l.length ≤ 1000) {b : Bool} (hb : hasI x l = b) : Calls Try.prog 13 #[.pointer (some ⟨g, 0, none⟩), itV x] w fun e w' => e = .returned (.bool b) ∧ Below w.heap.size w w' := by
  have := rhas_any g n c A l x w T (by rw [← Itm.count T.i]; omega)
  rwa [hb] at this
set_option maxHeartbeats 4000000 in
theorem avplays_main {Rep : RepT} (K : AvlK Rep) (most : Int) (A : Option Addr) (N c : Nat) (ops : ClL) (w : World) (Ro : Cls w A N c ops) (hN : N ≤ 200) (m1 : 1 ≤ most) (m2 : most ≤ 1000000) : Calls Try.prog 3 #[.int .i64 most, .slice A N c] w fun e w' => e = .returned (.bool true) ∧ Below w.heap.size w w' := by
  have d0 : decide ((N : Int) > 200) = false := decide_eq_false (by omega)
  have d1 : decide (most < 1) = false := decide_eq_false (by omega)
  have d2 : decide (most > 1000000) = false := decide_eq_false (by omega)
  have HK := Lib.hid K
  have HN := Lib.hid hN
  have HRo := Lib.hid Ro
  have HM := Lib.hid (fun w => K.make most w m1 m2)
  clear K Ro hN m1 m2
  go_enter Try.func3, Try.ntmps3
  go_wp2_with fail
  refine (HM.out _).mono ?_
  rintro e w1 ⟨q, F1, rfl, hr, b1, hF⟩
  have hr2 := HK.out.keep hr (Off.of (F := fun _ => False) ((Below.refl _ w1).alloc (Nat.le_refl _) (.cells #[.int .i64 most, .slice none 0 0] 31))) (fun _ _ e => e)
  have HP0 := Lib.hid (show PairE Rep 33 w.heap.size w (.pointer (some q)) w1.heap.size most [] [] [] (w1.alloc (.cells #[.int .i64 most, .slice none 0 0] 31)) from
    ⟨F1, none, 0, 0, hr2, ⟨Blk.new w1 _ _, World.ownsRow_nil _ _ _ _⟩, (fun e => absurd (HK.out.lt hr _ e) (Nat.lt_irrefl _)), (fun j hj => by cases hj), hF, b1.size, (fun j hj => by cases hj), (fun _ h => by cases h), b1.alloc b1.size _, (by have := b1.size; simp; omega)⟩)
  obtain ⟨g, hg⟩ : ∃ g, w1.heap.size = g := ⟨_, rfl⟩
  have HBL := Lib.hid (b1.alloc b1.size (.cells #[.int .i64 most, .slice none 0 0] 31))
  clear hr b1 hF hr2 HM
  go_wp2_with fail
  try rw [hg] at HP0
  generalize w1.alloc (.cells #[.int .i64 most, .slice none 0 0] 31) = w2 at *
  clear hg
  go_loopw [47] (fun u wr => ∃ (k : Nat) (l : ItL), u = .int .i64 (k : Int) ∧ k ≤ N ∧ l.length ≤ k ∧ PairE Rep 33 w.heap.size w (.pointer (some q)) g most l l [] wr) (fun u _ => (N - intOf u).toNat)
  case atStart => exact ⟨0, [], rfl, by omega, by simp, HP0.out⟩
  case round =>
    obtain ⟨k, l, rfl, hk, hl, hpe⟩ := hrel
    have HPE := Lib.hid hpe
    have HL := Lib.hid hl
    have hNN : N ≤ 200 := HN.out
    clear hpe hl HP0
    by_cases hlt : k < N
    · have hb : Below w.heap.size w wr := by obtain ⟨_, _, _, _, h⟩ := HPE.out; exact h.bl
      obtain ⟨ga, off, s, rfl, hs, hga, c0, c1, c2, c3⟩ := Cls.get (HRo.out.keep hb) hlt
      obtain ⟨kd, x1, x2, x3⟩ := s
      have hpu : PairE Rep 33 w.heap.size w (.pointer (some q)) g most l l [(wr.heap.size, #[.int .i64 kd, .int .i64 x1, .int .i64 x2, .int .i64 x3])] (wr.alloc (.cells #[.int .i64 kd, .int .i64 x1, .int .i64 x2, .int .i64 x3] 35)) := by
        obtain ⟨F0, A0, n0, c0, h⟩ := HPE.out
        exact ⟨F0, A0, n0, c0, h.push HK.out.toRepOk #[.int .i64 kd, .int .i64 x1, .int .i64 x2, .int .i64 x3] 35⟩
      have HPU := Lib.hid hpu
      have B9 := Blk.new wr #[.int .i64 kd, .int .i64 x1, .int .i64 x2, .int .i64 x3] 35
      have y0 := B9.get 0 rfl
      clear hs hb hpu B9
      by_cases k1 : kd = 1
      · have e1 : (kd == 1) = true := beq_iff_eq.2 k1
        clear k1
        go_upto_region 14 with fail
        refine wp_region_set 9 (fun S wx => PairE Rep 33 w.heap.size w (.pointer (some q)) g most (cond (S 3) (insL most (x1, x2, x3) l) l) (cond (S 7) (insL most (x1, x2, x3) l) l) [(wr.heap.size, #[.int .i64 kd, .int .i64 x1, .int .i64 x2, .int .i64 x3])] wx) (fun i => List.getD [.pointer (some q), .pointer (some ⟨wr.heap.size, 1, none⟩), .agg #[.int .i64 x1, .int .i64 x2, .int .i64 x3], .int .i64 (insR most (x1, x2, x3) l), .pointer (some ⟨g, 0, none⟩), .pointer (some ⟨wr.heap.size, 1, none⟩), .agg #[.int .i64 x1, .int .i64 x2, .int .i64 x3], .int .i64 (insR most (x1, x2, x3) l), .bool false] i undef) [0, 1, 4, 5, 8] (by kernel_rfl) (by kernel_rfl) ((have ⟨F0, A0, n0, c0, h⟩ := HPU.out; ⟨F0, A0, n0, c0, h.keep HK.out.toRepOk ((Below.refl _ _).drew)⟩)) ⟨?_, ?_, ?_, ?_, ?_, ?_, ?_, ?_, ?_, trivial⟩ ?_
        · intro ev wv S hE hw hS hd
          refine ifw rfl (ifw rfl ⟨fun w => ?_, hw⟩)
          have v5 : ev (.tmp 5) = .pointer (some q) := hE.tmp 5 rfl
          have e1 := hE.const; have e2 := hE.func; clear hE hd hw hS
          show _ = Result.ok (Next.value (.pointer (some q))) w
          go_simp
        · intro ev wv S hE hw hS hd
          refine ifw rfl (ifw rfl ⟨fun w => ?_, hw⟩)
          have v9 : ev (.tmp 9) = .pointer (some ⟨wr.heap.size, 0, none⟩) := hE.tmp 9 rfl
          have e1 := hE.const; have e2 := hE.func; clear hE hd hw hS
          show _ = Result.ok (Next.value (.pointer (some ⟨wr.heap.size, 1, none⟩))) w
          go_simp
        · intro ev wv S hE hw hS hd
          refine ifw rfl (ifn rfl ?_)
          have v56 : ev (.tmp 56) = .pointer (some ⟨wr.heap.size, 1, none⟩) := (hd 1 (by decide)).2
          have ⟨F0, A0, n0, c0, hp⟩ := hw
          have hb := (hp.oth _ List.mem_cons_self).1
          have kx := hb.get 1 rfl; have ky := hb.get 2 rfl; have kz := hb.get 3 rfl
          clear hb hp
          refine set_val (u := .agg #[.int .i64 x1, .int .i64 x2, .int .i64 x3]) (w' := wv) ?_ ⟨rfl, hw⟩
          have e1 := hE.const; clear hE hd hw hS
          go_simp
        · intro ev wv S hE hw hS hd
          refine ifw rfl (ifn rfl ?_)
          have v55 : ev (.tmp 55) = .pointer (some q) := (hd 0 (by decide)).2
          have v57 : ev (.tmp 57) = .agg #[.int .i64 x1, .int .i64 x2, .int .i64 x3] := (hd 2 (by decide)).2
          have hw : PairE Rep 33 w.heap.size w (.pointer (some q)) g most (cond (S 3) (insL most (x1, x2, x3) l) l) (cond (S 7) (insL most (x1, x2, x3) l) l) [(wr.heap.size, #[.int .i64 kd, .int .i64 x1, .int .i64 x2, .int .i64 x3])] wv := hw
          rw [show S 3 = false from hS] at hw
          have hw0 := Lib.hid hw
          have ⟨F0, A0, n0, c0, hp⟩ := hw
          refine set_call (f := 8) (args := #[.pointer (some q), .agg #[.int .i64 x1, .int .i64 x2, .int .i64 x3]]) ?_ (HK.out.insert _ _ _ _ l (x1, x2, x3) hp.rep (by have := HL.out; have := HN.out; omega)) ?_
          · have e0 := hE.func; have e1 := hE.const; clear hE hd hw hS
            go_simp
          · rintro e w' ⟨F1, rfl, hr, ho, hF⟩
            exact ⟨_, rfl, rfl, ⟨F1, A0, n0, c0, hp.prog HK.out.toRepOk ho hr hF⟩⟩
        · intro ev wv S hE hw hS hd
          refine ifw rfl (ifw rfl ⟨fun w => ?_, hw⟩)
          have v7 : ev (.tmp 7) = .pointer (some ⟨g, 0, none⟩) := hE.tmp 7 rfl
          have e1 := hE.const; have e2 := hE.func; clear hE hd hw hS
          show _ = Result.ok (Next.value (.pointer (some ⟨g, 0, none⟩))) w
          go_simp
        · intro ev wv S hE hw hS hd
          refine ifw rfl (ifw rfl ⟨fun w => ?_, hw⟩)
          have v9 : ev (.tmp 9) = .pointer (some ⟨wr.heap.size, 0, none⟩) := hE.tmp 9 rfl
          have e1 := hE.const; have e2 := hE.func; clear hE hd hw hS
          show _ = Result.ok (Next.value (.pointer (some ⟨wr.heap.size, 1, none⟩))) w
          go_simp
        · intro ev wv S hE hw hS hd
          refine ifw rfl (ifn rfl ?_)
          have v60 : ev (.tmp 60) = .pointer (some ⟨wr.heap.size, 1, none⟩) := (hd 5 (by decide)).2
          have ⟨F0, A0, n0, c0, hp⟩ := hw
          have hb := (hp.oth _ List.mem_cons_self).1
          have kx := hb.get 1 rfl; have ky := hb.get 2 rfl; have kz := hb.get 3 rfl
          clear hb hp
          refine set_val (u := .agg #[.int .i64 x1, .int .i64 x2, .int .i64 x3]) (w' := wv) ?_ ⟨rfl, hw⟩
          have e1 := hE.const; clear hE hd hw hS
          go_simp
        · intro ev wv S hE hw hS hd
          refine ifw rfl (ifn rfl ?_)
          have v59 : ev (.tmp 59) = .pointer (some ⟨g, 0, none⟩) := (hd 4 (by decide)).2
          have v61 : ev (.tmp 61) = .agg #[.int .i64 x1, .int .i64 x2, .int .i64 x3] := (hd 6 (by decide)).2
          have hw : PairE Rep 33 w.heap.size w (.pointer (some q)) g most (cond (S 3) (insL most (x1, x2, x3) l) l) (cond (S 7) (insL most (x1, x2, x3) l) l) [(wr.heap.size, #[.int .i64 kd, .int .i64 x1, .int .i64 x2, .int .i64 x3])] wv := hw
          rw [show S 7 = false from hS] at hw
          have hw0 := Lib.hid hw
          have ⟨F0, A0, n0, c0, hp⟩ := hw
          refine set_call (f := 9) (args := #[.pointer (some ⟨g, 0, none⟩), .agg #[.int .i64 x1, .int .i64 x2, .int .i64 x3]]) ?_ (rins_all (l := l) hp.tree (by have := HL.out; have := HN.out; omega) (x1, x2, x3)) ?_
          · have e0 := hE.func; have e1 := hE.const; clear hE hd hw hS
            go_simp
          · rintro e w' ⟨rfl, A1, n1, c1, ht, ho, ha⟩
            exact ⟨_, rfl, rfl, ⟨F0, A1, n1, c1, hp.doc HK.out.toRepOk ht ho ha⟩⟩
        · intro ev wv S hE hw hS hd
          refine ifw rfl (ifw rfl ⟨fun w => ?_, hw⟩)
          have v58 : ev (.tmp 58) = .int .i64 (insR most (x1, x2, x3) l) := (hd 3 (by decide)).2
          have v62 : ev (.tmp 62) = .int .i64 (insR most (x1, x2, x3) l) := (hd 7 (by decide)).2
          have e1 := hE.const; have e2 := hE.func; clear hE hd hw hS
          show _ = Result.ok (Next.value (.bool false)) w
          go_simp
        · intro S wz hS hw
          intro v0 h0 _ v1 h1 _ v2 h2 _ v3 h3 _ v4 h4 _ v5 h5 _ v6 h6 _ v7 h7 _ v8 h8 _
          simp only [Act.put, List.setIfInBounds_toArray, List.set_cons_zero, List.set_cons_succ, List.drop_succ_cons, List.drop_zero]
          obtain rfl : v0 = .pointer (some q) := h0
          obtain rfl : v1 = .pointer (some ⟨wr.heap.size, 1, none⟩) := h1
          obtain rfl : v2 = .agg #[.int .i64 x1, .int .i64 x2, .int .i64 x3] := h2
          obtain rfl : v3 = .int .i64 (insR most (x1, x2, x3) l) := h3
          obtain rfl : v4 = .pointer (some ⟨g, 0, none⟩) := h4
          obtain rfl : v5 = .pointer (some ⟨wr.heap.size, 1, none⟩) := h5
          obtain rfl : v6 = .agg #[.int .i64 x1, .int .i64 x2, .int .i64 x3] := h6
          obtain rfl : v7 = .int .i64 (insR most (x1, x2, x3) l) := h7
          obtain rfl : v8 = .bool false := h8
          change wpList Try.prog _ _ _ _ wz
          have hw : PairE Rep 33 w.heap.size w (.pointer (some q)) g most (cond (S 3) (insL most (x1, x2, x3) l) l) (cond (S 7) (insL most (x1, x2, x3) l) l) [(wr.heap.size, #[.int .i64 kd, .int .i64 x1, .int .i64 x2, .int .i64 x3])] wz := hw
          rw [show S 3 = true from hS 3 (by decide), show S 7 = true from hS 7 (by decide)] at hw
          have hw : PairE Rep 33 w.heap.size w (.pointer (some q)) g most (insL most (x1, x2, x3) l) (insL most (x1, x2, x3) l) [(wr.heap.size, #[.int .i64 kd, .int .i64 x1, .int .i64 x2, .int .i64 x3])] wz := hw
          clear HPU HPE
          go_wp2_with fail
          refine calm_normal ?_
          have HL2 := Lib.hid (show (insL most (x1, x2, x3) l).length ≤ k + 1 by have := insL_len most (x1, x2, x3) l; have := HL.out; omega)
          obtain ⟨m, hm⟩ : ∃ m, insL most (x1, x2, x3) l = m := ⟨_, rfl⟩
          rw [hm] at hw HL2
          clear hm
          obtain ⟨F2, A2, n2, c2, hp2⟩ := hw
          have HP := Lib.hid (hp2.less (os' := []) (fun _ h => by cases h))
          clear hp2
          go_wp2_with fail
          refine (HK.out.items _ _ _ _ _ HP.out.rep (by have := HL2.out; have := HN.out; omega)).mono ?_
          rintro e w5 ⟨G5, n5, c5, rfl, o5, b5⟩
          have HO5 := Lib.hid o5
          have HP5 := Lib.hid (HP.out.keep HK.out.toRepOk b5)
          have HA5 := Lib.hid (show ∀ j, inRow G5 n5 c5 j → wz.heap.size ≤ j from own_ge o5)
          have HA6 := Lib.hid (show ∀ j, (F2 j ∨ j = g ∨ inRow A2 n2 c2 j) → j < wz.heap.size from fun j hj => by
            rcases hj with h | h | h
            · exact HK.out.lt HP.out.rep j h
            · subst h; exact HP.out.tree.sz
            · exact own_lt HP.out.tree.o h)
          have HA7 := Lib.hid HP.out.bs
          clear o5 b5
          have HTR := Lib.hid HP5.out.tree.r
          have t1 := HTR.out.s
          have htl : g < w5.heap.size := HTR.out.lt
          have HLN := Lib.hid HP5.out.tree.len
          have HLN5 := Lib.hid (Itm.count (own_lies HO5.out))
          clear HP
          go_upto_region 23 with fail
          refine wp_region_rel 17 (Ext w5)
            (fun i => List.getD [VE (.slice G5 n5 c5), VE (.pointer (some ⟨g, 0, none⟩)), VE (.pointer (some ⟨g, 0, none⟩)), VE (.pointer (some ⟨g, 1, none⟩)), VE (.slice A2 n2 c2), VE (.bool true), VE (.bool false), VE (.bool false), VE (.pointer (some q)), VE (.int .i64 (n2 : Int)), VE (.pointer (some ⟨g, 0, none⟩)), VE (.pointer (some ⟨g, 0, none⟩)), VE (.pointer (some ⟨g, 1, none⟩)), VE (.slice A2 n2 c2), VE (.int .i64 (n2 : Int)), VE (.bool false), VE (.bool false)] i (fun _ _ => False)) [] [0, 1, 2, 3, 6, 7, 8, 10, 11, 12, 14, 15, 16] (by kernel_rfl) (by kernel_rfl) (Ext.start w5) (fun _ _ h hb => h.grow hb)
            (stays_all (stays_cons (stays_VE _) (stays_cons (stays_VE _) (stays_cons (stays_VE _) (stays_cons (stays_VE _) (stays_cons (stays_VE _) (stays_cons (stays_VE _) (stays_cons (stays_VE _) (stays_cons (stays_VE _) (stays_cons (stays_VE _) (stays_cons (stays_VE _) (stays_cons (stays_VE _) (stays_cons (stays_VE _) (stays_cons (stays_VE _) (stays_cons (stays_VE _) (stays_cons (stays_VE _) (stays_cons (stays_VE _) (stays_cons (stays_VE _) stays_nil)))))))))))))))))) ⟨?_, ?_, ?_, ?_, ?_, ?_, ?_, ?_, ?_, ?_, ?_, ?_, ?_, ?_, ?_, ?_, ?_, trivial⟩ ?_
          · intro ev wv hE hw hd
            refine ifw rfl (ifw rfl ?_)
            have v10 : ev (.tmp 10) = .slice G5 n5 c5 := hE.tmp 10 rfl
            refine ⟨.slice G5 n5 c5, fun w => ?_, rfl⟩
            have e1 := hE.const; have e2 := hE.func; clear hE hd hw
            go_simp
          · intro ev wv hE hw hd
            refine ifw rfl (ifw rfl ?_)
            have v7 : ev (.tmp 7) = .pointer (some ⟨g, 0, none⟩) := hE.tmp 7 rfl
            refine ⟨.pointer (some ⟨g, 0, none⟩), fun w => ?_, rfl⟩
            have e1 := hE.const; have e2 := hE.func; clear hE hd hw
            go_simp
          · intro ev wv hE hw hd
            refine ifw rfl (ifw rfl ?_)
            have v89 : ev (.tmp 89) = .pointer (some ⟨g, 0, none⟩) := hd 1 (by decide)
            refine ⟨.pointer (some ⟨g, 0, none⟩), fun w => ?_, rfl⟩
            have e1 := hE.const; have e2 := hE.func; clear hE hd hw
            go_simp
          · intro ev wv hE hw hd
            refine ifw rfl (ifw rfl ?_)
            have v90 : ev (.tmp 90) = .pointer (some ⟨g, 0, none⟩) := hd 2 (by decide)
            refine ⟨.pointer (some ⟨g, 1, none⟩), fun w => ?_, rfl⟩
            have e1 := hE.const; have e2 := hE.func; clear hE hd hw
            go_simp
          · intro ev wv hE hw hd
            refine ifw rfl (ifn rfl ?_)
            have v91 : ev (.tmp 91) = .pointer (some ⟨g, 1, none⟩) := hd 3 (by decide)
            have kx := (Below.cell (p := ⟨g, 1, none⟩) hw htl).trans t1
            refine rel_val (u := .slice A2 n2 c2) (w' := wv) ?_ (Below.refl _ _) ⟨rfl, fun h => by cases h⟩
            have e1 := hE.const; clear hE hd hw
            go_simp
          · intro ev wv hE hw hd
            refine ifw rfl (ifn rfl ?_)
            have v88 : ev (.tmp 88) = .slice G5 n5 c5 := hd 0 (by decide)
            have v92 : ev (.tmp 92) = .slice A2 n2 c2 := hd 4 (by decide)
            refine rel_call (f := 15) (args := #[.slice G5 n5 c5, .slice A2 n2 c2]) ?_ (isame_yes ((own_lies HO5.out).keep hw) (HTR.out.i.keep hw) (by have := HL2.out; have := HN.out; have := HLN.out; omega)) ?_
            · have e0 := hE.func; have e1 := hE.const; clear hE hd hw
              go_simp
            · rintro e w' ⟨rfl, hb⟩
              exact ⟨_, rfl, hb, rfl, fun h => by cases h⟩
          · intro ev wv hE hw hd
            refine ifw rfl (ifw rfl ?_)
            have v93 : ev (.tmp 93) = .bool true := hd 5 (by decide)
            refine ⟨.bool false, fun w => ?_, rfl⟩
            have e1 := hE.const; have e2 := hE.func; clear hE hd hw
            go_simp
          · intro ev wv hE hw hd
            refine ifw rfl (ifw rfl ?_)
            have v94 : ev (.tmp 94) = .bool false := hd 6 (by decide)
            refine ⟨.bool false, fun w => ?_, rfl⟩
            have e1 := hE.const; have e2 := hE.func; clear hE hd hw
            go_simp
          · intro ev wv hE hw hd
            have vg : ev (.tmp 95) = .bool false := hd 7 (by decide)
            refine ifw (by show (yv (ev (.tmp 95)) == some false) = true; rw [vg]; rfl) (ifw rfl ?_)
            clear vg
            have v5 : ev (.tmp 5) = .pointer (some q) := hE.tmp 5 rfl
            refine ⟨.pointer (some q), fun w => ?_, rfl⟩
            have e1 := hE.const; have e2 := hE.func; clear hE hd hw
            go_simp
          · intro ev wv hE hw hd
            have vg : ev (.tmp 95) = .bool false := hd 7 (by decide)
            refine ifw (by show (yv (ev (.tmp 95)) == some false) = true; rw [vg]; rfl) (ifn rfl ?_)
            clear vg
            have v96 : ev (.tmp 96) = .pointer (some q) := hd 8 (by decide)
            refine rel_call (f := 16) (args := #[.pointer (some q)]) ?_ (avlen_at HK.out (HP5.out.keep HK.out.toRepOk hw).rep HLN.out (by have := HL2.out; have := HN.out; omega)) ?_
            · have e0 := hE.func; have e1 := hE.const; clear hE hd hw
              go_simp
            · rintro e w' ⟨rfl, hb⟩
              exact ⟨_, rfl, hb, rfl, fun h => by cases h⟩
          · intro ev wv hE hw hd
            have vg : ev (.tmp 95) = .bool false := hd 7 (by decide)
            refine ifw (by show (yv (ev (.tmp 95)) == some false) = true; rw [vg]; rfl) (ifw rfl ?_)
            clear vg
            have v7 : ev (.tmp 7) = .pointer (some ⟨g, 0, none⟩) := hE.tmp 7 rfl
            refine ⟨.pointer (some ⟨g, 0, none⟩), fun w => ?_, rfl⟩
            have e1 := hE.const; have e2 := hE.func; clear hE hd hw
            go_simp
          · intro ev wv hE hw hd
            have vg : ev (.tmp 95) = .bool false := hd 7 (by decide)
            refine ifw (by show (yv (ev (.tmp 95)) == some false) = true; rw [vg]; rfl) (ifw rfl ?_)
            clear vg
            have v98 : ev (.tmp 98) = .pointer (some ⟨g, 0, none⟩) := hd 10 (by decide)
            refine ⟨.pointer (some ⟨g, 0, none⟩), fun w => ?_, rfl⟩
            have e1 := hE.const; have e2 := hE.func; clear hE hd hw
            go_simp
          · intro ev wv hE hw hd
            have vg : ev (.tmp 95) = .bool false := hd 7 (by decide)
            refine ifw (by show (yv (ev (.tmp 95)) == some false) = true; rw [vg]; rfl) (ifw rfl ?_)
            clear vg
            have v99 : ev (.tmp 99) = .pointer (some ⟨g, 0, none⟩) := hd 11 (by decide)
            refine ⟨.pointer (some ⟨g, 1, none⟩), fun w => ?_, rfl⟩
            have e1 := hE.const; have e2 := hE.func; clear hE hd hw
            go_simp
          · intro ev wv hE hw hd
            have vg : ev (.tmp 95) = .bool false := hd 7 (by decide)
            refine ifw (by show (yv (ev (.tmp 95)) == some false) = true; rw [vg]; rfl) (ifn rfl ?_)
            clear vg
            have v100 : ev (.tmp 100) = .pointer (some ⟨g, 1, none⟩) := hd 12 (by decide)
            have kx := (Below.cell (p := ⟨g, 1, none⟩) hw htl).trans t1
            refine rel_val (u := .slice A2 n2 c2) (w' := wv) ?_ (Below.refl _ _) ⟨rfl, fun h => by cases h⟩
            have e1 := hE.const; clear hE hd hw
            go_simp
          · intro ev wv hE hw hd
            have vg : ev (.tmp 95) = .bool false := hd 7 (by decide)
            refine ifw (by show (yv (ev (.tmp 95)) == some false) = true; rw [vg]; rfl) (ifw rfl ?_)
            clear vg
            have v101 : ev (.tmp 101) = .slice A2 n2 c2 := hd 13 (by decide)
            refine ⟨.int .i64 (n2 : Int), fun w => ?_, rfl⟩
            have e1 := hE.const; have e2 := hE.func; clear hE hd hw
            go_simp
          · intro ev wv hE hw hd
            have vg : ev (.tmp 95) = .bool false := hd 7 (by decide)
            refine ifw (by show (yv (ev (.tmp 95)) == some false) = true; rw [vg]; rfl) (ifw rfl ?_)
            clear vg
            have v97 : ev (.tmp 97) = .int .i64 (n2 : Int) := hd 9 (by decide)
            have v102 : ev (.tmp 102) = .int .i64 (n2 : Int) := hd 14 (by decide)
            refine ⟨.bool false, fun w => ?_, rfl⟩
            have e1 := hE.const; have e2 := hE.func; clear hE hd hw
            go_simp
          · intro ev wv hE hw hd
            refine ifw rfl (ifw rfl ?_)
            have v95 : ev (.tmp 95) = .bool false := hd 7 (by decide)
            have v103 : ev (.tmp 103) = .bool false := hd 15 (by decide)
            refine ⟨.bool false, fun w => ?_, rfl⟩
            have e1 := hE.const; have e2 := hE.func; clear hE hd hw
            go_simp
          · intro w6 hw
            intro v0 h0 _ v1 h1 _ v2 h2 _ v3 h3 _ v4 h4 _ v5 h5 _ v6 h6 _ v7 h7 _ v8 h8 _ v9 h9 _ v10 h10 _ v11 h11 _ v12 h12 _ v13 h13 _ v14 h14 _ v15 h15 _ v16 h16 _
            simp only [Act.put, List.setIfInBounds_toArray, List.set_cons_zero, List.set_cons_succ, List.drop_succ_cons, List.drop_zero]
            obtain rfl : v0 = _ := h0
            obtain rfl : v1 = _ := h1
            obtain rfl : v2 = _ := h2
            obtain rfl : v3 = _ := h3
            obtain rfl : v4 = _ := h4
            obtain rfl : v5 = _ := h5
            obtain rfl : v6 = _ := h6
            obtain rfl : v7 = _ := h7
            obtain rfl : v8 = _ := h8
            obtain rfl : v9 = _ := h9
            obtain rfl : v10 = _ := h10
            obtain rfl : v11 = _ := h11
            obtain rfl : v12 = _ := h12
            obtain rfl : v13 = _ := h13
            obtain rfl : v14 = _ := h14
            obtain rfl : v15 = _ := h15
            obtain rfl : v16 = _ := h16
            change wpList Try.prog _ _ _ _ w6
            have HP6 := Lib.hid (HP5.out.keep HK.out.toRepOk hw)
            have HO6 := Lib.hid (own_keep HO5.out hw)
            clear hw HTR t1 htl HP5 HO5
            have hn5 : n5 ≤ 1000 := by have := HL2.out; have := HN.out; have := HLN5.out; omega
            go_wp2_with fail
            refine calm_normal ?_
            go_wp2_with fail
            go_loopw [107] (fun u wr => ∃ (i : Nat) (xs : ItL), u = .int .i64 (i : Int) ∧ i ≤ n5 ∧ xs.length = n5 ∧ wr.ownsRow 0 33 3 (.slice G5 n5 c5) n5 (cells3 xs) ∧ Off (inRow G5 n5 c5) w6 wr) (fun u _ => (n5 - intOf u).toNat)
            case atStart => exact ⟨0, m, rfl, by omega, HLN5.out, own_low HO6.out (Nat.zero_le _), Off.refl _ _⟩
            case round =>
              obtain ⟨i, xs, rfl, hi, hxs, hown, hoff⟩ := hrel
              have HF := Lib.hid hoff
              have HX := Lib.hid hxs
              clear hoff hxs
              by_cases hlt : i < n5
              · obtain ⟨s, hs⟩ : ∃ s, xs[i]? = some s := ⟨_, List.getElem?_eq_getElem (by rw [HX.out]; exact hlt)⟩
                obtain ⟨y1, y2, y3⟩ := s
                rcases Joins.ownsRow_forms hown with ⟨_, h0⟩ | ⟨g3, d3, hv⟩
                · omega
                · injection hv with e1 _ e3
                  subst e1 e3
                  have cc : wr.cell? ⟨g3, i * 3 + 1, none⟩ = some (.int .i64 y2) := by rw [hown.cellAt _ (by omega)]; exact (cells3_at hs).2.1
                  have ff : wr.frozen? ⟨g3, i * 3 + 1, none⟩ = false := hown.frozenAt _
                  obtain ⟨y', hy'⟩ : ∃ y', IntKind.i64.wrap (y2 + 1) = y' := ⟨_, rfl⟩
                  have HST := hown.stored (i * 3 + 1) (.int .i64 y')
                  have HO7 := Lib.hid (show (wr.setCell ⟨g3, i * 3 + 1, none⟩ (.int .i64 y')).ownsRow 0 33 3 (.slice (some ⟨g3, 0, none⟩) n5 c5) n5 (cells3 (xs.set i (y1, y', y3))) by rw [← cells3_set1 hs]; exact HST.1)
                  have HF7 := Lib.hid (HF.out.trans (Off.set (F := inRow (some ⟨g3, 0, none⟩) n5 c5) (w := wr) (a := ⟨g3, i * 3 + 1, none⟩) (by simp [inRow, Value.ownBlock]) (.int .i64 y')))
                  clear HST hown hs
                  go_wp2_with fail
                  go_roundw
                  case rel => exact ⟨i + 1, xs.set i (y1, y', y3), by go_num, by omega, by rw [List.length_set]; exact HX.out, by first | exact HO7.out | simpa using HO7.out, by first | exact HF7.out | simpa using HF7.out⟩
                  case measure => simp [intOf]; omega
              · have HPF := Lib.hid (HP6.out.off HK.out.toRepOk HF.out (fun j hj hr => by have h1 := HA5.out j hr; have h2 := HA6.out j (.inl hj); omega) (fun hr => by have h1 := HA5.out g hr; have h2 := HA6.out g (.inr (.inl rfl)); omega) (fun j hj hr => by have h1 := HA5.out j hr; have h2 := HA6.out j (.inr (.inr hj)); omega) (fun _ h => by cases h) (fun j hr => by have h1 := HA5.out j hr; exact Nat.le_trans HA7.out h1))
                clear hown HF HP6 HO6 HA5 HA6
                go_wp2_with fail
                go_roundw
                case rel => exact ⟨k + 1, m, by go_num, by omega, HL2.out, F2, A2, n2, c2, HPF.out⟩
                case measure => simp [intOf]; omega
      · have e1 : (kd == 1) = false := beq_eq_false_iff_ne.2 k1
        clear k1
        by_cases k2 : kd = 2
        · have e2 : (kd == 2) = true := beq_iff_eq.2 k2
          clear k2
          go_upto_region 17 with fail
          refine wp_region_set 9 (fun S wx => PairE Rep 33 w.heap.size w (.pointer (some q)) g most (cond (S 3) (delL (x1, x2, x3) l) l) (cond (S 7) (delL (x1, x2, x3) l) l) [(wr.heap.size, #[.int .i64 kd, .int .i64 x1, .int .i64 x2, .int .i64 x3])] wx) (fun i => List.getD [.pointer (some q), .pointer (some ⟨wr.heap.size, 1, none⟩), .agg #[.int .i64 x1, .int .i64 x2, .int .i64 x3], .int .i64 (delR (x1, x2, x3) l), .pointer (some ⟨g, 0, none⟩), .pointer (some ⟨wr.heap.size, 1, none⟩), .agg #[.int .i64 x1, .int .i64 x2, .int .i64 x3], .int .i64 (delR (x1, x2, x3) l), .bool false] i undef) [0, 1, 4, 5, 8] (by kernel_rfl) (by kernel_rfl) ((have ⟨F0, A0, n0, c0, h⟩ := HPU.out; ⟨F0, A0, n0, c0, h.keep HK.out.toRepOk ((Below.refl _ _).drew)⟩)) ⟨?_, ?_, ?_, ?_, ?_, ?_, ?_, ?_, ?_, trivial⟩ ?_
          · intro ev wv S hE hw hS hd
            refine ifw rfl (ifw rfl ⟨fun w => ?_, hw⟩)
            have v5 : ev (.tmp 5) = .pointer (some q) := hE.tmp 5 rfl
            have e1 := hE.const; have e2 := hE.func; clear hE hd hw hS
            show _ = Result.ok (Next.value (.pointer (some q))) w
            go_simp
          · intro ev wv S hE hw hS hd
            refine ifw rfl (ifw rfl ⟨fun w => ?_, hw⟩)
            have v9 : ev (.tmp 9) = .pointer (some ⟨wr.heap.size, 0, none⟩) := hE.tmp 9 rfl
            have e1 := hE.const; have e2 := hE.func; clear hE hd hw hS
            show _ = Result.ok (Next.value (.pointer (some ⟨wr.heap.size, 1, none⟩))) w
            go_simp
          · intro ev wv S hE hw hS hd
            refine ifw rfl (ifn rfl ?_)
            have v67 : ev (.tmp 67) = .pointer (some ⟨wr.heap.size, 1, none⟩) := (hd 1 (by decide)).2
            have ⟨F0, A0, n0, c0, hp⟩ := hw
            have hb := (hp.oth _ List.mem_cons_self).1
            have kx := hb.get 1 rfl; have ky := hb.get 2 rfl; have kz := hb.get 3 rfl
            clear hb hp
            refine set_val (u := .agg #[.int .i64 x1, .int .i64 x2, .int .i64 x3]) (w' := wv) ?_ ⟨rfl, hw⟩
            have e1 := hE.const; clear hE hd hw hS
            go_simp
          · intro ev wv S hE hw hS hd
            refine ifw rfl (ifn rfl ?_)
            have v66 : ev (.tmp 66) = .pointer (some q) := (hd 0 (by decide)).2
            have v68 : ev (.tmp 68) = .agg #[.int .i64 x1, .int .i64 x2, .int .i64 x3] := (hd 2 (by decide)).2
            have hw : PairE Rep 33 w.heap.size w (.pointer (some q)) g most (cond (S 3) (delL (x1, x2, x3) l) l) (cond (S 7) (delL (x1, x2, x3) l) l) [(wr.heap.size, #[.int .i64 kd, .int .i64 x1, .int .i64 x2, .int .i64 x3])] wv := hw
            rw [show S 3 = false from hS] at hw
            have hw0 := Lib.hid hw
            have ⟨F0, A0, n0, c0, hp⟩ := hw
            refine set_call (f := 10) (args := #[.pointer (some q), .agg #[.int .i64 x1, .int .i64 x2, .int .i64 x3]]) ?_ (HK.out.delete _ _ _ _ l (x1, x2, x3) hp.rep (by have := HL.out; have := HN.out; omega)) ?_
            · have e0 := hE.func; have e1 := hE.const; clear hE hd hw hS
              go_simp
            · rintro e w' ⟨F1, rfl, hr, ho, hF⟩
              exact ⟨_, rfl, rfl, ⟨F1, A0, n0, c0, hp.prog HK.out.toRepOk ho hr hF⟩⟩
          · intro ev wv S hE hw hS hd
            refine ifw rfl (ifw rfl ⟨fun w => ?_, hw⟩)
            have v7 : ev (.tmp 7) = .pointer (some ⟨g, 0, none⟩) := hE.tmp 7 rfl
            have e1 := hE.const; have e2 := hE.func; clear hE hd hw hS
            show _ = Result.ok (Next.value (.pointer (some ⟨g, 0, none⟩))) w
            go_simp
          · intro ev wv S hE hw hS hd
            refine ifw rfl (ifw rfl ⟨fun w => ?_, hw⟩)
            have v9 : ev (.tmp 9) = .pointer (some ⟨wr.heap.size, 0, none⟩) := hE.tmp 9 rfl
            have e1 := hE.const; have e2 := hE.func; clear hE hd hw hS
            show _ = Result.ok (Next.value (.pointer (some ⟨wr.heap.size, 1, none⟩))) w
            go_simp
          · intro ev wv S hE hw hS hd
            refine ifw rfl (ifn rfl ?_)
            have v71 : ev (.tmp 71) = .pointer (some ⟨wr.heap.size, 1, none⟩) := (hd 5 (by decide)).2
            have ⟨F0, A0, n0, c0, hp⟩ := hw
            have hb := (hp.oth _ List.mem_cons_self).1
            have kx := hb.get 1 rfl; have ky := hb.get 2 rfl; have kz := hb.get 3 rfl
            clear hb hp
            refine set_val (u := .agg #[.int .i64 x1, .int .i64 x2, .int .i64 x3]) (w' := wv) ?_ ⟨rfl, hw⟩
            have e1 := hE.const; clear hE hd hw hS
            go_simp
          · intro ev wv S hE hw hS hd
            refine ifw rfl (ifn rfl ?_)
            have v70 : ev (.tmp 70) = .pointer (some ⟨g, 0, none⟩) := (hd 4 (by decide)).2
            have v72 : ev (.tmp 72) = .agg #[.int .i64 x1, .int .i64 x2, .int .i64 x3] := (hd 6 (by decide)).2
            have hw : PairE Rep 33 w.heap.size w (.pointer (some q)) g most (cond (S 3) (delL (x1, x2, x3) l) l) (cond (S 7) (delL (x1, x2, x3) l) l) [(wr.heap.size, #[.int .i64 kd, .int .i64 x1, .int .i64 x2, .int .i64 x3])] wv := hw
            rw [show S 7 = false from hS] at hw
            have hw0 := Lib.hid hw
            have ⟨F0, A0, n0, c0, hp⟩ := hw
            refine set_call (f := 11) (args := #[.pointer (some ⟨g, 0, none⟩), .agg #[.int .i64 x1, .int .i64 x2, .int .i64 x3]]) ?_ (rdel_all (l := l) hp.tree (by have := HL.out; have := HN.out; omega) (x1, x2, x3)) ?_
            · have e0 := hE.func; have e1 := hE.const; clear hE hd hw hS
              go_simp
            · rintro e w' ⟨rfl, A1, n1, c1, ht, ho, ha⟩
              exact ⟨_, rfl, rfl, ⟨F0, A1, n1, c1, hp.doc HK.out.toRepOk ht ho ha⟩⟩
          · intro ev wv S hE hw hS hd
            refine ifw rfl (ifw rfl ⟨fun w => ?_, hw⟩)
            have v69 : ev (.tmp 69) = .int .i64 (delR (x1, x2, x3) l) := (hd 3 (by decide)).2
            have v73 : ev (.tmp 73) = .int .i64 (delR (x1, x2, x3) l) := (hd 7 (by decide)).2
            have e1 := hE.const; have e2 := hE.func; clear hE hd hw hS
            show _ = Result.ok (Next.value (.bool false)) w
            go_simp
          · intro S wz hS hw
            intro v0 h0 _ v1 h1 _ v2 h2 _ v3 h3 _ v4 h4 _ v5 h5 _ v6 h6 _ v7 h7 _ v8 h8 _
            simp only [Act.put, List.setIfInBounds_toArray, List.set_cons_zero, List.set_cons_succ, List.drop_succ_cons, List.drop_zero]
            obtain rfl : v0 = .pointer (some q) := h0
            obtain rfl : v1 = .pointer (some ⟨wr.heap.size, 1, none⟩) := h1
            obtain rfl : v2 = .agg #[.int .i64 x1, .int .i64 x2, .int .i64 x3] := h2
            obtain rfl : v3 = .int .i64 (delR (x1, x2, x3) l) := h3
            obtain rfl : v4 = .pointer (some ⟨g, 0, none⟩) := h4
            obtain rfl : v5 = .pointer (some ⟨wr.heap.size, 1, none⟩) := h5
            obtain rfl : v6 = .agg #[.int .i64 x1, .int .i64 x2, .int .i64 x3] := h6
            obtain rfl : v7 = .int .i64 (delR (x1, x2, x3) l) := h7
            obtain rfl : v8 = .bool false := h8
            change wpList Try.prog _ _ _ _ wz
            have hw : PairE Rep 33 w.heap.size w (.pointer (some q)) g most (cond (S 3) (delL (x1, x2, x3) l) l) (cond (S 7) (delL (x1, x2, x3) l) l) [(wr.heap.size, #[.int .i64 kd, .int .i64 x1, .int .i64 x2, .int .i64 x3])] wz := hw
            rw [show S 3 = true from hS 3 (by decide), show S 7 = true from hS 7 (by decide)] at hw
            have hw : PairE Rep 33 w.heap.size w (.pointer (some q)) g most (delL (x1, x2, x3) l) (delL (x1, x2, x3) l) [(wr.heap.size, #[.int .i64 kd, .int .i64 x1, .int .i64 x2, .int .i64 x3])] wz := hw
            clear HPU HPE
            go_wp2_with fail
            refine calm_normal ?_
            have HL2 := Lib.hid (show (delL (x1, x2, x3) l).length ≤ k + 1 by have := delL_len (x1, x2, x3) l; have := HL.out; omega)
            obtain ⟨m, hm⟩ : ∃ m, delL (x1, x2, x3) l = m := ⟨_, rfl⟩
            rw [hm] at hw HL2
            clear hm
            obtain ⟨F2, A2, n2, c2, hp2⟩ := hw
            have HP := Lib.hid (hp2.less (os' := []) (fun _ h => by cases h))
            clear hp2
            go_wp2_with fail
            refine (HK.out.items _ _ _ _ _ HP.out.rep (by have := HL2.out; have := HN.out; omega)).mono ?_
            rintro e w5 ⟨G5, n5, c5, rfl, o5, b5⟩
            have HO5 := Lib.hid o5
            have HP5 := Lib.hid (HP.out.keep HK.out.toRepOk b5)
            have HA5 := Lib.hid (show ∀ j, inRow G5 n5 c5 j → wz.heap.size ≤ j from own_ge o5)
            have HA6 := Lib.hid (show ∀ j, (F2 j ∨ j = g ∨ inRow A2 n2 c2 j) → j < wz.heap.size from fun j hj => by
              rcases hj with h | h | h
              · exact HK.out.lt HP.out.rep j h
              · subst h; exact HP.out.tree.sz
              · exact own_lt HP.out.tree.o h)
            have HA7 := Lib.hid HP.out.bs
            clear o5 b5
            have HTR := Lib.hid HP5.out.tree.r
            have t1 := HTR.out.s
            have htl : g < w5.heap.size := HTR.out.lt
            have HLN := Lib.hid HP5.out.tree.len
            have HLN5 := Lib.hid (Itm.count (own_lies HO5.out))
            clear HP
            go_upto_region 23 with fail
            refine wp_region_rel 17 (Ext w5)
              (fun i => List.getD [VE (.slice G5 n5 c5), VE (.pointer (some ⟨g, 0, none⟩)), VE (.pointer (some ⟨g, 0, none⟩)), VE (.pointer (some ⟨g, 1, none⟩)), VE (.slice A2 n2 c2), VE (.bool true), VE (.bool false), VE (.bool false), VE (.pointer (some q)), VE (.int .i64 (n2 : Int)), VE (.pointer (some ⟨g, 0, none⟩)), VE (.pointer (some ⟨g, 0, none⟩)), VE (.pointer (some ⟨g, 1, none⟩)), VE (.slice A2 n2 c2), VE (.int .i64 (n2 : Int)), VE (.bool false), VE (.bool false)] i (fun _ _ => False)) [] [0, 1, 2, 3, 6, 7, 8, 10, 11, 12, 14, 15, 16] (by kernel_rfl) (by kernel_rfl) (Ext.start w5) (fun _ _ h hb => h.grow hb)
              (stays_all (stays_cons (stays_VE _) (stays_cons (stays_VE _) (stays_cons (stays_VE _) (stays_cons (stays_VE _) (stays_cons (stays_VE _) (stays_cons (stays_VE _) (stays_cons (stays_VE _) (stays_cons (stays_VE _) (stays_cons (stays_VE _) (stays_cons (stays_VE _) (stays_cons (stays_VE _) (stays_cons (stays_VE _) (stays_cons (stays_VE _) (stays_cons (stays_VE _) (stays_cons (stays_VE _) (stays_cons (stays_VE _) (stays_cons (stays_VE _) stays_nil)))))))))))))))))) ⟨?_, ?_, ?_, ?_, ?_, ?_, ?_, ?_, ?_, ?_, ?_, ?_, ?_, ?_, ?_, ?_, ?_, trivial⟩ ?_
            · intro ev wv hE hw hd
              refine ifw rfl (ifw rfl ?_)
              have v10 : ev (.tmp 10) = .slice G5 n5 c5 := hE.tmp 10 rfl
              refine ⟨.slice G5 n5 c5, fun w => ?_, rfl⟩
              have e1 := hE.const; have e2 := hE.func; clear hE hd hw
              go_simp
            · intro ev wv hE hw hd
              refine ifw rfl (ifw rfl ?_)
              have v7 : ev (.tmp 7) = .pointer (some ⟨g, 0, none⟩) := hE.tmp 7 rfl
              refine ⟨.pointer (some ⟨g, 0, none⟩), fun w => ?_, rfl⟩
              have e1 := hE.const; have e2 := hE.func; clear hE hd hw
              go_simp
            · intro ev wv hE hw hd
              refine ifw rfl (ifw rfl ?_)
              have v89 : ev (.tmp 89) = .pointer (some ⟨g, 0, none⟩) := hd 1 (by decide)
              refine ⟨.pointer (some ⟨g, 0, none⟩), fun w => ?_, rfl⟩
              have e1 := hE.const; have e2 := hE.func; clear hE hd hw
              go_simp
            · intro ev wv hE hw hd
              refine ifw rfl (ifw rfl ?_)
              have v90 : ev (.tmp 90) = .pointer (some ⟨g, 0, none⟩) := hd 2 (by decide)
              refine ⟨.pointer (some ⟨g, 1, none⟩), fun w => ?_, rfl⟩
              have e1 := hE.const; have e2 := hE.func; clear hE hd hw
              go_simp
            · intro ev wv hE hw hd
              refine ifw rfl (ifn rfl ?_)
              have v91 : ev (.tmp 91) = .pointer (some ⟨g, 1, none⟩) := hd 3 (by decide)
              have kx := (Below.cell (p := ⟨g, 1, none⟩) hw htl).trans t1
              refine rel_val (u := .slice A2 n2 c2) (w' := wv) ?_ (Below.refl _ _) ⟨rfl, fun h => by cases h⟩
              have e1 := hE.const; clear hE hd hw
              go_simp
            · intro ev wv hE hw hd
              refine ifw rfl (ifn rfl ?_)
              have v88 : ev (.tmp 88) = .slice G5 n5 c5 := hd 0 (by decide)
              have v92 : ev (.tmp 92) = .slice A2 n2 c2 := hd 4 (by decide)
              refine rel_call (f := 15) (args := #[.slice G5 n5 c5, .slice A2 n2 c2]) ?_ (isame_yes ((own_lies HO5.out).keep hw) (HTR.out.i.keep hw) (by have := HL2.out; have := HN.out; have := HLN.out; omega)) ?_
              · have e0 := hE.func; have e1 := hE.const; clear hE hd hw
                go_simp
              · rintro e w' ⟨rfl, hb⟩
                exact ⟨_, rfl, hb, rfl, fun h => by cases h⟩
            · intro ev wv hE hw hd
              refine ifw rfl (ifw rfl ?_)
              have v93 : ev (.tmp 93) = .bool true := hd 5 (by decide)
              refine ⟨.bool false, fun w => ?_, rfl⟩
              have e1 := hE.const; have e2 := hE.func; clear hE hd hw
              go_simp
            · intro ev wv hE hw hd
              refine ifw rfl (ifw rfl ?_)
              have v94 : ev (.tmp 94) = .bool false := hd 6 (by decide)
              refine ⟨.bool false, fun w => ?_, rfl⟩
              have e1 := hE.const; have e2 := hE.func; clear hE hd hw
              go_simp
            · intro ev wv hE hw hd
              have vg : ev (.tmp 95) = .bool false := hd 7 (by decide)
              refine ifw (by show (yv (ev (.tmp 95)) == some false) = true; rw [vg]; rfl) (ifw rfl ?_)
              clear vg
              have v5 : ev (.tmp 5) = .pointer (some q) := hE.tmp 5 rfl
              refine ⟨.pointer (some q), fun w => ?_, rfl⟩
              have e1 := hE.const; have e2 := hE.func; clear hE hd hw
              go_simp
            · intro ev wv hE hw hd
              have vg : ev (.tmp 95) = .bool false := hd 7 (by decide)
              refine ifw (by show (yv (ev (.tmp 95)) == some false) = true; rw [vg]; rfl) (ifn rfl ?_)
              clear vg
              have v96 : ev (.tmp 96) = .pointer (some q) := hd 8 (by decide)
              refine rel_call (f := 16) (args := #[.pointer (some q)]) ?_ (avlen_at HK.out (HP5.out.keep HK.out.toRepOk hw).rep HLN.out (by have := HL2.out; have := HN.out; omega)) ?_
              · have e0 := hE.func; have e1 := hE.const; clear hE hd hw
                go_simp
              · rintro e w' ⟨rfl, hb⟩
                exact ⟨_, rfl, hb, rfl, fun h => by cases h⟩
            · intro ev wv hE hw hd
              have vg : ev (.tmp 95) = .bool false := hd 7 (by decide)
              refine ifw (by show (yv (ev (.tmp 95)) == some false) = true; rw [vg]; rfl) (ifw rfl ?_)
              clear vg
              have v7 : ev (.tmp 7) = .pointer (some ⟨g, 0, none⟩) := hE.tmp 7 rfl
              refine ⟨.pointer (some ⟨g, 0, none⟩), fun w => ?_, rfl⟩
              have e1 := hE.const; have e2 := hE.func; clear hE hd hw
              go_simp
            · intro ev wv hE hw hd
              have vg : ev (.tmp 95) = .bool false := hd 7 (by decide)
              refine ifw (by show (yv (ev (.tmp 95)) == some false) = true; rw [vg]; rfl) (ifw rfl ?_)
              clear vg
              have v98 : ev (.tmp 98) = .pointer (some ⟨g, 0, none⟩) := hd 10 (by decide)
              refine ⟨.pointer (some ⟨g, 0, none⟩), fun w => ?_, rfl⟩
              have e1 := hE.const; have e2 := hE.func; clear hE hd hw
              go_simp
            · intro ev wv hE hw hd
              have vg : ev (.tmp 95) = .bool false := hd 7 (by decide)
              refine ifw (by show (yv (ev (.tmp 95)) == some false) = true; rw [vg]; rfl) (ifw rfl ?_)
              clear vg
              have v99 : ev (.tmp 99) = .pointer (some ⟨g, 0, none⟩) := hd 11 (by decide)
              refine ⟨.pointer (some ⟨g, 1, none⟩), fun w => ?_, rfl⟩
              have e1 := hE.const; have e2 := hE.func; clear hE hd hw
              go_simp
            · intro ev wv hE hw hd
              have vg : ev (.tmp 95) = .bool false := hd 7 (by decide)
              refine ifw (by show (yv (ev (.tmp 95)) == some false) = true; rw [vg]; rfl) (ifn rfl ?_)
              clear vg
              have v100 : ev (.tmp 100) = .pointer (some ⟨g, 1, none⟩) := hd 12 (by decide)
              have kx := (Below.cell (p := ⟨g, 1, none⟩) hw htl).trans t1
              refine rel_val (u := .slice A2 n2 c2) (w' := wv) ?_ (Below.refl _ _) ⟨rfl, fun h => by cases h⟩
              have e1 := hE.const; clear hE hd hw
              go_simp
            · intro ev wv hE hw hd
              have vg : ev (.tmp 95) = .bool false := hd 7 (by decide)
              refine ifw (by show (yv (ev (.tmp 95)) == some false) = true; rw [vg]; rfl) (ifw rfl ?_)
              clear vg
              have v101 : ev (.tmp 101) = .slice A2 n2 c2 := hd 13 (by decide)
              refine ⟨.int .i64 (n2 : Int), fun w => ?_, rfl⟩
              have e1 := hE.const; have e2 := hE.func; clear hE hd hw
              go_simp
            · intro ev wv hE hw hd
              have vg : ev (.tmp 95) = .bool false := hd 7 (by decide)
              refine ifw (by show (yv (ev (.tmp 95)) == some false) = true; rw [vg]; rfl) (ifw rfl ?_)
              clear vg
              have v97 : ev (.tmp 97) = .int .i64 (n2 : Int) := hd 9 (by decide)
              have v102 : ev (.tmp 102) = .int .i64 (n2 : Int) := hd 14 (by decide)
              refine ⟨.bool false, fun w => ?_, rfl⟩
              have e1 := hE.const; have e2 := hE.func; clear hE hd hw
              go_simp
            · intro ev wv hE hw hd
              refine ifw rfl (ifw rfl ?_)
              have v95 : ev (.tmp 95) = .bool false := hd 7 (by decide)
              have v103 : ev (.tmp 103) = .bool false := hd 15 (by decide)
              refine ⟨.bool false, fun w => ?_, rfl⟩
              have e1 := hE.const; have e2 := hE.func; clear hE hd hw
              go_simp
            · intro w6 hw
              intro v0 h0 _ v1 h1 _ v2 h2 _ v3 h3 _ v4 h4 _ v5 h5 _ v6 h6 _ v7 h7 _ v8 h8 _ v9 h9 _ v10 h10 _ v11 h11 _ v12 h12 _ v13 h13 _ v14 h14 _ v15 h15 _ v16 h16 _
              simp only [Act.put, List.setIfInBounds_toArray, List.set_cons_zero, List.set_cons_succ, List.drop_succ_cons, List.drop_zero]
              obtain rfl : v0 = _ := h0
              obtain rfl : v1 = _ := h1
              obtain rfl : v2 = _ := h2
              obtain rfl : v3 = _ := h3
              obtain rfl : v4 = _ := h4
              obtain rfl : v5 = _ := h5
              obtain rfl : v6 = _ := h6
              obtain rfl : v7 = _ := h7
              obtain rfl : v8 = _ := h8
              obtain rfl : v9 = _ := h9
              obtain rfl : v10 = _ := h10
              obtain rfl : v11 = _ := h11
              obtain rfl : v12 = _ := h12
              obtain rfl : v13 = _ := h13
              obtain rfl : v14 = _ := h14
              obtain rfl : v15 = _ := h15
              obtain rfl : v16 = _ := h16
              change wpList Try.prog _ _ _ _ w6
              have HP6 := Lib.hid (HP5.out.keep HK.out.toRepOk hw)
              have HO6 := Lib.hid (own_keep HO5.out hw)
              clear hw HTR t1 htl HP5 HO5
              have hn5 : n5 ≤ 1000 := by have := HL2.out; have := HN.out; have := HLN5.out; omega
              go_wp2_with fail
              refine calm_normal ?_
              go_wp2_with fail
              go_loopw [107] (fun u wr => ∃ (i : Nat) (xs : ItL), u = .int .i64 (i : Int) ∧ i ≤ n5 ∧ xs.length = n5 ∧ wr.ownsRow 0 33 3 (.slice G5 n5 c5) n5 (cells3 xs) ∧ Off (inRow G5 n5 c5) w6 wr) (fun u _ => (n5 - intOf u).toNat)
              case atStart => exact ⟨0, m, rfl, by omega, HLN5.out, own_low HO6.out (Nat.zero_le _), Off.refl _ _⟩
              case round =>
                obtain ⟨i, xs, rfl, hi, hxs, hown, hoff⟩ := hrel
                have HF := Lib.hid hoff
                have HX := Lib.hid hxs
                clear hoff hxs
                by_cases hlt : i < n5
                · obtain ⟨s, hs⟩ : ∃ s, xs[i]? = some s := ⟨_, List.getElem?_eq_getElem (by rw [HX.out]; exact hlt)⟩
                  obtain ⟨y1, y2, y3⟩ := s
                  rcases Joins.ownsRow_forms hown with ⟨_, h0⟩ | ⟨g3, d3, hv⟩
                  · omega
                  · injection hv with e1 _ e3
                    subst e1 e3
                    have cc : wr.cell? ⟨g3, i * 3 + 1, none⟩ = some (.int .i64 y2) := by rw [hown.cellAt _ (by omega)]; exact (cells3_at hs).2.1
                    have ff : wr.frozen? ⟨g3, i * 3 + 1, none⟩ = false := hown.frozenAt _
                    obtain ⟨y', hy'⟩ : ∃ y', IntKind.i64.wrap (y2 + 1) = y' := ⟨_, rfl⟩
                    have HST := hown.stored (i * 3 + 1) (.int .i64 y')
                    have HO7 := Lib.hid (show (wr.setCell ⟨g3, i * 3 + 1, none⟩ (.int .i64 y')).ownsRow 0 33 3 (.slice (some ⟨g3, 0, none⟩) n5 c5) n5 (cells3 (xs.set i (y1, y', y3))) by rw [← cells3_set1 hs]; exact HST.1)
                    have HF7 := Lib.hid (HF.out.trans (Off.set (F := inRow (some ⟨g3, 0, none⟩) n5 c5) (w := wr) (a := ⟨g3, i * 3 + 1, none⟩) (by simp [inRow, Value.ownBlock]) (.int .i64 y')))
                    clear HST hown hs
                    go_wp2_with fail
                    go_roundw
                    case rel => exact ⟨i + 1, xs.set i (y1, y', y3), by go_num, by omega, by rw [List.length_set]; exact HX.out, by first | exact HO7.out | simpa using HO7.out, by first | exact HF7.out | simpa using HF7.out⟩
                    case measure => simp [intOf]; omega
                · have HPF := Lib.hid (HP6.out.off HK.out.toRepOk HF.out (fun j hj hr => by have h1 := HA5.out j hr; have h2 := HA6.out j (.inl hj); omega) (fun hr => by have h1 := HA5.out g hr; have h2 := HA6.out g (.inr (.inl rfl)); omega) (fun j hj hr => by have h1 := HA5.out j hr; have h2 := HA6.out j (.inr (.inr hj)); omega) (fun _ h => by cases h) (fun j hr => by have h1 := HA5.out j hr; exact Nat.le_trans HA7.out h1))
                  clear hown HF HP6 HO6 HA5 HA6
                  go_wp2_with fail
                  go_roundw
                  case rel => exact ⟨k + 1, m, by go_num, by omega, HL2.out, F2, A2, n2, c2, HPF.out⟩
                  case measure => simp [intOf]; omega
        · have e2 : (kd == 2) = false := beq_eq_false_iff_ne.2 k2
          clear k2
          by_cases k3 : kd = 3
          · have e3 : (kd == 3) = true := beq_iff_eq.2 k3
            clear k3
            obtain ⟨hb3, hh3⟩ : ∃ b, hasI (x1, x2, x3) l = b := ⟨_, rfl⟩
            have HH3 := Lib.hid hh3
            clear hh3
            go_upto_region 20 with fail
            refine wp_region_set 9 (fun S wx => PairE Rep 33 w.heap.size w (.pointer (some q)) g most (cond (S 3) (l) l) (cond (S 7) (l) l) [(wr.heap.size, #[.int .i64 kd, .int .i64 x1, .int .i64 x2, .int .i64 x3])] wx) (fun i => List.getD [.pointer (some q), .pointer (some ⟨wr.heap.size, 1, none⟩), .agg #[.int .i64 x1, .int .i64 x2, .int .i64 x3], .bool hb3, .pointer (some ⟨g, 0, none⟩), .pointer (some ⟨wr.heap.size, 1, none⟩), .agg #[.int .i64 x1, .int .i64 x2, .int .i64 x3], .bool hb3, .bool false] i undef) [0, 1, 4, 5, 8] (by kernel_rfl) (by kernel_rfl) ((have ⟨F0, A0, n0, c0, h⟩ := HPU.out; ⟨F0, A0, n0, c0, h.keep HK.out.toRepOk ((Below.refl _ _).drew)⟩)) ⟨?_, ?_, ?_, ?_, ?_, ?_, ?_, ?_, ?_, trivial⟩ ?_
            · intro ev wv S hE hw hS hd
              refine ifw rfl (ifw rfl ⟨fun w => ?_, hw⟩)
              have v5 : ev (.tmp 5) = .pointer (some q) := hE.tmp 5 rfl
              have e1 := hE.const; have e2 := hE.func; clear hE hd hw hS
              show _ = Result.ok (Next.value (.pointer (some q))) w
              go_simp
            · intro ev wv S hE hw hS hd
              refine ifw rfl (ifw rfl ⟨fun w => ?_, hw⟩)
              have v9 : ev (.tmp 9) = .pointer (some ⟨wr.heap.size, 0, none⟩) := hE.tmp 9 rfl
              have e1 := hE.const; have e2 := hE.func; clear hE hd hw hS
              show _ = Result.ok (Next.value (.pointer (some ⟨wr.heap.size, 1, none⟩))) w
              go_simp
            · intro ev wv S hE hw hS hd
              refine ifw rfl (ifn rfl ?_)
              have v78 : ev (.tmp 78) = .pointer (some ⟨wr.heap.size, 1, none⟩) := (hd 1 (by decide)).2
              have ⟨F0, A0, n0, c0, hp⟩ := hw
              have hb := (hp.oth _ List.mem_cons_self).1
              have kx := hb.get 1 rfl; have ky := hb.get 2 rfl; have kz := hb.get 3 rfl
              clear hb hp
              refine set_val (u := .agg #[.int .i64 x1, .int .i64 x2, .int .i64 x3]) (w' := wv) ?_ ⟨rfl, hw⟩
              have e1 := hE.const; clear hE hd hw hS
              go_simp
            · intro ev wv S hE hw hS hd
              refine ifw rfl (ifn rfl ?_)
              have v77 : ev (.tmp 77) = .pointer (some q) := (hd 0 (by decide)).2
              have v79 : ev (.tmp 79) = .agg #[.int .i64 x1, .int .i64 x2, .int .i64 x3] := (hd 2 (by decide)).2
              have hw : PairE Rep 33 w.heap.size w (.pointer (some q)) g most (cond (S 3) (l) l) (cond (S 7) (l) l) [(wr.heap.size, #[.int .i64 kd, .int .i64 x1, .int .i64 x2, .int .i64 x3])] wv := hw
              rw [show S 3 = false from hS] at hw
              have hw0 := Lib.hid hw
              have ⟨F0, A0, n0, c0, hp⟩ := hw
              refine set_call (f := 12) (args := #[.pointer (some q), .agg #[.int .i64 x1, .int .i64 x2, .int .i64 x3]]) ?_ (avhas_at HK.out (l := l) hp.rep (x1, x2, x3) (by have := HL.out; have := HN.out; omega) HH3.out) ?_
              · have e0 := hE.func; have e1 := hE.const; clear hE hd hw hS
                go_simp
              · rintro e w' ⟨rfl, hb⟩
                exact ⟨_, rfl, rfl, ⟨F0, A0, n0, c0, hp.keep HK.out.toRepOk hb⟩⟩
            · intro ev wv S hE hw hS hd
              refine ifw rfl (ifw rfl ⟨fun w => ?_, hw⟩)
              have v7 : ev (.tmp 7) = .pointer (some ⟨g, 0, none⟩) := hE.tmp 7 rfl
              have e1 := hE.const; have e2 := hE.func; clear hE hd hw hS
              show _ = Result.ok (Next.value (.pointer (some ⟨g, 0, none⟩))) w
              go_simp
            · intro ev wv S hE hw hS hd
              refine ifw rfl (ifw rfl ⟨fun w => ?_, hw⟩)
              have v9 : ev (.tmp 9) = .pointer (some ⟨wr.heap.size, 0, none⟩) := hE.tmp 9 rfl
              have e1 := hE.const; have e2 := hE.func; clear hE hd hw hS
              show _ = Result.ok (Next.value (.pointer (some ⟨wr.heap.size, 1, none⟩))) w
              go_simp
            · intro ev wv S hE hw hS hd
              refine ifw rfl (ifn rfl ?_)
              have v82 : ev (.tmp 82) = .pointer (some ⟨wr.heap.size, 1, none⟩) := (hd 5 (by decide)).2
              have ⟨F0, A0, n0, c0, hp⟩ := hw
              have hb := (hp.oth _ List.mem_cons_self).1
              have kx := hb.get 1 rfl; have ky := hb.get 2 rfl; have kz := hb.get 3 rfl
              clear hb hp
              refine set_val (u := .agg #[.int .i64 x1, .int .i64 x2, .int .i64 x3]) (w' := wv) ?_ ⟨rfl, hw⟩
              have e1 := hE.const; clear hE hd hw hS
              go_simp
            · intro ev wv S hE hw hS hd
              refine ifw rfl (ifn rfl ?_)
              have v81 : ev (.tmp 81) = .pointer (some ⟨g, 0, none⟩) := (hd 4 (by decide)).2
              have v83 : ev (.tmp 83) = .agg #[.int .i64 x1, .int .i64 x2, .int .i64 x3] := (hd 6 (by decide)).2
              have hw : PairE Rep 33 w.heap.size w (.pointer (some q)) g most (cond (S 3) (l) l) (cond (S 7) (l) l) [(wr.heap.size, #[.int .i64 kd, .int .i64 x1, .int .i64 x2, .int .i64 x3])] wv := hw
              rw [show S 7 = false from hS] at hw
              have hw0 := Lib.hid hw
              have ⟨F0, A0, n0, c0, hp⟩ := hw
              refine set_call (f := 13) (args := #[.pointer (some ⟨g, 0, none⟩), .agg #[.int .i64 x1, .int .i64 x2, .int .i64 x3]]) ?_ (rhas_at (l := l) hp.tree.r (x1, x2, x3) (by have := HL.out; have := HN.out; omega) HH3.out) ?_
              · have e0 := hE.func; have e1 := hE.const; clear hE hd hw hS
                go_simp
              · rintro e w' ⟨rfl, hb⟩
                exact ⟨_, rfl, rfl, ⟨F0, A0, n0, c0, hp.keep HK.out.toRepOk hb⟩⟩
            · intro ev wv S hE hw hS hd
              refine ifw rfl (ifw rfl ⟨fun w => ?_, hw⟩)
              have v80 : ev (.tmp 80) = .bool hb3 := (hd 3 (by decide)).2
              have v84 : ev (.tmp 84) = .bool hb3 := (hd 7 (by decide)).2
              have e1 := hE.const; have e2 := hE.func; clear hE hd hw hS
              show _ = Result.ok (Next.value (.bool false)) w
              go_simp
            · intro S wz hS hw
              intro v0 h0 _ v1 h1 _ v2 h2 _ v3 h3 _ v4 h4 _ v5 h5 _ v6 h6 _ v7 h7 _ v8 h8 _
              simp only [Act.put, List.setIfInBounds_toArray, List.set_cons_zero, List.set_cons_succ, List.drop_succ_cons, List.drop_zero]
              obtain rfl : v0 = .pointer (some q) := h0
              obtain rfl : v1 = .pointer (some ⟨wr.heap.size, 1, none⟩) := h1
              obtain rfl : v2 = .agg #[.int .i64 x1, .int .i64 x2, .int .i64 x3] := h2
              obtain rfl : v3 = .bool hb3 := h3
              obtain rfl : v4 = .pointer (some ⟨g, 0, none⟩) := h4
              obtain rfl : v5 = .pointer (some ⟨wr.heap.size, 1, none⟩) := h5
              obtain rfl : v6 = .agg #[.int .i64 x1, .int .i64 x2, .int .i64 x3] := h6
              obtain rfl : v7 = .bool hb3 := h7
              obtain rfl : v8 = .bool false := h8
              change wpList Try.prog _ _ _ _ wz
              have hw : PairE Rep 33 w.heap.size w (.pointer (some q)) g most (cond (S 3) (l) l) (cond (S 7) (l) l) [(wr.heap.size, #[.int .i64 kd, .int .i64 x1, .int .i64 x2, .int .i64 x3])] wz := hw
              rw [show S 3 = true from hS 3 (by decide), show S 7 = true from hS 7 (by decide)] at hw
              have hw : PairE Rep 33 w.heap.size w (.pointer (some q)) g most (l) (l) [(wr.heap.size, #[.int .i64 kd, .int .i64 x1, .int .i64 x2, .int .i64 x3])] wz := hw
              clear HPU HPE
              go_wp2_with fail
              refine calm_normal ?_
              have HL2 := Lib.hid (show (l).length ≤ k + 1 by have := HL.out; omega)
              obtain ⟨m, hm⟩ : ∃ m, l = m := ⟨_, rfl⟩
              rw [hm] at hw HL2
              clear hm
              obtain ⟨F2, A2, n2, c2, hp2⟩ := hw
              have HP := Lib.hid (hp2.less (os' := []) (fun _ h => by cases h))
              clear hp2
              go_wp2_with fail
              refine (HK.out.items _ _ _ _ _ HP.out.rep (by have := HL2.out; have := HN.out; omega)).mono ?_
              rintro e w5 ⟨G5, n5, c5, rfl, o5, b5⟩
              have HO5 := Lib.hid o5
              have HP5 := Lib.hid (HP.out.keep HK.out.toRepOk b5)
              have HA5 := Lib.hid (show ∀ j, inRow G5 n5 c5 j → wz.heap.size ≤ j from own_ge o5)
              have HA6 := Lib.hid (show ∀ j, (F2 j ∨ j = g ∨ inRow A2 n2 c2 j) → j < wz.heap.size from fun j hj => by
                rcases hj with h | h | h
                · exact HK.out.lt HP.out.rep j h
                · subst h; exact HP.out.tree.sz
                · exact own_lt HP.out.tree.o h)
              have HA7 := Lib.hid HP.out.bs
              clear o5 b5
              have HTR := Lib.hid HP5.out.tree.r
              have t1 := HTR.out.s
              have htl : g < w5.heap.size := HTR.out.lt
              have HLN := Lib.hid HP5.out.tree.len
              have HLN5 := Lib.hid (Itm.count (own_lies HO5.out))
              clear HP
              go_upto_region 23 with fail
              refine wp_region_rel 17 (Ext w5)
                (fun i => List.getD [VE (.slice G5 n5 c5), VE (.pointer (some ⟨g, 0, none⟩)), VE (.pointer (some ⟨g, 0, none⟩)), VE (.pointer (some ⟨g, 1, none⟩)), VE (.slice A2 n2 c2), VE (.bool true), VE (.bool false), VE (.bool false), VE (.pointer (some q)), VE (.int .i64 (n2 : Int)), VE (.pointer (some ⟨g, 0, none⟩)), VE (.pointer (some ⟨g, 0, none⟩)), VE (.pointer (some ⟨g, 1, none⟩)), VE (.slice A2 n2 c2), VE (.int .i64 (n2 : Int)), VE (.bool false), VE (.bool false)] i (fun _ _ => False)) [] [0, 1, 2, 3, 6, 7, 8, 10, 11, 12, 14, 15, 16] (by kernel_rfl) (by kernel_rfl) (Ext.start w5) (fun _ _ h hb => h.grow hb)
                (stays_all (stays_cons (stays_VE _) (stays_cons (stays_VE _) (stays_cons (stays_VE _) (stays_cons (stays_VE _) (stays_cons (stays_VE _) (stays_cons (stays_VE _) (stays_cons (stays_VE _) (stays_cons (stays_VE _) (stays_cons (stays_VE _) (stays_cons (stays_VE _) (stays_cons (stays_VE _) (stays_cons (stays_VE _) (stays_cons (stays_VE _) (stays_cons (stays_VE _) (stays_cons (stays_VE _) (stays_cons (stays_VE _) (stays_cons (stays_VE _) stays_nil)))))))))))))))))) ⟨?_, ?_, ?_, ?_, ?_, ?_, ?_, ?_, ?_, ?_, ?_, ?_, ?_, ?_, ?_, ?_, ?_, trivial⟩ ?_
              · intro ev wv hE hw hd
                refine ifw rfl (ifw rfl ?_)
                have v10 : ev (.tmp 10) = .slice G5 n5 c5 := hE.tmp 10 rfl
                refine ⟨.slice G5 n5 c5, fun w => ?_, rfl⟩
                have e1 := hE.const; have e2 := hE.func; clear hE hd hw
                go_simp
              · intro ev wv hE hw hd
                refine ifw rfl (ifw rfl ?_)
                have v7 : ev (.tmp 7) = .pointer (some ⟨g, 0, none⟩) := hE.tmp 7 rfl
                refine ⟨.pointer (some ⟨g, 0, none⟩), fun w => ?_, rfl⟩
                have e1 := hE.const; have e2 := hE.func; clear hE hd hw
                go_simp
              · intro ev wv hE hw hd
                refine ifw rfl (ifw rfl ?_)
                have v89 : ev (.tmp 89) = .pointer (some ⟨g, 0, none⟩) := hd 1 (by decide)
                refine ⟨.pointer (some ⟨g, 0, none⟩), fun w => ?_, rfl⟩
                have e1 := hE.const; have e2 := hE.func; clear hE hd hw
                go_simp
              · intro ev wv hE hw hd
                refine ifw rfl (ifw rfl ?_)
                have v90 : ev (.tmp 90) = .pointer (some ⟨g, 0, none⟩) := hd 2 (by decide)
                refine ⟨.pointer (some ⟨g, 1, none⟩), fun w => ?_, rfl⟩
                have e1 := hE.const; have e2 := hE.func; clear hE hd hw
                go_simp
              · intro ev wv hE hw hd
                refine ifw rfl (ifn rfl ?_)
                have v91 : ev (.tmp 91) = .pointer (some ⟨g, 1, none⟩) := hd 3 (by decide)
                have kx := (Below.cell (p := ⟨g, 1, none⟩) hw htl).trans t1
                refine rel_val (u := .slice A2 n2 c2) (w' := wv) ?_ (Below.refl _ _) ⟨rfl, fun h => by cases h⟩
                have e1 := hE.const; clear hE hd hw
                go_simp
              · intro ev wv hE hw hd
                refine ifw rfl (ifn rfl ?_)
                have v88 : ev (.tmp 88) = .slice G5 n5 c5 := hd 0 (by decide)
                have v92 : ev (.tmp 92) = .slice A2 n2 c2 := hd 4 (by decide)
                refine rel_call (f := 15) (args := #[.slice G5 n5 c5, .slice A2 n2 c2]) ?_ (isame_yes ((own_lies HO5.out).keep hw) (HTR.out.i.keep hw) (by have := HL2.out; have := HN.out; have := HLN.out; omega)) ?_
                · have e0 := hE.func; have e1 := hE.const; clear hE hd hw
                  go_simp
                · rintro e w' ⟨rfl, hb⟩
                  exact ⟨_, rfl, hb, rfl, fun h => by cases h⟩
              · intro ev wv hE hw hd
                refine ifw rfl (ifw rfl ?_)
                have v93 : ev (.tmp 93) = .bool true := hd 5 (by decide)
                refine ⟨.bool false, fun w => ?_, rfl⟩
                have e1 := hE.const; have e2 := hE.func; clear hE hd hw
                go_simp
              · intro ev wv hE hw hd
                refine ifw rfl (ifw rfl ?_)
                have v94 : ev (.tmp 94) = .bool false := hd 6 (by decide)
                refine ⟨.bool false, fun w => ?_, rfl⟩
                have e1 := hE.const; have e2 := hE.func; clear hE hd hw
                go_simp
              · intro ev wv hE hw hd
                have vg : ev (.tmp 95) = .bool false := hd 7 (by decide)
                refine ifw (by show (yv (ev (.tmp 95)) == some false) = true; rw [vg]; rfl) (ifw rfl ?_)
                clear vg
                have v5 : ev (.tmp 5) = .pointer (some q) := hE.tmp 5 rfl
                refine ⟨.pointer (some q), fun w => ?_, rfl⟩
                have e1 := hE.const; have e2 := hE.func; clear hE hd hw
                go_simp
              · intro ev wv hE hw hd
                have vg : ev (.tmp 95) = .bool false := hd 7 (by decide)
                refine ifw (by show (yv (ev (.tmp 95)) == some false) = true; rw [vg]; rfl) (ifn rfl ?_)
                clear vg
                have v96 : ev (.tmp 96) = .pointer (some q) := hd 8 (by decide)
                refine rel_call (f := 16) (args := #[.pointer (some q)]) ?_ (avlen_at HK.out (HP5.out.keep HK.out.toRepOk hw).rep HLN.out (by have := HL2.out; have := HN.out; omega)) ?_
                · have e0 := hE.func; have e1 := hE.const; clear hE hd hw
                  go_simp
                · rintro e w' ⟨rfl, hb⟩
                  exact ⟨_, rfl, hb, rfl, fun h => by cases h⟩
              · intro ev wv hE hw hd
                have vg : ev (.tmp 95) = .bool false := hd 7 (by decide)
                refine ifw (by show (yv (ev (.tmp 95)) == some false) = true; rw [vg]; rfl) (ifw rfl ?_)
                clear vg
                have v7 : ev (.tmp 7) = .pointer (some ⟨g, 0, none⟩) := hE.tmp 7 rfl
                refine ⟨.pointer (some ⟨g, 0, none⟩), fun w => ?_, rfl⟩
                have e1 := hE.const; have e2 := hE.func; clear hE hd hw
                go_simp
              · intro ev wv hE hw hd
                have vg : ev (.tmp 95) = .bool false := hd 7 (by decide)
                refine ifw (by show (yv (ev (.tmp 95)) == some false) = true; rw [vg]; rfl) (ifw rfl ?_)
                clear vg
                have v98 : ev (.tmp 98) = .pointer (some ⟨g, 0, none⟩) := hd 10 (by decide)
                refine ⟨.pointer (some ⟨g, 0, none⟩), fun w => ?_, rfl⟩
                have e1 := hE.const; have e2 := hE.func; clear hE hd hw
                go_simp
              · intro ev wv hE hw hd
                have vg : ev (.tmp 95) = .bool false := hd 7 (by decide)
                refine ifw (by show (yv (ev (.tmp 95)) == some false) = true; rw [vg]; rfl) (ifw rfl ?_)
                clear vg
                have v99 : ev (.tmp 99) = .pointer (some ⟨g, 0, none⟩) := hd 11 (by decide)
                refine ⟨.pointer (some ⟨g, 1, none⟩), fun w => ?_, rfl⟩
                have e1 := hE.const; have e2 := hE.func; clear hE hd hw
                go_simp
              · intro ev wv hE hw hd
                have vg : ev (.tmp 95) = .bool false := hd 7 (by decide)
                refine ifw (by show (yv (ev (.tmp 95)) == some false) = true; rw [vg]; rfl) (ifn rfl ?_)
                clear vg
                have v100 : ev (.tmp 100) = .pointer (some ⟨g, 1, none⟩) := hd 12 (by decide)
                have kx := (Below.cell (p := ⟨g, 1, none⟩) hw htl).trans t1
                refine rel_val (u := .slice A2 n2 c2) (w' := wv) ?_ (Below.refl _ _) ⟨rfl, fun h => by cases h⟩
                have e1 := hE.const; clear hE hd hw
                go_simp
              · intro ev wv hE hw hd
                have vg : ev (.tmp 95) = .bool false := hd 7 (by decide)
                refine ifw (by show (yv (ev (.tmp 95)) == some false) = true; rw [vg]; rfl) (ifw rfl ?_)
                clear vg
                have v101 : ev (.tmp 101) = .slice A2 n2 c2 := hd 13 (by decide)
                refine ⟨.int .i64 (n2 : Int), fun w => ?_, rfl⟩
                have e1 := hE.const; have e2 := hE.func; clear hE hd hw
                go_simp
              · intro ev wv hE hw hd
                have vg : ev (.tmp 95) = .bool false := hd 7 (by decide)
                refine ifw (by show (yv (ev (.tmp 95)) == some false) = true; rw [vg]; rfl) (ifw rfl ?_)
                clear vg
                have v97 : ev (.tmp 97) = .int .i64 (n2 : Int) := hd 9 (by decide)
                have v102 : ev (.tmp 102) = .int .i64 (n2 : Int) := hd 14 (by decide)
                refine ⟨.bool false, fun w => ?_, rfl⟩
                have e1 := hE.const; have e2 := hE.func; clear hE hd hw
                go_simp
              · intro ev wv hE hw hd
                refine ifw rfl (ifw rfl ?_)
                have v95 : ev (.tmp 95) = .bool false := hd 7 (by decide)
                have v103 : ev (.tmp 103) = .bool false := hd 15 (by decide)
                refine ⟨.bool false, fun w => ?_, rfl⟩
                have e1 := hE.const; have e2 := hE.func; clear hE hd hw
                go_simp
              · intro w6 hw
                intro v0 h0 _ v1 h1 _ v2 h2 _ v3 h3 _ v4 h4 _ v5 h5 _ v6 h6 _ v7 h7 _ v8 h8 _ v9 h9 _ v10 h10 _ v11 h11 _ v12 h12 _ v13 h13 _ v14 h14 _ v15 h15 _ v16 h16 _
                simp only [Act.put, List.setIfInBounds_toArray, List.set_cons_zero, List.set_cons_succ, List.drop_succ_cons, List.drop_zero]
                obtain rfl : v0 = _ := h0
                obtain rfl : v1 = _ := h1
                obtain rfl : v2 = _ := h2
                obtain rfl : v3 = _ := h3
                obtain rfl : v4 = _ := h4
                obtain rfl : v5 = _ := h5
                obtain rfl : v6 = _ := h6
                obtain rfl : v7 = _ := h7
                obtain rfl : v8 = _ := h8
                obtain rfl : v9 = _ := h9
                obtain rfl : v10 = _ := h10
                obtain rfl : v11 = _ := h11
                obtain rfl : v12 = _ := h12
                obtain rfl : v13 = _ := h13
                obtain rfl : v14 = _ := h14
                obtain rfl : v15 = _ := h15
                obtain rfl : v16 = _ := h16
                change wpList Try.prog _ _ _ _ w6
                have HP6 := Lib.hid (HP5.out.keep HK.out.toRepOk hw)
                have HO6 := Lib.hid (own_keep HO5.out hw)
                clear hw HTR t1 htl HP5 HO5
                have hn5 : n5 ≤ 1000 := by have := HL2.out; have := HN.out; have := HLN5.out; omega
                go_wp2_with fail
                refine calm_normal ?_
                go_wp2_with fail
                go_loopw [107] (fun u wr => ∃ (i : Nat) (xs : ItL), u = .int .i64 (i : Int) ∧ i ≤ n5 ∧ xs.length = n5 ∧ wr.ownsRow 0 33 3 (.slice G5 n5 c5) n5 (cells3 xs) ∧ Off (inRow G5 n5 c5) w6 wr) (fun u _ => (n5 - intOf u).toNat)
                case atStart => exact ⟨0, m, rfl, by omega, HLN5.out, own_low HO6.out (Nat.zero_le _), Off.refl _ _⟩
                case round =>
                  obtain ⟨i, xs, rfl, hi, hxs, hown, hoff⟩ := hrel
                  have HF := Lib.hid hoff
                  have HX := Lib.hid hxs
                  clear hoff hxs
                  by_cases hlt : i < n5
                  · obtain ⟨s, hs⟩ : ∃ s, xs[i]? = some s := ⟨_, List.getElem?_eq_getElem (by rw [HX.out]; exact hlt)⟩
                    obtain ⟨y1, y2, y3⟩ := s
                    rcases Joins.ownsRow_forms hown with ⟨_, h0⟩ | ⟨g3, d3, hv⟩
                    · omega
                    · injection hv with e1 _ e3
                      subst e1 e3
                      have cc : wr.cell? ⟨g3, i * 3 + 1, none⟩ = some (.int .i64 y2) := by rw [hown.cellAt _ (by omega)]; exact (cells3_at hs).2.1
                      have ff : wr.frozen? ⟨g3, i * 3 + 1, none⟩ = false := hown.frozenAt _
                      obtain ⟨y', hy'⟩ : ∃ y', IntKind.i64.wrap (y2 + 1) = y' := ⟨_, rfl⟩
                      have HST := hown.stored (i * 3 + 1) (.int .i64 y')
                      have HO7 := Lib.hid (show (wr.setCell ⟨g3, i * 3 + 1, none⟩ (.int .i64 y')).ownsRow 0 33 3 (.slice (some ⟨g3, 0, none⟩) n5 c5) n5 (cells3 (xs.set i (y1, y', y3))) by rw [← cells3_set1 hs]; exact HST.1)
                      have HF7 := Lib.hid (HF.out.trans (Off.set (F := inRow (some ⟨g3, 0, none⟩) n5 c5) (w := wr) (a := ⟨g3, i * 3 + 1, none⟩) (by simp [inRow, Value.ownBlock]) (.int .i64 y')))
                      clear HST hown hs
                      go_wp2_with fail
                      go_roundw
                      case rel => exact ⟨i + 1, xs.set i (y1, y', y3), by go_num, by omega, by rw [List.length_set]; exact HX.out, by first | exact HO7.out | simpa using HO7.out, by first | exact HF7.out | simpa using HF7.out⟩
                      case measure => simp [intOf]; omega
                  · have HPF := Lib.hid (HP6.out.off HK.out.toRepOk HF.out (fun j hj hr => by have h1 := HA5.out j hr; have h2 := HA6.out j (.inl hj); omega) (fun hr => by have h1 := HA5.out g hr; have h2 := HA6.out g (.inr (.inl rfl)); omega) (fun j hj hr => by have h1 := HA5.out j hr; have h2 := HA6.out j (.inr (.inr hj)); omega) (fun _ h => by cases h) (fun j hr => by have h1 := HA5.out j hr; exact Nat.le_trans HA7.out h1))
                    clear hown HF HP6 HO6 HA5 HA6
                    go_wp2_with fail
                    go_roundw
                    case rel => exact ⟨k + 1, m, by go_num, by omega, HL2.out, F2, A2, n2, c2, HPF.out⟩
                    case measure => simp [intOf]; omega
          · have e3 : (kd == 3) = false := beq_eq_false_iff_ne.2 k3
            clear k3
            have hw := HPU.out
            clear HPU HPE
            have HL2 := Lib.hid (show (l).length ≤ k + 1 by have := HL.out; omega)
            obtain ⟨m, hm⟩ : ∃ m, l = m := ⟨_, rfl⟩
            rw [hm] at hw HL2
            clear hm
            obtain ⟨F2, A2, n2, c2, hp2⟩ := hw
            have HP := Lib.hid (hp2.less (os' := []) (fun _ h => by cases h))
            clear hp2
            go_wp2_with fail
            refine (HK.out.items _ _ _ _ _ HP.out.rep (by have := HL2.out; have := HN.out; omega)).mono ?_
            rintro e w5 ⟨G5, n5, c5, rfl, o5, b5⟩
            have HO5 := Lib.hid o5
            have HP5 := Lib.hid (HP.out.keep HK.out.toRepOk b5)
            have HA5 := Lib.hid (show ∀ j, inRow G5 n5 c5 j → (wr.alloc (.cells #[.int .i64 kd, .int .i64 x1, .int .i64 x2, .int .i64 x3] 35)).heap.size ≤ j from own_ge o5)
            have HA6 := Lib.hid (show ∀ j, (F2 j ∨ j = g ∨ inRow A2 n2 c2 j) → j < (wr.alloc (.cells #[.int .i64 kd, .int .i64 x1, .int .i64 x2, .int .i64 x3] 35)).heap.size from fun j hj => by
              rcases hj with h | h | h
              · exact HK.out.lt HP.out.rep j h
              · subst h; exact HP.out.tree.sz
              · exact own_lt HP.out.tree.o h)
            have HA7 := Lib.hid HP.out.bs
            clear o5 b5
            have HTR := Lib.hid HP5.out.tree.r
            have t1 := HTR.out.s
            have htl : g < w5.heap.size := HTR.out.lt
            have HLN := Lib.hid HP5.out.tree.len
            have HLN5 := Lib.hid (Itm.count (own_lies HO5.out))
            clear HP
            go_upto_region 23 with fail
            refine wp_region_rel 17 (Ext w5)
              (fun i => List.getD [VE (.slice G5 n5 c5), VE (.pointer (some ⟨g, 0, none⟩)), VE (.pointer (some ⟨g, 0, none⟩)), VE (.pointer (some ⟨g, 1, none⟩)), VE (.slice A2 n2 c2), VE (.bool true), VE (.bool false), VE (.bool false), VE (.pointer (some q)), VE (.int .i64 (n2 : Int)), VE (.pointer (some ⟨g, 0, none⟩)), VE (.pointer (some ⟨g, 0, none⟩)), VE (.pointer (some ⟨g, 1, none⟩)), VE (.slice A2 n2 c2), VE (.int .i64 (n2 : Int)), VE (.bool false), VE (.bool false)] i (fun _ _ => False)) [] [0, 1, 2, 3, 6, 7, 8, 10, 11, 12, 14, 15, 16] (by kernel_rfl) (by kernel_rfl) (Ext.start w5) (fun _ _ h hb => h.grow hb)
              (stays_all (stays_cons (stays_VE _) (stays_cons (stays_VE _) (stays_cons (stays_VE _) (stays_cons (stays_VE _) (stays_cons (stays_VE _) (stays_cons (stays_VE _) (stays_cons (stays_VE _) (stays_cons (stays_VE _) (stays_cons (stays_VE _) (stays_cons (stays_VE _) (stays_cons (stays_VE _) (stays_cons (stays_VE _) (stays_cons (stays_VE _) (stays_cons (stays_VE _) (stays_cons (stays_VE _) (stays_cons (stays_VE _) (stays_cons (stays_VE _) stays_nil)))))))))))))))))) ⟨?_, ?_, ?_, ?_, ?_, ?_, ?_, ?_, ?_, ?_, ?_, ?_, ?_, ?_, ?_, ?_, ?_, trivial⟩ ?_
            · intro ev wv hE hw hd
              refine ifw rfl (ifw rfl ?_)
              have v10 : ev (.tmp 10) = .slice G5 n5 c5 := hE.tmp 10 rfl
              refine ⟨.slice G5 n5 c5, fun w => ?_, rfl⟩
              have e1 := hE.const; have e2 := hE.func; clear hE hd hw
              go_simp
            · intro ev wv hE hw hd
              refine ifw rfl (ifw rfl ?_)
              have v7 : ev (.tmp 7) = .pointer (some ⟨g, 0, none⟩) := hE.tmp 7 rfl
              refine ⟨.pointer (some ⟨g, 0, none⟩), fun w => ?_, rfl⟩
              have e1 := hE.const; have e2 := hE.func; clear hE hd hw
              go_simp
            · intro ev wv hE hw hd
              refine ifw rfl (ifw rfl ?_)
              have v89 : ev (.tmp 89) = .pointer (some ⟨g, 0, none⟩) := hd 1 (by decide)
              refine ⟨.pointer (some ⟨g, 0, none⟩), fun w => ?_, rfl⟩
              have e1 := hE.const; have e2 := hE.func; clear hE hd hw
              go_simp
            · intro ev wv hE hw hd
              refine ifw rfl (ifw rfl ?_)
              have v90 : ev (.tmp 90) = .pointer (some ⟨g, 0, none⟩) := hd 2 (by decide)
              refine ⟨.pointer (some ⟨g, 1, none⟩), fun w => ?_, rfl⟩
              have e1 := hE.const; have e2 := hE.func; clear hE hd hw
              go_simp
            · intro ev wv hE hw hd
              refine ifw rfl (ifn rfl ?_)
              have v91 : ev (.tmp 91) = .pointer (some ⟨g, 1, none⟩) := hd 3 (by decide)
              have kx := (Below.cell (p := ⟨g, 1, none⟩) hw htl).trans t1
              refine rel_val (u := .slice A2 n2 c2) (w' := wv) ?_ (Below.refl _ _) ⟨rfl, fun h => by cases h⟩
              have e1 := hE.const; clear hE hd hw
              go_simp
            · intro ev wv hE hw hd
              refine ifw rfl (ifn rfl ?_)
              have v88 : ev (.tmp 88) = .slice G5 n5 c5 := hd 0 (by decide)
              have v92 : ev (.tmp 92) = .slice A2 n2 c2 := hd 4 (by decide)
              refine rel_call (f := 15) (args := #[.slice G5 n5 c5, .slice A2 n2 c2]) ?_ (isame_yes ((own_lies HO5.out).keep hw) (HTR.out.i.keep hw) (by have := HL2.out; have := HN.out; have := HLN.out; omega)) ?_
              · have e0 := hE.func; have e1 := hE.const; clear hE hd hw
                go_simp
              · rintro e w' ⟨rfl, hb⟩
                exact ⟨_, rfl, hb, rfl, fun h => by cases h⟩
            · intro ev wv hE hw hd
              refine ifw rfl (ifw rfl ?_)
              have v93 : ev (.tmp 93) = .bool true := hd 5 (by decide)
              refine ⟨.bool false, fun w => ?_, rfl⟩
              have e1 := hE.const; have e2 := hE.func; clear hE hd hw
              go_simp
            · intro ev wv hE hw hd
              refine ifw rfl (ifw rfl ?_)
              have v94 : ev (.tmp 94) = .bool false := hd 6 (by decide)
              refine ⟨.bool false, fun w => ?_, rfl⟩
              have e1 := hE.const; have e2 := hE.func; clear hE hd hw
              go_simp
            · intro ev wv hE hw hd
              have vg : ev (.tmp 95) = .bool false := hd 7 (by decide)
              refine ifw (by show (yv (ev (.tmp 95)) == some false) = true; rw [vg]; rfl) (ifw rfl ?_)
              clear vg
              have v5 : ev (.tmp 5) = .pointer (some q) := hE.tmp 5 rfl
              refine ⟨.pointer (some q), fun w => ?_, rfl⟩
              have e1 := hE.const; have e2 := hE.func; clear hE hd hw
              go_simp
            · intro ev wv hE hw hd
              have vg : ev (.tmp 95) = .bool false := hd 7 (by decide)
              refine ifw (by show (yv (ev (.tmp 95)) == some false) = true; rw [vg]; rfl) (ifn rfl ?_)
              clear vg
              have v96 : ev (.tmp 96) = .pointer (some q) := hd 8 (by decide)
              refine rel_call (f := 16) (args := #[.pointer (some q)]) ?_ (avlen_at HK.out (HP5.out.keep HK.out.toRepOk hw).rep HLN.out (by have := HL2.out; have := HN.out; omega)) ?_
              · have e0 := hE.func; have e1 := hE.const; clear hE hd hw
                go_simp
              · rintro e w' ⟨rfl, hb⟩
                exact ⟨_, rfl, hb, rfl, fun h => by cases h⟩
            · intro ev wv hE hw hd
              have vg : ev (.tmp 95) = .bool false := hd 7 (by decide)
              refine ifw (by show (yv (ev (.tmp 95)) == some false) = true; rw [vg]; rfl) (ifw rfl ?_)
              clear vg
              have v7 : ev (.tmp 7) = .pointer (some ⟨g, 0, none⟩) := hE.tmp 7 rfl
              refine ⟨.pointer (some ⟨g, 0, none⟩), fun w => ?_, rfl⟩
              have e1 := hE.const; have e2 := hE.func; clear hE hd hw
              go_simp
            · intro ev wv hE hw hd
              have vg : ev (.tmp 95) = .bool false := hd 7 (by decide)
              refine ifw (by show (yv (ev (.tmp 95)) == some false) = true; rw [vg]; rfl) (ifw rfl ?_)
              clear vg
              have v98 : ev (.tmp 98) = .pointer (some ⟨g, 0, none⟩) := hd 10 (by decide)
              refine ⟨.pointer (some ⟨g, 0, none⟩), fun w => ?_, rfl⟩
              have e1 := hE.const; have e2 := hE.func; clear hE hd hw
              go_simp
            · intro ev wv hE hw hd
              have vg : ev (.tmp 95) = .bool false := hd 7 (by decide)
              refine ifw (by show (yv (ev (.tmp 95)) == some false) = true; rw [vg]; rfl) (ifw rfl ?_)
              clear vg
              have v99 : ev (.tmp 99) = .pointer (some ⟨g, 0, none⟩) := hd 11 (by decide)
              refine ⟨.pointer (some ⟨g, 1, none⟩), fun w => ?_, rfl⟩
              have e1 := hE.const; have e2 := hE.func; clear hE hd hw
              go_simp
            · intro ev wv hE hw hd
              have vg : ev (.tmp 95) = .bool false := hd 7 (by decide)
              refine ifw (by show (yv (ev (.tmp 95)) == some false) = true; rw [vg]; rfl) (ifn rfl ?_)
              clear vg
              have v100 : ev (.tmp 100) = .pointer (some ⟨g, 1, none⟩) := hd 12 (by decide)
              have kx := (Below.cell (p := ⟨g, 1, none⟩) hw htl).trans t1
              refine rel_val (u := .slice A2 n2 c2) (w' := wv) ?_ (Below.refl _ _) ⟨rfl, fun h => by cases h⟩
              have e1 := hE.const; clear hE hd hw
              go_simp
            · intro ev wv hE hw hd
              have vg : ev (.tmp 95) = .bool false := hd 7 (by decide)
              refine ifw (by show (yv (ev (.tmp 95)) == some false) = true; rw [vg]; rfl) (ifw rfl ?_)
              clear vg
              have v101 : ev (.tmp 101) = .slice A2 n2 c2 := hd 13 (by decide)
              refine ⟨.int .i64 (n2 : Int), fun w => ?_, rfl⟩
              have e1 := hE.const; have e2 := hE.func; clear hE hd hw
              go_simp
            · intro ev wv hE hw hd
              have vg : ev (.tmp 95) = .bool false := hd 7 (by decide)
              refine ifw (by show (yv (ev (.tmp 95)) == some false) = true; rw [vg]; rfl) (ifw rfl ?_)
              clear vg
              have v97 : ev (.tmp 97) = .int .i64 (n2 : Int) := hd 9 (by decide)
              have v102 : ev (.tmp 102) = .int .i64 (n2 : Int) := hd 14 (by decide)
              refine ⟨.bool false, fun w => ?_, rfl⟩
              have e1 := hE.const; have e2 := hE.func; clear hE hd hw
              go_simp
            · intro ev wv hE hw hd
              refine ifw rfl (ifw rfl ?_)
              have v95 : ev (.tmp 95) = .bool false := hd 7 (by decide)
              have v103 : ev (.tmp 103) = .bool false := hd 15 (by decide)
              refine ⟨.bool false, fun w => ?_, rfl⟩
              have e1 := hE.const; have e2 := hE.func; clear hE hd hw
              go_simp
            · intro w6 hw
              intro v0 h0 _ v1 h1 _ v2 h2 _ v3 h3 _ v4 h4 _ v5 h5 _ v6 h6 _ v7 h7 _ v8 h8 _ v9 h9 _ v10 h10 _ v11 h11 _ v12 h12 _ v13 h13 _ v14 h14 _ v15 h15 _ v16 h16 _
              simp only [Act.put, List.setIfInBounds_toArray, List.set_cons_zero, List.set_cons_succ, List.drop_succ_cons, List.drop_zero]
              obtain rfl : v0 = _ := h0
              obtain rfl : v1 = _ := h1
              obtain rfl : v2 = _ := h2
              obtain rfl : v3 = _ := h3
              obtain rfl : v4 = _ := h4
              obtain rfl : v5 = _ := h5
              obtain rfl : v6 = _ := h6
              obtain rfl : v7 = _ := h7
              obtain rfl : v8 = _ := h8
              obtain rfl : v9 = _ := h9
              obtain rfl : v10 = _ := h10
              obtain rfl : v11 = _ := h11
              obtain rfl : v12 = _ := h12
              obtain rfl : v13 = _ := h13
              obtain rfl : v14 = _ := h14
              obtain rfl : v15 = _ := h15
              obtain rfl : v16 = _ := h16
              change wpList Try.prog _ _ _ _ w6
              have HP6 := Lib.hid (HP5.out.keep HK.out.toRepOk hw)
              have HO6 := Lib.hid (own_keep HO5.out hw)
              clear hw HTR t1 htl HP5 HO5
              have hn5 : n5 ≤ 1000 := by have := HL2.out; have := HN.out; have := HLN5.out; omega
              go_wp2_with fail
              refine calm_normal ?_
              go_wp2_with fail
              go_loopw [107] (fun u wr => ∃ (i : Nat) (xs : ItL), u = .int .i64 (i : Int) ∧ i ≤ n5 ∧ xs.length = n5 ∧ wr.ownsRow 0 33 3 (.slice G5 n5 c5) n5 (cells3 xs) ∧ Off (inRow G5 n5 c5) w6 wr) (fun u _ => (n5 - intOf u).toNat)
              case atStart => exact ⟨0, m, rfl, by omega, HLN5.out, own_low HO6.out (Nat.zero_le _), Off.refl _ _⟩
              case round =>
                obtain ⟨i, xs, rfl, hi, hxs, hown, hoff⟩ := hrel
                have HF := Lib.hid hoff
                have HX := Lib.hid hxs
                clear hoff hxs
                by_cases hlt : i < n5
                · obtain ⟨s, hs⟩ : ∃ s, xs[i]? = some s := ⟨_, List.getElem?_eq_getElem (by rw [HX.out]; exact hlt)⟩
                  obtain ⟨y1, y2, y3⟩ := s
                  rcases Joins.ownsRow_forms hown with ⟨_, h0⟩ | ⟨g3, d3, hv⟩
                  · omega
                  · injection hv with e1 _ e3
                    subst e1 e3
                    have cc : wr.cell? ⟨g3, i * 3 + 1, none⟩ = some (.int .i64 y2) := by rw [hown.cellAt _ (by omega)]; exact (cells3_at hs).2.1
                    have ff : wr.frozen? ⟨g3, i * 3 + 1, none⟩ = false := hown.frozenAt _
                    obtain ⟨y', hy'⟩ : ∃ y', IntKind.i64.wrap (y2 + 1) = y' := ⟨_, rfl⟩
                    have HST := hown.stored (i * 3 + 1) (.int .i64 y')
                    have HO7 := Lib.hid (show (wr.setCell ⟨g3, i * 3 + 1, none⟩ (.int .i64 y')).ownsRow 0 33 3 (.slice (some ⟨g3, 0, none⟩) n5 c5) n5 (cells3 (xs.set i (y1, y', y3))) by rw [← cells3_set1 hs]; exact HST.1)
                    have HF7 := Lib.hid (HF.out.trans (Off.set (F := inRow (some ⟨g3, 0, none⟩) n5 c5) (w := wr) (a := ⟨g3, i * 3 + 1, none⟩) (by simp [inRow, Value.ownBlock]) (.int .i64 y')))
                    clear HST hown hs
                    go_wp2_with fail
                    go_roundw
                    case rel => exact ⟨i + 1, xs.set i (y1, y', y3), by go_num, by omega, by rw [List.length_set]; exact HX.out, by first | exact HO7.out | simpa using HO7.out, by first | exact HF7.out | simpa using HF7.out⟩
                    case measure => simp [intOf]; omega
                · have HPF := Lib.hid (HP6.out.off HK.out.toRepOk HF.out (fun j hj hr => by have h1 := HA5.out j hr; have h2 := HA6.out j (.inl hj); omega) (fun hr => by have h1 := HA5.out g hr; have h2 := HA6.out g (.inr (.inl rfl)); omega) (fun j hj hr => by have h1 := HA5.out j hr; have h2 := HA6.out j (.inr (.inr hj)); omega) (fun _ h => by cases h) (fun j hr => by have h1 := HA5.out j hr; exact Nat.le_trans HA7.out h1))
                  clear hown HF HP6 HO6 HA5 HA6
                  go_wp2_with fail
                  go_roundw
                  case rel => exact ⟨k + 1, m, by go_num, by omega, HL2.out, F2, A2, n2, c2, HPF.out⟩
                  case measure => simp [intOf]; omega
    · have HB := Lib.hid (show Below w.heap.size w wr by obtain ⟨_, _, _, _, h⟩ := HPE.out; exact h.bl)
      clear HPE
      go_wp2_with fail
      refine (avknown_any HK.out _).mono ?_
      rintro e w9 ⟨rfl, hb⟩
      have HB9 := Lib.hid (HB.out.trans (hb.mono HB.out.size))
      clear hb
      go_wp2_with fail
      go_ret
      exact ⟨rfl, HB9.out⟩
theorem avplays_any {Rep : RepT} (K : AvlK Rep) (most : Int) (A : Option Addr) (N c : Nat) (ops : ClL) (w : World) (Ro : Cls w A N c ops) : Calls Try.prog 3 #[.int .i64 most, .slice A N c] w fun e w' => e = .returned (.bool true) ∧ Below w.heap.size w w' := by
  by_cases hN : N ≤ 200
  · by_cases h1 : most < 1
    · exact avplays_low K most A N c ops w Ro hN h1
    · by_cases h2 : most > 1000000
      · exact avplays_high K most A N c ops w Ro hN h1 h2
      · exact avplays_main K most A N c ops w Ro hN (by omega) (by omega)
  · exact avplays_long K most A N c ops w Ro hN
end Go.Proofs.Ytmllikffflebmaa
