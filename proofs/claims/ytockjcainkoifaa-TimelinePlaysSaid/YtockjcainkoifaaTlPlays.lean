/- The law TimelinePlays. (Written by wip/gen/gentlplays.py.) -/
import Derived.Test.YtockjcainkoifaaTlKnown
import Derived.Test.YtockjcainkoifaaRowRel
import Derived.Test.YtockjcainkoifaaRelVal
import Derived.BigQuiet
namespace Corr
set_option maxRecDepth 8000
open Go Go.RowKit
set_option linter.unusedVariables false
/-- A row of the call's own. -/
def VOw (T : TypeId) (sz B : Nat) (xs : List Value) (v : Value) (w : World) : Prop := ∃ A n c, v = .slice A n c ∧ w.ownsRow B T sz (.slice A n c) n xs
theorem stays_VOw (T : TypeId) (sz B : Nat) (xs : List Value) : stays (VOw T sz B xs) := fun _ _ _ h hb => by
  obtain ⟨A, n, c, h1, h2⟩ := h; exact ⟨A, n, c, h1, own_keep h2 hb⟩
theorem cells3_set2 : ∀ {l : ItL} {j : Nat} {x y z z' : Int}, l[j]? = some (x, y, z) → (cells3 l).set (j * 3 + 2) (.int .i64 z') = cells3 (l.set j (x, y, z'))
  | [], _, _, _, _, _, h => by simp at h
  | s :: r, 0, x, y, z, z', h => by simp at h; subst h; rfl
  | s :: r, j + 1, x, y, z, z', h => by
    have := cells3_set2 (l := r) (j := j) (z' := z') (by simpa using h)
    rw [show (j + 1) * 3 + 2 = (j * 3 + 2) + 1 + 1 + 1 by omega]
    simp only [cells3, List.set_cons_succ, this]
theorem endsL_at {out : ItL} {i : Nat} {s : It} (h : out[i + 1]? = some s) : (endsL out)[i]? = some s.1 := by
  unfold endsL
  rw [List.getElem?_map, List.getElem?_tail, h]; rfl
end Corr
namespace Go.Proofs.Ytockjcainkoifaa
set_option maxRecDepth 8000
open Go.RowKit Corr
set_option linter.unusedVariables false
set_option linter.unusedSimpArgs false
theorem sep_tputL {Rep : RepL} {w0 w : World} {ts : List Thing} {p : Value} {N i : Nat} {l : ItL} (K : TlK Rep) (h : Sep w0 ts w) (hi : ts[i]? = some (tlT K.toTlOk p N (atL l))) (hN : N ≤ 300) (a b v : Int) : Calls Try.prog 10 #[p, .agg #[.int .i64 a, .int .i64 b], .int .i64 v] w fun e w' => e = .returned (.int .i64 (putR a b)) ∧ Sep w0 (ts.set i (tlT K.toTlOk p (N + 1) (atL (putL l a b v)))) w' := by
  have := sep_tput K h hi hN a b v
  rwa [← atL_put] at this
theorem tlplays_long {Rep : RepL} (K : TlK Rep) (A : Option Addr) (N c : Nat) (l : ItL) (a b day : Int) (w : World) (Rl : Itm w A N c l) (hN : ¬ N ≤ 60) : Calls Try.prog 3 #[.slice A N c, .agg #[.int .i64 a, .int .i64 b], .int .i64 day] w fun e w' => e = .returned (.bool true) ∧ Below w.heap.size w w' := by
  have d0 : decide ((N : Int) > 60) = true := decide_eq_true (by omega)
  have HK := Lib.hid K
  have HB := Lib.hid ((Below.refl w.heap.size w).alloc (Nat.le_refl _) (.cells #[.int .i64 a, .int .i64 b] 24))
  clear K hN Rl
  go_enter Try.func3, Try.ntmps3
  go_wp2_with fail
  refine (tlknown_any HK.out _).mono ?_
  rintro e w9 ⟨rfl, b9⟩
  have HB9 := Lib.hid (HB.out.trans (b9.mono HB.out.size))
  clear b9
  go_wp2_with fail
  go_ret
  exact ⟨rfl, HB9.out⟩
set_option maxRecDepth 100000 in
set_option maxHeartbeats 16000000 in
theorem tlplays_main {Rep : RepL} (K : TlK Rep) (A : Option Addr) (N c : Nat) (l : ItL) (a b day : Int) (w : World) (Rl : Itm w A N c l) (hN : N ≤ 60) : Calls Try.prog 3 #[.slice A N c, .agg #[.int .i64 a, .int .i64 b], .int .i64 day] w fun e w' => e = .returned (.bool true) ∧ Below w.heap.size w w' := by
  have d0 : decide ((N : Int) > 60) = false := decide_eq_false (by omega)
  have HK := Lib.hid K
  have HR := Lib.hid Rl
  have HS0 := Lib.hid ((Sep.nil w).push #[.int .i64 a, .int .i64 b] 24)
  clear K Rl
  go_enter Try.func3, Try.ntmps3
  go_wp2_with fail
  refine (sep_tmake HK.out HS0.out).mono ?_
  rintro e w1 ⟨q, rfl, s1⟩
  have HS1 := Lib.hid (show Sep w [blkT w.heap.size #[.int .i64 a, .int .i64 b], tlT HK.out.toTlOk (.pointer (some q)) 0 (atL []), docT 45 w1.heap.size []] (w1.alloc (.cells #[.slice none 0 0] 31)) from s1.addDoc 45 31)
  obtain ⟨g, hg⟩ : ∃ g, w1.heap.size = g := ⟨_, rfl⟩
  clear s1
  go_wp2_with fail
  try rw [hg] at HS1
  generalize w1.alloc (.cells #[.slice none 0 0] 31) = w2 at *
  clear hg
  go_loopw [27] (fun u wr => ∃ (k : Nat) (m : ItL), u = .int .i64 (k : Int) ∧ k ≤ N ∧ Hid (m.length ≤ k) ∧ Hid (Sep w [blkT w.heap.size #[.int .i64 a, .int .i64 b], tlT HK.out.toTlOk (.pointer (some q)) k (atL m), dT g m] wr)) (fun u _ => (N - intOf u).toNat)
  case atStart => exact ⟨0, [], rfl, by omega, Lib.hid (by simp), HS1⟩
  case round =>
    obtain ⟨k, m, rfl, hk, HM, HS⟩ := hrel
    clear HS1
    by_cases hlt : k < N
    · obtain ⟨ga, off, s, rfl, hs, hga, c0, c1, c2⟩ := Itm.get (HR.out.keep HS.out.bl) hlt
      obtain ⟨x1, x2, x3⟩ := s
      have HP := Lib.hid (show Sep w [blkT w.heap.size #[.int .i64 a, .int .i64 b], tlT HK.out.toTlOk (.pointer (some q)) k (atL m), dT g m, blkT wr.heap.size #[.int .i64 x1, .int .i64 x2, .int .i64 x3]] (wr.alloc (.cells #[.int .i64 x1, .int .i64 x2, .int .i64 x3] 33)) from HS.out.push #[.int .i64 x1, .int .i64 x2, .int .i64 x3] 33)
      clear hs
      go_upto_region 10 with fail
      refine wp_region_set 13 (fun S wx => Sep w [blkT w.heap.size #[.int .i64 a, .int .i64 b], tlT HK.out.toTlOk (.pointer (some q)) (cond (S 5) (k + 1) k) (atL (cond (S 5) (putL m x1 x2 x3) m)), dT g (cond (S 11) (putL m x1 x2 x3) m), blkT wr.heap.size #[.int .i64 x1, .int .i64 x2, .int .i64 x3]] wx) (fun i => List.getD [.pointer (some q), .pointer (some ⟨wr.heap.size, 0, none⟩), .agg #[.int .i64 x1, .int .i64 x2], .pointer (some ⟨wr.heap.size, 2, none⟩), .int .i64 x3, .int .i64 (putR x1 x2), .pointer (some ⟨g, 0, none⟩), .pointer (some ⟨wr.heap.size, 0, none⟩), .agg #[.int .i64 x1, .int .i64 x2], .pointer (some ⟨wr.heap.size, 2, none⟩), .int .i64 x3, .int .i64 (putR x1 x2), .bool false] i undef) [0, 1, 3, 6, 7, 9, 12] (by kernel_rfl) (by kernel_rfl) ((HP.out.keep ((Below.refl _ _).drew))) ⟨?_, ?_, ?_, ?_, ?_, ?_, ?_, ?_, ?_, ?_, ?_, ?_, ?_, trivial⟩ ?_
      · intro ev wv S hE hw hS hd
        refine ifw rfl (ifw rfl ⟨fun w => ?_, hw⟩)
        have v7 : ev (.tmp 7) = .pointer (some q) := hE.tmp 7 rfl
        have e1 := hE.const; have e2 := hE.func; clear hE hd hw hS
        show _ = Result.ok (Next.value (.pointer (some q))) w
        go_simp
      · intro ev wv S hE hw hS hd
        refine ifw rfl (ifw rfl ⟨fun w => ?_, hw⟩)
        have v10 : ev (.tmp 10) = .pointer (some ⟨wr.heap.size, 0, none⟩) := hE.tmp 10 rfl
        have e1 := hE.const; have e2 := hE.func; clear hE hd hw hS
        show _ = Result.ok (Next.value (.pointer (some ⟨wr.heap.size, 0, none⟩))) w
        go_simp
      · intro ev wv S hE hw hS hd
        refine ifw rfl (ifn rfl ?_)
        have v32 : ev (.tmp 32) = .pointer (some ⟨wr.heap.size, 0, none⟩) := (hd 1 (by decide)).2
        have hw0 : Sep w [blkT w.heap.size #[.int .i64 a, .int .i64 b], tlT HK.out.toTlOk (.pointer (some q)) (cond (S 5) (k + 1) k) (atL (cond (S 5) (putL m x1 x2 x3) m)), dT g (cond (S 11) (putL m x1 x2 x3) m), blkT wr.heap.size #[.int .i64 x1, .int .i64 x2, .int .i64 x3]] wv := hw
        have hb := Sep.b hw0 3 rfl
        have kx := hb.get 0 rfl; have ky := hb.get 1 rfl
        clear hb hw0
        refine set_val (u := .agg #[.int .i64 x1, .int .i64 x2]) (w' := wv) ?_ ⟨rfl, hw⟩
        have e1 := hE.const; clear hE hd hw hS
        go_simp
      · intro ev wv S hE hw hS hd
        refine ifw rfl (ifw rfl ⟨fun w => ?_, hw⟩)
        have v10 : ev (.tmp 10) = .pointer (some ⟨wr.heap.size, 0, none⟩) := hE.tmp 10 rfl
        have e1 := hE.const; have e2 := hE.func; clear hE hd hw hS
        show _ = Result.ok (Next.value (.pointer (some ⟨wr.heap.size, 2, none⟩))) w
        go_simp
      · intro ev wv S hE hw hS hd
        refine ifw rfl (ifn rfl ?_)
        have v34 : ev (.tmp 34) = .pointer (some ⟨wr.heap.size, 2, none⟩) := (hd 3 (by decide)).2
        have hw0 : Sep w [blkT w.heap.size #[.int .i64 a, .int .i64 b], tlT HK.out.toTlOk (.pointer (some q)) (cond (S 5) (k + 1) k) (atL (cond (S 5) (putL m x1 x2 x3) m)), dT g (cond (S 11) (putL m x1 x2 x3) m), blkT wr.heap.size #[.int .i64 x1, .int .i64 x2, .int .i64 x3]] wv := hw
        have hb := Sep.b hw0 3 rfl
        have kz := hb.get 2 rfl
        clear hb hw0
        refine set_val (u := .int .i64 x3) (w' := wv) ?_ ⟨rfl, hw⟩
        have e1 := hE.const; clear hE hd hw hS
        go_simp
      · intro ev wv S hE hw hS hd
        refine ifw rfl (ifn rfl ?_)
        have v31 : ev (.tmp 31) = .pointer (some q) := (hd 0 (by decide)).2
        have v33 : ev (.tmp 33) = .agg #[.int .i64 x1, .int .i64 x2] := (hd 2 (by decide)).2
        have v35 : ev (.tmp 35) = .int .i64 x3 := (hd 4 (by decide)).2
        have hw0 : Sep w [blkT w.heap.size #[.int .i64 a, .int .i64 b], tlT HK.out.toTlOk (.pointer (some q)) (cond (S 5) (k + 1) k) (atL (cond (S 5) (putL m x1 x2 x3) m)), dT g (cond (S 11) (putL m x1 x2 x3) m), blkT wr.heap.size #[.int .i64 x1, .int .i64 x2, .int .i64 x3]] wv := hw
        rw [show S 5 = false from hS] at hw0
        have hw1 : Sep w [blkT w.heap.size #[.int .i64 a, .int .i64 b], tlT HK.out.toTlOk (.pointer (some q)) k (atL m), dT g (cond (S 11) (putL m x1 x2 x3) m), blkT wr.heap.size #[.int .i64 x1, .int .i64 x2, .int .i64 x3]] wv := hw0
        clear hw0
        refine set_call (f := 10) (args := #[.pointer (some q), .agg #[.int .i64 x1, .int .i64 x2], .int .i64 x3]) ?_ (sep_tputL HK.out hw1 (i := 1) rfl (by omega) x1 x2 x3) ?_
        · have e0 := hE.func; have e1 := hE.const; clear hE hd hw hS
          go_simp
        · rintro e w' ⟨rfl, hs⟩
          exact ⟨_, rfl, rfl, hs⟩
      · intro ev wv S hE hw hS hd
        refine ifw rfl (ifw rfl ⟨fun w => ?_, hw⟩)
        have v8 : ev (.tmp 8) = .pointer (some ⟨g, 0, none⟩) := hE.tmp 8 rfl
        have e1 := hE.const; have e2 := hE.func; clear hE hd hw hS
        show _ = Result.ok (Next.value (.pointer (some ⟨g, 0, none⟩))) w
        go_simp
      · intro ev wv S hE hw hS hd
        refine ifw rfl (ifw rfl ⟨fun w => ?_, hw⟩)
        have v10 : ev (.tmp 10) = .pointer (some ⟨wr.heap.size, 0, none⟩) := hE.tmp 10 rfl
        have e1 := hE.const; have e2 := hE.func; clear hE hd hw hS
        show _ = Result.ok (Next.value (.pointer (some ⟨wr.heap.size, 0, none⟩))) w
        go_simp
      · intro ev wv S hE hw hS hd
        refine ifw rfl (ifn rfl ?_)
        have v38 : ev (.tmp 38) = .pointer (some ⟨wr.heap.size, 0, none⟩) := (hd 7 (by decide)).2
        have hw0 : Sep w [blkT w.heap.size #[.int .i64 a, .int .i64 b], tlT HK.out.toTlOk (.pointer (some q)) (cond (S 5) (k + 1) k) (atL (cond (S 5) (putL m x1 x2 x3) m)), dT g (cond (S 11) (putL m x1 x2 x3) m), blkT wr.heap.size #[.int .i64 x1, .int .i64 x2, .int .i64 x3]] wv := hw
        have hb := Sep.b hw0 3 rfl
        have kx := hb.get 0 rfl; have ky := hb.get 1 rfl
        clear hb hw0
        refine set_val (u := .agg #[.int .i64 x1, .int .i64 x2]) (w' := wv) ?_ ⟨rfl, hw⟩
        have e1 := hE.const; clear hE hd hw hS
        go_simp
      · intro ev wv S hE hw hS hd
        refine ifw rfl (ifw rfl ⟨fun w => ?_, hw⟩)
        have v10 : ev (.tmp 10) = .pointer (some ⟨wr.heap.size, 0, none⟩) := hE.tmp 10 rfl
        have e1 := hE.const; have e2 := hE.func; clear hE hd hw hS
        show _ = Result.ok (Next.value (.pointer (some ⟨wr.heap.size, 2, none⟩))) w
        go_simp
      · intro ev wv S hE hw hS hd
        refine ifw rfl (ifn rfl ?_)
        have v40 : ev (.tmp 40) = .pointer (some ⟨wr.heap.size, 2, none⟩) := (hd 9 (by decide)).2
        have hw0 : Sep w [blkT w.heap.size #[.int .i64 a, .int .i64 b], tlT HK.out.toTlOk (.pointer (some q)) (cond (S 5) (k + 1) k) (atL (cond (S 5) (putL m x1 x2 x3) m)), dT g (cond (S 11) (putL m x1 x2 x3) m), blkT wr.heap.size #[.int .i64 x1, .int .i64 x2, .int .i64 x3]] wv := hw
        have hb := Sep.b hw0 3 rfl
        have kz := hb.get 2 rfl
        clear hb hw0
        refine set_val (u := .int .i64 x3) (w' := wv) ?_ ⟨rfl, hw⟩
        have e1 := hE.const; clear hE hd hw hS
        go_simp
      · intro ev wv S hE hw hS hd
        refine ifw rfl (ifn rfl ?_)
        have v37 : ev (.tmp 37) = .pointer (some ⟨g, 0, none⟩) := (hd 6 (by decide)).2
        have v39 : ev (.tmp 39) = .agg #[.int .i64 x1, .int .i64 x2] := (hd 8 (by decide)).2
        have v41 : ev (.tmp 41) = .int .i64 x3 := (hd 10 (by decide)).2
        have hw0 : Sep w [blkT w.heap.size #[.int .i64 a, .int .i64 b], tlT HK.out.toTlOk (.pointer (some q)) (cond (S 5) (k + 1) k) (atL (cond (S 5) (putL m x1 x2 x3) m)), dT g (cond (S 11) (putL m x1 x2 x3) m), blkT wr.heap.size #[.int .i64 x1, .int .i64 x2, .int .i64 x3]] wv := hw
        rw [show S 11 = false from hS] at hw0
        have hw1 : Sep w [blkT w.heap.size #[.int .i64 a, .int .i64 b], tlT HK.out.toTlOk (.pointer (some q)) (cond (S 5) (k + 1) k) (atL (cond (S 5) (putL m x1 x2 x3) m)), dT g m, blkT wr.heap.size #[.int .i64 x1, .int .i64 x2, .int .i64 x3]] wv := hw0
        clear hw0
        refine set_call (f := 11) (args := #[.pointer (some ⟨g, 0, none⟩), .agg #[.int .i64 x1, .int .i64 x2], .int .i64 x3]) ?_ (sep_dput hw1 (i := 2) rfl (by have := HM.out; omega) x1 x2 x3) ?_
        · have e0 := hE.func; have e1 := hE.const; clear hE hd hw hS
          go_simp
        · rintro e w' ⟨rfl, hs⟩
          exact ⟨_, rfl, rfl, hs⟩
      · intro ev wv S hE hw hS hd
        refine ifw rfl (ifw rfl ⟨fun w => ?_, hw⟩)
        have v36 : ev (.tmp 36) = .int .i64 (putR x1 x2) := (hd 5 (by decide)).2
        have v42 : ev (.tmp 42) = .int .i64 (putR x1 x2) := (hd 11 (by decide)).2
        have e1 := hE.const; have e2 := hE.func; clear hE hd hw hS
        show _ = Result.ok (Next.value (.bool false)) w
        go_simp
      · intro S wz hS hw
        intro v0 h0 _ v1 h1 _ v2 h2 _ v3 h3 _ v4 h4 _ v5 h5 _ v6 h6 _ v7 h7 _ v8 h8 _ v9 h9 _ v10 h10 _ v11 h11 _ v12 h12 _
        simp only [Act.put, List.setIfInBounds_toArray, List.set_cons_zero, List.set_cons_succ, List.drop_succ_cons, List.drop_zero]
        obtain rfl : v0 = .pointer (some q) := h0
        obtain rfl : v1 = .pointer (some ⟨wr.heap.size, 0, none⟩) := h1
        obtain rfl : v2 = .agg #[.int .i64 x1, .int .i64 x2] := h2
        obtain rfl : v3 = .pointer (some ⟨wr.heap.size, 2, none⟩) := h3
        obtain rfl : v4 = .int .i64 x3 := h4
        obtain rfl : v5 = .int .i64 (putR x1 x2) := h5
        obtain rfl : v6 = .pointer (some ⟨g, 0, none⟩) := h6
        obtain rfl : v7 = .pointer (some ⟨wr.heap.size, 0, none⟩) := h7
        obtain rfl : v8 = .agg #[.int .i64 x1, .int .i64 x2] := h8
        obtain rfl : v9 = .pointer (some ⟨wr.heap.size, 2, none⟩) := h9
        obtain rfl : v10 = .int .i64 x3 := h10
        obtain rfl : v11 = .int .i64 (putR x1 x2) := h11
        obtain rfl : v12 = .bool false := h12
        change wpList Try.prog _ _ _ _ wz
        have hw : Sep w [blkT w.heap.size #[.int .i64 a, .int .i64 b], tlT HK.out.toTlOk (.pointer (some q)) (cond (S 5) (k + 1) k) (atL (cond (S 5) (putL m x1 x2 x3) m)), dT g (cond (S 11) (putL m x1 x2 x3) m), blkT wr.heap.size #[.int .i64 x1, .int .i64 x2, .int .i64 x3]] wz := hw
        rw [show S 5 = true from hS 5 (by decide), show S 11 = true from hS 11 (by decide)] at hw
        have hw : Sep w [blkT w.heap.size #[.int .i64 a, .int .i64 b], tlT HK.out.toTlOk (.pointer (some q)) (k + 1) (atL (putL m x1 x2 x3)), dT g (putL m x1 x2 x3)] wz := Sep.take hw 3
        have HZ := Lib.hid hw
        have HM2 := Lib.hid (show (putL m x1 x2 x3).length ≤ k + 1 by have := putL_len m x1 x2 x3; have := HM.out; omega)
        clear hw HP HS
        generalize putL m x1 x2 x3 = m2 at *
        clear HM
        go_wp2_with fail
        refine calm_normal ?_
        go_wp2_with fail
        obtain ⟨out, hout⟩ := seg_ex (atL m2) a b
        have HOUT := Lib.hid hout
        clear hout
        have yb := HZ.out.b 0 rfl
        have yb0 := yb.get 0 rfl; have yb1 := yb.get 1 rfl; have ybl := yb.sz
        clear yb
        go_upto_region 12 with fail
        refine wp_region_rel 6 (Ext wz)
          (fun i => List.getD [VE (.pointer (some q)), VE (.agg #[.int .i64 a, .int .i64 b]), VOw 46 3 wz.heap.size (cells3 out), VE (.pointer (some ⟨g, 0, none⟩)), VE (.agg #[.int .i64 a, .int .i64 b]), VOw 45 3 wz.heap.size (cells3 out)] i (fun _ _ => False)) [] [0, 3] (by kernel_rfl) (by kernel_rfl) (Ext.start wz) (fun _ _ h hb => h.grow hb)
          (stays_all (stays_cons (stays_VE _) (stays_cons (stays_VE _) (stays_cons (stays_VOw _ _ _ _) (stays_cons (stays_VE _) (stays_cons (stays_VE _) (stays_cons (stays_VOw _ _ _ _) stays_nil))))))) ⟨?_, ?_, ?_, ?_, ?_, ?_, trivial⟩ ?_
        · intro ev wv hE hw hd
          refine ifw rfl (ifw rfl ?_)
          have v7 : ev (.tmp 7) = .pointer (some q) := hE.tmp 7 rfl
          refine ⟨.pointer (some q), fun w => ?_, rfl⟩
          have e1 := hE.const; have e2 := hE.func; clear hE hd hw
          go_simp
        · intro ev wv hE hw hd
          refine ifw rfl (ifn rfl ?_)
          have v4 : ev (.tmp 4) = .pointer (some ⟨w.heap.size, 0, none⟩) := hE.tmp 4 rfl
          have kx := (Below.cell (p := ⟨w.heap.size, 0, none⟩) hw ybl).trans yb0
          have ky := (Below.cell (p := ⟨w.heap.size, 1, none⟩) hw ybl).trans yb1
          refine rel_val (u := .agg #[.int .i64 a, .int .i64 b]) (w' := wv) ?_ (Below.refl _ _) ⟨rfl, fun h => by cases h⟩
          have e1 := hE.const; clear hE hd hw
          go_simp
        · intro ev wv hE hw hd
          refine ifw rfl (ifn rfl ?_)
          have v44 : ev (.tmp 44) = .pointer (some q) := hd 0 (by decide)
          have v45 : ev (.tmp 45) = .agg #[.int .i64 a, .int .i64 b] := hd 1 (by decide)
          refine rel_call (f := 12) (args := #[.pointer (some q), .agg #[.int .i64 a, .int .i64 b]]) ?_ (sep_tsegs HK.out (HZ.out.keep hw) (i := 1) rfl (by omega) a b) ?_
          · have e0 := hE.func; have e1 := hE.const; clear hE hd hw
            go_simp
          · rintro e w' ⟨o, A, n, c, rfl, hsg, R, hb⟩
            exact ⟨_, rfl, hb, ⟨A, n, c, rfl, by rw [← segF_one hsg HOUT.out]; exact own_low R (Below.size hw)⟩, fun h => by cases h⟩
        · intro ev wv hE hw hd
          refine ifw rfl (ifw rfl ?_)
          have v8 : ev (.tmp 8) = .pointer (some ⟨g, 0, none⟩) := hE.tmp 8 rfl
          refine ⟨.pointer (some ⟨g, 0, none⟩), fun w => ?_, rfl⟩
          have e1 := hE.const; have e2 := hE.func; clear hE hd hw
          go_simp
        · intro ev wv hE hw hd
          refine ifw rfl (ifn rfl ?_)
          have v4 : ev (.tmp 4) = .pointer (some ⟨w.heap.size, 0, none⟩) := hE.tmp 4 rfl
          have kx := (Below.cell (p := ⟨w.heap.size, 0, none⟩) hw ybl).trans yb0
          have ky := (Below.cell (p := ⟨w.heap.size, 1, none⟩) hw ybl).trans yb1
          refine rel_val (u := .agg #[.int .i64 a, .int .i64 b]) (w' := wv) ?_ (Below.refl _ _) ⟨rfl, fun h => by cases h⟩
          have e1 := hE.const; clear hE hd hw
          go_simp
        · intro ev wv hE hw hd
          refine ifw rfl (ifn rfl ?_)
          have v47 : ev (.tmp 47) = .pointer (some ⟨g, 0, none⟩) := hd 3 (by decide)
          have v48 : ev (.tmp 48) = .agg #[.int .i64 a, .int .i64 b] := hd 4 (by decide)
          refine rel_call (f := 13) (args := #[.pointer (some ⟨g, 0, none⟩), .agg #[.int .i64 a, .int .i64 b]]) ?_ (sep_dsegs (HZ.out.keep hw) (i := 2) rfl (by have := HM2.out; omega) a b) ?_
          · have e0 := hE.func; have e1 := hE.const; clear hE hd hw
            go_simp
          · rintro e w' ⟨o, A, n, c, rfl, hsg, R, hb⟩
            exact ⟨_, rfl, hb, ⟨A, n, c, rfl, by rw [← segF_one hsg HOUT.out]; exact own_low R (Below.size hw)⟩, fun h => by cases h⟩
        · intro wy hw
          intro v0 h0 _ v1 h1 _ v2 h2 _ v3 h3 _ v4 h4 _ v5 h5 _
          simp only [Act.put, List.setIfInBounds_toArray, List.set_cons_zero, List.set_cons_succ, List.drop_succ_cons, List.drop_zero]
          obtain rfl : v0 = _ := h0
          obtain rfl : v1 = _ := h1
          obtain ⟨xA2, xk2, xc2, rfl, xR2⟩ : VOw 46 3 wz.heap.size (cells3 out) v2 wy := h2
          obtain rfl : v3 = _ := h3
          obtain rfl : v4 = _ := h4
          obtain ⟨xA5, xk5, xc5, rfl, xR5⟩ : VOw 45 3 wz.heap.size (cells3 out) v5 wy := h5
          change wpList Try.prog _ _ _ _ wy
          have HB12 := Lib.hid (show Below wz.heap.size wz wy from hw)
          have HY := Lib.hid (HZ.out.keep hw)
          have HG := Lib.hid xR2
          have HWt := Lib.hid (own_lies xR5)
          have n1 := Itm.count (own_lies xR2)
          have n2 := Itm.count (own_lies xR5)
          obtain rfl : xk2 = xk5 := n1.symm.trans n2
          have hn := segF_len HOUT.out
          rw [n1] at hn
          have HN1 := Lib.hid n1
          clear hw xR2 xR5 n2 yb0 yb1 ybl n1
          have yb := HY.out.b 0 rfl
          have yb0 := yb.get 0 rfl; have yb1 := yb.get 1 rfl
          clear yb
          go_wp2_with fail
          refine calm_normal ?_
          go_wp2_with fail
          refine (sep_tends HK.out HY.out (i := 1) rfl (by omega) a b).mono ?_
          rintro e w8 ⟨out2, Ae, ne, ce, rfl, hs2, oe, be⟩
          obtain rfl := segF_one hs2 HOUT.out
          have HBE := Lib.hid be
          have HE := Lib.hid oe
          have hne : ne = xk2 - 1 := by
            have h1 := (own_lies oe).len
            have h2 := endsL_len out2
            have h3 := HN1.out
            rw [show (ints (endsL out2)).length = (endsL out2).length by unfold ints; simp] at h1
            omega
          have HY8 := Lib.hid (HY.out.keep be)
          have HW8 := Lib.hid (HWt.out.keep be)
          have HG8 := Lib.hid (own_keep HG.out be)
          have hmx : (if 1 < (xk2 : Int) then (xk2 : Int) - 1 else 0) = (ne : Int) := by split <;> omega
          have HNE := Lib.hid hne
          clear hs2 oe be hne
          go_wp2_with fail
          refine (tsame_yes (own_lies HG8.out) HW8.out (by have := HN1.out; omega)).mono ?_
          rintro e w9 ⟨rfl, b9⟩
          have HY9 := Lib.hid (HY8.out.keep b9)
          have HB9 := Lib.hid (show Below w8.heap.size w8 w9 from b9)
          clear b9
          obtain ⟨z, hz⟩ : ∃ z, atL m2 day = z := ⟨_, rfl⟩
          obtain ⟨all, hall⟩ := seg_ex (atL m2) 1 3652060
          have HALL := Lib.hid hall
          have HZ2 := Lib.hid hz
          clear hall hz
          go_wp2_with fail
          refine (sep_tat HK.out HY9.out (i := 1) rfl (by omega) day HZ2.out).mono ?_
          rintro e w10 ⟨rfl, b10⟩
          have HY10 := Lib.hid (HY9.out.keep b10)
          have HB10 := Lib.hid (HB9.out.trans (b10.mono HB9.out.size))
          clear b10
          go_wp2_with fail
          refine (sep_dat HY10.out (i := 2) rfl (by have := HM2.out; omega) day HZ2.out).mono ?_
          rintro e w11 ⟨rfl, b11⟩
          have HY11 := Lib.hid (HY10.out.keep b11)
          have HB11 := Lib.hid (HB10.out.trans (b11.mono HB10.out.size))
          clear b11
          go_wp2_with fail
          refine (sep_tpieces HK.out HY11.out (i := 1) rfl (by omega) HALL.out).mono ?_
          rintro e w12 ⟨rfl, b12⟩
          have HY12 := Lib.hid (HY11.out.keep b12)
          have HB12' := Lib.hid (HB11.out.trans (b12.mono HB11.out.size))
          clear b12
          go_wp2_with fail
          refine (sep_dpieces HY12.out (i := 2) rfl (by have := HM2.out; omega) HALL.out).mono ?_
          rintro e w13 ⟨rfl, b13⟩
          have HB13 := Lib.hid (HB12'.out.trans (b13.mono HB12'.out.size))
          have HE13 := Lib.hid (own_keep HE.out HB13.out)
          have HYB := Lib.hid (show Below wy.heap.size wy w13 from HBE.out.trans (HB13.out.mono HBE.out.size))
          clear b13 HALL HZ2 HY8 HY9 HY10 HY11 HY12 HB9 HB10 HB11 HB12' HE HG8 HW8 HBE HB13 yb0 yb1
          go_wp2_with fail
          go_loopw [84] (fun u wr => ∃ (i : Nat) (xs : List Int), u = .int .i64 (i : Int) ∧ i ≤ ne ∧ Hid (xs.length = ne) ∧ Hid (∀ j, i ≤ j → xs[j]? = (endsL out2)[j]?) ∧ Hid (wr.ownsRow wy.heap.size 3 1 (.slice Ae ne ce) ne (ints xs)) ∧ Hid (Below wy.heap.size wy wr)) (fun u _ => (ne - intOf u).toNat)
          case atStart =>
            refine ⟨0, endsL out2, rfl, by omega, Lib.hid ?_, Lib.hid (fun _ _ => rfl), HE13, HYB⟩
            have h1 := (own_lies HE13.out).len
            rw [show (ints (endsL out2)).length = (endsL out2).length by unfold ints; simp] at h1
            omega
          case round =>
            obtain ⟨i, xs, rfl, hi, HXL, HXE, HOW, HBW⟩ := hrel
            clear HE13 HYB
            by_cases hli : i < ne
            · have h1n : i + 1 < xk2 := by have := HNE.out; omega
              obtain ⟨gw, ow, s, hAw, hs, hgw, p0, _, _⟩ := Itm.get (HWt.out.keep HBW.out) h1n
              obtain ⟨s1, s2, s3⟩ := s
              have hx : xs[i]? = some s1 := by rw [HXE.out i (Nat.le_refl _)]; exact endsL_at hs
              subst hAw
              have hown := HOW.out
              rcases Joins.ownsRow_forms hown with ⟨_, h0⟩ | ⟨g3, d3, hv⟩
              · omega
              · injection hv with e1 _ e3
                subst e1 e3
                have hge3 : wy.heap.size ≤ g3 := by
                  obtain ⟨_, h' | ⟨g', cap, cur, hv', hg', _⟩⟩ := hown
                  · cases h'.1
                  · injection hv' with e1 _ _
                    injection e1 with e1
                    injection e1 with e1 _ _
                    subst e1; exact hg'
                have cc : wr.cell? ⟨g3, i, none⟩ = some (.int .i64 s1) := by
                  have := hown.cellAt i (by omega)
                  rw [this]
                  unfold ints
                  rw [List.getElem?_map, hx]; rfl
                have ff : wr.frozen? ⟨g3, i, none⟩ = false := hown.frozenAt i
                obtain ⟨y', hy'⟩ : ∃ y', IntKind.i64.wrap (s1 + 1) = y' := ⟨_, rfl⟩
                have HST := hown.stored i (.int .i64 y')
                have HO7 := Lib.hid (show (wr.setCell ⟨g3, i, none⟩ (.int .i64 y')).ownsRow wy.heap.size 3 1 (.slice (some ⟨g3, 0, none⟩) ne ce) ne (ints (xs.set i y')) by
                  have := HST.1
                  rwa [show (ints xs).set i (.int .i64 y') = ints (xs.set i y') by unfold ints; rw [List.map_set]] at this)
                have HB7 := Lib.hid (fun q => ((HBW.out.trans (Joins.below_draws _ _ q)).setCell (p := ⟨g3, i, none⟩) hge3 (.int .i64 y')))
                have HXE2 := Lib.hid (show ∀ j, i + 1 ≤ j → (xs.set i y')[j]? = (endsL out2)[j]? from fun j hj => by
                  rw [List.getElem?_set_ne (by omega)]; exact HXE.out j (by omega))
                have HXL2 := Lib.hid (show (xs.set i y').length = ne by rw [List.length_set]; exact HXL.out)
                clear HST hown hx hs HOW HBW HXE HXL hge3
                go_wp2_with fail
                go_quiet (fail)
                go_wp2_with fail
                go_roundw
                case rel => exact ⟨i + 1, xs.set i y', by go_num, by omega, HXL2, HXE2, HO7, Lib.hid (HB7.out _)⟩
                case measure => simp [intOf]; omega
            · have HG3 := Lib.hid (own_keep HG.out HBW.out)
              have HB3 := Lib.hid (HB12.out.trans (HBW.out.mono HB12.out.size))
              clear HOW HBW HXE HXL HG HWt HNE hmx
              go_wp2_with fail
              go_loopw [107] (fun u wr => ∃ (i : Nat) (ys : ItL), u = .int .i64 (i : Int) ∧ i ≤ xk2 ∧ Hid (ys.length = xk2) ∧ Hid (wr.ownsRow wz.heap.size 46 3 (.slice xA2 xk2 xc2) xk2 (cells3 ys)) ∧ Hid (Below wz.heap.size wz wr)) (fun u _ => (xk2 - intOf u).toNat)
              case atStart => exact ⟨0, out2, rfl, by omega, HN1, HG3, HB3⟩
              case round =>
                obtain ⟨i, ys, rfl, hi, HYL, HOW, HBW⟩ := hrel
                clear HG3 HB3
                by_cases hli : i < xk2
                · obtain ⟨s, hs⟩ : ∃ s, ys[i]? = some s := ⟨_, List.getElem?_eq_getElem (by rw [HYL.out]; exact hli)⟩
                  obtain ⟨y1, y2, y3⟩ := s
                  have hown := HOW.out
                  rcases Joins.ownsRow_forms hown with ⟨_, h0⟩ | ⟨g3, d3, hv⟩
                  · omega
                  · injection hv with e1 _ e3
                    subst e1 e3
                    have hge3 : wz.heap.size ≤ g3 := by
                      obtain ⟨_, h' | ⟨g', cap, cur, hv', hg', _⟩⟩ := hown
                      · cases h'.1
                      · injection hv' with e1 _ _
                        injection e1 with e1
                        injection e1 with e1 _ _
                        subst e1; exact hg'
                    have cc : wr.cell? ⟨g3, i * 3 + 2, none⟩ = some (.int .i64 y3) := by rw [hown.cellAt _ (by omega)]; exact (cells3_at hs).2.2
                    have ff : wr.frozen? ⟨g3, i * 3 + 2, none⟩ = false := hown.frozenAt _
                    obtain ⟨y', hy'⟩ : ∃ y', IntKind.i64.wrap (y3 + 1) = y' := ⟨_, rfl⟩
                    have HST := hown.stored (i * 3 + 2) (.int .i64 y')
                    have HO7 := Lib.hid (show (wr.setCell ⟨g3, i * 3 + 2, none⟩ (.int .i64 y')).ownsRow wz.heap.size 46 3 (.slice (some ⟨g3, 0, none⟩) xk2 xc2) xk2 (cells3 (ys.set i (y1, y2, y'))) by rw [← cells3_set2 hs]; exact HST.1)
                    have HB7 := Lib.hid (HBW.out.setCell (p := ⟨g3, i * 3 + 2, none⟩) hge3 (.int .i64 y'))
                    have HYL2 := Lib.hid (show (ys.set i (y1, y2, y')).length = xk2 by rw [List.length_set]; exact HYL.out)
                    clear HST hown hs HOW HBW HYL hge3
                    go_wp2_with fail
                    go_roundw
                    case rel => exact ⟨i + 1, ys.set i (y1, y2, y'), by go_num, by omega, HYL2, HO7, HB7⟩
                    case measure => simp [intOf]; omega
                · have HEND := Lib.hid (HZ.out.keep HBW.out)
                  clear HOW HBW HYL
                  go_wp2_with fail
                  go_roundw
                  case rel => exact ⟨k + 1, m2, by go_num, by omega, HM2, HEND⟩
                  case measure => simp [intOf]; omega
    · obtain ⟨out, hout⟩ := seg_ex (atL m) a b
      have HOUT := Lib.hid hout
      have hn := segF_len hout
      clear hout
      have yb := HS.out.b 0 rfl
      have yb0 := yb.get 0 rfl; have yb1 := yb.get 1 rfl; have ybl := yb.sz
      clear yb
      go_upto_region 29 with fail
      refine wp_region_rel 10 (Ext wr)
        (fun i => List.getD [VE (.pointer (some q)), VE (.agg #[.int .i64 a, .int .i64 b]), VSl 3 (cells3 out), VE (.pointer (some ⟨g, 0, none⟩)), VE (.agg #[.int .i64 a, .int .i64 b]), VSl 3 (cells3 out), VE (.bool true), VE (.bool true), VE (.bool true), VE (.bool true)] i (fun _ _ => False)) [] [0, 3, 7, 9] (by kernel_rfl) (by kernel_rfl) (Ext.start wr) (fun _ _ h hb => h.grow hb)
        (stays_all (stays_cons (stays_VE _) (stays_cons (stays_VE _) (stays_cons (stays_VSl _ _) (stays_cons (stays_VE _) (stays_cons (stays_VE _) (stays_cons (stays_VSl _ _) (stays_cons (stays_VE _) (stays_cons (stays_VE _) (stays_cons (stays_VE _) (stays_cons (stays_VE _) stays_nil))))))))))) ⟨?_, ?_, ?_, ?_, ?_, ?_, ?_, ?_, ?_, ?_, trivial⟩ ?_
      · intro ev wv hE hw hd
        refine ifw rfl (ifw rfl ?_)
        have v7 : ev (.tmp 7) = .pointer (some q) := hE.tmp 7 rfl
        refine ⟨.pointer (some q), fun w => ?_, rfl⟩
        have e1 := hE.const; have e2 := hE.func; clear hE hd hw
        go_simp
      · intro ev wv hE hw hd
        refine ifw rfl (ifn rfl ?_)
        have v4 : ev (.tmp 4) = .pointer (some ⟨w.heap.size, 0, none⟩) := hE.tmp 4 rfl
        have kx := (Below.cell (p := ⟨w.heap.size, 0, none⟩) hw ybl).trans yb0
        have ky := (Below.cell (p := ⟨w.heap.size, 1, none⟩) hw ybl).trans yb1
        refine rel_val (u := .agg #[.int .i64 a, .int .i64 b]) (w' := wv) ?_ (Below.refl _ _) ⟨rfl, fun h => by cases h⟩
        have e1 := hE.const; clear hE hd hw
        go_simp
      · intro ev wv hE hw hd
        refine ifw rfl (ifn rfl ?_)
        have v120 : ev (.tmp 120) = .pointer (some q) := hd 0 (by decide)
        have v121 : ev (.tmp 121) = .agg #[.int .i64 a, .int .i64 b] := hd 1 (by decide)
        refine rel_call (f := 12) (args := #[.pointer (some q), .agg #[.int .i64 a, .int .i64 b]]) ?_ (sep_tsegs HK.out (HS.out.keep hw) (i := 1) rfl (by omega) a b) ?_
        · have e0 := hE.func; have e1 := hE.const; clear hE hd hw
          go_simp
        · rintro e w' ⟨o, A, n, c, rfl, hsg, R, hb⟩
          exact ⟨_, rfl, hb, ⟨A, n, c, rfl, by rw [← segF_one hsg HOUT.out]; exact own_lies R⟩, fun h => by cases h⟩
      · intro ev wv hE hw hd
        refine ifw rfl (ifw rfl ?_)
        have v8 : ev (.tmp 8) = .pointer (some ⟨g, 0, none⟩) := hE.tmp 8 rfl
        refine ⟨.pointer (some ⟨g, 0, none⟩), fun w => ?_, rfl⟩
        have e1 := hE.const; have e2 := hE.func; clear hE hd hw
        go_simp
      · intro ev wv hE hw hd
        refine ifw rfl (ifn rfl ?_)
        have v4 : ev (.tmp 4) = .pointer (some ⟨w.heap.size, 0, none⟩) := hE.tmp 4 rfl
        have kx := (Below.cell (p := ⟨w.heap.size, 0, none⟩) hw ybl).trans yb0
        have ky := (Below.cell (p := ⟨w.heap.size, 1, none⟩) hw ybl).trans yb1
        refine rel_val (u := .agg #[.int .i64 a, .int .i64 b]) (w' := wv) ?_ (Below.refl _ _) ⟨rfl, fun h => by cases h⟩
        have e1 := hE.const; clear hE hd hw
        go_simp
      · intro ev wv hE hw hd
        refine ifw rfl (ifn rfl ?_)
        have v123 : ev (.tmp 123) = .pointer (some ⟨g, 0, none⟩) := hd 3 (by decide)
        have v124 : ev (.tmp 124) = .agg #[.int .i64 a, .int .i64 b] := hd 4 (by decide)
        refine rel_call (f := 13) (args := #[.pointer (some ⟨g, 0, none⟩), .agg #[.int .i64 a, .int .i64 b]]) ?_ (sep_dsegs (HS.out.keep hw) (i := 2) rfl (by have := HM.out; omega) a b) ?_
        · have e0 := hE.func; have e1 := hE.const; clear hE hd hw
          go_simp
        · rintro e w' ⟨o, A, n, c, rfl, hsg, R, hb⟩
          exact ⟨_, rfl, hb, ⟨A, n, c, rfl, by rw [← segF_one hsg HOUT.out]; exact own_lies R⟩, fun h => by cases h⟩
      · intro ev wv hE hw hd
        refine ifw rfl (ifn rfl ?_)
        obtain ⟨xA2, xk2, xc2, v122, xR2⟩ : VSl 3 (cells3 out) (ev (.tmp 122)) wv := hd 2 (by decide)
        obtain ⟨xA5, xk5, xc5, v125, xR5⟩ : VSl 3 (cells3 out) (ev (.tmp 125)) wv := hd 5 (by decide)
        refine rel_call (f := 15) (args := #[.slice xA2 xk2 xc2, .slice xA5 xk5 xc5]) ?_ (tsame_yes xR2 xR5 (by omega)) ?_
        · have e0 := hE.func; have e1 := hE.const; clear hE hd hw
          go_simp
        · rintro e w' ⟨rfl, hb⟩
          exact ⟨_, rfl, hb, rfl, fun h => by cases h⟩
      · intro ev wv hE hw hd
        refine ifw rfl (ifw rfl ?_)
        have v126 : ev (.tmp 126) = .bool true := hd 6 (by decide)
        refine ⟨.bool true, fun w => ?_, rfl⟩
        have e1 := hE.const; have e2 := hE.func; clear hE hd hw
        go_simp
      · intro ev wv hE hw hd
        have vg : ev (.tmp 127) = .bool true := hd 7 (by decide)
        refine ifw (by show (yv (ev (.tmp 127)) == some true) = true; rw [vg]; rfl) (ifn rfl ?_)
        clear vg
        refine rel_call (f := 8) (args := #[]) ?_ (tlknown_any HK.out _) ?_
        · have e0 := hE.func; have e1 := hE.const; clear hE hd hw
          go_simp
        · rintro e w' ⟨rfl, hb⟩
          exact ⟨_, rfl, hb, rfl, fun h => by cases h⟩
      · intro ev wv hE hw hd
        refine ifw rfl (ifw rfl ?_)
        have v127 : ev (.tmp 127) = .bool true := hd 7 (by decide)
        have v128 : ev (.tmp 128) = .bool true := hd 8 (by decide)
        refine ⟨.bool true, fun w => ?_, rfl⟩
        have e1 := hE.const; have e2 := hE.func; clear hE hd hw
        go_simp
      · intro wy hw
        intro v0 h0 _ v1 h1 _ v2 h2 _ v3 h3 _ v4 h4 _ v5 h5 _ v6 h6 _ v7 h7 _ v8 h8 _ v9 h9 _
        simp only [Act.put, List.setIfInBounds_toArray, List.set_cons_zero, List.set_cons_succ, List.drop_succ_cons, List.drop_zero]
        obtain rfl : v0 = _ := h0
        obtain rfl : v1 = _ := h1
        obtain ⟨xA2, xk2, xc2, rfl, xR2⟩ : VSl 3 (cells3 out) v2 wy := h2
        obtain rfl : v3 = _ := h3
        obtain rfl : v4 = _ := h4
        obtain ⟨xA5, xk5, xc5, rfl, xR5⟩ : VSl 3 (cells3 out) v5 wy := h5
        obtain rfl : v6 = _ := h6
        obtain rfl : v7 = _ := h7
        obtain rfl : v8 = _ := h8
        obtain rfl : v9 = _ := h9
        change wpList Try.prog _ _ _ _ wy
        have HB := Lib.hid ((HS.out.keep hw).bl)
        clear hw HS yb0 yb1 ybl
        go_wp2_with fail
        refine calm_normal ?_
        go_wp2_with fail
        go_ret
        exact ⟨rfl, HB.out⟩
theorem tlplays_any {Rep : RepL} (K : TlK Rep) (A : Option Addr) (N c : Nat) (l : ItL) (a b day : Int) (w : World) (Rl : Itm w A N c l) : Calls Try.prog 3 #[.slice A N c, .agg #[.int .i64 a, .int .i64 b], .int .i64 day] w fun e w' => e = .returned (.bool true) ∧ Below w.heap.size w w' := by
  by_cases hN : N ≤ 60
  · exact tlplays_main K A N c l a b day w Rl hN
  · exact tlplays_long K A N c l a b day w Rl hN
end Go.Proofs.Ytockjcainkoifaa
