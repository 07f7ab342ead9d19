/- Contract of corrodyref07.Ends. (Written by wip/gen/gensp4.py.) -/
import Derived.Test.YtmolbckndkhhlaaSp3
import Derived.Test.YtmolbckndkhhlaaRowRel
namespace Go.Proofs.Ytmolbckndkhhlaa
set_option maxRecDepth 8000
open Go.RowKit Corr
set_option linter.unusedVariables false
set_option linter.unusedSimpArgs false
theorem held_b (n : Int) (w : World) : Calls Try.prog 44 #[.int .i64 n] w fun e w' => e = .returned (.int .i64 (heldI n)) ∧ Below w.heap.size w w' := by
  refine (held_any n w).mono ?_
  rintro e w' ⟨rfl, rfl⟩
  exact ⟨rfl, Below.refl _ _⟩
set_option maxHeartbeats 4000000 in
theorem ends_any (A B : Option Addr) (N c M d : Nat) (o : List Int) (l : SpL) (w : World) (R : Nums w A N c o) (S : Spn w B M d l) (hN : N ≤ 1000) (hM : M ≤ 1000) : Calls Try.prog 32 #[.slice A N c, .slice B M d] w (RetNums w (endsL o l)) := by
  have HC := Lib.hid R.count
  have HS := Lib.hid S
  have HSC := Lib.hid S.count
  have HR := Lib.hid R
  clear R S
  go_enter Try.func32, Try.ntmps32
  go_wp2_with fail
  go_loopw [0, 5] (fun v t wr => ∃ (k n e : Nat) (E : Option Addr), v = .slice E n e ∧ t = .int .i64 (k : Int) ∧ k ≤ M ∧ Nums wr E n e (endsL o (l.take k)) ∧ Below w.heap.size w wr) (fun _ t _ => (M - intOf t).toNat)
  case atStart => exact ⟨0, N, c, A, rfl, rfl, by omega, HR.out, Below.refl _ _⟩
  case round =>
    obtain ⟨k, n, e, E, rfl, rfl, hk, RN, hb⟩ := hrel
    have HB := Lib.hid hb
    have hn : n ≤ 4000 := by
      have h1 := RN.count
      have h2 := endsL_len o (l.take k)
      rw [List.length_take] at h2
      have := HC.out
      omega
    clear hb
    by_cases hlt : k < M
    · obtain ⟨g, off, s, rfl, hs, hg, c0, c1⟩ := Spn.get (HS.out.keep HB.out) hlt
      have HE := Lib.hid (endsL_more (o := o) hs)
      obtain ⟨a, b⟩ := s
      clear hs
      have HRN := Lib.hid RN
      clear RN
      go_upto_region 4 with fail
      refine wp_region_rel 15 (Ext wr)
        (fun i => List.getD [VE (.slice E n e), VE (.slice (some ⟨g, off, none⟩) M d), VE (.int .i64 (k : Int)), VE (.pointer (some ⟨g, off + k * 2, none⟩)), VE (.pointer (some ⟨g, off + k * 2, none⟩)), VE (.int .i64 a), VE (.int .i64 (heldI a)), VSl 1 (ints (insE (heldI a) (endsL o (l.take k)))), VE (.slice (some ⟨g, off, none⟩) M d), VE (.int .i64 (k : Int)), VE (.pointer (some ⟨g, off + k * 2, none⟩)), VE (.pointer (some ⟨g, off + k * 2 + 1, none⟩)), VE (.int .i64 b), VE (.int .i64 (heldI b)), VSl 1 (ints (insE (heldI b) (insE (heldI a) (endsL o (l.take k)))))] i (fun _ _ => False)) [] [0, 1, 2, 3, 4, 8, 9, 10, 11] (by kernel_rfl) (by kernel_rfl) (Ext.start wr) (fun _ _ h hb => h.grow hb)
        (stays_all (stays_cons (stays_VE _) (stays_cons (stays_VE _) (stays_cons (stays_VE _) (stays_cons (stays_VE _) (stays_cons (stays_VE _) (stays_cons (stays_VE _) (stays_cons (stays_VE _) (stays_cons (stays_VSl _ _) (stays_cons (stays_VE _) (stays_cons (stays_VE _) (stays_cons (stays_VE _) (stays_cons (stays_VE _) (stays_cons (stays_VE _) (stays_cons (stays_VE _) (stays_cons (stays_VSl _ _) stays_nil)))))))))))))))) ⟨?_, ?_, ?_, ?_, ?_, ?_, ?_, ?_, ?_, ?_, ?_, ?_, ?_, ?_, ?_, trivial⟩ ?_
      · intro ev wv hE hw hd
        refine ifw rfl (ifw rfl ?_)
        have v0 : ev (.tmp 0) = .slice E n e := hE.tmp 0 rfl
        refine ⟨.slice E n e, fun w => ?_, rfl⟩
        have e1 := hE.const; have e2 := hE.func; clear hE hd hw
        go_simp
      · intro ev wv hE hw hd
        refine ifw rfl (ifw rfl ?_)
        have v1 : ev (.tmp 1) = .slice (some ⟨g, off, none⟩) M d := hE.tmp 1 rfl
        refine ⟨.slice (some ⟨g, off, none⟩) M d, fun w => ?_, rfl⟩
        have e1 := hE.const; have e2 := hE.func; clear hE hd hw
        go_simp
      · intro ev wv hE hw hd
        refine ifw rfl (ifw rfl ?_)
        have v5 : ev (.tmp 5) = .int .i64 (k : Int) := hE.tmp 5 rfl
        refine ⟨.int .i64 (k : Int), fun w => ?_, rfl⟩
        have e1 := hE.const; have e2 := hE.func; clear hE hd hw
        go_simp
      · intro ev wv hE hw hd
        refine ifw rfl (ifw rfl ?_)
        have v13 : ev (.tmp 13) = .slice (some ⟨g, off, none⟩) M d := hd 1 (by decide)
        have v14 : ev (.tmp 14) = .int .i64 (k : Int) := hd 2 (by decide)
        refine ⟨.pointer (some ⟨g, off + k * 2, none⟩), fun w => ?_, rfl⟩
        have e1 := hE.const; have e2 := hE.func; clear hE hd hw
        go_simp
      · intro ev wv hE hw hd
        refine ifw rfl (ifw rfl ?_)
        have v15 : ev (.tmp 15) = .pointer (some ⟨g, off + k * 2, none⟩) := hd 3 (by decide)
        refine ⟨.pointer (some ⟨g, off + k * 2, none⟩), fun w => ?_, rfl⟩
        have e1 := hE.const; have e2 := hE.func; clear hE hd hw
        go_simp
      · intro ev wv hE hw hd
        refine ifw rfl (ifn rfl ?_)
        have v16 : ev (.tmp 16) = .pointer (some ⟨g, off + k * 2, none⟩) := hd 4 (by decide)
        have kx := (Below.cell hw hg).trans c0
        refine rel_val (u := .int .i64 a) (w' := wv) ?_ (Below.refl _ _) ⟨rfl, fun h => by cases h⟩
        have e1 := hE.const; clear hE hd hw
        go_simp
      · intro ev wv hE hw hd
        refine ifw rfl (ifn rfl ?_)
        have v17 : ev (.tmp 17) = .int .i64 a := hd 5 (by decide)
        refine rel_call (f := 44) (args := #[.int .i64 a]) ?_ (held_b a _) ?_
        · have e0 := hE.func; have e1 := hE.const; clear hE hd hw
          go_simp
        · rintro e w' ⟨rfl, hb⟩
          exact ⟨_, rfl, hb, rfl, fun h => by cases h⟩
      · intro ev wv hE hw hd
        refine ifw rfl (ifn rfl ?_)
        have v12 : ev (.tmp 12) = .slice E n e := hd 0 (by decide)
        have v18 : ev (.tmp 18) = .int .i64 (heldI a) := hd 6 (by decide)
        refine rel_call (f := 43) (args := #[.slice E n e, .int .i64 (heldI a)]) ?_ (add_any _ _ _ _ _ _ (HRN.out.keep hw) (by omega)) ?_
        · have e0 := hE.func; have e1 := hE.const; clear hE hd hw
          go_simp
        · rintro e w' ⟨A, n, c, rfl, R, hb⟩
          exact ⟨_, rfl, hb, ⟨A, n, c, rfl, R⟩, fun h => by cases h⟩
      · intro ev wv hE hw hd
        refine ifw rfl (ifw rfl ?_)
        have v1 : ev (.tmp 1) = .slice (some ⟨g, off, none⟩) M d := hE.tmp 1 rfl
        refine ⟨.slice (some ⟨g, off, none⟩) M d, fun w => ?_, rfl⟩
        have e1 := hE.const; have e2 := hE.func; clear hE hd hw
        go_simp
      · intro ev wv hE hw hd
        refine ifw rfl (ifw rfl ?_)
        have v5 : ev (.tmp 5) = .int .i64 (k : Int) := hE.tmp 5 rfl
        refine ⟨.int .i64 (k : Int), fun w => ?_, rfl⟩
        have e1 := hE.const; have e2 := hE.func; clear hE hd hw
        go_simp
      · intro ev wv hE hw hd
        refine ifw rfl (ifw rfl ?_)
        have v20 : ev (.tmp 20) = .slice (some ⟨g, off, none⟩) M d := hd 8 (by decide)
        have v21 : ev (.tmp 21) = .int .i64 (k : Int) := hd 9 (by decide)
        refine ⟨.pointer (some ⟨g, off + k * 2, none⟩), fun w => ?_, rfl⟩
        have e1 := hE.const; have e2 := hE.func; clear hE hd hw
        go_simp
      · intro ev wv hE hw hd
        refine ifw rfl (ifw rfl ?_)
        have v22 : ev (.tmp 22) = .pointer (some ⟨g, off + k * 2, none⟩) := hd 10 (by decide)
        refine ⟨.pointer (some ⟨g, off + k * 2 + 1, none⟩), fun w => ?_, rfl⟩
        have e1 := hE.const; have e2 := hE.func; clear hE hd hw
        go_simp
      · intro ev wv hE hw hd
        refine ifw rfl (ifn rfl ?_)
        have v23 : ev (.tmp 23) = .pointer (some ⟨g, off + k * 2 + 1, none⟩) := hd 11 (by decide)
        have kx := (Below.cell hw hg).trans c1
        refine rel_val (u := .int .i64 b) (w' := wv) ?_ (Below.refl _ _) ⟨rfl, fun h => by cases h⟩
        have e1 := hE.const; clear hE hd hw
        go_simp
      · intro ev wv hE hw hd
        refine ifw rfl (ifn rfl ?_)
        have v24 : ev (.tmp 24) = .int .i64 b := hd 12 (by decide)
        refine rel_call (f := 44) (args := #[.int .i64 b]) ?_ (held_b b _) ?_
        · have e0 := hE.func; have e1 := hE.const; clear hE hd hw
          go_simp
        · rintro e w' ⟨rfl, hb⟩
          exact ⟨_, rfl, hb, rfl, fun h => by cases h⟩
      · intro ev wv hE hw hd
        refine ifw rfl (ifn rfl ?_)
        obtain ⟨xA7, xk7, xc7, v19, xR7⟩ : VSl 1 (ints (insE (heldI a) (endsL o (l.take k)))) (ev (.tmp 19)) wv := hd 7 (by decide)
        have v25 : ev (.tmp 25) = .int .i64 (heldI b) := hd 13 (by decide)
        have hx7 : xk7 ≤ 1000000 := by have h1 := Nums.count xR7; have h2 := insE_len (heldI a) (endsL o (l.take k)); have h3 := Nums.count HRN.out; omega
        refine rel_call (f := 43) (args := #[.slice xA7 xk7 xc7, .int .i64 (heldI b)]) ?_ (add_any _ _ _ _ _ _ xR7 hx7) ?_
        · have e0 := hE.func; have e1 := hE.const; clear hE hd hw
          go_simp
        · rintro e w' ⟨A, n, c, rfl, R, hb⟩
          exact ⟨_, rfl, hb, ⟨A, n, c, rfl, R⟩, fun h => by cases h⟩
      · intro w1 hw
        intro v0 h0 _ v1 h1 _ v2 h2 _ v3 h3 _ v4 h4 _ v5 h5 _ v6 h6 _ v7 h7 _ v8 h8 _ v9 h9 _ v10 h10 _ v11 h11 _ v12 h12 _ v13 h13 _ v14 h14 _
        simp only [Act.put, List.setIfInBounds_toArray, List.set_cons_zero, List.set_cons_succ, List.drop_succ_cons, List.drop_zero]
        obtain rfl : v0 = _ := h0
        obtain rfl : v1 = _ := h1
        obtain rfl : v2 = _ := h2
        obtain rfl : v3 = _ := h3
        obtain rfl : v4 = _ := h4
        obtain rfl : v5 = _ := h5
        obtain rfl : v6 = _ := h6
        obtain ⟨xA7, xk7, xc7, rfl, xR7⟩ : VSl 1 (ints (insE (heldI a) (endsL o (l.take k)))) v7 w1 := h7
        obtain rfl : v8 = _ := h8
        obtain rfl : v9 = _ := h9
        obtain rfl : v10 = _ := h10
        obtain rfl : v11 = _ := h11
        obtain rfl : v12 = _ := h12
        obtain rfl : v13 = _ := h13
        obtain ⟨xA14, xk14, xc14, rfl, xR14⟩ : VSl 1 (ints (insE (heldI b) (insE (heldI a) (endsL o (l.take k))))) v14 w1 := h14
        change wpList Try.prog _ _ _ _ w1
        have HBW := Lib.hid (Below.trans HB.out (Below.mono hw HB.out.size))
        have HX14 := Lib.hid (show Nums w1 xA14 xk14 xc14 (endsL o (l.take (k + 1))) by rw [HE.out]; exact xR14)
        clear hw xR7 xR14
        go_wp2_with fail
        refine calm_normal ?_
        go_wp2_with fail
        exact ⟨⟨k + 1, _, _, _, rfl, val_int (by omega), by omega, HX14.out, HBW.out⟩, by simp [intOf]; omega⟩
    · have HF := Lib.hid (show l.take k = l by rw [List.take_of_length_le]; rw [HSC.out]; omega)
      have HRN := Lib.hid RN
      clear RN
      go_wp2_with fail
      go_ret
      exact ⟨_, _, _, rfl, by rw [← HF.out]; exact HRN.out, HB.out⟩
end Go.Proofs.Ytmolbckndkhhlaa
