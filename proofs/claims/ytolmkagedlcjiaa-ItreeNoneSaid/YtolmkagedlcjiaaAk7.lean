/- Contract of package avl: hang. (Written by wip/gen/genak7.py.) -/
import Derived.Test.YtolmkagedlcjiaaAk2
import Derived.Test.YtolmkagedlcjiaaRowRel
namespace Corr
set_option maxRecDepth 8000
open Go Go.RowKit
/-- A place is laid to a knot's side. -/
def Kn.put (k : Kn) (b : Bool) (z : Int) : Kn := if b then { k with r := z } else { k with l := z }
section
variable {T : TypeId} {w : World} {g n c gK i : Nat} {M r : Int} {K : KnL} {k : Kn}
theorem Ar.cs (h : Ar T w g M r (some ⟨gK, 0, none⟩) n c K) (hk : K[i]? = some k) (b : Bool) : w.cell? ⟨gK, i * 7 + sdO b, none⟩ = some (.int .i64 (k.sd b)) := by
  cases b with
  | false => exact h.c3 hk
  | true => exact h.c4 hk
theorem Ar.puts (h : Ar T w g M r (some ⟨gK, 0, none⟩) n c K) (hk : K[i]? = some k) (b : Bool) (z : Int) : Ar T (w.setCell ⟨gK, i * 7 + sdO b, none⟩ (.int .i64 z)) g M r (some ⟨gK, 0, none⟩) n c (K.set i (k.put b z)) := by
  cases b with
  | false => exact h.putl hk z
  | true => exact h.putr hk z
end
end Corr
namespace Go.Proofs.Ytolmkagedlcjiaa
set_option maxRecDepth 8000
open Go.RowKit Corr
set_option linter.unusedVariables false
set_option linter.unusedSimpArgs false
set_option maxHeartbeats 4000000 in
theorem hang_top (g gW n c : Nat) (A : Option Addr) (M r z : Int) (K : KnL) (w : World) (H : Ar 59 w g M r A n c K) (W : WayM w gW []) :
    Calls Try.prog 43 #[.pointer (some ⟨g, 0, none⟩), .pointer (some ⟨gW, 0, none⟩), .int .i64 z] w fun e w' => e = .returned (.tuple #[]) ∧ Ar 59 w' g M z A n c K ∧ Off (inAr g A n c) w w' := by
  obtain ⟨vs, B, V⟩ := W
  have HA := Lib.hid H
  have c56 := B.get 56 (v := .int .i64 0) V.cnt
  have c1 := H.b.get 1 rfl
  have f1 := H.b.f 1
  clear H B V
  go_enter Try.func43, Try.ntmps43
  go_wp2_with fail
  refine bodyPost_ret (results_none rfl _ _ _) rfl ?_
  exact ⟨rfl, HA.out.root z, (Off.refl _ w).put ⟨g, 1, none⟩ (.inl (.inl rfl)) _⟩
set_option maxHeartbeats 4000000 in
theorem hang_any (g gW n c gK : Nat) (M r z : Int) (K : KnL) (l : WyL) (p : Nat) (b : Bool) (kn : Kn) (w : World) (H : Ar 59 w g M r (some ⟨gK, 0, none⟩) n c K) (W : WayM w gW (l ++ [(p, b)])) (hk : K[p]? = some kn) (hn : n ≤ 2000) :
    Calls Try.prog 43 #[.pointer (some ⟨g, 0, none⟩), .pointer (some ⟨gW, 0, none⟩), .int .i64 z] w fun e w' => e = .returned (.tuple #[]) ∧ Ar 59 w' g M r (some ⟨gK, 0, none⟩) n c (K.set p (kn.put b z)) ∧ Off (inAr g (some ⟨gK, 0, none⟩) n c) w w' := by
  obtain ⟨vs, B, V⟩ := W
  obtain ⟨s, hs⟩ : ∃ s, sdI b = s := ⟨_, rfl⟩
  obtain ⟨k, hk1⟩ : ∃ k, l.length = k := ⟨_, rfl⟩
  have hk2 : k < 28 := by have := V.le; simp at this; omega
  have hat := V.at_ k p b (by rw [List.getElem?_append_right (by omega), hk1, Nat.sub_self]; rfl)
  rw [hs] at hat
  have c56 : w.cell? ⟨gW, 56, none⟩ = some (.int .i64 ((k : Int) + 1)) := by have := B.get 56 V.cnt; rw [List.length_append, hk1] at this; exact this
  have y0 := B.get _ hat.1
  have y1 := B.get _ hat.2
  have hgW := B.sz
  have HA := Lib.hid H
  have HKN := Lib.hid hk
  have HSD := Lib.hid (fun (w' : World) (hb : Below w.heap.size w w') => by have := side_any g n c gK M r K p b kn w' (H.keep hb) hk hn; unfold stV at this; rw [hs] at this; exact this)
  have HCE := Lib.hid (fun (w' : World) (hb : Below w.heap.size w w') => (H.keep hb).cs hk b)
  have HFZ := Lib.hid (fun (w' : World) (hb : Below w.heap.size w w') => (H.keep hb).fz (p * 7 + sdO b))
  have HST := Lib.hid (fun (w' : World) (hb : Below w.heap.size w w') => (H.keep hb).puts hk b z)
  obtain ⟨o, ho⟩ : ∃ o, p * 7 + sdO b = o := ⟨_, rfl⟩
  rw [ho] at HSD HCE HFZ HST
  have j0 : decide ((k : Int) < 0) = false := decide_eq_false (by omega)
  have j1 : (0 : Int) ≤ (k : Int) := by omega
  have j2 : (k : Int) < 28 := by omega
  have j3 : ((k : Int)).toNat = k := by omega
  have j4 : ((k : Int) + 1 == 0) = false := by simp; omega
  clear B V hat hs hk1 ho H hk
  go_enter Try.func43, Try.ntmps43
  go_upto_region 2 with fail
  refine wp_region_rel 14 (Ext w)
    (fun i => List.getD [VE (.pointer (some ⟨g, 0, none⟩)), VE (.pointer (some ⟨gW, 0, none⟩)), VE (.pointer (some ⟨gW, 0, none⟩)), VE (.pointer (some ⟨gW, 0, none⟩)), VE (.pointer (some ⟨gW, 56, none⟩)), VE (.int .i64 ((k : Int) + 1)), VE (.int .i64 (k : Int)), VE (.pointer (some ⟨gW, 0, none⟩)), VE (.pointer (some ⟨gW, 0, none⟩)), VE (.pointer (some ⟨gW, k * 2, none⟩)), VE (.agg #[.int .i64 (p : Int), .int .i64 s]), VE (.pointer (some ⟨gK, o, none⟩)), VE (.int .i64 z), VE (.pointer (some ⟨gK, o, none⟩))] i (fun _ _ => False)) [] [0, 1, 2, 3, 4, 6, 7, 8, 9, 12, 13] (by kernel_rfl) (by kernel_rfl) (Ext.start w) (fun _ _ h hb => h.grow hb)
    (stays_all (stays_cons (stays_VE _) (stays_cons (stays_VE _) (stays_cons (stays_VE _) (stays_cons (stays_VE _) (stays_cons (stays_VE _) (stays_cons (stays_VE _) (stays_cons (stays_VE _) (stays_cons (stays_VE _) (stays_cons (stays_VE _) (stays_cons (stays_VE _) (stays_cons (stays_VE _) (stays_cons (stays_VE _) (stays_cons (stays_VE _) (stays_cons (stays_VE _) stays_nil))))))))))))))) ⟨?_, ?_, ?_, ?_, ?_, ?_, ?_, ?_, ?_, ?_, ?_, ?_, ?_, ?_, trivial⟩ ?_
  · intro ev wv hE hw hd
    refine ifw rfl (ifw rfl ?_)
    have v0 : ev (.tmp 0) = .pointer (some ⟨g, 0, none⟩) := hE.tmp 0 rfl
    refine ⟨.pointer (some ⟨g, 0, none⟩), fun w => ?_, rfl⟩
    have e1 := hE.const; have e2 := hE.func; clear hE hd hw
    go_simp
  · intro ev wv hE hw hd
    refine ifw rfl (ifw rfl ?_)
    have v1 : ev (.tmp 1) = .pointer (some ⟨gW, 0, none⟩) := hE.tmp 1 rfl
    refine ⟨.pointer (some ⟨gW, 0, none⟩), fun w => ?_, rfl⟩
    have e1 := hE.const; have e2 := hE.func; clear hE hd hw
    go_simp
  · intro ev wv hE hw hd
    refine ifw rfl (ifw rfl ?_)
    have v1 : ev (.tmp 1) = .pointer (some ⟨gW, 0, none⟩) := hE.tmp 1 rfl
    refine ⟨.pointer (some ⟨gW, 0, none⟩), fun w => ?_, rfl⟩
    have e1 := hE.const; have e2 := hE.func; clear hE hd hw
    go_simp
  · intro ev wv hE hw hd
    refine ifw rfl (ifw rfl ?_)
    have v17 : ev (.tmp 17) = .pointer (some ⟨gW, 0, none⟩) := hd 2 (by decide)
    refine ⟨.pointer (some ⟨gW, 0, none⟩), fun w => ?_, rfl⟩
    have e1 := hE.const; have e2 := hE.func; clear hE hd hw
    go_simp
  · intro ev wv hE hw hd
    refine ifw rfl (ifw rfl ?_)
    have v18 : ev (.tmp 18) = .pointer (some ⟨gW, 0, none⟩) := hd 3 (by decide)
    refine ⟨.pointer (some ⟨gW, 56, none⟩), fun w => ?_, rfl⟩
    have e1 := hE.const; have e2 := hE.func; clear hE hd hw
    go_simp
  · intro ev wv hE hw hd
    refine ifw rfl (ifn rfl ?_)
    have v19 : ev (.tmp 19) = .pointer (some ⟨gW, 56, none⟩) := hd 4 (by decide)
    have kx := (Below.cell hw hgW).trans c56
    refine rel_val (u := .int .i64 ((k : Int) + 1)) (w' := wv) ?_ (Below.refl _ _) ⟨rfl, fun h => by cases h⟩
    have e1 := hE.const; clear hE hd hw
    go_simp
  · intro ev wv hE hw hd
    refine ifw rfl (ifw rfl ?_)
    have v20 : ev (.tmp 20) = .int .i64 ((k : Int) + 1) := hd 5 (by decide)
    refine ⟨.int .i64 (k : Int), fun w => ?_, rfl⟩
    have e1 := hE.const; have e2 := hE.func; clear hE hd hw
    have hwr : IntKind.i64.wrap (k : Int) = (k : Int) := IntWalk.i64_in _ (by omega)
    go_simp
  · intro ev wv hE hw hd
    refine ifw rfl (ifw rfl ?_)
    have v16 : ev (.tmp 16) = .pointer (some ⟨gW, 0, none⟩) := hd 1 (by decide)
    refine ⟨.pointer (some ⟨gW, 0, none⟩), fun w => ?_, rfl⟩
    have e1 := hE.const; have e2 := hE.func; clear hE hd hw
    go_simp
  · intro ev wv hE hw hd
    refine ifw rfl (ifw rfl ?_)
    have v22 : ev (.tmp 22) = .pointer (some ⟨gW, 0, none⟩) := hd 7 (by decide)
    refine ⟨.pointer (some ⟨gW, 0, none⟩), fun w => ?_, rfl⟩
    have e1 := hE.const; have e2 := hE.func; clear hE hd hw
    go_simp
  · intro ev wv hE hw hd
    refine ifw rfl (ifw rfl ?_)
    have v23 : ev (.tmp 23) = .pointer (some ⟨gW, 0, none⟩) := hd 8 (by decide)
    have v21 : ev (.tmp 21) = .int .i64 (k : Int) := hd 6 (by decide)
    refine ⟨.pointer (some ⟨gW, k * 2, none⟩), fun w => ?_, rfl⟩
    have e1 := hE.const; have e2 := hE.func; clear hE hd hw
    go_simp
  · intro ev wv hE hw hd
    refine ifw rfl (ifn rfl ?_)
    have v24 : ev (.tmp 24) = .pointer (some ⟨gW, k * 2, none⟩) := hd 9 (by decide)
    have kx := (Below.cell hw hgW).trans y0
    have ky := (Below.cell hw hgW).trans y1
    refine rel_val (u := .agg #[.int .i64 (p : Int), .int .i64 s]) (w' := wv) ?_ (Below.refl _ _) ⟨rfl, fun h => by cases h⟩
    have e1 := hE.const; clear hE hd hw
    go_simp
  · intro ev wv hE hw hd
    refine ifw rfl (ifn rfl ?_)
    have v15 : ev (.tmp 15) = .pointer (some ⟨g, 0, none⟩) := hd 0 (by decide)
    have v25 : ev (.tmp 25) = .agg #[.int .i64 (p : Int), .int .i64 s] := hd 10 (by decide)
    refine rel_call (f := 40) (args := #[.pointer (some ⟨g, 0, none⟩), .agg #[.int .i64 (p : Int), .int .i64 s]]) ?_ (HSD.out _ hw) ?_
    · have e0 := hE.func; have e1 := hE.const; clear hE hd hw
      go_simp
    · rintro e w' ⟨rfl, hb⟩
      exact ⟨_, rfl, hb, rfl, fun h => by cases h⟩
  · intro ev wv hE hw hd
    refine ifw rfl (ifw rfl ?_)
    have v2 : ev (.tmp 2) = .int .i64 z := hE.tmp 2 rfl
    refine ⟨.int .i64 z, fun w => ?_, rfl⟩
    have e1 := hE.const; have e2 := hE.func; clear hE hd hw
    go_simp
  · intro ev wv hE hw hd
    refine ifw rfl (ifw rfl ?_)
    have v26 : ev (.tmp 26) = .pointer (some ⟨gK, o, none⟩) := hd 11 (by decide)
    refine ⟨.pointer (some ⟨gK, o, none⟩), fun w => ?_, rfl⟩
    have e1 := hE.const; have e2 := hE.func; clear hE hd hw
    go_simp
  · intro w1 hw
    intro v0 h0 _ v1 h1 _ v2 h2 _ v3 h3 _ v4 h4 _ v5 h5 _ v6 h6 _ v7 h7 _ v8 h8 _ v9 h9 _ v10 h10 _ v11 h11 _ v12 h12 _ v13 h13 _
    simp only [Act.put, List.setIfInBounds_toArray, List.set_cons_zero, List.set_cons_succ, List.drop_succ_cons, List.drop_zero]
    obtain rfl : v0 = _ := h0
    obtain rfl : v1 = _ := h1
    obtain rfl : v2 = _ := h2
    obtain rfl : v3 = _ := h3
    obtain rfl : v4 = _ := h4
    obtain rfl : v5 = _ := h5
    obtain rfl : v6 = _ := h6
    obtain rfl : v7 = _ := h7
    obtain rfl : v8 = _ := h8
    obtain rfl : v9 = _ := h9
    obtain rfl : v10 = _ := h10
    obtain rfl : v11 = _ := h11
    obtain rfl : v12 = _ := h12
    obtain rfl : v13 = _ := h13
    change wpList Try.prog _ _ _ _ w1
    have HB1 := Lib.hid hw
    have ce := HCE.out w1 HB1.out
    have fe := HFZ.out w1 HB1.out
    clear hw c56 y0 y1
    go_wp2_with fail
    refine calm_normal ?_
    go_wp2_with fail
    go_end0
    exact ⟨rfl, HST.out w1 HB1.out, (Off.of HB1.out).put ⟨gK, o, none⟩ (.inl (.inr rfl)) _⟩
end Go.Proofs.Ytolmkagedlcjiaa
