/- The law RefineDiffers. (Written by wip/gen/genrfd.py.) -/
import Derived.Test.YtonfjjmgjgmanaaGreatRfKnown
import Derived.Test.YtonfjjmgjgmanaaGreatRowRel
namespace Corr
set_option maxRecDepth 8000
open Go Go.RowKit
set_option linter.unusedVariables false
/-- There is a covering list. -/
theorem covG_ex {α : Type} [DecidableEq α] (f : Int → α) (a : Int) : ∀ n : Nat, ∃ out, covG f a (a + (n : Int)) out
  | 0 => ⟨[], by show a = a + ((0 : Nat) : Int); omega⟩
  | n + 1 => by
    obtain ⟨out, h⟩ := covG_ex f a n
    have hv : ∀ d, a + (n : Int) ≤ d → d < a + ((n + 1 : Nat) : Int) → f d = f (a + (n : Int)) := fun d h1 h2 => by
      have : d = a + (n : Int) := by omega
      rw [this]
    rcases snoc_cases out with rfl | ⟨r, ⟨x, m, v⟩, rfl⟩
    · exact ⟨_, covG_snoc (by omega) hv h (fun _ h => by cases h)⟩
    · obtain ⟨h1, _⟩ := covG_last h (x, m, v) (by simp)
      have h1 : m = a + (n : Int) := h1
      subst h1
      by_cases e : f (a + (n : Int)) = v
      · exact ⟨_, covG_ext (by omega) (fun d h1 h2 => (hv d h1 h2).trans e) h⟩
      · exact ⟨_, covG_snoc (by omega) hv h (fun s hs => by rw [last_snoc hs]; exact e)⟩
theorem dif_ex (f g : Int → Int) (a b : Int) : ∃ out, difS f g a b out := by
  unfold difS
  by_cases hm : mayB a b = true
  · obtain ⟨h1, h2, h3⟩ := mayB_iff.1 hm
    obtain ⟨out, h⟩ := covG_ex (fun d => decide (f d ≠ g d)) a (b - a).toNat
    rw [show a + (((b - a).toNat : Nat) : Int) = b by omega] at h
    exact ⟨_, by rw [if_pos hm]; exact ⟨out, h, rfl⟩⟩
  · exact ⟨[], by rw [if_neg hm]⟩
theorem difS_len {f g : Int → Int} {a b : Int} {out : SpL} (h : difS f g a b out) : out.length ≤ 3652060 := by
  unfold difS at h
  split at h
  · rename_i hm
    obtain ⟨bs, hc, rfl⟩ := h
    have h1 := covG_le hc
    have h2 := mayB_iff.1 hm
    have h3 : (difL bs).length ≤ bs.length := by unfold difL; rw [List.length_map]; exact List.length_filter_le _ _
    omega
  · rw [h]; simp
/-- Two rows of calls. -/
theorem sls_two {w : World} {k n m c d : Nat} {A B : Option Addr} {l r : ItL} (H : Blk w k #[.slice A n c, .slice B m d]) (R : Itm w A n c l) (S : Itm w B m d r) : SlsR w (some ⟨k, 0, none⟩) 2 2 [l, r] :=
  ⟨[.slice A n c, .slice B m d], ⟨rfl, Nat.le_refl _, fun _ => ⟨k, 0, rfl, H.sz, fun i v hi => by simpa using H.get i (v := v) hi⟩⟩, rfl, fun i v x h1 h2 => by
    match i, h1, h2 with
    | 0, h1, h2 =>
      have e1 := Option.some.inj h1; have e2 := Option.some.inj h2
      subst e1 e2
      exact ⟨_, _, _, rfl, R⟩
    | 1, h1, h2 =>
      have e1 := Option.some.inj h1; have e2 := Option.some.inj h2
      subst e1 e2
      exact ⟨_, _, _, rfl, S⟩
    | i + 2, h1, h2 => simp at h1⟩
end Corr
namespace Go.Proofs.YtonfjjmgjgmanaaGreat
set_option maxRecDepth 8000
open Go.RowKit Corr
set_option linter.unusedVariables false
set_option linter.unusedSimpArgs false
theorem sep_ddiffer {w0 w : World} {ts : List Thing} {g h i j : Nat} {l m : ItL} (S : Sep w0 ts w) (hi : ts[i]? = some (dT g l)) (hj : ts[j]? = some (dT h m)) (hl : l.length ≤ 300) (hm : m.length ≤ 300) (a b : Int) : Calls Tryz.prog 9 #[.pointer (some ⟨g, 0, none⟩), .pointer (some ⟨h, 0, none⟩), .agg #[.int .i64 a, .int .i64 b]] w (RetDif 24 w (atL l) (atL m) a b) := by
  obtain ⟨F, ⟨A, n, c, hp, _⟩, _⟩ := S.get hi
  obtain ⟨G, ⟨B, k, d, hq, _⟩, _⟩ := S.get hj
  exact differ_any g h n c k d A B l m a b w hp.r hq.r (by rw [← hp.len]; omega) (by rw [← hq.len]; omega)
theorem sep_differ {Rep : RepL} {w0 w : World} {ts : List Thing} {p q : Value} {N M i j : Nat} {f g : Int → Int} (K : RfK Rep) (S : Sep w0 ts w) (hi : ts[i]? = some (tlT K.toTlOk p N f)) (hj : ts[j]? = some (tlT K.toTlOk q M g)) (hN : N ≤ 300) (hM : M ≤ 300) (a b : Int) : Calls Tryz.prog 8 #[p, q, .agg #[.int .i64 a, .int .i64 b]] w (RetDif 24 w f g a b) := by
  obtain ⟨F, hp, _⟩ := S.get hi
  obtain ⟨G, hq, _⟩ := S.get hj
  exact K.differ w p q F G N M f g a b hp hq hN hM
theorem sep_moved {Rep : RepL} {w0 w : World} {ts : List Thing} {p : Value} {N i : Nat} {f : Int → Int} (K : RfK Rep) (S : Sep w0 ts w) (hi : ts[i]? = some (tlT K.toTlOk p N f)) (hN : N ≤ 149) (k : Int) (h1 : -9223372036854775808 ≤ k) (h2 : k ≤ 9223372036854775807) : Calls Tryz.prog 10 #[p, .int .i64 k] w fun e w' => ∃ q : Addr, e = .returned (.pointer (some q)) ∧ Sep w0 (ts ++ [tlT K.toTlOk (.pointer (some q)) (2 * N + 1) (mvF f k)]) w' := by
  obtain ⟨F, hp, _⟩ := S.get hi
  refine (K.moved w p F N f k hp hN h1 h2).mono fun e w' hq => ?_
  obtain ⟨q, F', he, hr, hb, hF⟩ := hq
  exact ⟨q, he, S.add hb (t := tlT K.toTlOk (.pointer (some q)) (2 * N + 1) (mvF f k)) hr hF⟩
theorem sep_dmoved {w0 w : World} {ts : List Thing} {g i : Nat} {l : ItL} (S : Sep w0 ts w) (hi : ts[i]? = some (dT g l)) (hg : goodL l) (hl : l.length ≤ 300) (k : Int) (hk : -3652060 ≤ k ∧ k ≤ 3652060) : Calls Tryz.prog 11 #[.pointer (some ⟨g, 0, none⟩), .int .i64 k] w fun e w' => ∃ h : Nat, e = .returned (.pointer (some ⟨h, 0, none⟩)) ∧ Sep w0 (ts ++ [dT h (movedL k l)]) w' := by
  obtain ⟨F, ⟨A, n, c, hp, _⟩, _⟩ := S.get hi
  refine (moved_any g n c A l k w hp.r hg hk (by rw [← hp.len]; omega)).mono fun e w' hq => ?_
  obtain ⟨h, A', n', c', he, h1, h2, h3, h4⟩ := hq
  exact ⟨h, he, S.add h3 (t := dT h (movedL k l)) (F := fun j => j = h ∨ rowK A' n' c' j) ⟨A', n', c', h2, fun _ => Iff.rfl⟩ fun j hj => by
    rcases hj with hj | hj
    · omega
    · exact h4 j hj⟩
theorem movedL_len (k : Int) (l : ItL) : (movedL k l).length ≤ l.length := by
  have key : ∀ (l o : ItL), (l.foldl (fun o y => putT o (mvIt k y)) o).length ≤ o.length + l.length := by
    intro l
    induction l with
    | nil => intro o; simp
    | cons y r ih =>
      intro o
      have h1 := ih (putT o (mvIt k y))
      have h2 : (putT o (mvIt k y)).length ≤ o.length + 1 := by unfold putT; split <;> simp
      simp only [List.foldl_cons, List.length_cons]
      omega
  have := key l []
  unfold movedL
  simpa using this
theorem rfdiffers_long {Rep : RepL} (K : RfK Rep) (A B : Option Addr) (n m c d : Nat) (l r : ItL) (a b k : Int) (w : World) (Rl : Itm w A n c l) (Rr : Itm w B m d r) (hg : grB [l, r] = true) : Calls Tryz.prog 3 #[.slice A n c, .slice B m d, .agg #[.int .i64 a, .int .i64 b], .int .i64 k] w fun e w' => e = .returned (.bool true) ∧ Below w.heap.size w w' := by
  have HK := Lib.hid K
  have hs := ((Sep.nil w).push #[.int .i64 a, .int .i64 b] 24).push #[.slice A n c, .slice B m d] 22
  simp only [size_alloc] at hs
  have HS := Lib.hid hs
  have HG := great_any (some ⟨w.heap.size + 1, 0, none⟩) 2 2 [l, r] _ (sls_two (hs.b 1 rfl) (Rl.keep hs.bl) (Rr.keep hs.bl)) (by decide)
  rw [hg] at HG
  have HGG := Lib.hid HG
  clear K Rl Rr hg hs HG
  go_enter Tryz.func3, Tryz.ntmps3
  go_wp2_with fail
  refine HGG.out.mono ?_
  rintro e w1 ⟨rfl, b1⟩
  have HS1 := Lib.hid (HS.out.keep b1)
  clear b1 HS HGG
  go_wp2_with fail
  refine (rfknown_any HK.out _).mono ?_
  rintro e w2 ⟨rfl, b2⟩
  have HB := Lib.hid (HS1.out.keep b2).bl
  clear b2
  go_wp2_with fail
  go_ret
  exact ⟨rfl, HB.out⟩
set_option maxHeartbeats 16000000 in
theorem rfdiffers_main {Rep : RepL} (K : RfK Rep) (A B : Option Addr) (n m c d : Nat) (l r : ItL) (a b k : Int) (w : World) (Rl : Itm w A n c l) (Rr : Itm w B m d r) (hk1 : -9223372036854775808 ≤ k) (hk2 : k ≤ 9223372036854775807) (hg : grB [l, r] = false) : Calls Tryz.prog 3 #[.slice A n c, .slice B m d, .agg #[.int .i64 a, .int .i64 b], .int .i64 k] w fun e w' => e = .returned (.bool true) ∧ Below w.heap.size w w' := by
  have HK := Lib.hid K
  have HRl := Lib.hid Rl
  have HRr := Lib.hid Rr
  have hs := ((Sep.nil w).push #[.int .i64 a, .int .i64 b] 24).push #[.slice A n c, .slice B m d] 22
  simp only [size_alloc] at hs
  have HS := Lib.hid hs
  have HG := great_any (some ⟨w.heap.size + 1, 0, none⟩) 2 2 [l, r] _ (sls_two (hs.b 1 rfl) (Rl.keep hs.bl) (Rr.keep hs.bl)) (by decide)
  rw [hg] at HG
  have HGG := Lib.hid HG
  have HLL := Lib.hid (show l.length ≤ 30 ∧ r.length ≤ 30 from by
    unfold grB at hg
    simp at hg
    omega)
  have HNN := Lib.hid (show n ≤ 30 ∧ m ≤ 30 from by have h1 := Itm.count Rl; have h2 := Itm.count Rr; have h3 := HLL.out; omega)
  have HKB := Lib.hid (And.intro hk1 hk2)
  clear K Rl Rr hg hs HG hk1 hk2
  go_enter Tryz.func3, Tryz.ntmps3
  go_wp2_with fail
  refine HGG.out.mono ?_
  rintro e w1 ⟨rfl, b1⟩
  have HS1 := Lib.hid (HS.out.keep b1)
  clear b1 HS HGG
  go_wp2_with fail
  refine (made12_any HK.out.toTlK0 HS1.out A n c l (fun us wx h => HRl.out.keep h.bl) (by have := HNN.out; omega)).mono ?_
  rintro e w2 ⟨qa, ga, rfl, s2⟩
  have HS2 := Lib.hid s2
  clear s2 HS1
  go_wp2_with fail
  refine (made12_any HK.out.toTlK0 HS2.out B m d r (fun us wx h => HRr.out.keep h.bl) (by have := HNN.out; omega)).mono ?_
  rintro e w3 ⟨qb, gb, rfl, s3⟩
  have HS3 := Lib.hid (show Sep w [blkT w.heap.size #[.int .i64 a, .int .i64 b], blkT (w.heap.size + 1) #[.slice A n c, .slice B m d], tlT HK.out.toTlOk (.pointer (some qa)) n (atL (putAll l)), dT ga (putAll l), tlT HK.out.toTlOk (.pointer (some qb)) m (atL (putAll r)), dT gb (putAll r)] w3 from s3)
  clear s3 HS2
  have HPL := Lib.hid (show (putAll l).length ≤ 30 ∧ (putAll r).length ≤ 30 from by have h1 := putAll_length l; have h2 := putAll_length r; have h3 := HLL.out; omega)
  have HGD := Lib.hid (goodL_putAll l)
  generalize putAll l = pl at *
  generalize putAll r = pr at *
  obtain ⟨out, hout⟩ := dif_ex (atL pl) (atL pr) a b
  have HOUT := Lib.hid hout
  have HOL := Lib.hid (difS_len hout)
  clear hout
  have x0 := (HS3.out.b 0 rfl).get 0 rfl
  have x1 := (HS3.out.b 0 rfl).get 1 rfl
  have xl := (HS3.out.b 0 rfl).sz
  go_upto_region 5 with fail
  refine wp_region_rel 10 (Ext w3)
    (fun i => List.getD [VE (.pointer (some qa)), VE (.pointer (some qb)), VE (.agg #[.int .i64 a, .int .i64 b]), VSl 2 (cells2 out), VE (.pointer (some ⟨ga, 0, none⟩)), VE (.pointer (some ⟨gb, 0, none⟩)), VE (.agg #[.int .i64 a, .int .i64 b]), VSl 2 (cells2 out), VE (.bool true), VE (.bool false)] i (fun _ _ => False)) [] [0, 1, 4, 5, 9] (by kernel_rfl) (by kernel_rfl) (Ext.start w3) (fun _ _ h hb => h.grow hb)
    (stays_all (stays_cons (stays_VE _) (stays_cons (stays_VE _) (stays_cons (stays_VE _) (stays_cons (stays_VSl _ _) (stays_cons (stays_VE _) (stays_cons (stays_VE _) (stays_cons (stays_VE _) (stays_cons (stays_VSl _ _) (stays_cons (stays_VE _) (stays_cons (stays_VE _) stays_nil))))))))))) ⟨?_, ?_, ?_, ?_, ?_, ?_, ?_, ?_, ?_, ?_, trivial⟩ ?_
  · intro ev wv hE hw hd
    refine ifw rfl (ifw rfl ?_)
    have v9 : ev (.tmp 9) = .pointer (some qa) := hE.tmp 9 rfl
    refine ⟨.pointer (some qa), fun w => ?_, rfl⟩
    have e1 := hE.const; have e2 := hE.func; clear hE hd hw
    go_simp
  · intro ev wv hE hw hd
    refine ifw rfl (ifw rfl ?_)
    have v11 : ev (.tmp 11) = .pointer (some qb) := hE.tmp 11 rfl
    refine ⟨.pointer (some qb), fun w => ?_, rfl⟩
    have e1 := hE.const; have e2 := hE.func; clear hE hd hw
    go_simp
  · intro ev wv hE hw hd
    refine ifw rfl (ifn rfl ?_)
    have v6 : ev (.tmp 6) = .pointer (some ⟨w.heap.size, 0, none⟩) := hE.tmp 6 rfl
    have kx := (Below.cell (p := ⟨w.heap.size, 0, none⟩) hw xl).trans x0
    have ky := (Below.cell (p := ⟨w.heap.size, 1, none⟩) hw xl).trans x1
    refine rel_val (u := .agg #[.int .i64 a, .int .i64 b]) (w' := wv) ?_ (Below.refl _ _) ⟨rfl, fun h => by cases h⟩
    have e1 := hE.const; clear hE hd hw
    go_simp
  · intro ev wv hE hw hd
    refine ifw rfl (ifn rfl ?_)
    have v33 : ev (.tmp 33) = .pointer (some qa) := hd 0 (by decide)
    have v34 : ev (.tmp 34) = .pointer (some qb) := hd 1 (by decide)
    have v35 : ev (.tmp 35) = .agg #[.int .i64 a, .int .i64 b] := hd 2 (by decide)
    refine rel_call (f := 8) (args := #[.pointer (some qa), .pointer (some qb), .agg #[.int .i64 a, .int .i64 b]]) ?_ (sep_differ HK.out (HS3.out.keep hw) (i := 2) (j := 4) rfl rfl (by have := HNN.out; omega) (by have := HNN.out; omega) a b) ?_
    · have e0 := hE.func; have e1 := hE.const; clear hE hd hw
      go_simp
    · rintro e w' ⟨o', A', n', c', rfl, hd', R, hb⟩
      exact ⟨_, rfl, hb, ⟨A', n', c', rfl, by rw [difS_one HOUT.out hd']; exact own_lies R⟩, fun h => by cases h⟩
  · intro ev wv hE hw hd
    refine ifw rfl (ifw rfl ?_)
    have v10 : ev (.tmp 10) = .pointer (some ⟨ga, 0, none⟩) := hE.tmp 10 rfl
    refine ⟨.pointer (some ⟨ga, 0, none⟩), fun w => ?_, rfl⟩
    have e1 := hE.const; have e2 := hE.func; clear hE hd hw
    go_simp
  · intro ev wv hE hw hd
    refine ifw rfl (ifw rfl ?_)
    have v12 : ev (.tmp 12) = .pointer (some ⟨gb, 0, none⟩) := hE.tmp 12 rfl
    refine ⟨.pointer (some ⟨gb, 0, none⟩), fun w => ?_, rfl⟩
    have e1 := hE.const; have e2 := hE.func; clear hE hd hw
    go_simp
  · intro ev wv hE hw hd
    refine ifw rfl (ifn rfl ?_)
    have v6 : ev (.tmp 6) = .pointer (some ⟨w.heap.size, 0, none⟩) := hE.tmp 6 rfl
    have kx := (Below.cell (p := ⟨w.heap.size, 0, none⟩) hw xl).trans x0
    have ky := (Below.cell (p := ⟨w.heap.size, 1, none⟩) hw xl).trans x1
    refine rel_val (u := .agg #[.int .i64 a, .int .i64 b]) (w' := wv) ?_ (Below.refl _ _) ⟨rfl, fun h => by cases h⟩
    have e1 := hE.const; clear hE hd hw
    go_simp
  · intro ev wv hE hw hd
    refine ifw rfl (ifn rfl ?_)
    have v37 : ev (.tmp 37) = .pointer (some ⟨ga, 0, none⟩) := hd 4 (by decide)
    have v38 : ev (.tmp 38) = .pointer (some ⟨gb, 0, none⟩) := hd 5 (by decide)
    have v39 : ev (.tmp 39) = .agg #[.int .i64 a, .int .i64 b] := hd 6 (by decide)
    refine rel_call (f := 9) (args := #[.pointer (some ⟨ga, 0, none⟩), .pointer (some ⟨gb, 0, none⟩), .agg #[.int .i64 a, .int .i64 b]]) ?_ (sep_ddiffer (HS3.out.keep hw) (i := 3) (j := 5) rfl rfl (by have := HPL.out; omega) (by have := HPL.out; omega) a b) ?_
    · have e0 := hE.func; have e1 := hE.const; clear hE hd hw
      go_simp
    · rintro e w' ⟨o', A', n', c', rfl, hd', R, hb⟩
      exact ⟨_, rfl, hb, ⟨A', n', c', rfl, by rw [difS_one HOUT.out hd']; exact own_lies R⟩, fun h => by cases h⟩
  · intro ev wv hE hw hd
    refine ifw rfl (ifn rfl ?_)
    obtain ⟨xA3, xk3, xc3, v36, xR3⟩ : VSl 2 (cells2 out) (ev (.tmp 36)) wv := hd 3 (by decide)
    obtain ⟨xA7, xk7, xc7, v40, xR7⟩ : VSl 2 (cells2 out) (ev (.tmp 40)) wv := hd 7 (by decide)
    refine rel_call (f := 7) (args := #[.slice xA3 xk3 xc3, .slice xA7 xk7 xc7]) ?_ (spans12_yes (show Spn _ _ _ _ out from xR3) (show Spn _ _ _ _ out from xR7) (by have := HOL.out; omega)) ?_
    · have e0 := hE.func; have e1 := hE.const; clear hE hd hw
      go_simp
    · rintro e w' ⟨rfl, hb⟩
      exact ⟨_, rfl, hb, rfl, fun h => by cases h⟩
  · intro ev wv hE hw hd
    refine ifw rfl (ifw rfl ?_)
    have v41 : ev (.tmp 41) = .bool true := hd 8 (by decide)
    refine ⟨.bool false, fun w => ?_, rfl⟩
    have e1 := hE.const; have e2 := hE.func; clear hE hd hw
    go_simp
  · intro wz hw
    intro v0 h0 _ v1 h1 _ v2 h2 _ v3 h3 _ v4 h4 _ v5 h5 _ v6 h6 _ v7 h7 _ v8 h8 _ v9 h9 _
    simp only [Act.put, List.setIfInBounds_toArray, List.set_cons_zero, List.set_cons_succ, List.drop_succ_cons, List.drop_zero]
    obtain rfl : v0 = _ := h0
    obtain rfl : v1 = _ := h1
    obtain rfl : v2 = _ := h2
    obtain ⟨xA3, xk3, xc3, rfl, xR3⟩ : VSl 2 (cells2 out) v3 wz := h3
    obtain rfl : v4 = _ := h4
    obtain rfl : v5 = _ := h5
    obtain rfl : v6 = _ := h6
    obtain ⟨xA7, xk7, xc7, rfl, xR7⟩ : VSl 2 (cells2 out) v7 wz := h7
    obtain rfl : v8 = _ := h8
    obtain rfl : v9 = _ := h9
    change wpList Tryz.prog _ _ _ _ wz
    have HS4 := Lib.hid (HS3.out.keep hw)
    clear x0 x1 xl hw HS3
    go_wp2_with fail
    refine calm_normal ?_
    go_wp2_with fail
    refine (sep_moved HK.out HS4.out (i := 2) rfl (by have := HNN.out; omega) k HKB.out.1 HKB.out.2).mono ?_
    rintro e w5 ⟨q, rfl, s5⟩
    have HS5 := Lib.hid s5
    clear s5 HS4
    have HS6 := Lib.hid (HS5.out.addDoc 46 38)
    obtain ⟨gd, hgd⟩ : ∃ gd, w5.heap.size = gd := ⟨_, rfl⟩
    rw [hgd] at HS6
    by_cases hin : -3652060 ≤ k ∧ k ≤ 3652060
    · have e1 : decide (k ≥ -3652060) = true := decide_eq_true hin.1
      have e2 : decide (k ≤ 3652060) = true := decide_eq_true hin.2
      have HIN := Lib.hid hin
      clear hin
      go_wp2_with fail
      try rw [hgd]
      refine (sep_dmoved HS6.out (i := 3) rfl HGD.out (by have := HPL.out; omega) k HIN.out).mono ?_
      rintro e w7 ⟨gm, rfl, s7⟩
      have HT := Lib.hid s7
      clear s7 HS5 HS6
      go_wp2_with fail
      refine (all11_any _).mono ?_
      rintro e u1 ⟨rfl, c1⟩
      have HT1 := Lib.hid (HT.out.keep c1)
      clear c1 HT
      go_wp2_with fail
      refine (sep0_tsegs HK.out.toTlK0 HT1.out (i := 6) rfl (by have := HNN.out; omega) 1 3652060).mono ?_
      rintro e u2 ⟨o1, A1, n1, c1, rfl, g1, r1, q1⟩
      have HT2 := Lib.hid (HT1.out.keep q1)
      have HR1 := Lib.hid (show Itm u2 A1 n1 c1 o1 from own_lies r1)
      clear q1 r1 HT1
      go_wp2_with fail
      refine (all11_any _).mono ?_
      rintro e u3 ⟨rfl, q3⟩
      have HT3 := Lib.hid (HT2.out.keep q3)
      have HR3 := Lib.hid (HR1.out.keep q3)
      clear q3 HT2 HR1
      go_wp2_with fail
      refine (sep_dsegs HT3.out (i := 8) (g := gm) (l := movedL k pl) rfl (by have h1 := movedL_len k pl; have h2 := HPL.out; omega) 1 3652060).mono ?_
      rintro e u4 ⟨o2, A2, n2, c2, rfl, g2, r2, q4⟩
      have HT4 := Lib.hid (HT3.out.keep q4)
      have HR4 := Lib.hid (HR3.out.keep q4)
      rw [moved_F HGD.out] at g2
      obtain rfl := segF_one g1 g2
      have HR5 := Lib.hid (show Itm u4 A2 n2 c2 o1 from own_lies r2)
      have HN1 := Lib.hid (segF_len g1)
      have hn1 := Itm.count HR4.out
      have hn2 := Itm.count HR5.out
      obtain rfl : n1 = n2 := hn1.symm.trans hn2
      have hn4 : n1 ≤ 3652060 := by have := HN1.out; omega
      clear q4 r2 g1 g2 HT3 HR3 hn1 hn2
      go_wp2_with fail
      go_loopw [70] (fun u wr => ∃ i : Nat, u = .int .i64 (i : Int) ∧ i ≤ n1 ∧ Hid (Below u4.heap.size u4 wr)) (fun u _ => (n1 - intOf u).toNat)
      case atStart => exact ⟨0, rfl, by omega, Lib.hid (Below.refl _ _)⟩
      case round =>
        obtain ⟨i, rfl, hi, HX⟩ := hrel
        by_cases hlt : i < n1
        · obtain ⟨g5, off, s, rfl, hs, hg, c0, c1, c2⟩ := Itm.get (HR4.out.keep HX.out) hlt
          obtain ⟨g6, off2, t, rfl, ht, hg2, d0, d1, d2⟩ := Itm.get (HR5.out.keep HX.out) hlt
          rw [hs] at ht
          obtain rfl := Option.some.inj ht
          obtain ⟨s1, s2, s3⟩ := s
          have j0 : decide ((i : Int) < 0) = false := decide_eq_false (by omega)
          have j1 : (0 : Int) ≤ (i : Int) := by omega
          have j2 : (i : Int) < (n1 : Int) := by omega
          have j3 : ((i : Int)).toNat = i := by omega
          clear hs ht
          go_upto_region 17 with fail
          go_quiet (fail)
          go_wp2_with fail
          go_roundw
          case rel => exact ⟨i + 1, by go_num, by omega, Lib.hid (HX.out.trans ((Joins.below_draws _ _ _).mono HX.out.size))⟩
          case measure => simp [intOf]; omega
        · have HT5 := Lib.hid (HT4.out.keep HX.out)
          go_wp2_with fail
          refine (rfknown_any HK.out _).mono ?_
          rintro e u6 ⟨rfl, q6⟩
          have HB := Lib.hid (HT5.out.keep q6).bl
          clear q6
          go_wp2_with fail
          go_ret
          exact ⟨rfl, HB.out⟩
    · have HFAR := Lib.hid (mvF_far (atL_off HGD.out) hin)
      have HIN := Lib.hid hin
      have HT := HS6
      clear hin HS5
      by_cases hk3 : -3652060 ≤ k
      · have e1 : decide (k ≥ -3652060) = true := decide_eq_true hk3
        have e2 : decide (k ≤ 3652060) = false := decide_eq_false (by have := HIN.out; omega)
        clear hk3
        go_wp2_with fail
        try rw [hgd]
        refine (all11_any _).mono ?_
        rintro e u1 ⟨rfl, c1⟩
        have HT1 := Lib.hid (HT.out.keep c1)
        clear c1 HT
        go_wp2_with fail
        refine (sep0_tsegs HK.out.toTlK0 HT1.out (i := 6) rfl (by have := HNN.out; omega) 1 3652060).mono ?_
        rintro e u2 ⟨o1, A1, n1, c1, rfl, g1, r1, q1⟩
        have HT2 := Lib.hid (HT1.out.keep q1)
        have HR1 := Lib.hid (show Itm u2 A1 n1 c1 o1 from own_lies r1)
        clear q1 r1 HT1
        go_wp2_with fail
        refine (all11_any _).mono ?_
        rintro e u3 ⟨rfl, q3⟩
        have HT3 := Lib.hid (HT2.out.keep q3)
        have HR3 := Lib.hid (HR1.out.keep q3)
        clear q3 HT2 HR1
        go_wp2_with fail
        refine (sep_dsegs HT3.out (i := 7) (g := gd) (l := []) rfl (by decide) 1 3652060).mono ?_
        rintro e u4 ⟨o2, A2, n2, c2, rfl, g2, r2, q4⟩
        have HT4 := Lib.hid (HT3.out.keep q4)
        have HR4 := Lib.hid (HR3.out.keep q4)
        rw [show atL [] = mvF (atL pl) k from HFAR.out.symm] at g2
        obtain rfl := segF_one g1 g2
        have HR5 := Lib.hid (show Itm u4 A2 n2 c2 o1 from own_lies r2)
        have HN1 := Lib.hid (segF_len g1)
        have hn1 := Itm.count HR4.out
        have hn2 := Itm.count HR5.out
        obtain rfl : n1 = n2 := hn1.symm.trans hn2
        have hn4 : n1 ≤ 3652060 := by have := HN1.out; omega
        clear q4 r2 g1 g2 HT3 HR3 hn1 hn2
        go_wp2_with fail
        go_loopw [70] (fun u wr => ∃ i : Nat, u = .int .i64 (i : Int) ∧ i ≤ n1 ∧ Hid (Below u4.heap.size u4 wr)) (fun u _ => (n1 - intOf u).toNat)
        case atStart => exact ⟨0, rfl, by omega, Lib.hid (Below.refl _ _)⟩
        case round =>
          obtain ⟨i, rfl, hi, HX⟩ := hrel
          by_cases hlt : i < n1
          · obtain ⟨g5, off, s, rfl, hs, hg, c0, c1, c2⟩ := Itm.get (HR4.out.keep HX.out) hlt
            obtain ⟨g6, off2, t, rfl, ht, hg2, d0, d1, d2⟩ := Itm.get (HR5.out.keep HX.out) hlt
            rw [hs] at ht
            obtain rfl := Option.some.inj ht
            obtain ⟨s1, s2, s3⟩ := s
            have j0 : decide ((i : Int) < 0) = false := decide_eq_false (by omega)
            have j1 : (0 : Int) ≤ (i : Int) := by omega
            have j2 : (i : Int) < (n1 : Int) := by omega
            have j3 : ((i : Int)).toNat = i := by omega
            clear hs ht
            go_upto_region 17 with fail
            go_quiet (fail)
            go_wp2_with fail
            go_roundw
            case rel => exact ⟨i + 1, by go_num, by omega, Lib.hid (HX.out.trans ((Joins.below_draws _ _ _).mono HX.out.size))⟩
            case measure => simp [intOf]; omega
          · have HT5 := Lib.hid (HT4.out.keep HX.out)
            go_wp2_with fail
            refine (rfknown_any HK.out _).mono ?_
            rintro e u6 ⟨rfl, q6⟩
            have HB := Lib.hid (HT5.out.keep q6).bl
            clear q6
            go_wp2_with fail
            go_ret
            exact ⟨rfl, HB.out⟩
      · have e1 : decide (k ≥ -3652060) = false := decide_eq_false hk3
        clear hk3
        go_wp2_with fail
        try rw [hgd]
        refine (all11_any _).mono ?_
        rintro e u1 ⟨rfl, c1⟩
        have HT1 := Lib.hid (HT.out.keep c1)
        clear c1 HT
        go_wp2_with fail
        refine (sep0_tsegs HK.out.toTlK0 HT1.out (i := 6) rfl (by have := HNN.out; omega) 1 3652060).mono ?_
        rintro e u2 ⟨o1, A1, n1, c1, rfl, g1, r1, q1⟩
        have HT2 := Lib.hid (HT1.out.keep q1)
        have HR1 := Lib.hid (show Itm u2 A1 n1 c1 o1 from own_lies r1)
        clear q1 r1 HT1
        go_wp2_with fail
        refine (all11_any _).mono ?_
        rintro e u3 ⟨rfl, q3⟩
        have HT3 := Lib.hid (HT2.out.keep q3)
        have HR3 := Lib.hid (HR1.out.keep q3)
        clear q3 HT2 HR1
        go_wp2_with fail
        refine (sep_dsegs HT3.out (i := 7) (g := gd) (l := []) rfl (by decide) 1 3652060).mono ?_
        rintro e u4 ⟨o2, A2, n2, c2, rfl, g2, r2, q4⟩
        have HT4 := Lib.hid (HT3.out.keep q4)
        have HR4 := Lib.hid (HR3.out.keep q4)
        rw [show atL [] = mvF (atL pl) k from HFAR.out.symm] at g2
        obtain rfl := segF_one g1 g2
        have HR5 := Lib.hid (show Itm u4 A2 n2 c2 o1 from own_lies r2)
        have HN1 := Lib.hid (segF_len g1)
        have hn1 := Itm.count HR4.out
        have hn2 := Itm.count HR5.out
        obtain rfl : n1 = n2 := hn1.symm.trans hn2
        have hn4 : n1 ≤ 3652060 := by have := HN1.out; omega
        clear q4 r2 g1 g2 HT3 HR3 hn1 hn2
        go_wp2_with fail
        go_loopw [70] (fun u wr => ∃ i : Nat, u = .int .i64 (i : Int) ∧ i ≤ n1 ∧ Hid (Below u4.heap.size u4 wr)) (fun u _ => (n1 - intOf u).toNat)
        case atStart => exact ⟨0, rfl, by omega, Lib.hid (Below.refl _ _)⟩
        case round =>
          obtain ⟨i, rfl, hi, HX⟩ := hrel
          by_cases hlt : i < n1
          · obtain ⟨g5, off, s, rfl, hs, hg, c0, c1, c2⟩ := Itm.get (HR4.out.keep HX.out) hlt
            obtain ⟨g6, off2, t, rfl, ht, hg2, d0, d1, d2⟩ := Itm.get (HR5.out.keep HX.out) hlt
            rw [hs] at ht
            obtain rfl := Option.some.inj ht
            obtain ⟨s1, s2, s3⟩ := s
            have j0 : decide ((i : Int) < 0) = false := decide_eq_false (by omega)
            have j1 : (0 : Int) ≤ (i : Int) := by omega
            have j2 : (i : Int) < (n1 : Int) := by omega
            have j3 : ((i : Int)).toNat = i := by omega
            clear hs ht
            go_upto_region 17 with fail
            go_quiet (fail)
            go_wp2_with fail
            go_roundw
            case rel => exact ⟨i + 1, by go_num, by omega, Lib.hid (HX.out.trans ((Joins.below_draws _ _ _).mono HX.out.size))⟩
            case measure => simp [intOf]; omega
          · have HT5 := Lib.hid (HT4.out.keep HX.out)
            go_wp2_with fail
            refine (rfknown_any HK.out _).mono ?_
            rintro e u6 ⟨rfl, q6⟩
            have HB := Lib.hid (HT5.out.keep q6).bl
            clear q6
            go_wp2_with fail
            go_ret
            exact ⟨rfl, HB.out⟩
theorem rfdiffers_any {Rep : RepL} (K : RfK Rep) (A B : Option Addr) (n m c d : Nat) (l r : ItL) (a b k : Int) (w : World) (Rl : Itm w A n c l) (Rr : Itm w B m d r) (hk1 : -9223372036854775808 ≤ k) (hk2 : k ≤ 9223372036854775807) : Calls Tryz.prog 3 #[.slice A n c, .slice B m d, .agg #[.int .i64 a, .int .i64 b], .int .i64 k] w fun e w' => e = .returned (.bool true) ∧ Below w.heap.size w w' := by
  cases hg : grB [l, r] with
  | true => exact rfdiffers_long K A B n m c d l r a b k w Rl Rr hg
  | false => exact rfdiffers_main K A B n m c d l r a b k w Rl Rr hk1 hk2 hg
end Go.Proofs.YtonfjjmgjgmanaaGreat
