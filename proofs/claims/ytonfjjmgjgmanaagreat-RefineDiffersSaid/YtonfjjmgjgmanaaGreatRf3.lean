/- Contract of corrodyref12: Parts. (Written by wip/gen/genrf3.py.) -/
import Derived.Test.YtonfjjmgjgmanaaGreatRf1
import Derived.Test.YtonfjjmgjgmanaaGreatTl4
import Derived.Test.YtonfjjmgjgmanaaGreatRfCov
import Derived.Test.YtonfjjmgjgmanaaGreatRowRel
import Derived.Test.YtonfjjmgjgmanaaGreatRelVal
import Derived.Deep.RegionWith
namespace Corr
set_option maxRecDepth 8000
open Go Go.RowKit
set_option linter.unusedVariables false
/-- Some of the document's timelines, by their addresses. -/
structure TlsR (w : World) (A : Option Addr) (n c : Nat) (gs : List Nat) (ls : List ItL) : Prop where
  li : Lies w 1 A n c (gs.map fun g => Value.pointer (some ⟨g, 0, none⟩))
  len : gs.length = ls.length
  each : ∀ (i g : Nat) (l : ItL), gs[i]? = some g → ls[i]? = some l → ∃ A n c, RTl w g A n c l ∧ n ≤ 100000
theorem TlsR.num {w : World} {A : Option Addr} {n c : Nat} {gs : List Nat} {ls : List ItL} (h : TlsR w A n c gs ls) : gs.length = n := by have := h.li.len; simpa using this
theorem TlsR.keep {w w' : World} {A : Option Addr} {n c : Nat} {gs : List Nat} {ls : List ItL} (h : TlsR w A n c gs ls) (hb : Below w.heap.size w w') : TlsR w' A n c gs ls :=
  ⟨h.li.keep hb, h.len, fun i g l h1 h2 => by obtain ⟨A, n, c, h3, h4⟩ := h.each i g l h1 h2; exact ⟨A, n, c, h3.keep hb, h4⟩⟩
theorem TlsR.get {w : World} {A : Option Addr} {n c : Nat} {gs : List Nat} {ls : List ItL} (h : TlsR w A n c gs ls) {k : Nat} (hk : k < n) : ∃ gl off g l, A = some ⟨gl, off, none⟩ ∧ gl < w.heap.size ∧ w.cell? ⟨gl, off + k, none⟩ = some (.pointer (some ⟨g, 0, none⟩)) ∧ gs[k]? = some g ∧ ls[k]? = some l ∧ ∃ A n c, RTl w g A n c l ∧ n ≤ 100000 := by
  obtain ⟨gl, off, hA, hg, hc⟩ := h.li.at_ (by omega)
  have hl := h.num
  have hs : gs[k]? = some (gs[k]'(by omega)) := List.getElem?_eq_getElem (by omega)
  have hs2 : ls[k]? = some (ls[k]'(by rw [← h.len]; omega)) := List.getElem?_eq_getElem (by rw [← h.len]; omega)
  exact ⟨gl, off, _, _, hA, hg, hc k _ (by rw [List.getElem?_map, hs]; rfl), hs, hs2, h.each _ _ _ hs hs2⟩
def VSg (l : ItL) (a b : Int) (H : Nat) (v : Value) (w : World) : Prop := ∃ out A n c, v = .slice A n c ∧ segsP l a b out ∧ Itm w A n c out ∧ ∀ k, (Value.slice A n c).ownBlock = some k → H ≤ k
theorem stays_VSg (l : ItL) (a b : Int) (H : Nat) : stays (VSg l a b H) := fun _ _ _ h hb => by
  obtain ⟨out, A, n, c, h1, h2, h3, h4⟩ := h; exact ⟨out, A, n, c, h1, h2, h3.keep hb, h4⟩
/-- Parts as they lie: each with its values in a row of its own. -/
abbrev PtQ := Int × Int × Value
def cellsP : List PtQ → List Value
  | [] => []
  | q :: r => .int .i64 q.1 :: .int .i64 q.2.1 :: q.2.2 :: cellsP r
theorem cellsP_len : ∀ l : List PtQ, (cellsP l).length = l.length * 3
  | [] => rfl
  | q :: r => by simp only [cellsP, List.length_cons, cellsP_len r]; omega
theorem cellsP_append (a b : List PtQ) : cellsP (a ++ b) = cellsP a ++ cellsP b := by
  induction a with
  | nil => rfl
  | cons s r ih => simp [cellsP, ih]
abbrev PtL := List (Int × Int × List Int)
structure PtIn (w : World) (q : PtQ) (p : Int × Int × List Int) : Prop where
  f : q.1 = p.1
  t : q.2.1 = p.2.1
  v : ∃ A n c, q.2.2 = .slice A n c ∧ Nums w A n c p.2.2
theorem PtIn.off {w w' : World} {G : Nat → Prop} {q : PtQ} {p : Int × Int × List Int} (h : PtIn w q p) (ho : Off G w w') (hg : ∀ k, q.2.2.ownBlock = some k → ¬ G k) : PtIn w' q p := by
  obtain ⟨h1, h2, A, n, c, h3, h4⟩ := h
  refine ⟨h1, h2, A, n, c, h3, ho.lies h4 fun _ ad e => hg ad.block ?_⟩
  rw [h3, e]; rfl
structure PtsIn (w : World) (qs : List PtQ) (ps : PtL) : Prop where
  len : qs.length = ps.length
  each : ∀ (i : Nat) (q : PtQ) (p : Int × Int × List Int), qs[i]? = some q → ps[i]? = some p → PtIn w q p
theorem PtsIn.off {w w' : World} {G : Nat → Prop} {qs : List PtQ} {ps : PtL} (h : PtsIn w qs ps) (ho : Off G w w') (hg : ∀ q ∈ qs, ∀ k, q.2.2.ownBlock = some k → ¬ G k) : PtsIn w' qs ps :=
  ⟨h.len, fun i q p h1 h2 => (h.each i q p h1 h2).off ho (hg q (List.mem_of_getElem? h1))⟩
theorem PtsIn.snoc {w : World} {qs : List PtQ} {ps : PtL} (h : PtsIn w qs ps) {q : PtQ} {p : Int × Int × List Int} (hp : PtIn w q p) : PtsIn w (qs ++ [q]) (ps ++ [p]) := by
  refine ⟨by rw [List.length_append, List.length_append, h.len]; rfl, fun i q' p' h1 h2 => ?_⟩
  by_cases hi : i < qs.length
  · rw [List.getElem?_append_left hi] at h1
    rw [List.getElem?_append_left (by rw [← h.len]; exact hi)] at h2
    exact h.each i q' p' h1 h2
  · have hi2 : i = qs.length := by
      have := (List.getElem?_eq_some_iff.1 h1).1
      simp at this; omega
    rw [hi2, List.getElem?_append_right (Nat.le_refl _), Nat.sub_self] at h1
    rw [hi2, h.len, List.getElem?_append_right (Nat.le_refl _), Nat.sub_self] at h2
    have e1 : q' = q := by simpa using h1.symm
    have e2 : p' = p := by simpa using h2.symm
    rw [e1, e2]; exact hp
/-- In the midst of 'p.V = append(p.V, v)'. -/
def PvD (B : Nat) (T : TypeId) (AV : Option Addr) (j cV : Nat) (xs : List Int) (v : Int) (wr : World) (b12 b13 : Bool) (v12 v13 : Value) (wx : World) : Prop :=
  Off (fun k => (Value.slice AV j cV).ownBlock = some k) wr wx ∧ (b13 = false → wx.ownsRow B T 1 (.slice AV j cV) j (ints xs)) ∧
  (b12 = true → ∃ kb, v12 = .slice (some ⟨kb, 0, none⟩) 1 1 ∧ Blk wx kb #[.int .i64 v] ∧ wr.heap.size ≤ kb) ∧
  (b13 = true → ∃ A' c', v13 = .slice A' (j + 1) c' ∧ wx.ownsRow B T 1 (.slice A' (j + 1) c') (j + 1) (ints (xs ++ [v])) ∧ ∀ k, (Value.slice A' (j + 1) c').ownBlock = some k → (Value.slice AV j cV).ownBlock = some k ∨ wr.heap.size ≤ k)
def RetParts (T : TypeId) (w : World) (ls : List ItL) (a b : Int) (e : Ending) (w' : World) : Prop := ∃ qs ps A n c, e = .returned (.slice A n c) ∧ partsS ls a b ps ∧ w'.ownsRow w.heap.size T 3 (.slice A n c) n (cellsP qs) ∧ PtsIn w' qs ps ∧ Below w.heap.size w w'
theorem endsAll_snoc : ∀ (s : List ItL) (x : ItL), endsAll (s ++ [x]) = endsAll s ++ starts x
  | [], x => by simp [endsAll]
  | y :: r, x => by simp [endsAll, endsAll_snoc r x]
theorem starts_at {s : ItL} {k : Nat} {y : It} (h : s[k + 1]? = some y) : (starts s)[k]? = some y.1 := by
  unfold starts
  rw [List.getElem?_map, List.getElem?_tail, h]; rfl
theorem segs_le {l : ItL} {a b : Int} {out : ItL} (h : segsP l a b out) : out.length ≤ 3652060 := by
  unfold segsP at h
  split at h
  · rename_i hm
    have h1 := covP_le h
    have h2 := mayB_iff.1 hm
    omega
  · rw [h]; simp
end Corr
namespace Go.Proofs.YtonfjjmgjgmanaaGreat
set_option maxRecDepth 8000
open Go.RowKit Corr
set_option linter.unusedVariables false
set_option linter.unusedSimpArgs false
theorem elem_int12 : Elem Tryz.prog 54 3 (.int .i64 0) 1 8 := by
  obtain ⟨i, h0, h1, h2, h3⟩ := info_parts (show (Tryz.prog.info? 3).map (fun i => (i.zero, i.size, i.bytes)) = some (some (.int .i64 0), 1, 8) by kernel_rfl)
  exact ⟨Tryz.underlying54, ⟨i, h0, h1, h2, h3⟩, rfl, by decide⟩
theorem segs_v (g n c : Nat) (A : Option Addr) (l : ItL) (a b : Int) (w : World) (T : RTl w g A n c l) (hn : n ≤ 100000) : Calls Tryz.prog 14 #[.pointer (some ⟨g, 0, none⟩), .agg #[.int .i64 a, .int .i64 b]] w fun e w' => ∃ out A n c, e = .returned (.slice A n c) ∧ segsP l a b out ∧ Itm w' A n c out ∧ (∀ k, (Value.slice A n c).ownBlock = some k → w.heap.size ≤ k) ∧ Below w.heap.size w w' := by
  refine (segs_any g n c A l a b w T hn).mono ?_
  rintro e w' ⟨out, A, n, c, h1, h2, h3, h4⟩
  exact ⟨out, A, n, c, h1, h2, own_lies h3, own_ge h3, h4⟩
theorem elem_part : Elem Tryz.prog 57 56 (.agg #[.int .i64 0, .int .i64 0, .slice none 0 0]) 3 40 := by
  obtain ⟨i, h0, h1, h2, h3⟩ := info_parts (show (Tryz.prog.info? 56).map (fun i => (i.zero, i.size, i.bytes)) = some (some (.agg #[.int .i64 0, .int .i64 0, .slice none 0 0]), 3, 40) by kernel_rfl)
  exact ⟨Tryz.underlying57, ⟨i, h0, h1, h2, h3⟩, rfl, by decide⟩
set_option maxHeartbeats 8000000 in
theorem parts_any (E : Option Addr) (N c : Nat) (gs : List Nat) (ls : List ItL) (a b : Int) (w : World) (T : TlsR w E N c gs ls) (hN : N ≤ 100) : Calls Tryz.prog 22 #[.agg #[.int .i64 a, .int .i64 b], .slice E N c] w (RetParts 56 w ls a b) := by
  have HT := Lib.hid T
  have HX := Lib.hid (Blk.new w #[.int .i64 a, .int .i64 b] 24)
  have HB0 := Lib.hid (show Ext w _ from (Below.refl w.heap.size w).alloc (Nat.le_refl _) (.cells #[.int .i64 a, .int .i64 b] 24))
  clear T
  go_enter Tryz.func22, Tryz.ntmps22
  go_upto_region 3 with fail
  obtain ⟨hx, hhx⟩ : ∃ k, w.heap.size = k := ⟨_, rfl⟩
  have HHX := Lib.hid hhx
  rw [hhx] at HX ⊢
  clear hhx
  generalize w.alloc (.cells #[.int .i64 a, .int .i64 b] 24) = wq at *
  go_loopg [5, 6] N (fun kk v z wr => ∃ (ti nE cE : Nat) (AE : Option Addr) (sgs : List ItL), v = .slice AE nE cE ∧ z = .int .i64 (ti : Int) ∧ ti ≤ N ∧ wr.ownsRow (hx + 1) 3 1 (.slice AE nE cE) nE (ints (endsAll sgs)) ∧ nE ≤ ti * 3652060 ∧ Hid (kk = N - ti) ∧ Hid (sgs.length = ti) ∧ Hid (∀ (j : Nat) (l s : ItL), ls[j]? = some l → sgs[j]? = some s → segsP l a b s) ∧ Hid (Blk wr hx #[.int .i64 a, .int .i64 b]) ∧ Hid (Below w.heap.size w wr))
  case atStart => exact ⟨0, 0, 0, none, [], rfl, rfl, by omega, World.ownsRow_nil _ _ _ _, by omega, Lib.hid rfl, Lib.hid rfl, Lib.hid (fun j l s _ h => by simp at h), HX, Lib.hid HB0.out⟩
  case round =>
    clear HX HB0
    obtain ⟨ti, nE, cE, AE, sgs, rfl, rfl, hi, hown, hnE, HK, HSL, HSG, HX, HB⟩ := hrel
    have HO := Lib.hid hown
    have HOB := Lib.hid (own_ge hown)
    clear hown
    by_cases hlt : ti < N
    · obtain ⟨gl, off, g, lI, rfl, hgl, cg, hgs, hls, AT, nT, cT, HTI, hnT⟩ := TlsR.get (HT.out.keep HB.out) hlt
      have HLS := Lib.hid hls
      have HTI := Lib.hid HTI
      have i0 : decide ((ti : Int) < (N : Int)) = true := decide_eq_true (by omega)
      have i1 : (0 : Int) ≤ (ti : Int) := by omega
      have i2 : (ti : Int) < (N : Int) := by omega
      have i3 : ((ti : Int)).toNat = ti := by omega
      have i4 : decide ((ti : Int) < 0) = false := decide_eq_false (by omega)
      have x0 := HX.out.get 0 rfl
      have x1 := HX.out.get 1 rfl
      have hxl := HX.out.sz
      clear hgs hls
      go_upto_region 5 with fail
      refine wp_region_rel 6 (Ext wr)
        (fun i => List.getD [VE (.slice (some ⟨gl, off, none⟩) N c), VE (.int .i64 (ti : Int)), VE (.pointer (some ⟨gl, off + ti, none⟩)), VE (.pointer (some ⟨g, 0, none⟩)), VE (.agg #[.int .i64 a, .int .i64 b]), VSg lI a b wr.heap.size] i (fun _ _ => False)) [] [0, 1, 2] (by kernel_rfl) (by kernel_rfl) (Ext.start wr) (fun _ _ h hb => h.grow hb)
        (stays_all (stays_cons (stays_VE _) (stays_cons (stays_VE _) (stays_cons (stays_VE _) (stays_cons (stays_VE _) (stays_cons (stays_VE _) (stays_cons (stays_VSg _ _ _ _) stays_nil))))))) ⟨?_, ?_, ?_, ?_, ?_, ?_, trivial⟩ ?_
      · intro ev wv hE hw hd
        refine ifw rfl (ifw rfl ?_)
        have v1 : ev (.tmp 1) = .slice (some ⟨gl, off, none⟩) N c := hE.tmp 1 rfl
        refine ⟨.slice (some ⟨gl, off, none⟩) N c, fun w => ?_, rfl⟩
        have e1 := hE.const; have e2 := hE.func; clear hE hd hw
        go_simp
      · intro ev wv hE hw hd
        refine ifw rfl (ifw rfl ?_)
        have v6 : ev (.tmp 6) = .int .i64 (ti : Int) := hE.tmp 6 rfl
        refine ⟨.int .i64 (ti : Int), fun w => ?_, rfl⟩
        have e1 := hE.const; have e2 := hE.func; clear hE hd hw
        go_simp
      · intro ev wv hE hw hd
        refine ifw rfl (ifw rfl ?_)
        have v20 : ev (.tmp 20) = .slice (some ⟨gl, off, none⟩) N c := hd 0 (by decide)
        have v21 : ev (.tmp 21) = .int .i64 (ti : Int) := hd 1 (by decide)
        refine ⟨.pointer (some ⟨gl, off + ti, none⟩), fun w => ?_, rfl⟩
        have e1 := hE.const; have e2 := hE.func; clear hE hd hw
        go_simp
      · intro ev wv hE hw hd
        refine ifw rfl (ifn rfl ?_)
        have v22 : ev (.tmp 22) = .pointer (some ⟨gl, off + ti, none⟩) := hd 2 (by decide)
        have kx := (Below.cell hw hgl).trans cg
        refine rel_val (u := .pointer (some ⟨g, 0, none⟩)) (w' := wv) ?_ (Below.refl _ _) ⟨rfl, fun h => by cases h⟩
        have e1 := hE.const; clear hE hd hw
        go_simp
      · intro ev wv hE hw hd
        refine ifw rfl (ifn rfl ?_)
        have v2 : ev (.tmp 2) = .pointer (some ⟨hx, 0, none⟩) := hE.tmp 2 rfl
        have kx := (Below.cell hw hxl).trans x0
        have ky := (Below.cell hw hxl).trans x1
        refine rel_val (u := .agg #[.int .i64 a, .int .i64 b]) (w' := wv) ?_ (Below.refl _ _) ⟨rfl, fun h => by cases h⟩
        have e1 := hE.const; clear hE hd hw
        go_simp
      · intro ev wv hE hw hd
        refine ifw rfl (ifn rfl ?_)
        have v23 : ev (.tmp 23) = .pointer (some ⟨g, 0, none⟩) := hd 3 (by decide)
        have v24 : ev (.tmp 24) = .agg #[.int .i64 a, .int .i64 b] := hd 4 (by decide)
        refine rel_call (f := 14) (args := #[.pointer (some ⟨g, 0, none⟩), .agg #[.int .i64 a, .int .i64 b]]) ?_ (segs_v g nT cT AT lI a b _ (HTI.out.keep hw) hnT) ?_
        · have e0 := hE.func; have e1 := hE.const; clear hE hd hw
          go_simp
        · rintro e w' ⟨out, A, n, c, rfl, h1, h2, h3, hb⟩
          exact ⟨_, rfl, hb, ⟨out, A, n, c, rfl, h1, h2, fun k hk => Nat.le_trans (Below.size hw) (h3 k hk)⟩, fun h => by cases h⟩
      · intro wz hw
        intro v0 h0 _ v1 h1 _ v2 h2 _ v3 h3 _ v4 h4 _ v5 h5 _
        simp only [Act.put, List.setIfInBounds_toArray, List.set_cons_zero, List.set_cons_succ, List.drop_succ_cons, List.drop_zero]
        obtain rfl : v0 = _ := h0
        obtain rfl : v1 = _ := h1
        obtain rfl : v2 = _ := h2
        obtain rfl : v3 = _ := h3
        obtain rfl : v4 = _ := h4
        obtain ⟨xo5, xA5, xk5, xc5, rfl, xp5, xR5, xL5⟩ : VSg lI a b wr.heap.size v5 wz := h5
        change wpList Tryz.prog _ _ _ _ wz
        have HSG1 := Lib.hid xp5
        have HIT := Lib.hid xR5
        have HB1 := Lib.hid (Below.trans HB.out (Below.mono hw HB.out.size))
        have HO1 := Lib.hid (own_keep HO.out hw)
        have HX1 := Lib.hid (HX.out.keep hw)
        have hls5 := segs_le HSG1.out
        have hcn := Itm.count xR5
        have HXL := Lib.hid xL5
        clear hw xp5 xR5 xL5 cg x0 x1 hgl hxl
        go_wp2_with fail
        refine calm_normal ?_
        go_upto_region 7 with fail
        go_loopg [5, 8] xk5 (fun k2 v z w2 => ∃ (kk n2 c2 : Nat) (A2 : Option Addr), v = .slice A2 n2 c2 ∧ z = .int .i64 ((kk : Int) + 1) ∧ kk ≤ xk5 ∧ n2 ≤ nE + kk ∧ w2.ownsRow (hx + 1) 3 1 (.slice A2 n2 c2) n2 (ints (endsAll sgs ++ (starts xo5).take kk)) ∧ Hid (k2 = xk5 - kk) ∧ Hid (Itm w2 xA5 xk5 xc5 xo5) ∧ Hid (∀ k, (Value.slice A2 n2 c2).ownBlock = some k → ¬ (Value.slice xA5 xk5 xc5).ownBlock = some k) ∧ Hid (Blk w2 hx #[.int .i64 a, .int .i64 b]) ∧ Hid (Below w.heap.size w w2))
        case atStart => exact ⟨0, nE, cE, AE, rfl, rfl, by omega, by omega, by rw [List.take_zero, List.append_nil]; exact HO1.out, Lib.hid rfl, HIT, Lib.hid (fun k hk e => by have h1 := own_lt HO.out hk; have h2 := HXL.out k e; omega), HX1, HB1⟩
        case round =>
          clear HIT HO1 HX1 HB1
          obtain ⟨kk, n2, c2, A2, rfl, rfl, hkk, hn2, hown2, HK2, HIT, HDX, HX2, HB2⟩ := hrel
          have HO2 := Lib.hid hown2
          have HOB2 := Lib.hid (own_ge hown2)
          clear hown2
          by_cases hl2 : kk + 1 < xk5
          · obtain ⟨gx, ox, y, rfl, hy, hgx, d0, d1, d2⟩ := Itm.get HIT.out hl2
            have HST := Lib.hid (starts_at hy)
            obtain ⟨y1, y2, y3⟩ := y
            simp only [] at d0
            have e0 : decide ((kk : Int) + 1 < (xk5 : Int)) = true := decide_eq_true (by omega)
            have e1 : (0 : Int) ≤ (kk : Int) + 1 := by omega
            have e2 : (kk : Int) + 1 < (xk5 : Int) := by omega
            have e3 : ((kk : Int) + 1).toNat = kk + 1 := by omega
            have e4 : decide ((kk : Int) + 1 < 0) = false := decide_eq_false (by omega)
            have hsz2 := HB2.out.size
            have hxs := HX2.out.sz
            have hwx := HHX.out
            clear hy d1 d2
            go_wp2_with (at_builtin; refine wpList_app2 rfl _ _ 54 rfl (ints [y1]) elem_int12 rfl (HO2.out.alloc (.cells (ints [y1]).toArray 3)) rfl rfl (new_cells wr (ints [y1]) 3) (ints_one _) (by omega) (by unfold maxLen; omega) (by simp; omega) ?_)
            intro v4 w4 hown4 hg4 hat4
            have HB4 := Lib.hid ((HB2.out.alloc hsz2 (.cells (ints [y1]).toArray 3)).grown hg4 (by simp; omega) (fun k hk => by have := HOB2.out k hk; omega))
            have hoff4 := (Off.of (F := fun k => (Value.slice A2 n2 c2).ownBlock = some k) ((Below.refl _ wr).alloc (Nat.le_refl _) (.cells (ints [y1]).toArray 3))).trans (Off.grown (v := .slice A2 n2 c2) hg4)
            have HX4 := Lib.hid (hoff4.blk HX2.out (fun e => by have := HOB2.out hx e; omega))
            have HIT4 := Lib.hid (hoff4.lies HIT.out (fun _ ad e => by injection e with e; rw [← e]; exact fun e' => HDX.out gx e' rfl))
            obtain ⟨A4, d4, rfl, _⟩ := Lies.of_own hown4 (by have := hown4.1; exact this)
            have HDX4 := Lib.hid (show ∀ k, (Value.slice A4 (n2 + 1) d4).ownBlock = some k → ¬ (Value.slice (some ⟨gx, ox, none⟩) xk5 xc5).ownBlock = some k from fun k hk e => by
              rcases hat4 k hk with h | h
              · exact HDX.out k h e
              · have e : gx = k := by simpa [Value.ownBlock] using e
                first | omega | (simp at h; omega) | (rw [size_alloc] at h; omega))
            have HO4 := Lib.hid hown4
            clear hown4 hg4 hat4 hoff4 d0 hgx hxs
            go_wp2_with fail
            go_roundg (xk5 - (kk + 1))
            case measure => rw [HK2.out]; omega
            case rel => exact ⟨kk + 1, n2 + 1, d4, A4, rfl, val_int (by omega), by omega, by omega, by rw [List.take_add_one, HST.out, ← List.append_assoc, ints_append]; exact HO4.out, Lib.hid rfl, HIT4, HDX4, HX4, HB4⟩
          · have e0 : decide ((kk : Int) + 1 < (xk5 : Int)) = false := decide_eq_false (by omega)
            have HFU := Lib.hid (show (starts xo5).take kk = starts xo5 from List.take_of_length_le (by unfold starts; rw [List.length_map, List.length_tail, Itm.count HIT.out]; omega))
            have hk5 : xk5 ≤ 3652060 := by have h1 := Itm.count HIT.out; omega
            go_wp2_with fail
            go_roundg (N - (ti + 1))
            case measure => rw [HK.out]; omega
            case rel => exact ⟨ti + 1, n2, c2, A2, sgs ++ [xo5], rfl, val_int (by omega), by omega, by rw [endsAll_snoc, ← HFU.out]; exact HO2.out, by omega, Lib.hid rfl, Lib.hid (by rw [List.length_append, HSL.out]; rfl), Lib.hid (fun j l s h1 h2 => by
              by_cases hj : j < sgs.length
              · rw [List.getElem?_append_left hj] at h2; exact HSG.out j l s h1 h2
              · have hj2 : j = ti := by
                  have := (List.getElem?_eq_some_iff.1 h2).1
                  rw [List.length_append, HSL.out] at this
                  have h3 := HSL.out
                  simp at this; omega
                rw [hj2] at h1 h2
                rw [List.getElem?_append_right (by rw [HSL.out]; omega), HSL.out, Nat.sub_self] at h2
                have e1 : l = lI := by rw [HLS.out] at h1; exact (Option.some.inj h1).symm
                have e2 : s = xo5 := by simpa using h2.symm
                rw [e1, e2]; exact HSG1.out), HX2, HB2⟩
    · have i0 : decide ((ti : Int) < (N : Int)) = false := decide_eq_false (by omega)
      have hiN : ti = N := by omega
      have HEN := Lib.hid (show nE ≤ 1000000000 by omega)
      have HSL2 := Lib.hid (show ls.length = sgs.length by rw [HSL.out, hiN, ← HT.out.len, HT.out.num])
      have x0 := HX.out.get 0 rfl
      have x1 := HX.out.get 1 rfl
      go_wp2_with fail
      refine (cut_any AE nE cE (endsAll sgs) a b wr (own_lies HO.out) HEN.out).mono ?_
      rintro e w3 ⟨pcs, AP, nP, cP, rfl, hcut, hownP, hb3⟩
      have HPS := Lib.hid (partsS_of HSL2.out HSG.out hcut)
      have hnp0 : pcs.length ≤ 4000000 := by
        unfold cutS at hcut
        split at hcut
        · rename_i hm
          have h1 := cutP_len hcut
          have h2 := mayB_iff.1 hm
          omega
        · rw [hcut]; simp
      have HSP := Lib.hid (own_lies hownP)
      have HPB := Lib.hid (own_ge hownP)
      have HB3 := Lib.hid (HB.out.trans (hb3.mono HB.out.size))
      have HPN := Lib.hid (show pcs.length = nP by have := hownP.1; rw [cells2_len] at this; omega)
      have hs3 := hb3.size
      have hnp : nP ≤ 4000000 := by have := HPN.out; omega
      clear hnp0 hcut hownP hb3 x0 x1
      go_upto_region 13 with fail
      obtain ⟨B3, hB3⟩ : ∃ k, w3.heap.size = k := ⟨_, rfl⟩
      have HB3E := Lib.hid hB3
      rw [hB3] at hs3
      clear hB3
      go_loopg [9, 11] nP (fun k3 v z w4 => ∃ (k cO : Nat) (AO : Option Addr) (qs : List PtQ), v = .slice AO k cO ∧ z = .int .i64 (k : Int) ∧ k ≤ nP ∧ w4.ownsRow B3 56 3 (.slice AO k cO) k (cellsP qs) ∧ Hid (k3 = nP - k) ∧ Hid (PtsIn w4 qs ((pcs.take k).map fun s => (s.1, s.2, ls.map (atL · s.1)))) ∧ Hid (∀ q ∈ qs, ∀ j, q.2.2.ownBlock = some j → j < w4.heap.size ∧ ¬ (Value.slice AO k cO).ownBlock = some j) ∧ Hid (Below B3 w3 w4))
      case atStart => exact ⟨0, 0, none, [], rfl, rfl, by omega, World.ownsRow_nil _ _ _ _, Lib.hid rfl, Lib.hid ⟨rfl, fun i q p h => by simp at h⟩, Lib.hid (fun q hq => by cases hq), Lib.hid (Below.refl _ _)⟩
      case round =>
        clear HX HB HO HOB HK
        obtain ⟨k, cO, AO, qs, rfl, rfl, hk, hown, HK, HPT, HQ, HB4⟩ := hrel
        have HO := Lib.hid hown
        have HOB := Lib.hid (own_ge hown)
        have HQL := Lib.hid (show qs.length = k by have := hown.1; rw [cellsP_len] at this; omega)
        clear hown
        have HSP4 := Lib.hid (HSP.out.keep (by rw [HB3E.out]; exact HB4.out))
        by_cases hlt2 : k < nP
        · obtain ⟨gP, oP, s0, rfl, hs0, hgP, c0, c1⟩ := Spn.get HSP4.out hlt2
          have HS0 := Lib.hid hs0
          obtain ⟨f0, t0⟩ := s0
          simp only [] at c0 c1
          have e0 : decide ((k : Int) < (nP : Int)) = true := decide_eq_true (by omega)
          have e1 : (0 : Int) ≤ (k : Int) := by omega
          have e2 : (k : Int) < (nP : Int) := by omega
          have e3 : ((k : Int)).toNat = k := by omega
          have e4 : decide ((k : Int) < 0) = false := decide_eq_false (by omega)
          clear hs0
          go_upto_region 15 with fail
          go_region
          obtain ⟨w4, hw4⟩ : ∃ v, v = wr := ⟨_, rfl⟩
          subst wr
          obtain ⟨hp, hhp⟩ : ∃ k, w4.heap.size = k := ⟨_, rfl⟩
          have HHP := Lib.hid hhp
          have HP0 := Lib.hid (Blk.drew (Blk.new w4 #[.int .i64 f0, .int .i64 t0, .slice none 0 0] 56))
          have HBP := Lib.hid (show Below hp w4 _ from (((Below.refl w4.heap.size w4).alloc (Nat.le_refl _) (.cells #[.int .i64 f0, .int .i64 t0, .slice none 0 0] 56)).drew).mono (Nat.le_of_eq hhp.symm))
          rw [hhp] at HP0 ⊢
          have HW4 := Lib.hid (show Below w.heap.size w w4 from HB3.out.trans (HB4.out.mono (by rw [← HB3E.out]; exact HB3.out.size)))
          have HWP := Lib.hid (show w.heap.size ≤ hp by rw [← hhp]; exact HW4.out.size)
          clear hhp c0 c1
          generalize (w4.alloc (.cells #[.int .i64 f0, .int .i64 t0, .slice none 0 0] 56)).drew = wp at *
          go_upto_region 17 with fail
          go_loopg [13] N (fun k4 z w5 => ∃ (j cV : Nat) (AV : Option Addr), z = .int .i64 (j : Int) ∧ j ≤ N ∧ w5.ownsRow (hp + 1) 3 1 (.slice AV j cV) j (ints ((ls.take j).map (atL · f0))) ∧ Hid (k4 = N - j) ∧ Hid (Blk w5 hp #[.int .i64 f0, .int .i64 t0, .slice AV j cV]) ∧ Hid (Below hp w4 w5))
          case atStart => exact ⟨0, 0, none, rfl, by omega, World.ownsRow_nil _ _ _ _, Lib.hid rfl, HP0, HBP⟩
          case round =>
            clear HP0 HBP
            obtain ⟨j, cV, AV, rfl, hj, hown, HK4, HP5, HB5⟩ := hrel
            have HOV := Lib.hid hown
            have HOVB := Lib.hid (own_ge hown)
            have HOVL := Lib.hid (fun q (hq : (Value.slice AV j cV).ownBlock = some q) => own_lt hown hq)
            have HW5 := Lib.hid (show Below w.heap.size w wr from HW4.out.trans (HB5.out.mono HWP.out))
            clear hown
            by_cases hlt3 : j < N
            · obtain ⟨gl, off, g, lJ, rfl, hgl, cg, hgs, hls, AT, nT, cT, HTI, hnT⟩ := TlsR.get HT.out hlt3
              obtain ⟨gP', oP', s1, hA1, hs1, hgP2, c0, c1⟩ := Spn.get HSP4.out hlt2
              obtain ⟨rfl, rfl⟩ : gP = gP' ∧ oP = oP' := by injection hA1 with hA1; injection hA1 with h1 h2 _; exact ⟨h1, h2⟩
              have hs2 : s1 = (f0, t0) := by rw [HS0.out] at hs1; exact (Option.some.inj hs1).symm
              subst hs2
              simp only [] at c0
              have HLS := Lib.hid hls
              have HTI := Lib.hid HTI
              have HCG := Lib.hid cg
              have HC0 := Lib.hid c0
              have d0 : decide ((j : Int) < (N : Int)) = true := decide_eq_true (by omega)
              have d1 : (0 : Int) ≤ (j : Int) := by omega
              have d2 : (j : Int) < (N : Int) := by omega
              have d3 : ((j : Int)).toNat = j := by omega
              have d4 : decide ((j : Int) < 0) = false := decide_eq_false (by omega)
              have hgpp : gP < hp := by rw [← HHP.out]; exact hgP2
              clear hgs hls hs1 hA1 cg c0 c1
              go_upto_region 19 with fail
              refine wp_region_val 15 (fun S val wx => VVs 15 [(fun vv => vv = .pointer (some ⟨hp, 2, none⟩)), (fun vv => vv = .slice AV j cV), (fun vv => vv = .slice (some ⟨gl, off, none⟩) N c), (fun vv => vv = .int .i64 (j : Int)), (fun vv => vv = .pointer (some ⟨gl, off + j, none⟩)), (fun vv => vv = .pointer (some ⟨g, 0, none⟩)), (fun vv => vv = .slice (some ⟨gP, oP, none⟩) nP cP), (fun vv => vv = .int .i64 (k : Int)), (fun vv => vv = .pointer (some ⟨gP, oP + k * 2, none⟩)), (fun vv => vv = .pointer (some ⟨gP, oP + k * 2, none⟩)), (fun vv => vv = .int .i64 f0), (fun vv => vv = .int .i64 (atL lJ f0)), (fun vv => ∃ kb, vv = .slice (some ⟨kb, 0, none⟩) 1 1), (fun vv => ∃ Av cv, vv = .slice Av (j + 1) cv), (fun vv => vv = .pointer (some ⟨hp, 2, none⟩))] S val ∧ Clo [[], [0], [], [], [2, 3], [4], [], [], [6, 7], [8], [9], [5, 10], [11], [1, 12], []] S ∧ PvD (hp + 1) 3 AV j cV ((ls.take j).map (atL · f0)) (atL lJ f0) wr (S 12) (S 13) (val 12) (val 13) wx) [0, 2, 3, 4, 6, 7, 8, 9, 14] (by kernel_rfl) (by kernel_rfl) ⟨VVs.start, Clo.start, (show PvD (hp + 1) 3 AV j cV ((ls.take j).map (atL · f0)) (atL lJ f0) wr false false undef undef wr.drew from ⟨(Off.refl _ wr).drew, (fun _ => HOV.out.drew), (fun h => by cases h), (fun h => by cases h)⟩)⟩ ⟨?_, ?_, ?_, ?_, ?_, ?_, ?_, ?_, ?_, ?_, ?_, ?_, ?_, ?_, ?_, trivial⟩ ?_
              · rintro ev wv S val hE ⟨hV, hK, hw⟩ hS hd
                have hcl := Clo.add hK (i := 0) ((fun _ h => by cases h))
                have v12 : ev (.tmp 12) = .pointer (some ⟨hp, 0, none⟩) := hE.tmp 12 rfl
                refine ifw rfl (ifw rfl ⟨.pointer (some ⟨hp, 2, none⟩), fun w9 => ?_, VVs.add hV rfl, hcl, hw⟩)
                have e1 := hE.const; have e2 := hE.func; clear hE hd hw hS hV hK hcl
                show _ = Result.ok (Next.value (.pointer (some ⟨hp, 2, none⟩))) w9
                go_simp
              · rintro ev wv S val hE ⟨hV, hK, hw⟩ hS hd
                have hcl := Clo.add hK (i := 1) (List.forall_mem_cons.2 ⟨(hd 0 (by decide)).1, (fun _ h => by cases h)⟩)
                have v66 : ev (.tmp 66) = .pointer (some ⟨hp, 2, none⟩) := (hd 0 (by decide)).2.trans (hV 0 (by decide) (hd 0 (by decide)).1)
                have kx := (hw.1.blk HP5.out (fun e => by have := HOVB.out hp e; omega)).get 2 rfl
                refine ifw rfl (ifn rfl ?_)
                refine set_val (u := .slice AV j cV) (w' := wv) ?_ ⟨VVs.add hV rfl, hcl, hw⟩
                have e1 := hE.const; clear hE hd hw hS hV hK hcl
                go_simp
              · rintro ev wv S val hE ⟨hV, hK, hw⟩ hS hd
                have hcl := Clo.add hK (i := 2) ((fun _ h => by cases h))
                have v1 : ev (.tmp 1) = .slice (some ⟨gl, off, none⟩) N c := hE.tmp 1 rfl
                refine ifw rfl (ifw rfl ⟨.slice (some ⟨gl, off, none⟩) N c, fun w9 => ?_, VVs.add hV rfl, hcl, hw⟩)
                have e1 := hE.const; have e2 := hE.func; clear hE hd hw hS hV hK hcl
                show _ = Result.ok (Next.value (.slice (some ⟨gl, off, none⟩) N c)) w9
                go_simp
              · rintro ev wv S val hE ⟨hV, hK, hw⟩ hS hd
                have hcl := Clo.add hK (i := 3) ((fun _ h => by cases h))
                have v13 : ev (.tmp 13) = .int .i64 (j : Int) := hE.tmp 13 rfl
                refine ifw rfl (ifw rfl ⟨.int .i64 (j : Int), fun w9 => ?_, VVs.add hV rfl, hcl, hw⟩)
                have e1 := hE.const; have e2 := hE.func; clear hE hd hw hS hV hK hcl
                show _ = Result.ok (Next.value (.int .i64 (j : Int))) w9
                go_simp
              · rintro ev wv S val hE ⟨hV, hK, hw⟩ hS hd
                have hcl := Clo.add hK (i := 4) (List.forall_mem_cons.2 ⟨(hd 2 (by decide)).1, List.forall_mem_cons.2 ⟨(hd 3 (by decide)).1, (fun _ h => by cases h)⟩⟩)
                have v68 : ev (.tmp 68) = .slice (some ⟨gl, off, none⟩) N c := (hd 2 (by decide)).2.trans (hV 2 (by decide) (hd 2 (by decide)).1)
                have v69 : ev (.tmp 69) = .int .i64 (j : Int) := (hd 3 (by decide)).2.trans (hV 3 (by decide) (hd 3 (by decide)).1)
                refine ifw rfl (ifw rfl ⟨.pointer (some ⟨gl, off + j, none⟩), fun w9 => ?_, VVs.add hV rfl, hcl, hw⟩)
                have e1 := hE.const; have e2 := hE.func; clear hE hd hw hS hV hK hcl
                show _ = Result.ok (Next.value (.pointer (some ⟨gl, off + j, none⟩))) w9
                go_simp
              · rintro ev wv S val hE ⟨hV, hK, hw⟩ hS hd
                have hcl := Clo.add hK (i := 5) (List.forall_mem_cons.2 ⟨(hd 4 (by decide)).1, (fun _ h => by cases h)⟩)
                have v70 : ev (.tmp 70) = .pointer (some ⟨gl, off + j, none⟩) := (hd 4 (by decide)).2.trans (hV 4 (by decide) (hd 4 (by decide)).1)
                have hbv : Below w.heap.size w wv := HW5.out.trans (hw.1.below HW5.out.size (fun q hq => by have := HOVB.out q hq; have := HWP.out; omega))
                have kx := (Below.cell (p := ⟨gl, off + j, none⟩) hbv hgl).trans HCG.out
                refine ifw rfl (ifn rfl ?_)
                refine set_val (u := .pointer (some ⟨g, 0, none⟩)) (w' := wv) ?_ ⟨VVs.add hV rfl, hcl, hw⟩
                have e1 := hE.const; clear hE hd hw hS hV hK hcl
                go_simp
              · rintro ev wv S val hE ⟨hV, hK, hw⟩ hS hd
                have hcl := Clo.add hK (i := 6) ((fun _ h => by cases h))
                have v10 : ev (.tmp 10) = .slice (some ⟨gP, oP, none⟩) nP cP := hE.tmp 10 rfl
                refine ifw rfl (ifw rfl ⟨.slice (some ⟨gP, oP, none⟩) nP cP, fun w9 => ?_, VVs.add hV rfl, hcl, hw⟩)
                have e1 := hE.const; have e2 := hE.func; clear hE hd hw hS hV hK hcl
                show _ = Result.ok (Next.value (.slice (some ⟨gP, oP, none⟩) nP cP)) w9
                go_simp
              · rintro ev wv S val hE ⟨hV, hK, hw⟩ hS hd
                have hcl := Clo.add hK (i := 7) ((fun _ h => by cases h))
                have v11 : ev (.tmp 11) = .int .i64 (k : Int) := hE.tmp 11 rfl
                refine ifw rfl (ifw rfl ⟨.int .i64 (k : Int), fun w9 => ?_, VVs.add hV rfl, hcl, hw⟩)
                have e1 := hE.const; have e2 := hE.func; clear hE hd hw hS hV hK hcl
                show _ = Result.ok (Next.value (.int .i64 (k : Int))) w9
                go_simp
              · rintro ev wv S val hE ⟨hV, hK, hw⟩ hS hd
                have hcl := Clo.add hK (i := 8) (List.forall_mem_cons.2 ⟨(hd 6 (by decide)).1, List.forall_mem_cons.2 ⟨(hd 7 (by decide)).1, (fun _ h => by cases h)⟩⟩)
                have v72 : ev (.tmp 72) = .slice (some ⟨gP, oP, none⟩) nP cP := (hd 6 (by decide)).2.trans (hV 6 (by decide) (hd 6 (by decide)).1)
                have v73 : ev (.tmp 73) = .int .i64 (k : Int) := (hd 7 (by decide)).2.trans (hV 7 (by decide) (hd 7 (by decide)).1)
                refine ifw rfl (ifw rfl ⟨.pointer (some ⟨gP, oP + k * 2, none⟩), fun w9 => ?_, VVs.add hV rfl, hcl, hw⟩)
                have e1 := hE.const; have e2 := hE.func; clear hE hd hw hS hV hK hcl
                show _ = Result.ok (Next.value (.pointer (some ⟨gP, oP + k * 2, none⟩))) w9
                go_simp
              · rintro ev wv S val hE ⟨hV, hK, hw⟩ hS hd
                have hcl := Clo.add hK (i := 9) (List.forall_mem_cons.2 ⟨(hd 8 (by decide)).1, (fun _ h => by cases h)⟩)
                have v74 : ev (.tmp 74) = .pointer (some ⟨gP, oP + k * 2, none⟩) := (hd 8 (by decide)).2.trans (hV 8 (by decide) (hd 8 (by decide)).1)
                refine ifw rfl (ifw rfl ⟨.pointer (some ⟨gP, oP + k * 2, none⟩), fun w9 => ?_, VVs.add hV rfl, hcl, hw⟩)
                have e1 := hE.const; have e2 := hE.func; clear hE hd hw hS hV hK hcl
                show _ = Result.ok (Next.value (.pointer (some ⟨gP, oP + k * 2, none⟩))) w9
                go_simp
              · rintro ev wv S val hE ⟨hV, hK, hw⟩ hS hd
                have hcl := Clo.add hK (i := 10) (List.forall_mem_cons.2 ⟨(hd 9 (by decide)).1, (fun _ h => by cases h)⟩)
                have v75 : ev (.tmp 75) = .pointer (some ⟨gP, oP + k * 2, none⟩) := (hd 9 (by decide)).2.trans (hV 9 (by decide) (hd 9 (by decide)).1)
                have hbh : Below hp w4 wv := HB5.out.trans (hw.1.below (by rw [← HHP.out]; exact HB5.out.size) (fun q hq => by have := HOVB.out q hq; omega))
                have kx := (Below.cell (p := ⟨gP, oP + k * 2, none⟩) hbh hgpp).trans HC0.out
                refine ifw rfl (ifn rfl ?_)
                refine set_val (u := .int .i64 f0) (w' := wv) ?_ ⟨VVs.add hV rfl, hcl, hw⟩
                have e1 := hE.const; clear hE hd hw hS hV hK hcl
                go_simp
              · rintro ev wv S val hE ⟨hV, hK, hw⟩ hS hd
                have hcl := Clo.add hK (i := 11) (List.forall_mem_cons.2 ⟨(hd 5 (by decide)).1, List.forall_mem_cons.2 ⟨(hd 10 (by decide)).1, (fun _ h => by cases h)⟩⟩)
                have v71 : ev (.tmp 71) = .pointer (some ⟨g, 0, none⟩) := (hd 5 (by decide)).2.trans (hV 5 (by decide) (hd 5 (by decide)).1)
                have v76 : ev (.tmp 76) = .int .i64 f0 := (hd 10 (by decide)).2.trans (hV 10 (by decide) (hd 10 (by decide)).1)
                have hbv : Below w.heap.size w wv := HW5.out.trans (hw.1.below HW5.out.size (fun q hq => by have := HOVB.out q hq; have := HWP.out; omega))
                refine ifw rfl (ifn rfl ?_)
                refine set_call (f := 31) (args := #[.pointer (some ⟨g, 0, none⟩), .int .i64 f0]) ?_ (at11_any g nT cT AT lJ f0 wv (HTI.out.keep hbv) hnT) ?_
                · have e0 := hE.func; have e1 := hE.const; clear hE hd hw hS hV hK hcl
                  go_simp
                · rintro e w' ⟨rfl, rfl⟩
                  exact ⟨_, rfl, VVs.add hV (rfl), hcl, hw⟩
              · rintro ev wv S val hE ⟨hV, hK, hw⟩ hS hd
                have hcl := Clo.add hK (i := 12) (List.forall_mem_cons.2 ⟨(hd 11 (by decide)).1, (fun _ h => by cases h)⟩)
                have v77 : ev (.tmp 77) = .int .i64 (atL lJ f0) := (hd 11 (by decide)).2.trans (hV 11 (by decide) (hd 11 (by decide)).1)
                refine ifw rfl (ifn rfl ?_)
                refine set_val (u := .slice (some ⟨wv.heap.size, 0, none⟩) 1 1) (w' := wv.alloc (.cells #[.int .i64 (atL lJ f0)] 3)) ?_ ⟨VVs.add hV ⟨_, rfl⟩, hcl, ⟨hw.1.later ((Below.refl _ wv).alloc (Nat.le_refl _) _), (fun h => (hw.2.1 h).alloc _), (fun _ => ⟨_, rfl, Blk.new wv _ _, hw.1.size⟩), (fun h => by obtain ⟨A', c', g1, g2, g3⟩ := hw.2.2.2 h; exact ⟨A', c', g1, g2.alloc _, g3⟩)⟩⟩
                have e1 := hE.const; clear hE hd hw hS hV hK hcl
                go_simp
              · rintro ev wv S val hE ⟨hV, hK, hw⟩ hS hd
                have hcl := Clo.add hK (i := 13) (List.forall_mem_cons.2 ⟨(hd 1 (by decide)).1, List.forall_mem_cons.2 ⟨(hd 12 (by decide)).1, (fun _ h => by cases h)⟩⟩)
                have v67 : ev (.tmp 67) = .slice AV j cV := (hd 1 (by decide)).2.trans (hV 1 (by decide) (hd 1 (by decide)).1)
                obtain ⟨kb12, g12⟩ := hV 12 (by decide) (hd 12 (by decide)).1
                have v78 : ev (.tmp 78) = .slice (some ⟨kb12, 0, none⟩) 1 1 := (hd 12 (by decide)).2.trans g12
                obtain ⟨kb, hk1, hk2, hk3⟩ := hw.2.2.1 (hd 12 (by decide)).1
                have hkk : kb12 = kb := by
                  rw [hk1] at g12
                  injection g12 with g12 _ _
                  injection g12 with g12
                  injection g12 with g12 _ _
                  exact g12.symm
                subst hkk
                obtain ⟨TB, hTB⟩ := hk2.blk
                have hpz := HP5.out.sz
                have hwz := hw.1.size
                obtain ⟨v9, w9, hr9, ho9, hg9, ha9⟩ := run_app2 (P := Tryz.prog) (ty := 54) (t := 54) (c := 1) (m := 1) (ad := ⟨kb12, 0, none⟩) elem_int12 (hw.2.1 hS) (ys := ints [atL lJ f0]) rfl (cells_block (ys := ints [atL lJ f0]) hTB) (ints_one _) (by omega) (by unfold maxLen; omega) (by omega)
                obtain ⟨A9, c9, rfl, _⟩ := Lies.of_own ho9 (by have := ho9.1; exact this)
                refine ifw rfl (ifn rfl ?_)
                refine set_val (u := .slice A9 (j + 1) c9) (w' := w9) ?_ ⟨VVs.add hV ⟨A9, c9, rfl⟩, hcl, ⟨hw.1.trans (Off.grown (v := .slice AV j cV) hg9), (fun h => by simp [addS] at h), (fun _ => ⟨kb12, hk1, (Off.grown (v := .slice AV j cV) hg9).blk hk2 (fun e => by have := HOVL.out kb12 e; omega), hk3⟩), (fun _ => ⟨A9, c9, rfl, by rw [ints_append]; exact ho9, fun q hq => (ha9 q hq).imp_right (fun h => Nat.le_trans hwz h)⟩)⟩⟩
                have e1 := hE.const; clear hE hd hw hS hV hK hcl
                unfold execOp
                simp only [resolve, invoke, builtin, Sem.run_bind, Sem.run_pure, Result.andThen_ok, List.map_toArray, List.map_cons, List.map_nil, v67, v78, hr9]
              · rintro ev wv S val hE ⟨hV, hK, hw⟩ hS hd
                have hcl := Clo.add hK (i := 14) ((fun _ h => by cases h))
                have v12 : ev (.tmp 12) = .pointer (some ⟨hp, 0, none⟩) := hE.tmp 12 rfl
                refine ifw rfl (ifw rfl ⟨.pointer (some ⟨hp, 2, none⟩), fun w9 => ?_, VVs.add hV rfl, hcl, hw⟩)
                have e1 := hE.const; have e2 := hE.func; clear hE hd hw hS hV hK hcl
                show _ = Result.ok (Next.value (.pointer (some ⟨hp, 2, none⟩))) w9
                go_simp
              · rintro S val wz hS ⟨hV, hK, hw⟩
                have e0 : val 0 = .pointer (some ⟨hp, 2, none⟩) := hV 0 (by decide) (hS 0 (by decide))
                have e1 : val 1 = .slice AV j cV := hV 1 (by decide) (hS 1 (by decide))
                have e2 : val 2 = .slice (some ⟨gl, off, none⟩) N c := hV 2 (by decide) (hS 2 (by decide))
                have e3 : val 3 = .int .i64 (j : Int) := hV 3 (by decide) (hS 3 (by decide))
                have e4 : val 4 = .pointer (some ⟨gl, off + j, none⟩) := hV 4 (by decide) (hS 4 (by decide))
                have e5 : val 5 = .pointer (some ⟨g, 0, none⟩) := hV 5 (by decide) (hS 5 (by decide))
                have e6 : val 6 = .slice (some ⟨gP, oP, none⟩) nP cP := hV 6 (by decide) (hS 6 (by decide))
                have e7 : val 7 = .int .i64 (k : Int) := hV 7 (by decide) (hS 7 (by decide))
                have e8 : val 8 = .pointer (some ⟨gP, oP + k * 2, none⟩) := hV 8 (by decide) (hS 8 (by decide))
                have e9 : val 9 = .pointer (some ⟨gP, oP + k * 2, none⟩) := hV 9 (by decide) (hS 9 (by decide))
                have e10 : val 10 = .int .i64 f0 := hV 10 (by decide) (hS 10 (by decide))
                have e11 : val 11 = .int .i64 (atL lJ f0) := hV 11 (by decide) (hS 11 (by decide))
                obtain ⟨kb12, e12⟩ := hV 12 (by decide) (hS 12 (by decide))
                obtain ⟨Av13, cv13, e13⟩ := hV 13 (by decide) (hS 13 (by decide))
                have e14 : val 14 = .pointer (some ⟨hp, 2, none⟩) := hV 14 (by decide) (hS 14 (by decide))
                intro v0 h0 u0 v1 h1 u1 v2 h2 u2 v3 h3 u3 v4 h4 u4 v5 h5 u5 v6 h6 u6 v7 h7 u7 v8 h8 u8 v9 h9 u9 v10 h10 u10 v11 h11 u11 v12 h12 u12 v13 h13 u13 v14 h14 u14
                simp only [Act.put, List.setIfInBounds_toArray, List.set_cons_zero, List.set_cons_succ, List.drop_succ_cons, List.drop_zero]
                simp only [h0.trans e0, h1.trans e1, h2.trans e2, h3.trans e3, h4.trans e4, h5.trans e5, h6.trans e6, h7.trans e7, h8.trans e8, h9.trans e9, h10.trans e10, h11.trans e11, h12.trans e12, h13.trans e13, h14.trans e14]
                clear hV h0 e0 u0 v0 h1 e1 u1 v1 h2 e2 u2 v2 h3 e3 u3 v3 h4 e4 u4 v4 h5 e5 u5 v5 h6 e6 u6 v6 h7 e7 u7 v7 h8 e8 u8 v8 h9 e9 u9 v9 h10 e10 u10 v10 h11 e11 u11 v11 h12 e12 u12 v12 h13 u13 v13 h14 e14 u14 v14
                change wpList Tryz.prog _ _ _ _ wz
                obtain ⟨hOff, hX1, hX2, h13⟩ := hw
                obtain ⟨A9, c9, g1, g2, g3⟩ := h13 (hS 13 (by decide))
                have hAc : Av13 = A9 ∧ cv13 = c9 := by
                  rw [e13] at g1
                  injection g1 with g1 _ g3
                  exact ⟨g1, g3⟩
                obtain ⟨rfl, rfl⟩ := hAc
                have hPz := hOff.blk HP5.out (fun e => by have := HOVB.out hp e; omega)
                have HPZ := Lib.hid hPz
                have HGE := Lib.hid (own_ge g2)
                have HO6 := Lib.hid (show (wz.setCell ⟨hp, 2, none⟩ (.slice Av13 (j + 1) cv13)).ownsRow (hp + 1) 3 1 (.slice Av13 (j + 1) cv13) (j + 1) (ints ((ls.take j).map (atL · f0) ++ [atL lJ f0])) from (Off.set (F := (· = hp)) (a := ⟨hp, 2, none⟩) rfl _).own g2 (fun q hq e => by have := HGE.out q hq; omega))
                have HP6 := Lib.hid (hPz.set 2 (.slice Av13 (j + 1) cv13))
                have HB6 := Lib.hid ((HB5.out.trans (hOff.below (by rw [← HHP.out]; exact HB5.out.size) (fun q hq => by have := HOVB.out q hq; omega))).setCell (p := ⟨hp, 2, none⟩) (Nat.le_refl _) (.slice Av13 (j + 1) cv13))
                have y2 := hPz.get 2 rfl
                have z2 := hPz.f 2
                clear hOff hX1 hX2 h13 g1 g2 g3 hPz e13 hS hK
                go_wp2_with fail
                refine calm_normal ?_
                go_wp2_with fail
                go_roundg (N - (j + 1))
                case measure => rw [HK4.out]; omega
                case rel => exact ⟨j + 1, cv13, Av13, val_int (by omega), by omega, by rw [List.take_add_one, HLS.out, List.map_append]; exact HO6.out, Lib.hid rfl, HP6, HB6⟩
            · have hjN : j = N := by omega
              have d0 : decide ((j : Int) < (N : Int)) = false := decide_eq_false (by omega)
              have HLT := Lib.hid (show ls.take j = ls from List.take_of_length_le (by rw [← HT.out.len, HT.out.num]; omega))
              have hlt4 : ∀ q, (Value.slice AO k cO).ownBlock = some q → q < hp := fun q hq => by rw [← HHP.out]; exact own_lt HO.out hq
              have HO5 := Lib.hid (own_keep HO.out (by rw [HHP.out]; exact HB5.out))
              have y0 := HP5.out.get 0 rfl
              have y1 := HP5.out.get 1 rfl
              have y2 := HP5.out.get 2 rfl
              have hps := HP5.out.sz
              have hB3 : B3 ≤ hp := by rw [← HHP.out]; have := HB4.out.size; rw [HB3E.out] at this; exact this
              clear hjN
              go_wp2_with (at_builtin; refine wpList_app2 rfl _ _ 57 rfl (cellsP [(f0, t0, .slice AV j cV)]) elem_part rfl (HO5.out.alloc (.cells (cellsP [(f0, t0, .slice AV j cV)]).toArray 56)) rfl rfl (new_cells wr (cellsP [(f0, t0, .slice AV j cV)]) 56) (fun u hu => by simp only [cellsP, List.mem_cons, List.not_mem_nil, or_false] at hu; rcases hu with rfl | rfl | rfl <;> rfl) (by omega) (by unfold maxLen; omega) (by simp; omega) ?_)
              intro v7 w7 hown7 hg7 hat7
              have hoff7 := (Off.of (F := fun q => (Value.slice AO k cO).ownBlock = some q) ((Below.refl _ wr).alloc (Nat.le_refl _) (.cells (cellsP [(f0, t0, .slice AV j cV)]).toArray 56))).trans (Off.grown (v := .slice AO k cO) hg7)
              have hoff47 := (Off.of (F := fun q => (Value.slice AO k cO).ownBlock = some q) (show Below w4.heap.size w4 wr by rw [HHP.out]; exact HB5.out)).trans hoff7
              have hov7 := hoff7.own HOV.out (fun q hq e => by have h1 := HOVB.out q hq; have h2 := hlt4 q e; omega)
              have HNEW := Lib.hid (show PtIn w7 (f0, t0, .slice AV j cV) (f0, t0, ls.map (atL · f0)) from ⟨rfl, rfl, AV, j, cV, rfl, by have h1 := own_lies hov7; rw [HLT.out] at h1; exact h1⟩)
              have HPT7 := Lib.hid ((HPT.out.off hoff47 (fun q hq kb e => (HQ.out q hq kb e).2)).snoc HNEW.out)
              obtain ⟨A7, d7, rfl, _⟩ := Lies.of_own hown7 (by have := hown7.1; exact this)
              have hsz7 := hoff7.size
              have hsz5 := HB5.out.size
              have hhp := HHP.out
              have HQ7 := Lib.hid (show ∀ q ∈ qs ++ [((f0, t0, .slice AV j cV) : PtQ)], ∀ kb, q.2.2.ownBlock = some kb → kb < w7.heap.size ∧ ¬ (Value.slice A7 (k + 1) d7).ownBlock = some kb from fun q hq kb hkb => by
                rcases List.mem_append.1 hq with hq | hq
                · obtain ⟨h1, h2⟩ := HQ.out q hq kb hkb
                  refine ⟨by omega, fun e => ?_⟩
                  rcases hat7 kb e with h | h
                  · exact h2 h
                  · first | omega | (simp at h; omega)
                · have e : q = (f0, t0, .slice AV j cV) := by simpa using hq
                  rw [e] at hkb
                  have h1 := HOVL.out kb hkb
                  have h3 := HOVB.out kb hkb
                  refine ⟨by omega, fun e => ?_⟩
                  rcases hat7 kb e with h | h
                  · have := hlt4 kb h; omega
                  · first | omega | (simp at h; omega))
              have HB7 := Lib.hid (((HB4.out.trans (HB5.out.mono hB3)).alloc (by omega) (.cells (cellsP [(f0, t0, .slice AV j cV)]).toArray 56)).grown hg7 (by simp; omega) (fun q hq => HOB.out q hq))
              have HO7 := Lib.hid hown7
              clear hown7 hg7 hat7 hoff7 hoff47 hov7 y0 y1 y2
              go_wp2_with fail
              go_roundg (nP - (k + 1))
              case measure => rw [HK.out]; omega
              case rel => exact ⟨k + 1, d7, A7, qs ++ [(f0, t0, .slice AV j cV)], rfl, val_int (by omega), by omega, by rw [cellsP_append]; exact HO7.out, Lib.hid rfl, Lib.hid (by rw [List.take_add_one, HS0.out, List.map_append]; exact HPT7.out), HQ7, HB7⟩
        · have e0 : decide ((k : Int) < (nP : Int)) = false := decide_eq_false (by omega)
          have HTK := Lib.hid (show pcs.take k = pcs from List.take_of_length_le (by rw [HPN.out]; omega))
          have HWW := Lib.hid (show Below w.heap.size w wr from HB3.out.trans (HB4.out.mono (by rw [← HB3E.out]; exact HB3.out.size)))
          have hB3w : w.heap.size ≤ B3 := by rw [← HB3E.out]; exact HB3.out.size
          go_wp2_with fail
          refine bodyPost_ret (results_tmp rfl _ _ _) rfl ?_
          exact ⟨qs, _, AO, k, cO, rfl, HPS.out, own_low HO.out hB3w, by have := HPT.out; rw [HTK.out] at this; exact this, HWW.out⟩
end Go.Proofs.YtonfjjmgjgmanaaGreat
