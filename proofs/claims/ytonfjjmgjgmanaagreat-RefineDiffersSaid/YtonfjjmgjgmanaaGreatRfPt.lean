/- Contract of package refine: Parts. (Written by wip/gen/genrfpt.py.) -/
import Derived.Test.YtonfjjmgjgmanaaGreatRfSort
import Derived.Test.YtonfjjmgjgmanaaGreatRelVal
import Derived.Shelf.RegionOpen
namespace Corr
set_option maxRecDepth 8000
open Go Go.RowKit
set_option linter.unusedVariables false
/-- Functions that tell lines' values, as a row. -/
def tells (fe : Nat) (gs : List Nat) : List Value := gs.map fun g => .func (.func fe) #[] #[.pointer (some ⟨g, 0, none⟩)]
theorem tells_append (fe : Nat) (a b : List Nat) : tells fe (a ++ b) = tells fe a ++ tells fe b := List.map_append
theorem tells_get {fe k g : Nat} {gs : List Nat} (h : gs[k]? = some g) : (tells fe gs)[k]? = some (.func (.func fe) #[] #[.pointer (some ⟨g, 0, none⟩)]) := by unfold tells; rw [List.getElem?_map, h]; rfl
theorem tells_plain (fe : Nat) (gs : List Nat) : ∀ u ∈ tells fe gs, u.oneCell' = true := by
  intro u hu
  obtain ⟨z, _, rfl⟩ := List.mem_map.1 hu
  rfl
theorem Off.turn {F0 F : Nat → Prop} {w0 w w' : World} (h4 : Off F0 w0 w) (ho : Off F w w') (hF : ∀ k, F k → F0 k ∨ w0.heap.size ≤ k) : Off F0 w0 w' :=
  ⟨ho.os.trans h4.os, ho.tape.trans h4.tape, ho.output.trans h4.output, Nat.le_trans h4.size ho.size, fun k hk hn => (ho.block k (Nat.lt_of_lt_of_le hk h4.size) fun e => by
    rcases hF k e with e | e
    · exact hn e
    · omega).trans (h4.block k hk hn)⟩
/-- What tells several lines' values; R: the blocks of the segments' rows. -/
structure TelsR (R : Nat → Prop) (gs : List Nat) (fs : List (Int → Int)) (b d : Int) (w : World) : Prop where
  len : gs.length = fs.length
  each : ∀ (i g : Nat) (f : Int → Int), gs[i]? = some g → fs[i]? = some f → TelR R f b d g w
  out : ∀ g ∈ gs, ¬ R g
  one : ∀ i j g : Nat, gs[i]? = some g → gs[j]? = some g → i = j
  lt : ∀ k, R k ∨ k ∈ gs → k < w.heap.size
section
variable {R R' G : Nat → Prop} {gs : List Nat} {fs : List (Int → Int)} {f : Int → Int} {b d d' : Int} {g j : Nat} {w w' : World}
theorem TelsR.none_ (b d : Int) (w : World) : TelsR (fun _ => False) [] [] b d w := ⟨rfl, fun i g f h => by simp at h, fun g h => by simp at h, fun i j g h => by simp at h, fun k h => by simp at h⟩
theorem TelsR.off (h : TelsR R gs fs b d w) (ho : Off G w w') (hn : ∀ k, R k ∨ k ∈ gs → ¬ G k) : TelsR R gs fs b d w' :=
  ⟨h.len, fun i g f h1 h2 => (h.each i g f h1 h2).off ho (hn g (.inr (List.mem_of_getElem? h1))) fun k hk => hn k (.inl hk), h.out, h.one, fun k hk => Nat.lt_of_lt_of_le (h.lt k hk) ho.size⟩
theorem TelsR.later (h : TelsR R gs fs b d w) (hd : d ≤ d') : TelsR R gs fs b d' w := ⟨h.len, fun i g f h1 h2 => (h.each i g f h1 h2).later hd, h.out, h.one, h.lt⟩
theorem TelsR.snoc (h : TelsR R gs fs b d w) (ht : TelR R' f b d g w) (hR : ∀ k, R' k → ¬ R k ∧ k ∉ gs ∧ k < w.heap.size) (hg : ¬ R g ∧ ¬ R' g ∧ g ∉ gs ∧ g < w.heap.size) : TelsR (fun k => R k ∨ R' k) (gs ++ [g]) (fs ++ [f]) b d w := by
  have wide : ∀ {S T : Nat → Prop} {f : Int → Int} {g : Nat}, (∀ k, S k → T k) → TelR S f b d g w → TelR T f b d g w := by
    rintro S T f g hST ⟨A, n, c, l, x, h1, h2, h3, h4, h5⟩
    exact ⟨A, n, c, l, x, h1, h2, h3, h4, fun ad e => hST _ (h5 ad e)⟩
  refine ⟨by simp [h.len], fun i g' f' h1 h2 => ?_, fun g' hg' => ?_, fun i j g' h1 h2 => ?_, fun k hk => ?_⟩
  · by_cases hi : i < gs.length
    · rw [List.getElem?_append_left hi] at h1
      rw [List.getElem?_append_left (by rw [← h.len]; exact hi)] at h2
      exact wide (fun k hk => .inl hk) (h.each i g' f' h1 h2)
    · have hi2 : i = gs.length := by
        have := (List.getElem?_eq_some_iff.1 h1).1
        simp at this; omega
      rw [hi2, List.getElem?_append_right (Nat.le_refl _), Nat.sub_self] at h1
      rw [hi2, h.len, List.getElem?_append_right (Nat.le_refl _), Nat.sub_self] at h2
      have e1 : g' = g := by simpa using h1.symm
      have e2 : f' = f := by simpa using h2.symm
      rw [e1, e2]; exact wide (fun k hk => .inr hk) ht
  · rcases List.mem_append.1 hg' with h1 | h1
    · exact fun e => e.elim (h.out g' h1) fun e => (hR g' e).2.1 h1
    · have : g' = g := by simpa using h1
      rw [this]; exact fun e => e.elim hg.1 hg.2.1
  · have key : ∀ {i : Nat}, (gs ++ [g])[i]? = some g' → (i < gs.length ∧ gs[i]? = some g') ∨ (i = gs.length ∧ g' = g) := by
      intro i h1
      by_cases hi : i < gs.length
      · rw [List.getElem?_append_left hi] at h1; exact .inl ⟨hi, h1⟩
      · have hi2 : i = gs.length := by
          have := (List.getElem?_eq_some_iff.1 h1).1
          simp at this; omega
        rw [hi2, List.getElem?_append_right (Nat.le_refl _), Nat.sub_self] at h1
        exact .inr ⟨hi2, by simpa using h1.symm⟩
    rcases key h1 with ⟨_, k1⟩ | ⟨k1, k2⟩ <;> rcases key h2 with ⟨_, m1⟩ | ⟨m1, m2⟩
    · exact h.one i j g' k1 m1
    · rw [m2] at k1; exact absurd (List.mem_of_getElem? k1) hg.2.2.1
    · rw [k2] at m1; exact absurd (List.mem_of_getElem? m1) hg.2.2.1
    · omega
  · rcases hk with (hk | hk) | hk
    · exact h.lt k (.inl hk)
    · exact (hR k hk).2.2
    · rcases List.mem_append.1 hk with h1 | h1
      · exact h.lt k (.inr h1)
      · have : k = g := by simpa using h1
        rw [this]; exact hg.2.2.2
theorem TelsR.tell (h : TelsR R gs fs b d w) (hj : gs[j]? = some g) (hf : fs[j]? = some f) (ht : TelR R f b d g w') (ho : Off (· = g) w w') : TelsR R gs fs b d w' :=
  ⟨h.len, fun i g' f' h1 h2 => by
    by_cases e : i = j
    · subst e
      have e1 : g' = g := by rw [hj] at h1; exact (Option.some.inj h1).symm
      have e2 : f' = f := by rw [hf] at h2; exact (Option.some.inj h2).symm
      rw [e1, e2]; exact ht
    · exact (h.each i g' f' h1 h2).off ho (fun e' => e (by subst e'; exact h.one i j _ h1 hj)) fun k hk e' => h.out g (List.mem_of_getElem? hj) (by rw [← e']; exact hk), h.out, h.one, fun k hk => Nat.lt_of_lt_of_le (h.lt k hk) ho.size⟩
/-- In the midst of 'p.V = append(p.V, value(day))'. -/
def PvT (B : Nat) (T : TypeId) (AV : Option Addr) (j cV : Nat) (xs : List Int) (v : Int) (wr : World) (g : Nat) (R : Nat → Prop) (gs : List Nat) (fs : List (Int → Int)) (b d : Int) (b6 b7 : Bool) (v6 v7 : Value) (wx : World) : Prop :=
  Off (fun k => (Value.slice AV j cV).ownBlock = some k ∨ k = g) wr wx ∧ (b7 = false → wx.ownsRow B T 1 (.slice AV j cV) j (ints xs)) ∧
  (b6 = true → ∃ kb, v6 = .slice (some ⟨kb, 0, none⟩) 1 1 ∧ Blk wx kb #[.int .i64 v] ∧ wr.heap.size ≤ kb) ∧
  (b7 = true → ∃ A' c', v7 = .slice A' (j + 1) c' ∧ wx.ownsRow B T 1 (.slice A' (j + 1) c') (j + 1) (ints (xs ++ [v])) ∧ ∀ k, (Value.slice A' (j + 1) c').ownBlock = some k → (Value.slice AV j cV).ownBlock = some k ∨ wr.heap.size ≤ k) ∧ TelsR R gs fs b d wx
end
def begsT (l : ItL) (k : Nat) : List Int := (l.take k).map (·.1)
theorem begsT_zero (l : ItL) : begsT l 0 = [] := by unfold begsT; rfl
theorem begsT_more {l : ItL} {k : Nat} {y : It} (h : l[k]? = some y) : begsT l (k + 1) = begsT l k ++ [y.1] := by unfold begsT; rw [List.take_add_one, h, List.map_append]; rfl
theorem begsT_all {l : ItL} {k : Nat} (h : l.length ≤ k) : begsT l k = l.map (·.1) := by unfold begsT; rw [List.take_of_length_le h]
theorem cutP_at {ends : List Int} {T m : Int} : ∀ {l : SpL} {a : Int}, cutP ends T a m l → ∀ (k : Nat) (s : Int × Int), l[k]? = some s → a ≤ s.1 ∧ s.1 < T ∧ ∀ t : Int × Int, l[k + 1]? = some t → s.1 ≤ t.1
  | [], a, h, k, s, hk => by simp at hk
  | x :: r, a, h, k, s, hk => by
    obtain ⟨h1, h2, h3, h4⟩ := h
    have hn := nextE_in ends h2
    rw [← h3] at hn
    cases k with
    | zero =>
      have e : x = s := by simpa using hk
      subst e
      refine ⟨by omega, by omega, fun t ht => ?_⟩
      have := cutP_at h4 0 t (by simpa using ht)
      omega
    | succ k =>
      obtain ⟨k1, k2, k3⟩ := cutP_at h4 k s (by simpa using hk)
      exact ⟨by omega, k2, fun t ht => k3 t (by simpa using ht)⟩
end Corr
namespace Go.Proofs.YtonfjjmgjgmanaaGreat
set_option maxRecDepth 8000
open Go.RowKit Corr
set_option linter.unusedVariables false
set_option linter.unusedSimpArgs false
theorem elem_tell : Elem Tryz.prog 73 74 .nilFunc 1 8 := by
  obtain ⟨i, h0, h1, h2, h3⟩ := info_parts (show (Tryz.prog.info? 74).map (fun i => (i.zero, i.size, i.bytes)) = some (some .nilFunc, 1, 8) by kernel_rfl)
  exact ⟨Tryz.underlying73, ⟨i, h0, h1, h2, h3⟩, rfl, by decide⟩
theorem elem_rpart : Elem Tryz.prog 51 62 (.agg #[.int .i64 0, .int .i64 0, .slice none 0 0]) 3 40 := by
  obtain ⟨i, h0, h1, h2, h3⟩ := info_parts (show (Tryz.prog.info? 62).map (fun i => (i.zero, i.size, i.bytes)) = some (some (.agg #[.int .i64 0, .int .i64 0, .slice none 0 0]), 3, 40) by kernel_rfl)
  exact ⟨Tryz.underlying51, ⟨i, h0, h1, h2, h3⟩, rfl, by decide⟩
/-- Timelines in a row, each with what it has on each day. -/
def LinesP (Rep : RepL) (w : World) (E : Option Addr) (N : Nat) (fs : List (Int → Int)) : Prop := fs.length = N ∧ ∀ k, k < N → ∃ gl off p F n f, E = some ⟨gl, off, none⟩ ∧ gl < w.heap.size ∧ w.cell? ⟨gl, off + k, none⟩ = some p ∧ fs[k]? = some f ∧ Rep w p F n f ∧ n ≤ 300
theorem rfpt_no (E : Value) (fs : List (Int → Int)) (a b : Int) (w : World) (h : mayB a b = false) : Calls Tryz.prog 15 #[.agg #[.int .i64 a, .int .i64 b], E] w (RetPartsF 62 w fs a b) := by
  have HM := Lib.hid (rfmay_any a b (w.alloc (.cells #[.int .i64 a, .int .i64 b] 24)))
  rw [h] at HM
  have HB0 := Lib.hid (show Ext w _ from (Below.refl w.heap.size w).alloc (Nat.le_refl _) (.cells #[.int .i64 a, .int .i64 b] 24))
  have HX := Lib.hid (Blk.new w #[.int .i64 a, .int .i64 b] 24)
  have HP := Lib.hid (show partsF fs a b [] by unfold partsF; rw [if_neg (by rw [h]; decide)])
  clear h
  go_enter Tryz.func15, Tryz.ntmps15
  go_upto_region 1 with fail
  generalize w.heap.size = hx at HX ⊢
  generalize w.alloc (.cells #[.int .i64 a, .int .i64 b] 24) = wq at *
  have x0 := HX.out.get 0 rfl
  have x1 := HX.out.get 1 rfl
  go_wp2_with fail
  refine HM.out.mono ?_
  rintro e w1 ⟨rfl, hb⟩
  have HB := Lib.hid (HB0.out.grow hb)
  clear hb x0 x1
  go_wp2_with fail
  go_ret
  exact ⟨[], [], none, 0, 0, rfl, HP.out, World.ownsRow_nil _ _ _ _, ⟨rfl, fun i q p h => by simp at h⟩, HB.out⟩
set_option maxHeartbeats 8000000 in
theorem rfpt_yes {Rep : RepL} (K : TlK0 Rep) (KS : SortI) (KC : CompI) (E : Option Addr) (N c : Nat) (fs : List (Int → Int)) (a b : Int) (w : World) (T : LinesP Rep w E N fs) (hN : N ≤ 100) (hm : mayB a b = true) : Calls Tryz.prog 15 #[.agg #[.int .i64 a, .int .i64 b], .slice E N c] w (RetPartsF 62 w fs a b) := by
  have HM := Lib.hid (rfmay_any a b (w.alloc (.cells #[.int .i64 a, .int .i64 b] 24)))
  rw [hm] at HM
  have HMB := Lib.hid hm
  have HK := Lib.hid K
  have HKS := Lib.hid KS
  have HKC := Lib.hid KC
  have HTL := Lib.hid T
  have HB0 := Lib.hid (show Ext w _ from (Below.refl w.heap.size w).alloc (Nat.le_refl _) (.cells #[.int .i64 a, .int .i64 b] 24))
  have HX := Lib.hid (Blk.new w #[.int .i64 a, .int .i64 b] 24)
  clear hm K KS KC T
  go_enter Tryz.func15, Tryz.ntmps15
  go_upto_region 1 with fail
  obtain ⟨hx, hhx⟩ : ∃ k, w.heap.size = k := ⟨_, rfl⟩
  have HHX := Lib.hid hhx
  rw [hhx] at HX ⊢
  clear hhx
  generalize w.alloc (.cells #[.int .i64 a, .int .i64 b] 24) = wq at *
  have x0 := HX.out.get 0 rfl
  have x1 := HX.out.get 1 rfl
  go_wp2_with fail
  refine HM.out.mono ?_
  rintro e w1 ⟨rfl, hb⟩
  have HB := Lib.hid (HB0.out.grow hb)
  have HX1 := Lib.hid (HX.out.keep hb)
  clear hb x0 x1
  go_upto_region 6 with fail
  go_loopg [5, 6, 23] N (fun kk v u z wr => ∃ (ti nE cE cT : Nat) (AE AT : Option Addr) (sgs : List ItL) (gs : List Nat) (R : Nat → Prop), v = .slice AE nE cE ∧ u = .slice AT ti cT ∧ z = .int .i64 (ti : Int) ∧ ti ≤ N ∧ nE ≤ ti * 3652060 ∧ Hid (wr.ownsRow (hx + 1) 3 1 (.slice AE nE cE) nE (ints (beginsAll sgs))) ∧ Hid (wr.ownsRow (hx + 1) 74 1 (.slice AT ti cT) ti (tells 45 gs)) ∧ Hid (kk = N - ti) ∧ Hid (sgs.length = ti) ∧ Hid (∀ (j : Nat) (f : Int → Int) (s : ItL), fs[j]? = some f → sgs[j]? = some s → covP f a b s) ∧ Hid (TelsR R gs (fs.take ti) b a wr) ∧ Hid (∀ k, R k ∨ k ∈ gs → hx < k ∧ ¬ (Value.slice AE nE cE).ownBlock = some k ∧ ¬ (Value.slice AT ti cT).ownBlock = some k) ∧ Hid (∀ k, (Value.slice AE nE cE).ownBlock = some k → ¬ (Value.slice AT ti cT).ownBlock = some k) ∧ Hid (Blk wr hx #[.int .i64 a, .int .i64 b]) ∧ Hid (Below w.heap.size w wr))
  case atStart => exact ⟨0, 0, 0, 0, none, none, [], [], fun _ => False, rfl, rfl, rfl, by omega, by omega, Lib.hid (World.ownsRow_nil _ _ _ _), Lib.hid (World.ownsRow_nil _ _ _ _), Lib.hid rfl, Lib.hid rfl, Lib.hid (fun j f s _ h => by simp at h), Lib.hid (by rw [List.take_zero]; exact TelsR.none_ _ _ _), Lib.hid (fun k h => by simp at h), Lib.hid (fun k h => by cases h), HX1, HB⟩
  case round =>
    clear HX1 HB HX HB0 HM
    obtain ⟨ti, nE, cE, cT, AE, AT, sgs, gs, R, rfl, rfl, rfl, hi, hnE, HO, HOT, HKK, HSL, HSG, HTS, HZ, HET, HX, HB⟩ := hrel
    have HOB := Lib.hid (own_ge HO.out)
    have HOTB := Lib.hid (own_ge HOT.out)
    have HOL := Lib.hid (fun k (hk : (Value.slice AE nE cE).ownBlock = some k) => own_lt HO.out hk)
    have HOTL := Lib.hid (fun k (hk : (Value.slice AT ti cT).ownBlock = some k) => own_lt HOT.out hk)
    by_cases hlt : ti < N
    · obtain ⟨gl, off, p, F, n, f, rfl, hgl, cg0, hf, hrep, hn⟩ := HTL.out.2 ti hlt
      have cg := (Below.cell (p := ⟨gl, off + ti, none⟩) HB.out hgl).trans cg0
      have HF := Lib.hid hf
      have HCS := Lib.hid (rfsegs_any HK.out p F n f a b wr (HK.out.keep hrep (Off.of (F := fun _ => False) HB.out) fun _ _ e => e) hn HMB.out)
      have i0 : decide ((ti : Int) < (N : Int)) = true := decide_eq_true (by omega)
      have i1 : (0 : Int) ≤ (ti : Int) := by omega
      have i2 : (ti : Int) < (N : Int) := by omega
      have i3 : ((ti : Int)).toNat = ti := by omega
      have i4 : decide ((ti : Int) < 0) = false := decide_eq_false (by omega)
      have x0 := HX.out.get 0 rfl
      have x1 := HX.out.get 1 rfl
      obtain ⟨W0, hW0⟩ : ∃ v, v = wr := ⟨_, rfl⟩
      subst wr
      clear hf hrep cg0
      go_wp2_with fail
      refine HCS.out.mono ?_
      rintro e w1 ⟨xo, xA, xn, xc, rfl, hsg, hownx, hb1⟩
      have HCV := Lib.hid (show covP f a b xo by unfold segF at hsg; rw [if_pos HMB.out] at hsg; exact hsg)
      have hxo := segF_len hsg
      have HIT := Lib.hid (own_lies hownx)
      have hxn : xo.length = xn := Itm.count HIT.out
      have HXG := Lib.hid (own_ge hownx)
      have HXL := Lib.hid (fun k (hk : (Value.slice xA xn xc).ownBlock = some k) => own_lt hownx hk)
      have HB1 := Lib.hid (HB.out.trans (hb1.mono HB.out.size))
      have HO1 := Lib.hid (own_keep HO.out hb1)
      have HOT1 := Lib.hid (own_keep HOT.out hb1)
      have HX1 := Lib.hid (HX.out.keep hb1)
      have HTS1 := Lib.hid (HTS.out.off (Off.of (F := fun _ => False) hb1) fun _ _ e => e)
      have hs1 := hb1.size
      clear hsg hownx hb1 x0 x1 cg hgl
      go_upto_region 10 with fail
      go_loopg [5, 32] xn (fun k2 v z w2 => ∃ (kk n2 c2 : Nat) (A2 : Option Addr), v = .slice A2 n2 c2 ∧ z = .int .i64 (kk : Int) ∧ kk ≤ xn ∧ n2 ≤ nE + kk ∧ Hid (w2.ownsRow (hx + 1) 3 1 (.slice A2 n2 c2) n2 (ints (beginsAll sgs ++ begsT xo kk))) ∧ Hid (k2 = xn - kk) ∧ Hid (Off (fun k => (Value.slice AE nE cE).ownBlock = some k) w1 w2) ∧ Hid (∀ k, (Value.slice A2 n2 c2).ownBlock = some k → (Value.slice AE nE cE).ownBlock = some k ∨ w1.heap.size ≤ k))
      case atStart => exact ⟨0, nE, cE, AE, rfl, rfl, by omega, by omega, Lib.hid (by rw [begsT_zero, List.append_nil]; exact HO1.out), Lib.hid rfl, Lib.hid (Off.refl _ _), Lib.hid (fun k hk => .inl hk)⟩
      case round =>
        obtain ⟨kk, n2, c2, A2, rfl, rfl, hkk, hn2, HO2, HK2, HOF, HA2⟩ := hrel
        have HOB2 := Lib.hid (own_ge HO2.out)
        by_cases hl2 : kk < xn
        · obtain ⟨gx, ox, y, rfl, hy, hgx, d0, d1, d2⟩ := Itm.get (HOF.out.lies HIT.out (fun _ ad e e' => by have h1 := HXG.out ad.block (by rw [e]; rfl); have h2 := HOL.out _ e'; omega)) hl2
          have HST := Lib.hid (begsT_more hy)
          obtain ⟨y1, y2, y3⟩ := y
          simp only [] at d0 d1 d2
          have e0 : decide ((kk : Int) < (xn : Int)) = true := decide_eq_true (by omega)
          have e1 : (0 : Int) ≤ (kk : Int) := by omega
          have e2 : (kk : Int) < (xn : Int) := by omega
          have e3 : ((kk : Int)).toNat = kk := by omega
          have e4 : decide ((kk : Int) < 0) = false := decide_eq_false (by omega)
          clear hy
          go_upto_region 12 with fail
          have HY := Lib.hid (Blk.new wr #[.int .i64 y1, .int .i64 y2, .int .i64 y3] 45)
          have HBY := Lib.hid (show Below wr.heap.size wr _ from (Below.refl wr.heap.size wr).alloc (Nat.le_refl _) (.cells #[.int .i64 y1, .int .i64 y2, .int .i64 y3] 45))
          obtain ⟨hy, hhy⟩ : ∃ k, wr.heap.size = k := ⟨_, rfl⟩
          have HHY := Lib.hid hhy
          rw [hhy] at HY ⊢
          clear hhy d0 d1 d2 hgx
          generalize wr.alloc (.cells #[.int .i64 y1, .int .i64 y2, .int .i64 y3] 45) = wy at *
          have HOY := Lib.hid (own_keep HO2.out HBY.out)
          have y0 := HY.out.get 0 rfl
          have hsy := HBY.out.size
          have hs2 := HOF.out.size
          have hsb := HB1.out.size
          have hwx := HHX.out
          go_wp2_with (at_builtin; refine wpList_app2 rfl _ _ 54 rfl (ints [y1]) elem_int12 rfl (HOY.out.alloc (.cells (ints [y1]).toArray 3)) rfl rfl (new_cells wy (ints [y1]) 3) (ints_one _) (by omega) (by unfold maxLen; omega) (by simp; omega) ?_)
          intro v4 w4 hown4 hg4 hat4
          have hoff4 := (Off.of (F := fun k => (Value.slice A2 n2 c2).ownBlock = some k) (HBY.out.trans (((Below.refl _ wy).alloc (Nat.le_refl _) (.cells (ints [y1]).toArray 3)).mono hsy))).trans (Off.grown (v := .slice A2 n2 c2) hg4)
          have HOF4 := Lib.hid (HOF.out.turn hoff4 fun k hk => HA2.out k hk)
          obtain ⟨A4, d4, rfl, _⟩ := Lies.of_own hown4 (by have := hown4.1; exact this)
          have HA4 := Lib.hid (show ∀ k, (Value.slice A4 (n2 + 1) d4).ownBlock = some k → (Value.slice AE nE cE).ownBlock = some k ∨ w1.heap.size ≤ k from fun k hk => by
            rcases hat4 k hk with h | h
            · exact HA2.out k h
            · right; first | omega | (rw [size_alloc] at h; omega) | (simp at h; omega))
          have HO4 := Lib.hid hown4
          clear hown4 hg4 hat4 hoff4 y0
          go_wp2_with fail
          go_roundg (xn - (kk + 1))
          case measure => rw [HK2.out]; omega
          case rel => exact ⟨kk + 1, n2 + 1, d4, A4, rfl, val_int (by omega), by omega, by omega, Lib.hid (by rw [HST.out, ← List.append_assoc, ints_append]; exact HO4.out), Lib.hid rfl, HOF4, HA4⟩
        · have e0 : decide ((kk : Int) < (xn : Int)) = false := decide_eq_false (by omega)
          have HFU := Lib.hid (begsT_all (l := xo) (k := kk) (by omega))
          have HOE := Lib.hid (show wr.ownsRow (hx + 1) 3 1 (.slice A2 n2 c2) n2 (ints (beginsAll (sgs ++ [xo]))) from by have := HO2.out; rw [HFU.out] at this; rw [beginsAll_snoc]; exact this)
          have HOL2 := Lib.hid (fun k (hk : (Value.slice A2 n2 c2).ownBlock = some k) => own_lt HO2.out hk)
          have HOT2 := Lib.hid (HOF.out.own HOT1.out fun k hk e => HET.out k e hk)
          have HX2 := Lib.hid (HOF.out.blk HX1.out fun e => by have := HOB.out hx e; omega)
          have HTS2 := Lib.hid (HTS1.out.off HOF.out fun k hk => (HZ.out k hk).2.1)
          have HIT2 := Lib.hid (HOF.out.lies HIT.out (fun _ ad e e' => by have h1 := HXG.out ad.block (by rw [e]; rfl); have h2 := HOL.out _ e'; omega))
          have HB2 := Lib.hid (HB1.out.trans (HOF.out.below HB1.out.size fun k hk => by have := HOB.out k hk; have := HHX.out; omega))
          have hs2 := HOF.out.size
          have hxs := HX.out.sz
          clear HO1 HOT1 HX1 HTS1
          go_wp2_with fail
          refine (rfalong_any xA xn xc wr).mono ?_
          rintro e w6 ⟨rfl, hw6⟩
          have HG6 := Lib.hid (show Blk w6 wr.heap.size #[.slice xA xn xc] from by rw [hw6]; exact Blk.new wr #[.slice xA xn xc] 40)
          have hz6 : w6.heap.size = wr.heap.size + 1 := by rw [hw6]; simp
          have HB6 := Lib.hid (show Below wr.heap.size wr w6 from by rw [hw6]; exact (Below.refl _ wr).alloc (Nat.le_refl _) _)
          clear hw6
          obtain ⟨gT, hgT⟩ : ∃ k, wr.heap.size = k := ⟨_, rfl⟩
          rw [hgT] at HG6 hz6 ⊢
          have hz6a : gT + 1 ≤ w6.heap.size := by omega
          have hz6b : w6.heap.size ≤ gT + 1 := by omega
          clear hz6
          have HOT6 := Lib.hid (own_keep HOT2.out HB6.out)
          have HOE6 := Lib.hid (own_keep HOE.out HB6.out)
          have HX6 := Lib.hid (HX2.out.keep HB6.out)
          have HT6 := Lib.hid (show TelR (fun k => (Value.slice xA xn xc).ownBlock = some k) f b a gT w6 from ⟨xA, xn, xc, xo, a, HG6.out, HIT2.out.keep HB6.out, HCV.out, Int.le_refl _, fun ad e => by rw [e]; rfl⟩)
          have HTS6 := Lib.hid ((HTS2.out.off (Off.of (F := fun _ => False) HB6.out) fun _ _ e => e).snoc HT6.out (fun k hk => by
            have h1 := HXG.out k hk
            have h2 := HXL.out k hk
            exact ⟨fun e => by have := HTS.out.lt k (.inl e); omega, fun e => by have := HTS.out.lt k (.inr e); omega, by omega⟩)
            ⟨fun e => by have := HTS.out.lt gT (.inl e); omega, fun e => by have := HXL.out gT e; omega, fun e => by have := HTS.out.lt gT (.inr e); omega, by omega⟩)
          have HB6W := Lib.hid (HB2.out.trans (HB6.out.mono HB2.out.size))
          have hwx := HHX.out
          clear HOT2 HX2 HTS2 HIT2 HG6 HT6
          go_wp2_with (at_builtin; refine wpList_app2 rfl _ _ 73 rfl (tells 45 [gT]) elem_tell rfl (HOT6.out.alloc (.cells (tells 45 [gT]).toArray 74)) rfl rfl (new_cells w6 (tells 45 [gT]) 74) (tells_plain _ _) (by omega) (by unfold maxLen; omega) (by simp; omega) ?_)
          intro v7 w7 hown7 hg7 hat7
          have hoff7 := (Off.of (F := fun k => (Value.slice AT ti cT).ownBlock = some k) ((Below.refl _ w6).alloc (Nat.le_refl _) (.cells (tells 45 [gT]).toArray 74))).trans (Off.grown (v := .slice AT ti cT) hg7)
          obtain ⟨A7, d7, rfl, _⟩ := Lies.of_own hown7 (by have := hown7.1; exact this)
          have HAT7 := Lib.hid (show ∀ k, (Value.slice A7 (ti + 1) d7).ownBlock = some k → (Value.slice AT ti cT).ownBlock = some k ∨ gT + 1 ≤ k from fun k hk => by
            rcases hat7 k hk with h | h
            · exact .inl h
            · right; first | omega | (rw [size_alloc] at h; omega) | (simp at h; omega))
          have HOT7 := Lib.hid (show w7.ownsRow (hx + 1) 74 1 (.slice A7 (ti + 1) d7) (ti + 1) (tells 45 (gs ++ [gT])) from by rw [tells_append]; exact hown7)
          have HOE7 := Lib.hid (hoff7.own HOE6.out fun k hk e => by
            have h1 := HOTL.out k e
            rcases HA2.out k hk with h | h
            · exact HET.out k h e
            · omega)
          have HX7 := Lib.hid (hoff7.blk HX6.out fun e => by have := HOTB.out hx e; omega)
          have HTS7 := Lib.hid (HTS6.out.off hoff7 fun k hk e => by
            have h1 := HOTL.out k e
            rcases hk with (hk | hk) | hk
            · exact (HZ.out k (.inl hk)).2.2 e
            · have := HXG.out k hk; omega
            · rcases List.mem_append.1 hk with hk | hk
              · exact (HZ.out k (.inr hk)).2.2 e
              · have : k = gT := by simpa using hk
                omega)
          have HB7 := Lib.hid (HB6W.out.trans (hoff7.below HB6W.out.size fun k hk => by have := HOTB.out k hk; omega))
          have HZ7 := Lib.hid (show ∀ k, (R k ∨ (Value.slice xA xn xc).ownBlock = some k) ∨ k ∈ gs ++ [gT] → hx < k ∧ ¬ (Value.slice A2 n2 c2).ownBlock = some k ∧ ¬ (Value.slice A7 (ti + 1) d7).ownBlock = some k from fun k hk => by
            have elder : (R k ∨ k ∈ gs) → hx < k ∧ ¬ (Value.slice A2 n2 c2).ownBlock = some k ∧ ¬ (Value.slice A7 (ti + 1) d7).ownBlock = some k := fun h => by
              have h1 := HTS.out.lt k h
              obtain ⟨h2, h3, h4⟩ := HZ.out k h
              refine ⟨h2, fun e => ?_, fun e => ?_⟩
              · rcases HA2.out k e with e | e
                · exact h3 e
                · omega
              · rcases HAT7.out k e with e | e
                · exact h4 e
                · omega
            rcases hk with (hk | hk) | hk
            · exact elder (.inl hk)
            · have h1 := HXG.out k hk
              have h2 := HXL.out k hk
              refine ⟨by omega, fun e => ?_, fun e => ?_⟩
              · rcases HA2.out k e with e | e
                · have := HOL.out k e; omega
                · omega
              · rcases HAT7.out k e with e | e
                · have := HOTL.out k e; omega
                · omega
            · rcases List.mem_append.1 hk with hk | hk
              · exact elder (.inr hk)
              · have hk : k = gT := by simpa using hk
                refine ⟨by omega, fun e => ?_, fun e => ?_⟩
                · have := HOL2.out k e; omega
                · rcases HAT7.out k e with e | e
                  · have := HOTL.out k e; omega
                  · omega)
          have HET7 := Lib.hid (show ∀ k, (Value.slice A2 n2 c2).ownBlock = some k → ¬ (Value.slice A7 (ti + 1) d7).ownBlock = some k from fun k hk e => by
            have h0 := HOL2.out k hk
            rcases HAT7.out k e with e | e
            · have h1 := HOTL.out k e
              rcases HA2.out k hk with h | h
              · exact HET.out k h e
              · omega
            · omega)
          have HSG7 := Lib.hid (show ∀ (j : Nat) (f : Int → Int) (s : ItL), fs[j]? = some f → (sgs ++ [xo])[j]? = some s → covP f a b s from fun j f' s h1 h2 => by
            by_cases hj : j < sgs.length
            · rw [List.getElem?_append_left hj] at h2; exact HSG.out j f' s h1 h2
            · have h3 := HSL.out
              have hj2 : j = ti := by
                have := (List.getElem?_eq_some_iff.1 h2).1
                simp at this; omega
              rw [hj2] at h1 h2
              rw [List.getElem?_append_right (by omega), h3, Nat.sub_self] at h2
              have e1 : f' = f := by rw [HF.out] at h1; exact (Option.some.inj h1).symm
              have e2 : s = xo := by simpa using h2.symm
              rw [e1, e2]; exact HCV.out)
          have HTK := Lib.hid (show fs.take (ti + 1) = fs.take ti ++ [f] from by rw [List.take_add_one, HF.out]; rfl)
          clear hown7 hg7 hat7 hoff7
          go_wp2_with fail
          go_roundg (N - (ti + 1))
          case measure => rw [HKK.out]; omega
          case rel => exact ⟨ti + 1, n2, c2, d7, A2, A7, sgs ++ [xo], gs ++ [gT], fun k => R k ∨ (Value.slice xA xn xc).ownBlock = some k, rfl, rfl, val_int (by omega), by omega, by omega, HOE7, HOT7, Lib.hid rfl, Lib.hid (by rw [List.length_append, HSL.out]; rfl), HSG7, Lib.hid (by rw [HTK.out]; exact HTS7.out), HZ7, HET7, HX7, HB7⟩
    · have hiN : ti = N := by omega
      subst hiN
      have i0 : decide ((ti : Int) < (ti : Int)) = false := decide_eq_false (by omega)
      have HFL := Lib.hid HTL.out.1
      have HTSF := Lib.hid (show TelsR R gs fs b a wr from by have := HTS.out; rwa [List.take_of_length_le (by rw [HFL.out]; exact Nat.le_refl _)] at this)
      have x0 := HX.out.get 0 rfl
      have x1 := HX.out.get 1 rfl
      have HLR := Lib.hid (own_lies HO.out)
      have HNE := Lib.hid (show nE ≤ 1000000000 by omega)
      have HLL := Lib.hid (show fs.length = sgs.length by rw [HSL.out]; exact HFL.out)
      go_wp2_with fail
      refine (rfcut_any HKS.out HKC.out AE nE cE (beginsAll sgs) a b wr HLR.out HNE.out).mono ?_
      rintro e w3 ⟨pcs, AP, nP, cP, rfl, hcut, hownP, hb3⟩
      have hcp : cutP (beginsAll sgs) b a b pcs := by unfold cutS at hcut; rw [if_pos HMB.out] at hcut; exact hcut
      have HRI := Lib.hid (cutP_at hcp)
      have HPS := Lib.hid (partsF_of HMB.out HLL.out HSG.out (cutP_mem (fun x hx => begins_mem hx fs sgs HLL.out HSG.out) hcp))
      have hnp0 : pcs.length ≤ 4000000 := by
        have h1 := cutP_len hcp
        have h2 := mayB_iff.1 HMB.out
        omega
      have HSP := Lib.hid (own_lies hownP)
      have HPG := Lib.hid (show ∀ ad, AP = some ad → ad.block ∉ gs from fun ad e h => by
        have h1 := own_ge hownP ad.block (by rw [e]; rfl)
        have h2 := HTS.out.lt _ (.inr h)
        omega)
      have HB3 := Lib.hid (HB.out.trans (hb3.mono HB.out.size))
      have HPN := Lib.hid (show pcs.length = nP by have := hownP.1; rw [cells2_len] at this; omega)
      have hs3 := hb3.size
      have hnp : nP ≤ 4000000 := by have := HPN.out; omega
      have HTS3 := Lib.hid (HTSF.out.off (Off.of (F := fun _ => False) hb3) fun _ _ e => e)
      have HLT3 := Lib.hid (show Lies w3 1 AT ti cT (tells 45 gs) from (own_lies HOT.out).keep hb3)
      have HATG := Lib.hid (show ∀ ad, AT = some ad → ad.block ∉ gs from fun ad e h => (HZ.out ad.block (.inr h)).2.2 (by rw [e]; rfl))
      have HGW := Lib.hid (show ∀ k, R k ∨ k ∈ gs → hx < k ∧ k < wr.heap.size from fun k hk => ⟨(HZ.out k hk).1, HTS.out.lt k hk⟩)
      clear hnp0 hcut hcp hownP hb3 x0 x1
      obtain ⟨H0, hH0⟩ : ∃ k, wr.heap.size = k := ⟨_, rfl⟩
      rw [hH0] at HGW hs3
      clear hH0
      go_upto_region 18 with fail
      obtain ⟨B3, hB3⟩ : ∃ k, w3.heap.size = k := ⟨_, rfl⟩
      have HB3E := Lib.hid hB3
      rw [hB3] at hs3
      clear hB3
      go_loopg [12, 52] nP (fun k3 v z w4 => ∃ (k cO : Nat) (AO : Option Addr) (qs : List PtQ) (m : Int), v = .slice AO k cO ∧ z = .int .i64 (k : Int) ∧ k ≤ nP ∧ Hid (w4.ownsRow B3 62 3 (.slice AO k cO) k (cellsP qs)) ∧ Hid (k3 = nP - k) ∧ Hid (PtsIn w4 qs ((pcs.take k).map fun s => (s.1, s.2, fs.map (· s.1)))) ∧ Hid (∀ q ∈ qs, ∀ j, q.2.2.ownBlock = some j → B3 ≤ j ∧ j < w4.heap.size ∧ ¬ (Value.slice AO k cO).ownBlock = some j) ∧ Hid (TelsR R gs fs b m w4) ∧ Hid (∀ s, pcs[k]? = some s → m ≤ s.1) ∧ Hid (Off (fun k => k ∈ gs) w3 w4))
      case atStart => exact ⟨0, 0, none, [], a, rfl, rfl, by omega, Lib.hid (World.ownsRow_nil _ _ _ _), Lib.hid rfl, Lib.hid ⟨rfl, fun i q p h => by simp at h⟩, Lib.hid (fun q hq => by cases hq), HTS3, Lib.hid (fun s hs => (HRI.out 0 s hs).1), Lib.hid (Off.refl _ _)⟩
      case round =>
        clear HX HB HO HOT HOB HOTB HOL HOTL HKK HTS HZ HET HTSF HLR HTS3 HSG HSL
        obtain ⟨k, cO, AO, qs, m, rfl, rfl, hk, HO, HK3, HPT, HQ, HTS, HMD, HOF⟩ := hrel
        have HOB := Lib.hid (own_ge HO.out)
        have HQL := Lib.hid (show qs.length = k by have := HO.out.1; rw [cellsP_len] at this; omega)
        have HSP4 := Lib.hid (HOF.out.lies HSP.out fun _ ad e => HPG.out ad e)
        by_cases hlt2 : k < nP
        · obtain ⟨gP, oP, s0, hAP, hs0, hgP, c0, c1⟩ := Spn.get HSP4.out hlt2
          subst hAP
          have HS0 := Lib.hid hs0
          obtain ⟨hf1, hf2, hf3⟩ := HRI.out k s0 hs0
          have HM3 := Lib.hid (show ∀ s, pcs[k + 1]? = some s → s0.1 ≤ s.1 from hf3)
          have HMS := Lib.hid (HMD.out s0 hs0)
          obtain ⟨f0, t0⟩ := s0
          simp only [] at c0 c1 hf1 hf2
          have e0 : decide ((k : Int) < (nP : Int)) = true := decide_eq_true (by omega)
          have e1 : (0 : Int) ≤ (k : Int) := by omega
          have e2 : (k : Int) < (nP : Int) := by omega
          have e3 : ((k : Int)).toNat = k := by omega
          have e4 : decide ((k : Int) < 0) = false := decide_eq_false (by omega)
          clear hs0 hf3
          go_upto_region 20 with fail
          obtain ⟨w4, hw4⟩ : ∃ v, v = wr := ⟨_, rfl⟩
          subst wr
          obtain ⟨hq, hhq⟩ : ∃ k, w4.heap.size = k := ⟨_, rfl⟩
          have HHQ := Lib.hid hhq
          have HQ0 := Lib.hid (Blk.new w4 #[.int .i64 f0, .int .i64 t0] 24)
          have HBQ := Lib.hid (show Below w4.heap.size w4 _ from (Below.refl w4.heap.size w4).alloc (Nat.le_refl _) (.cells #[.int .i64 f0, .int .i64 t0] 24))
          rw [hhq] at HQ0 ⊢
          clear hhq c0 c1 hgP
          generalize w4.alloc (.cells #[.int .i64 f0, .int .i64 t0] 24) = wq at *
          have y0 := HQ0.out.get 0 rfl
          have y1 := HQ0.out.get 1 rfl
          have hqs := HQ0.out.sz
          go_upto_region 21 with fail
          obtain ⟨hp, hhp⟩ : ∃ k, wq.heap.size = k := ⟨_, rfl⟩
          rw [hhp] at hqs
          have HP0 := Lib.hid (Blk.new wq #[.int .i64 f0, .int .i64 t0, .slice none 0 0] 62)
          have HBP := Lib.hid (show Below wq.heap.size wq _ from (Below.refl wq.heap.size wq).alloc (Nat.le_refl _) (.cells #[.int .i64 f0, .int .i64 t0, .slice none 0 0] 62))
          have HQ1 := Lib.hid (HQ0.out.keep HBP.out)
          rw [hhp] at HP0 ⊢
          clear hhp y0 y1
          generalize wq.alloc (.cells #[.int .i64 f0, .int .i64 t0, .slice none 0 0] 62) = wp at *
          have HOF5 := Lib.hid (show Off (fun k => k ∈ gs) w4 wp from (Off.of HBQ.out).later HBP.out)
          have HTS5 := Lib.hid ((HTS.out.later HMS.out).off (Off.of (F := fun _ => False) (HBQ.out.trans (HBP.out.mono HBQ.out.size))) fun _ _ e => e)
          have hs4 := HOF.out.size
          rw [HB3E.out] at hs4
          have hhq := HHQ.out
          have HGB := Lib.hid (show ∀ k, R k ∨ k ∈ gs → k < hq from fun k hk => by have := HTS.out.lt k hk; omega)
          go_upto_region 22 with fail
          go_loopg [63] ti (fun k4 z w5 => ∃ (j cV : Nat) (AV : Option Addr), z = .int .i64 (j : Int) ∧ j ≤ ti ∧ Hid (w5.ownsRow (hp + 1) 3 1 (.slice AV j cV) j (ints ((fs.take j).map (· f0)))) ∧ Hid (k4 = ti - j) ∧ Hid (Blk w5 hp #[.int .i64 f0, .int .i64 t0, .slice AV j cV]) ∧ Hid (Blk w5 hq #[.int .i64 f0, .int .i64 t0]) ∧ Hid (TelsR R gs fs b f0 w5) ∧ Hid (Off (fun k => k ∈ gs) w4 w5))
          case atStart => exact ⟨0, 0, none, rfl, by omega, Lib.hid (World.ownsRow_nil _ _ _ _), Lib.hid rfl, HP0, HQ1, HTS5, HOF5⟩
          case round =>
            clear HP0 HBP HQ0 HBQ HQ1 HTS5 HOF5
            obtain ⟨j, cV, AV, rfl, hj, HOV, HK4, HP5, HQ5, HTS5, HOF5⟩ := hrel
            have HOVB := Lib.hid (own_ge HOV.out)
            have HOVL := Lib.hid (fun q (hq : (Value.slice AV j cV).ownBlock = some q) => own_lt HOV.out hq)
            by_cases hlt3 : j < ti
            · obtain ⟨gA, oA, hAT, hgA, hcA⟩ := (HOF5.out.lies (HOF.out.lies HLT3.out fun _ ad e => HATG.out ad e) fun _ ad e => HATG.out ad e).at_ (by omega)
              subst hAT
              obtain ⟨g, hg⟩ : ∃ g, gs[j]? = some g := ⟨gs[j]'(by rw [HTS5.out.len, HFL.out]; exact hlt3), List.getElem?_eq_getElem _⟩
              obtain ⟨f, hf⟩ : ∃ f, fs[j]? = some f := ⟨fs[j]'(by rw [HFL.out]; exact hlt3), List.getElem?_eq_getElem _⟩
              have cA := hcA j _ (tells_get hg)
              have HTE := Lib.hid (HTS5.out.each j g f hg hf)
              have HGJ := Lib.hid hg
              have HFJ := Lib.hid hf
              have HRG := Lib.hid (HTS5.out.out g (List.mem_of_getElem? hg))
              have hgm := HGW.out g (.inr (List.mem_of_getElem? hg))
              have hgs := HTE.out.sz
              have d0 : decide ((j : Int) < (ti : Int)) = true := decide_eq_true (by omega)
              have d1 : (0 : Int) ≤ (j : Int) := by omega
              have d2 : (j : Int) < (ti : Int) := by omega
              have d3 : ((j : Int)).toNat = j := by omega
              have d4 : decide ((j : Int) < 0) = false := decide_eq_false (by omega)
              have hps := HP5.out.sz
              have eg : ∀ args w, (callFunc 45 args).run Tryz.prog w = .ok (.enter 45 args) w := enters_of Tryz.func45 (by kernel_rfl) rfl
              have HGV := Lib.hid (show ∀ k, R k ∨ k ∈ gs → ¬ (Value.slice AV j cV).ownBlock = some k from fun k hk e => by have h1 := HOVB.out k e; have h2 := HGB.out k hk; omega)
              clear hg hf hcA
              go_upto_region 24 with fail
              refine wp_region_val 9 (fun S val wx => VVs 9 [(fun vv => vv = .pointer (some ⟨hp, 2, none⟩)), (fun vv => vv = .slice AV j cV), (fun vv => vv = .func (.func 45) #[] #[.pointer (some ⟨g, 0, none⟩)]), (fun vv => vv = .pointer (some ⟨hq, 0, none⟩)), (fun vv => vv = .int .i64 f0), (fun vv => vv = .int .i64 (f f0)), (fun vv => ∃ kb, vv = .slice (some ⟨kb, 0, none⟩) 1 1), (fun vv => ∃ Av cv, vv = .slice Av (j + 1) cv), (fun vv => vv = .pointer (some ⟨hp, 2, none⟩))] S val ∧ Clo [[], [0], [], [], [3], [2, 4], [5], [1, 6], []] S ∧ PvT (hp + 1) 3 AV j cV ((fs.take j).map (· f0)) (f f0) wr g R gs fs b f0 (S 6) (S 7) (val 6) (val 7) wx) [0, 2, 3, 8] (by kernel_rfl) (by kernel_rfl) ⟨VVs.start, Clo.start, (show PvT (hp + 1) 3 AV j cV ((fs.take j).map (· f0)) (f f0) wr g R gs fs b f0 false false undef undef wr.drew from ⟨(Off.refl _ wr).drew, (fun _ => HOV.out.drew), (fun h => by cases h), (fun h => by cases h), (HTS5.out.off (Off.of (F := fun _ => False) ((Below.refl _ wr).drew)) fun _ _ e => e)⟩)⟩ ⟨?_, ?_, ?_, ?_, ?_, ?_, ?_, ?_, ?_, trivial⟩ ?_
              · rintro ev wv S val hE ⟨hV, hK, hw⟩ hS hd
                have hcl := Clo.add hK (i := 0) ((fun _ h => by cases h))
                have v15 : ev (.tmp 15) = .pointer (some ⟨hp, 0, none⟩) := hE.tmp 15 rfl
                refine ifw rfl (ifw rfl ⟨.pointer (some ⟨hp, 2, none⟩), fun w9 => ?_, VVs.add hV rfl, hcl, hw⟩)
                have e1 := hE.const; have e2 := hE.func; clear hE hd hw hS hV hK hcl
                show _ = Result.ok (Next.value (.pointer (some ⟨hp, 2, none⟩))) w9
                go_simp
              · rintro ev wv S val hE ⟨hV, hK, hw⟩ hS hd
                have hcl := Clo.add hK (i := 1) (List.forall_mem_cons.2 ⟨(hd 0 (by decide)).1, (fun _ h => by cases h)⟩)
                have v67 : ev (.tmp 67) = .pointer (some ⟨hp, 2, none⟩) := (hd 0 (by decide)).2.trans (hV 0 (by decide) (hd 0 (by decide)).1)
                have kx := (hw.1.blk HP5.out (fun e => by rcases e with e | e; have := HOVB.out hp e; omega; omega)).get 2 rfl
                refine ifw rfl (ifn rfl ?_)
                refine set_val (u := .slice AV j cV) (w' := wv) ?_ ⟨VVs.add hV rfl, hcl, hw⟩
                have e1 := hE.const; clear hE hd hw hS hV hK hcl
                go_simp
              · rintro ev wv S val hE ⟨hV, hK, hw⟩ hS hd
                have hcl := Clo.add hK (i := 2) ((fun _ h => by cases h))
                have v17 : ev (.tmp 17) = .func (.func 45) #[] #[.pointer (some ⟨g, 0, none⟩)] := hE.tmp 17 rfl
                refine ifw rfl (ifw rfl ⟨.func (.func 45) #[] #[.pointer (some ⟨g, 0, none⟩)], fun w9 => ?_, VVs.add hV rfl, hcl, hw⟩)
                have e1 := hE.const; have e2 := hE.func; clear hE hd hw hS hV hK hcl
                show _ = Result.ok (Next.value (.func (.func 45) #[] #[.pointer (some ⟨g, 0, none⟩)])) w9
                go_simp
              · rintro ev wv S val hE ⟨hV, hK, hw⟩ hS hd
                have hcl := Clo.add hK (i := 3) ((fun _ h => by cases h))
                have v14 : ev (.tmp 14) = .pointer (some ⟨hq, 0, none⟩) := hE.tmp 14 rfl
                refine ifw rfl (ifw rfl ⟨.pointer (some ⟨hq, 0, none⟩), fun w9 => ?_, VVs.add hV rfl, hcl, hw⟩)
                have e1 := hE.const; have e2 := hE.func; clear hE hd hw hS hV hK hcl
                show _ = Result.ok (Next.value (.pointer (some ⟨hq, 0, none⟩))) w9
                go_simp
              · rintro ev wv S val hE ⟨hV, hK, hw⟩ hS hd
                have hcl := Clo.add hK (i := 4) (List.forall_mem_cons.2 ⟨(hd 3 (by decide)).1, (fun _ h => by cases h)⟩)
                have v70 : ev (.tmp 70) = .pointer (some ⟨hq, 0, none⟩) := (hd 3 (by decide)).2.trans (hV 3 (by decide) (hd 3 (by decide)).1)
                have kx := (hw.1.blk HQ5.out (fun e => by rcases e with e | e; have := HOVB.out hq e; omega; omega)).get 0 rfl
                refine ifw rfl (ifn rfl ?_)
                refine set_val (u := .int .i64 f0) (w' := wv) ?_ ⟨VVs.add hV rfl, hcl, hw⟩
                have e1 := hE.const; clear hE hd hw hS hV hK hcl
                go_simp
              · rintro ev wv S val hE ⟨hV, hK, hw⟩ hS hd
                have hcl := Clo.add hK (i := 5) (List.forall_mem_cons.2 ⟨(hd 2 (by decide)).1, List.forall_mem_cons.2 ⟨(hd 4 (by decide)).1, (fun _ h => by cases h)⟩⟩)
                have v69 : ev (.tmp 69) = .func (.func 45) #[] #[.pointer (some ⟨g, 0, none⟩)] := (hd 2 (by decide)).2.trans (hV 2 (by decide) (hd 2 (by decide)).1)
                have v71 : ev (.tmp 71) = .int .i64 f0 := (hd 4 (by decide)).2.trans (hV 4 (by decide) (hd 4 (by decide)).1)
                have s6 : S 6 = false := by
                  cases h0 : S 6 with
                  | false => rfl
                  | true =>
                    have q5 := hK 6 h0 5 (by decide)
                    exact absurd q5 (by rw [hS]; decide)
                have s7 : S 7 = false := by
                  cases h0 : S 7 with
                  | false => rfl
                  | true =>
                    have q6 := hK 7 h0 6 (by decide)
                    have q5 := hK 6 q6 5 (by decide)
                    exact absurd q5 (by rw [hS]; decide)
                refine ifw rfl (ifn rfl ?_)
                refine set_call (f := 45) (args := #[.int .i64 f0, .pointer (some ⟨g, 0, none⟩)]) ?_ (rftell_any (hw.2.2.2.2.each j g f HGJ.out HFJ.out) HRG.out hf2) ?_
                · have e0 := hE.func; have e1 := hE.const; clear hE hd hw hS hV hK hcl
                  go_simp
                · rintro e w' ⟨rfl, ht, ho⟩
                  exact ⟨_, rfl, VVs.add hV (rfl), hcl, ⟨hw.1.trans (ho.mono fun k _ e => .inr e), (fun h => ho.own (hw.2.1 h) fun q hq e => by have h1 := HOVB.out q hq; omega), (fun h => by rw [show addS S 5 6 = S 6 from rfl, s6] at h; cases h), (fun h => by rw [show addS S 5 7 = S 7 from rfl, s7] at h; cases h), hw.2.2.2.2.tell HGJ.out HFJ.out ht ho⟩⟩
              · rintro ev wv S val hE ⟨hV, hK, hw⟩ hS hd
                have hcl := Clo.add hK (i := 6) (List.forall_mem_cons.2 ⟨(hd 5 (by decide)).1, (fun _ h => by cases h)⟩)
                have v72 : ev (.tmp 72) = .int .i64 (f f0) := (hd 5 (by decide)).2.trans (hV 5 (by decide) (hd 5 (by decide)).1)
                refine ifw rfl (ifn rfl ?_)
                refine set_val (u := .slice (some ⟨wv.heap.size, 0, none⟩) 1 1) (w' := wv.alloc (.cells #[.int .i64 (f f0)] 3)) ?_ ⟨VVs.add hV ⟨_, rfl⟩, hcl, ⟨hw.1.later ((Below.refl _ wv).alloc (Nat.le_refl _) _), (fun h => (hw.2.1 h).alloc _), (fun _ => ⟨_, rfl, Blk.new wv _ _, hw.1.size⟩), (fun h => by obtain ⟨A', c', g1, g2, g3⟩ := hw.2.2.2.1 h; exact ⟨A', c', g1, g2.alloc _, g3⟩), hw.2.2.2.2.off (Off.of (F := fun _ => False) ((Below.refl _ wv).alloc (Nat.le_refl _) _)) fun _ _ e => e⟩⟩
                have e1 := hE.const; clear hE hd hw hS hV hK hcl
                go_simp
              · rintro ev wv S val hE ⟨hV, hK, hw⟩ hS hd
                have hcl := Clo.add hK (i := 7) (List.forall_mem_cons.2 ⟨(hd 1 (by decide)).1, List.forall_mem_cons.2 ⟨(hd 6 (by decide)).1, (fun _ h => by cases h)⟩⟩)
                have v68 : ev (.tmp 68) = .slice AV j cV := (hd 1 (by decide)).2.trans (hV 1 (by decide) (hd 1 (by decide)).1)
                obtain ⟨kb6, g6⟩ := hV 6 (by decide) (hd 6 (by decide)).1
                have v73 : ev (.tmp 73) = .slice (some ⟨kb6, 0, none⟩) 1 1 := (hd 6 (by decide)).2.trans g6
                obtain ⟨kb, hk1, hk2, hk3⟩ := hw.2.2.1 (hd 6 (by decide)).1
                have hkk : kb6 = kb := by
                  rw [hk1] at g6
                  injection g6 with g6 _ _
                  injection g6 with g6
                  injection g6 with g6 _ _
                  exact g6.symm
                subst hkk
                obtain ⟨TB, hTB⟩ := hk2.blk
                have hpz := HP5.out.sz
                have hwz := hw.1.size
                obtain ⟨v9, w9, hr9, ho9, hg9, ha9⟩ := run_app2 (P := Tryz.prog) (ty := 54) (t := 54) (c := 1) (m := 1) (ad := ⟨kb6, 0, none⟩) elem_int12 (hw.2.1 hS) (ys := ints [f f0]) rfl (cells_block (ys := ints [f f0]) hTB) (ints_one _) (by omega) (by unfold maxLen; omega) (by omega)
                obtain ⟨A9, c9, rfl, _⟩ := Lies.of_own ho9 (by have := ho9.1; exact this)
                refine ifw rfl (ifn rfl ?_)
                refine set_val (u := .slice A9 (j + 1) c9) (w' := w9) ?_ ⟨VVs.add hV ⟨A9, c9, rfl⟩, hcl, ⟨hw.1.trans ((Off.grown (v := .slice AV j cV) hg9).mono fun k _ e => .inl e), (fun h => by simp [addS] at h), (fun _ => ⟨kb6, hk1, (Off.grown (v := .slice AV j cV) hg9).blk hk2 (fun e => by have := HOVL.out kb6 e; omega), hk3⟩), (fun _ => ⟨A9, c9, rfl, by rw [ints_append]; exact ho9, fun q hq => (ha9 q hq).imp_right (fun h => Nat.le_trans hwz h)⟩), hw.2.2.2.2.off (Off.grown (v := .slice AV j cV) hg9) (fun k hk e => HGV.out k hk e)⟩⟩
                have e1 := hE.const; clear hE hd hw hS hV hK hcl
                unfold execOp
                simp only [resolve, invoke, builtin, Sem.run_bind, Sem.run_pure, Result.andThen_ok, List.map_toArray, List.map_cons, List.map_nil, v68, v73, hr9]
              · rintro ev wv S val hE ⟨hV, hK, hw⟩ hS hd
                have hcl := Clo.add hK (i := 8) ((fun _ h => by cases h))
                have v15 : ev (.tmp 15) = .pointer (some ⟨hp, 0, none⟩) := hE.tmp 15 rfl
                refine ifw rfl (ifw rfl ⟨.pointer (some ⟨hp, 2, none⟩), fun w9 => ?_, VVs.add hV rfl, hcl, hw⟩)
                have e1 := hE.const; have e2 := hE.func; clear hE hd hw hS hV hK hcl
                show _ = Result.ok (Next.value (.pointer (some ⟨hp, 2, none⟩))) w9
                go_simp
              · rintro S val wz hS ⟨hV, hK, hw⟩
                have e0 : val 0 = .pointer (some ⟨hp, 2, none⟩) := hV 0 (by decide) (hS 0 (by decide))
                have e1 : val 1 = .slice AV j cV := hV 1 (by decide) (hS 1 (by decide))
                have e2 : val 2 = .func (.func 45) #[] #[.pointer (some ⟨g, 0, none⟩)] := hV 2 (by decide) (hS 2 (by decide))
                have e3 : val 3 = .pointer (some ⟨hq, 0, none⟩) := hV 3 (by decide) (hS 3 (by decide))
                have e4 : val 4 = .int .i64 f0 := hV 4 (by decide) (hS 4 (by decide))
                have e5 : val 5 = .int .i64 (f f0) := hV 5 (by decide) (hS 5 (by decide))
                obtain ⟨kb6, e6⟩ := hV 6 (by decide) (hS 6 (by decide))
                obtain ⟨Av7, cv7, e7⟩ := hV 7 (by decide) (hS 7 (by decide))
                have e8 : val 8 = .pointer (some ⟨hp, 2, none⟩) := hV 8 (by decide) (hS 8 (by decide))
                intro v0 h0 u0 v1 h1 u1 v2 h2 u2 v3 h3 u3 v4 h4 u4 v5 h5 u5 v6 h6 u6 v7 h7 u7 v8 h8 u8
                simp only [Act.put, List.setIfInBounds_toArray, List.set_cons_zero, List.set_cons_succ, List.drop_succ_cons, List.drop_zero]
                simp only [h0.trans e0, h1.trans e1, h2.trans e2, h3.trans e3, h4.trans e4, h5.trans e5, h6.trans e6, h7.trans e7, h8.trans e8]
                clear hV h0 e0 u0 v0 h1 e1 u1 v1 h2 e2 u2 v2 h3 e3 u3 v3 h4 e4 u4 v4 h5 e5 u5 v5 h6 e6 u6 v6 h7 u7 v7 h8 e8 u8 v8
                change wpList Tryz.prog _ _ _ _ wz
                obtain ⟨hOff, hX1, hX2, h13, hTS⟩ := hw
                obtain ⟨A9, c9, g1, g2, g3⟩ := h13 (hS 7 (by decide))
                have hAc : Av7 = A9 ∧ cv7 = c9 := by
                  rw [e7] at g1
                  injection g1 with g1 _ g3
                  exact ⟨g1, g3⟩
                obtain ⟨rfl, rfl⟩ := hAc
                have hno : ∀ q, q = hp ∨ q = hq → ¬ ((Value.slice AV j cV).ownBlock = some q ∨ q = g) := fun q hq' e => by
                  rcases e with e | e
                  · have := HOVB.out q e; omega
                  · omega
                have hPz := hOff.blk HP5.out (hno hp (.inl rfl))
                have hQz := hOff.blk HQ5.out (hno hq (.inr rfl))
                have HGE := Lib.hid (own_ge g2)
                have hset : Off (· = hp) wz (wz.setCell ⟨hp, 2, none⟩ (.slice Av7 (j + 1) cv7)) := Off.set (F := (· = hp)) (a := ⟨hp, 2, none⟩) rfl _
                have HO6 := Lib.hid (show (wz.setCell ⟨hp, 2, none⟩ (.slice Av7 (j + 1) cv7)).ownsRow (hp + 1) 3 1 (.slice Av7 (j + 1) cv7) (j + 1) (ints ((fs.take (j + 1)).map (· f0))) from by
                  rw [List.take_add_one, HFJ.out, List.map_append]
                  exact hset.own g2 (fun q hq e => by have := HGE.out q hq; omega))
                have HP6 := Lib.hid (hPz.set 2 (.slice Av7 (j + 1) cv7))
                have HQ6 := Lib.hid (hset.blk hQz (by omega))
                have HTS6 := Lib.hid (hTS.off hset fun k hk e => by have := HTS5.out.lt k hk; have := HGB.out k hk; omega)
                have HOF6 := Lib.hid ((HOF5.out.turn hOff fun k hk => by
                  rcases hk with hk | hk
                  · right; have := HOVB.out k hk; have := HHQ.out; omega
                  · left; rw [hk]; exact List.mem_of_getElem? HGJ.out).turn hset fun k hk => by right; have := HHQ.out; omega)
                have y2 := hPz.get 2 rfl
                have z2 := hPz.f 2
                clear hOff hX1 hX2 h13 hTS g1 g2 g3 hPz hQz hset hno e7 hS hK
                go_wp2_with fail
                refine calm_normal ?_
                go_wp2_with fail
                go_roundg (ti - (j + 1))
                case measure => rw [HK4.out]; omega
                case rel => exact ⟨j + 1, cv7, Av7, val_int (by omega), by omega, HO6, Lib.hid rfl, HP6, HQ6, HTS6, HOF6⟩
            · have hjN : j = ti := by omega
              have d0 : decide ((j : Int) < (ti : Int)) = false := decide_eq_false (by omega)
              have HLT := Lib.hid (show fs.take j = fs from List.take_of_length_le (by rw [HFL.out]; omega))
              have hlt4 : ∀ q, (Value.slice AO k cO).ownBlock = some q → q < hq := fun q hq' => by have := own_lt HO.out hq'; omega
              have HO5 := Lib.hid (HOF5.out.own HO.out fun q hq' e => by have h1 := HOB.out q hq'; have h2 := HGW.out q (.inr e); omega)
              have y0 := HP5.out.get 0 rfl
              have y1 := HP5.out.get 1 rfl
              have y2 := HP5.out.get 2 rfl
              have hps := HP5.out.sz
              clear hjN
              go_wp2_with (at_builtin; refine wpList_app2 rfl _ _ 51 rfl (cellsP [(f0, t0, .slice AV j cV)]) elem_rpart rfl (HO5.out.alloc (.cells (cellsP [(f0, t0, .slice AV j cV)]).toArray 62)) rfl rfl (new_cells wr (cellsP [(f0, t0, .slice AV j cV)]) 62) (fun u hu => by simp only [cellsP, List.mem_cons, List.not_mem_nil, or_false] at hu; rcases hu with rfl | rfl | rfl <;> rfl) (by omega) (by unfold maxLen; omega) (by simp; omega) ?_)
              intro v7 w7 hown7 hg7 hat7
              have hoff7 := (Off.of (F := fun q => (Value.slice AO k cO).ownBlock = some q) ((Below.refl _ wr).alloc (Nat.le_refl _) (.cells (cellsP [(f0, t0, .slice AV j cV)]).toArray 62))).trans (Off.grown (v := .slice AO k cO) hg7)
              have hov7 := hoff7.own HOV.out (fun q hq' e => by have h1 := HOVB.out q hq'; have h2 := hlt4 q e; omega)
              have HNEW := Lib.hid (show PtIn w7 (f0, t0, .slice AV j cV) (f0, t0, fs.map (· f0)) from ⟨rfl, rfl, AV, j, cV, rfl, by have h1 := own_lies hov7; rw [HLT.out] at h1; exact h1⟩)
              have HPT7 := Lib.hid (((HPT.out.off HOF5.out (fun q hq' kb e e' => by have h1 := HQ.out q hq' kb e; have h2 := HGW.out kb (.inr e'); omega)).off hoff7 (fun q hq' kb e => (HQ.out q hq' kb e).2.2)).snoc HNEW.out)
              have HTS7 := Lib.hid (HTS5.out.off hoff7 fun k' hk' e => by have h1 := HOB.out k' e; have h2 := HGW.out k' hk'; omega)
              have HOF7 := Lib.hid ((HOF.out.turn HOF5.out fun k' hk' => .inl hk').turn hoff7 fun k' hk' => by right; have := HOB.out k' hk'; have := HB3E.out; omega)
              obtain ⟨A7, d7, rfl, _⟩ := Lies.of_own hown7 (by have := hown7.1; exact this)
              have hsz7 := hoff7.size
              have hsz5 := HOF5.out.size
              have HQ7 := Lib.hid (show ∀ q ∈ qs ++ [((f0, t0, .slice AV j cV) : PtQ)], ∀ kb, q.2.2.ownBlock = some kb → B3 ≤ kb ∧ kb < w7.heap.size ∧ ¬ (Value.slice A7 (k + 1) d7).ownBlock = some kb from fun q hq' kb hkb => by
                rcases List.mem_append.1 hq' with hq' | hq'
                · obtain ⟨h0, h1, h2⟩ := HQ.out q hq' kb hkb
                  refine ⟨h0, by omega, fun e => ?_⟩
                  rcases hat7 kb e with h | h
                  · exact h2 h
                  · first | omega | (rw [size_alloc] at h; omega) | (simp at h; omega)
                · have e : q = (f0, t0, .slice AV j cV) := by simpa using hq'
                  rw [e] at hkb
                  have h1 := HOVL.out kb hkb
                  have h3 := HOVB.out kb hkb
                  refine ⟨by omega, by omega, fun e => ?_⟩
                  rcases hat7 kb e with h | h
                  · have := hlt4 kb h; omega
                  · first | omega | (rw [size_alloc] at h; omega) | (simp at h; omega))
              have HO7 := Lib.hid hown7
              clear hown7 hg7 hat7 hoff7 hov7 y0 y1 y2
              go_wp2_with fail
              go_roundg (nP - (k + 1))
              case measure => rw [HK3.out]; omega
              case rel => exact ⟨k + 1, d7, A7, qs ++ [(f0, t0, .slice AV j cV)], f0, rfl, val_int (by omega), by omega, Lib.hid (by rw [cellsP_append]; exact HO7.out), Lib.hid rfl, Lib.hid (by rw [List.take_add_one, HS0.out, List.map_append]; exact HPT7.out), HQ7, HTS7, HM3, HOF7⟩
        · have e0 : decide ((k : Int) < (nP : Int)) = false := decide_eq_false (by omega)
          have HTK := Lib.hid (show pcs.take k = pcs from List.take_of_length_le (by rw [HPN.out]; omega))
          have HWW := Lib.hid (show Below w.heap.size w wr from HB3.out.trans (HOF.out.below HB3.out.size fun k' hk' => by have := HGW.out k' (.inr hk'); have := HHX.out; omega))
          have hB3w : w.heap.size ≤ B3 := by rw [← HB3E.out]; exact HB3.out.size
          go_wp2_with fail
          refine bodyPost_ret (results_tmp rfl _ _ _) rfl ?_
          exact ⟨qs, _, AO, k, cO, rfl, HPS.out, own_low HO.out hB3w, by have := HPT.out; rw [HTK.out] at this; exact this, HWW.out⟩
theorem rfpt_any {Rep : RepL} (K : TlK0 Rep) (KS : SortI) (KC : CompI) (E : Option Addr) (N c : Nat) (fs : List (Int → Int)) (a b : Int) (w : World) (T : LinesP Rep w E N fs) (hN : N ≤ 100) : Calls Tryz.prog 15 #[.agg #[.int .i64 a, .int .i64 b], .slice E N c] w (RetPartsF 62 w fs a b) := by
  cases h : mayB a b with
  | false => exact rfpt_no _ fs a b w h
  | true => exact rfpt_yes K KS KC E N c fs a b w T hN h
end Go.Proofs.YtonfjjmgjgmanaaGreat
