/- Contract of package avl: vacate. (Written by wip/gen/genak13.py.) -/
import Derived.Test.YtmllikffflebmaaAkVac
import Derived.Deep.WholeRow
namespace Go.Proofs.Ytmllikffflebmaa
set_option maxRecDepth 8000
open Go.RowKit Corr
set_option linter.unusedVariables false
set_option linter.unusedSimpArgs false
/-- A whole tree in an arena. -/
structure Whole (K : KnL) (t : PT) (L : ItL) : Prop where
  rp : Rp K t
  bal : t.bal
  nd : t.places.Nodup
  len : t.places.length = K.length
  it : t.items = L
set_option maxHeartbeats 8000000 in
theorem vacate_any (g m c gK q : Nat) (M : Int) (K : KnL) (t : PT) (w : World) (H : Ar 48 w g M t.root (some ⟨gK, 0, none⟩) (m + 1) c K) (h : Rp K t) (nd : (q :: t.places).Nodup) (len : t.places.length = m) (s : srt t.items) (b : t.bal) (hq : q < m + 1) (hn : m ≤ 1500) :
    Calls Try.prog 34 #[.pointer (some ⟨g, 0, none⟩), .int .i64 (q : Int)] w fun e w' => ∃ K' t', e = .returned (.tuple #[]) ∧ Ar 48 w' g M t'.root (some ⟨gK, 0, none⟩) m c K' ∧ Whole K' t' t.items ∧ Off (inAr g (some ⟨gK, 0, none⟩) (m + 1) c) w w' := by
  have HA := Lib.hid H
  have HLEN := Lib.hid H.len
  have hcap := H.cap
  have a2 := H.b.get 2 rfl
  have f2 := H.b.f 2
  have j0 : decide ((m : Int) < 0) = false := decide_eq_false (by omega)
  have j1 : (0 : Int) ≤ (m : Int) := by omega
  have j2 : (m : Int) < (m : Int) + 1 := by omega
  have j3 : ((m : Int)).toNat = m := by omega
  have j4 : (m : Int) ≤ (c : Int) := by omega
  have j5 : (m : Int) ≤ (m : Int) + 1 := by omega
  have i0 : decide ((q : Int) < 0) = false := decide_eq_false (by omega)
  have i1 : (0 : Int) ≤ (q : Int) := by omega
  have i2 : (q : Int) < (m : Int) + 1 := by omega
  have i3 : ((q : Int)).toNat = q := by omega
  by_cases hqm : q = m
  · subst hqm
    have HW := Lib.hid (show Whole (K.take q) t t.items from ⟨h.same fun j hj => by
      have h1 := h.lt j hj
      have h2 : j ≠ q := fun e => (List.nodup_cons.1 nd).1 (by rw [← e]; exact hj)
      rw [HLEN.out] at h1
      rw [List.getElem?_take, if_pos (by omega)], b, (List.nodup_cons.1 nd).2, by rw [List.length_take, HLEN.out]; omega, rfl⟩)
    clear H h nd len s b hcap
    go_enter Try.func34, Try.ntmps34
    go_wp2_with fail
    go_end0
    exact ⟨_, t, rfl, HA.out.cut (by omega), HW.out, (Off.refl _ w).put ⟨g, 2, none⟩ (.inl (.inl rfl)) _⟩
  · have hbeq : ((q : Int) != (m : Int)) = true := by simp; omega
    obtain ⟨cx, l, y, r, hplug, hP, hkm, hX, hnd, hqc, hmc, hon⟩ := vac_pure H.len h nd len s b hqm hq
    have HQM := Lib.hid hqm
    have HPL := Lib.hid hplug
    have HP := Lib.hid hP
    have HKM := Lib.hid hkm
    have HX := Lib.hid hX
    have HCN := Lib.hid hnd
    have HQC := Lib.hid hqc
    have HMC := Lib.hid hmc
    have HON := Lib.hid hon
    have HDP := Lib.hid (show cx.way.length ≤ 28 by
      have h1 := cx.deep (.node l m y r)
      rw [hplug] at h1
      have h2 := bal_le b (by rw [PT.len, len]; omega)
      omega)
    have hgl := H.sz
    have hkl : gK < w.heap.size := own_lt H.o rfl
    obtain ⟨y1, y2, y3⟩ := y
    have k0 := H.c0 hkm
    have k1 := H.c1 hkm
    have k2 := H.c2 hkm
    simp only [] at k0 k1 k2
    have HGK := Lib.hid (show gK ≠ g from fun e => H.ne (by subst e; rfl))
    clear H h nd len s b hqm hplug hP hkm hX hnd hqc hmc hon hcap
    go_enter Try.func34, Try.ntmps34
    go_wp2_with fail
    refine (find_any g (m + 1) c (some ⟨gK, 0, none⟩) M t.root K (y1, y2, y3) cx.way (m : Int) w HA.out HP.out HDP.out (by omega)).mono ?_
    rintro e w1 ⟨vs, rfl, hV, hb1⟩
    have HV := Lib.hid hV
    have HB1 := Lib.hid hb1
    have hsz1 := hb1.size
    clear hV hb1 a2 f2 k0 k1 k2
    go_wp2_with (refine wpList_store_row rfl 59 _ _ rfl w1.heap.size vs rfl rfl 59 _ (heap_alloc_new w1 _) (by rw [HV.out.sz]; exact way_info) (by rw [HV.out.sz]; rfl) HV.out.one ?_)
    rw [World.setRow_alloc_new]
    have HW2 := Lib.hid (show WayM (w1.alloc (.cells vs 59)) w1.heap.size cx.way from ⟨vs, Blk.new w1 vs 59, HV.out⟩)
    have HB2 := Lib.hid (HB1.out.alloc hsz1 (.cells vs 59))
    have HNE := Lib.hid (show ¬ inAr g (some ⟨gK, 0, none⟩) (m + 1) c w1.heap.size from fun e => by
      rcases e with e | e
      · omega
      · have e : gK = w1.heap.size := own_is e
        omega)
    have HGW := Lib.hid hsz1
    clear hgl hkl hsz1
    generalize w1.alloc (.cells vs 59) = w2 at *
    generalize w1.heap.size = gW at *
    have HA2 := Lib.hid (HA.out.keep HB2.out)
    cases hl2 : cx.last with
    | none =>
      have hcx : cx = .top := by cases cx <;> simp [Cx.last] at hl2 ⊢
      subst hcx
      clear hl2
      refine (hang_top g gW (m + 1) c _ M t.root (q : Int) K w2 HA2.out HW2.out).mono ?_
      rintro e w3 ⟨rfl, hA3, hF3⟩
      have HA3 := Lib.hid hA3
      have HF3 := Lib.hid (((Off.of HB2.out).trans hF3))
      have HX1 := Lib.hid (show RpX K .top (.node l q (y1, y2, y3) r) from trivial)
      clear hA3 hF3
      have HRTQ := Lib.hid (show q = q from rfl)
      have a2 := HA3.out.b.get 2 rfl
      have f2 := HA3.out.b.f 2
      have hkm3 : K[m]? = some ⟨(y1, y2, y3), l.root, r.root, ((PT.node l m (y1, y2, y3) r).height : Int), topL (PT.node l m (y1, y2, y3) r).items⟩ := HKM.out
      have HKM3 := Lib.hid hkm3
      have HLEN1 := Lib.hid HA3.out.len
      obtain ⟨kq, hkq⟩ : ∃ k, K[q]? = some k := ⟨_, List.getElem?_eq_getElem (by rw [HLEN1.out]; omega)⟩
      have HKQ := Lib.hid hkq
      have k0 := HA3.out.c0 hkm3
      have k1 := HA3.out.c1 hkm3
      have k2 := HA3.out.c2 hkm3
      have k3 := HA3.out.c3 hkm3
      have k4 := HA3.out.c4 hkm3
      have k5 := HA3.out.c5 hkm3
      have k6 := HA3.out.c6 hkm3
      simp only [] at k0 k1 k2 k3 k4 k5 k6
      have q0 := HA3.out.c0 hkq
      have q1 := HA3.out.c1 hkq
      have q2 := HA3.out.c2 hkq
      have q3 := HA3.out.c3 hkq
      have q4 := HA3.out.c4 hkq
      have q5 := HA3.out.c5 hkq
      have q6 := HA3.out.c6 hkq
      have g0 := HA3.out.fz (q * 7)
      have g1 := HA3.out.fz (q * 7 + 1)
      have g2 := HA3.out.fz (q * 7 + 2)
      have g3 := HA3.out.fz (q * 7 + 3)
      have g4 := HA3.out.fz (q * 7 + 4)
      have g5 := HA3.out.fz (q * 7 + 5)
      have g6 := HA3.out.fz (q * 7 + 6)
      clear hkm3 hkq
      obtain ⟨hh, hhh⟩ : ∃ h : Int, ((PT.node l m (y1, y2, y3) r).height : Int) = h := ⟨_, rfl⟩
      obtain ⟨tt, htt⟩ : ∃ h : Int, topL (PT.node l m (y1, y2, y3) r).items = h := ⟨_, rfl⟩
      rw [hhh] at k5 HKM3 HON
      rw [htt] at k6 HKM3 HON
      clear hhh htt
      go_upto_region 4 with fail
      go_region
      have HA4 := Lib.hid ((HA3.out.putk HKQ.out ⟨(y1, y2, y3), l.root, r.root, hh, tt⟩).keep ((Below.refl _ _).drew))
      have HF4 := Lib.hid (((((((((HF3.out.put ⟨gK, q * 7, none⟩ (.inl (.inr rfl)) (.int .i64 y1)).put ⟨gK, q * 7 + 1, none⟩ (.inl (.inr rfl)) (.int .i64 y2)).put ⟨gK, q * 7 + 2, none⟩ (.inl (.inr rfl)) (.int .i64 y3)).put ⟨gK, q * 7 + 3, none⟩ (.inl (.inr rfl)) (.int .i64 l.root)).put ⟨gK, q * 7 + 4, none⟩ (.inl (.inr rfl)) (.int .i64 r.root)).put ⟨gK, q * 7 + 5, none⟩ (.inl (.inr rfl)) (.int .i64 hh)).put ⟨gK, q * 7 + 6, none⟩ (.inl (.inr rfl)) (.int .i64 tt))).drew)
      clear k0 k1 k2 k3 k4 k5 k6 q0 q1 q2 q3 q4 q5 q6 g0 g1 g2 g3 g4 g5 g6 a2 f2
      generalize (((((((w3.setCell ⟨gK, q * 7, none⟩ (.int .i64 y1)).setCell ⟨gK, q * 7 + 1, none⟩ (.int .i64 y2)).setCell ⟨gK, q * 7 + 2, none⟩ (.int .i64 y3)).setCell ⟨gK, q * 7 + 3, none⟩ (.int .i64 l.root)).setCell ⟨gK, q * 7 + 4, none⟩ (.int .i64 r.root)).setCell ⟨gK, q * 7 + 5, none⟩ (.int .i64 hh)).setCell ⟨gK, q * 7 + 6, none⟩ (.int .i64 tt)).drew = w4 at *
      have a2 := HA4.out.b.get 2 rfl
      have f2 := HA4.out.b.f 2
      obtain ⟨o1, o2, o3, o4, o5⟩ := HON.out K HX1.out (fun _ _ => rfl) HLEN1.out
      have HWH := Lib.hid (show Whole ((K.set q ⟨(y1, y2, y3), l.root, r.root, hh, tt⟩).take m) (Cx.top.plug (.node l q (y1, y2, y3) r)) t.items from ⟨o1, o3, o4, by rw [o5, List.length_take, List.length_set, HLEN1.out]; omega, o2⟩)
      clear o1 o2 o3 o4 o5
      go_wp2_with fail
      go_end0
      refine ⟨_, .node l q (y1, y2, y3) r, rfl, HA4.out.cut (m := m) (by omega), HWH.out, HF4.out.put ⟨g, 2, none⟩ (.inl (.inl rfl)) _⟩
    | some pb =>
      obtain ⟨p2, b2⟩ := pb
      obtain ⟨k2', hk2, hX1⟩ := HX.out.hang (t' := .node l q (y1, y2, y3) r) HCN.out rfl rfl hl2
      have HL2 := Lib.hid hl2
      have HX1 := Lib.hid hX1
      have HWL := Lib.hid (Cx.way_last hl2)
      have hp2 := Cx.last_mem hl2
      have HO1 := Lib.hid (show ∀ j, j ∉ cx.places → (K.set p2 (k2'.put b2 (PT.node l q (y1, y2, y3) r).root))[j]? = K[j]? from fun j hj => List.getElem?_set_ne fun e => hj (by rw [← e]; exact hp2))
      refine (hang_any g gW (m + 1) c gK M t.root (q : Int) K cx.up p2 b2 k2' w2 HA2.out (by rw [← HWL.out]; exact HW2.out) hk2 (by omega)).mono ?_
      rintro e w3 ⟨rfl, hA3, hF3⟩
      have HA3 := Lib.hid (show Ar 48 w3 g M t.root (some ⟨gK, 0, none⟩) (m + 1) c (K.set p2 (k2'.put b2 (PT.node l q (y1, y2, y3) r).root)) from hA3)
      have HF3 := Lib.hid (((Off.of HB2.out).trans hF3))
      clear hA3 hF3 hk2 hX1 hl2 hp2
      generalize K.set p2 (k2'.put b2 (PT.node l q (y1, y2, y3) r).root) = K1 at *
      have HRTQ := Lib.hid (show q = q from rfl)
      have a2 := HA3.out.b.get 2 rfl
      have f2 := HA3.out.b.f 2
      have hkm3 : K1[m]? = some ⟨(y1, y2, y3), l.root, r.root, ((PT.node l m (y1, y2, y3) r).height : Int), topL (PT.node l m (y1, y2, y3) r).items⟩ := by rw [HO1.out m HMC.out]; exact HKM.out
      have HKM3 := Lib.hid hkm3
      have HLEN1 := Lib.hid HA3.out.len
      obtain ⟨kq, hkq⟩ : ∃ k, K1[q]? = some k := ⟨_, List.getElem?_eq_getElem (by rw [HLEN1.out]; omega)⟩
      have HKQ := Lib.hid hkq
      have k0 := HA3.out.c0 hkm3
      have k1 := HA3.out.c1 hkm3
      have k2 := HA3.out.c2 hkm3
      have k3 := HA3.out.c3 hkm3
      have k4 := HA3.out.c4 hkm3
      have k5 := HA3.out.c5 hkm3
      have k6 := HA3.out.c6 hkm3
      simp only [] at k0 k1 k2 k3 k4 k5 k6
      have q0 := HA3.out.c0 hkq
      have q1 := HA3.out.c1 hkq
      have q2 := HA3.out.c2 hkq
      have q3 := HA3.out.c3 hkq
      have q4 := HA3.out.c4 hkq
      have q5 := HA3.out.c5 hkq
      have q6 := HA3.out.c6 hkq
      have g0 := HA3.out.fz (q * 7)
      have g1 := HA3.out.fz (q * 7 + 1)
      have g2 := HA3.out.fz (q * 7 + 2)
      have g3 := HA3.out.fz (q * 7 + 3)
      have g4 := HA3.out.fz (q * 7 + 4)
      have g5 := HA3.out.fz (q * 7 + 5)
      have g6 := HA3.out.fz (q * 7 + 6)
      clear hkm3 hkq
      obtain ⟨hh, hhh⟩ : ∃ h : Int, ((PT.node l m (y1, y2, y3) r).height : Int) = h := ⟨_, rfl⟩
      obtain ⟨tt, htt⟩ : ∃ h : Int, topL (PT.node l m (y1, y2, y3) r).items = h := ⟨_, rfl⟩
      rw [hhh] at k5 HKM3 HON
      rw [htt] at k6 HKM3 HON
      clear hhh htt
      go_upto_region 4 with fail
      go_region
      have HA4 := Lib.hid ((HA3.out.putk HKQ.out ⟨(y1, y2, y3), l.root, r.root, hh, tt⟩).keep ((Below.refl _ _).drew))
      have HF4 := Lib.hid (((((((((HF3.out.put ⟨gK, q * 7, none⟩ (.inl (.inr rfl)) (.int .i64 y1)).put ⟨gK, q * 7 + 1, none⟩ (.inl (.inr rfl)) (.int .i64 y2)).put ⟨gK, q * 7 + 2, none⟩ (.inl (.inr rfl)) (.int .i64 y3)).put ⟨gK, q * 7 + 3, none⟩ (.inl (.inr rfl)) (.int .i64 l.root)).put ⟨gK, q * 7 + 4, none⟩ (.inl (.inr rfl)) (.int .i64 r.root)).put ⟨gK, q * 7 + 5, none⟩ (.inl (.inr rfl)) (.int .i64 hh)).put ⟨gK, q * 7 + 6, none⟩ (.inl (.inr rfl)) (.int .i64 tt))).drew)
      clear k0 k1 k2 k3 k4 k5 k6 q0 q1 q2 q3 q4 q5 q6 g0 g1 g2 g3 g4 g5 g6 a2 f2
      generalize (((((((w3.setCell ⟨gK, q * 7, none⟩ (.int .i64 y1)).setCell ⟨gK, q * 7 + 1, none⟩ (.int .i64 y2)).setCell ⟨gK, q * 7 + 2, none⟩ (.int .i64 y3)).setCell ⟨gK, q * 7 + 3, none⟩ (.int .i64 l.root)).setCell ⟨gK, q * 7 + 4, none⟩ (.int .i64 r.root)).setCell ⟨gK, q * 7 + 5, none⟩ (.int .i64 hh)).setCell ⟨gK, q * 7 + 6, none⟩ (.int .i64 tt)).drew = w4 at *
      have a2 := HA4.out.b.get 2 rfl
      have f2 := HA4.out.b.f 2
      obtain ⟨o1, o2, o3, o4, o5⟩ := HON.out K1 HX1.out HO1.out HLEN1.out
      have HWH := Lib.hid (show Whole ((K1.set q ⟨(y1, y2, y3), l.root, r.root, hh, tt⟩).take m) (cx.plug (.node l q (y1, y2, y3) r)) t.items from ⟨o1, o3, o4, by rw [o5, List.length_take, List.length_set, HLEN1.out]; omega, o2⟩)
      clear o1 o2 o3 o4 o5
      go_wp2_with fail
      go_end0
      refine ⟨_, _, rfl, by rw [Cx.root_of HL2.out _ (.node l m (y1, y2, y3) r), HPL.out]; exact HA4.out.cut (m := m) (by omega), HWH.out, HF4.out.put ⟨g, 2, none⟩ (.inl (.inl rfl)) _⟩
end Go.Proofs.Ytmllikffflebmaa
