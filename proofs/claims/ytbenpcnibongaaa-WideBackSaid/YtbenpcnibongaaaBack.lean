/- WideBack: a quotient times the divisor, and what is left, is the number; roundings are near; a sum less one of both is the other one. -/
import Derived.Test.YtbenpcnibongaaaBackMath
import Derived.Deep.RegionHeld3
import Derived.Deep.CutBlock
import Derived.Deep.DeepCutAuto
import Derived.Deep.Light
namespace Go.Proofs.Ytbenpcnibongaaa
open Go.RowKit Corr
set_option linter.unusedVariables false

theorem keep66 {W w1 : World} {k k' : Nat} {a b c d e f : Value} (hb : Below W.heap.size W w1) (hk : k < W.heap.size) (hk' : k' < W.heap.size)
    (hS : W.cell? ⟨k, 0, none⟩ = some a ∧ W.cell? ⟨k, 1, none⟩ = some b ∧ W.cell? ⟨k, 2, none⟩ = some c ∧ W.cell? ⟨k', 0, none⟩ = some d ∧ W.cell? ⟨k', 1, none⟩ = some e ∧ W.cell? ⟨k', 2, none⟩ = some f) :
    w1.cell? ⟨k, 0, none⟩ = some a ∧ w1.cell? ⟨k, 1, none⟩ = some b ∧ w1.cell? ⟨k, 2, none⟩ = some c ∧ w1.cell? ⟨k', 0, none⟩ = some d ∧ w1.cell? ⟨k', 1, none⟩ = some e ∧ w1.cell? ⟨k', 2, none⟩ = some f := by
  have e1 : ∀ o, w1.cell? ⟨k, o, none⟩ = W.cell? ⟨k, o, none⟩ := fun o => hb.cell hk
  have e2 : ∀ o, w1.cell? ⟨k', o, none⟩ = W.cell? ⟨k', o, none⟩ := fun o => hb.cell hk'
  rw [e1, e1, e1, e2, e2, e2]; exact hS
theorem keep66a {W : World} {k k' : Nat} {a b c d e f : Value} {o : Obj} (hk : k < W.heap.size) (hk' : k' < W.heap.size)
    (hS : W.cell? ⟨k, 0, none⟩ = some a ∧ W.cell? ⟨k, 1, none⟩ = some b ∧ W.cell? ⟨k, 2, none⟩ = some c ∧ W.cell? ⟨k', 0, none⟩ = some d ∧ W.cell? ⟨k', 1, none⟩ = some e ∧ W.cell? ⟨k', 2, none⟩ = some f) :
    (W.alloc o).cell? ⟨k, 0, none⟩ = some a ∧ (W.alloc o).cell? ⟨k, 1, none⟩ = some b ∧ (W.alloc o).cell? ⟨k, 2, none⟩ = some c ∧ (W.alloc o).cell? ⟨k', 0, none⟩ = some d ∧ (W.alloc o).cell? ⟨k', 1, none⟩ = some e ∧ (W.alloc o).cell? ⟨k', 2, none⟩ = some f :=
  keep66 ((Below.refl _ _).alloc (Nat.le_refl _) o) hk hk' hS
theorem keep66r {W : World} {k k' : Nat} {a b c d e f : Value} {o o' : Obj} (hk : k < W.heap.size) (hk' : k' < W.heap.size)
    (hS : (W.alloc o).cell? ⟨k, 0, none⟩ = some a ∧ (W.alloc o).cell? ⟨k, 1, none⟩ = some b ∧ (W.alloc o).cell? ⟨k, 2, none⟩ = some c ∧ (W.alloc o).cell? ⟨k', 0, none⟩ = some d ∧ (W.alloc o).cell? ⟨k', 1, none⟩ = some e ∧ (W.alloc o).cell? ⟨k', 2, none⟩ = some f) :
    (W.alloc o').cell? ⟨k, 0, none⟩ = some a ∧ (W.alloc o').cell? ⟨k, 1, none⟩ = some b ∧ (W.alloc o').cell? ⟨k, 2, none⟩ = some c ∧ (W.alloc o').cell? ⟨k', 0, none⟩ = some d ∧ (W.alloc o').cell? ⟨k', 1, none⟩ = some e ∧ (W.alloc o').cell? ⟨k', 2, none⟩ = some f := by
  have e1 : ∀ o i, (W.alloc o).cell? ⟨k, i, none⟩ = W.cell? ⟨k, i, none⟩ := fun o i => ((Below.refl _ _).alloc (Nat.le_refl _) o).cell hk
  have e2 : ∀ o i, (W.alloc o).cell? ⟨k', i, none⟩ = W.cell? ⟨k', i, none⟩ := fun o i => ((Below.refl _ _).alloc (Nat.le_refl _) o).cell hk'
  simp only [e1, e2] at hS ⊢
  exact hS
theorem keep66s {W : World} {k k' g : Nat} {a b c d e f a' b' c' : Value} (hk : g ≠ k) (hk' : g ≠ k')
    (hS : W.cell? ⟨k, 0, none⟩ = some a ∧ W.cell? ⟨k, 1, none⟩ = some b ∧ W.cell? ⟨k, 2, none⟩ = some c ∧ W.cell? ⟨k', 0, none⟩ = some d ∧ W.cell? ⟨k', 1, none⟩ = some e ∧ W.cell? ⟨k', 2, none⟩ = some f) :
    (((W.setCell ⟨g, 0, none⟩ a').setCell ⟨g, 1, none⟩ b').setCell ⟨g, 2, none⟩ c').cell? ⟨k, 0, none⟩ = some a ∧ (((W.setCell ⟨g, 0, none⟩ a').setCell ⟨g, 1, none⟩ b').setCell ⟨g, 2, none⟩ c').cell? ⟨k, 1, none⟩ = some b ∧ (((W.setCell ⟨g, 0, none⟩ a').setCell ⟨g, 1, none⟩ b').setCell ⟨g, 2, none⟩ c').cell? ⟨k, 2, none⟩ = some c ∧ (((W.setCell ⟨g, 0, none⟩ a').setCell ⟨g, 1, none⟩ b').setCell ⟨g, 2, none⟩ c').cell? ⟨k', 0, none⟩ = some d ∧ (((W.setCell ⟨g, 0, none⟩ a').setCell ⟨g, 1, none⟩ b').setCell ⟨g, 2, none⟩ c').cell? ⟨k', 1, none⟩ = some e ∧ (((W.setCell ⟨g, 0, none⟩ a').setCell ⟨g, 1, none⟩ b').setCell ⟨g, 2, none⟩ c').cell? ⟨k', 2, none⟩ = some f := by
  obtain ⟨h0, h1, h2, h3, h4, h5⟩ := hS
  refine ⟨?_, ?_, ?_, ?_, ?_, ?_⟩
  · simp [go_sem, h0]
  · simp [go_sem, h1]
  · simp [go_sem, h2]
  · simp [go_sem, h3]
  · simp [go_sem, h4]
  · simp [go_sem, h5]
theorem Box3.newD (w : World) (a b c : Value) (T : TypeId) : Box3 ((w.alloc (.cells #[a, b, c] T)).drew) w.heap.size a b c :=
  (Box3.new w a b c T).keep ((Below.refl _ _).drew)
theorem Box3.stored {W : World} {k : Nat} {a b c : Value} (h : Box3 W k a b c) (a' b' c' : Value) :
    Box3 (((W.setCell ⟨k, 0, none⟩ a').setCell ⟨k, 1, none⟩ b').setCell ⟨k, 2, none⟩ c') k a' b' c' := by
  obtain ⟨c0, c1, c2, f0, f1, f2, sz⟩ := h
  refine ⟨?_, ?_, ?_, ?_, ?_, ?_, ?_⟩
  · simp [go_sem, c0]
  · simp [go_sem, c1]
  · simp [go_sem, c2]
  · simp [go_sem, f0]
  · simp [go_sem, f1]
  · simp [go_sem, f2]
  · simp [go_sem]; omega
theorem Box3.far {W : World} {k g : Nat} {a b c : Value} (h : Box3 W k a b c) (hg : g ≠ k) (a' b' c' : Value) :
    Box3 (((W.setCell ⟨g, 0, none⟩ a').setCell ⟨g, 1, none⟩ b').setCell ⟨g, 2, none⟩ c') k a b c := by
  obtain ⟨c0, c1, c2, f0, f1, f2, sz⟩ := h
  refine ⟨?_, ?_, ?_, ?_, ?_, ?_, ?_⟩
  · simp [go_sem, c0]
  · simp [go_sem, c1]
  · simp [go_sem, c2]
  · simp [go_sem, f0]
  · simp [go_sem, f1]
  · simp [go_sem, f2]
  · simp [go_sem]; omega
theorem Has3.alloc {w W : World} {k : Nat} {a b c : Value} (h : Has3 w W k a b c) (o : Obj) : Has3 w (W.alloc o) k a b c :=
  ⟨h.box.alloc o, h.below.alloc h.below.size o⟩
theorem Has3.drew {w W : World} {k : Nat} {a b c : Value} (h : Has3 w W k a b c) : Has3 w W.drew k a b c :=
  ⟨h.box.keep ((Below.refl _ _).drew), h.below.drew⟩
theorem Has3.far {w W : World} {k g : Nat} {a b c : Value} (h : Has3 w W k a b c) (hg : g ≠ k) (hw : w.heap.size ≤ g) (a' b' c' : Value) :
    Has3 w (((W.setCell ⟨g, 0, none⟩ a').setCell ⟨g, 1, none⟩ b').setCell ⟨g, 2, none⟩ c') k a b c :=
  ⟨h.box.far hg a' b' c', ((h.below.setCell hw _).setCell hw _).setCell hw _⟩

set_option maxHeartbeats 16000000 in
set_option maxRecDepth 100000 in
theorem back_walk (s s' : Bool) (h l h' l' d : Nat) (w : World) (hh : h < B64) (hl : l < B64) (hh' : h' < B64) (hl' : l' < B64) (hd : d < B64) :
    Calls Try.prog 5 #[WV s h l, WV s' h' l', .int .u64 d] w fun e w' => e = .returned (.bool true) ∧ Below w.heap.size w w' := by
  generalize hzx : val s (nat2 h l) = zx
  generalize hzy : val s' (nat2 h' l') = zy
  have HZX := Lib.hid hzx
  have HZY := Lib.hid hzy
  have nx : zx.natAbs < B128 := by rw [← hzx, natAbs_val]; exact nat2_lt hh hl
  have ny : zy.natAbs < B128 := by rw [← hzy, natAbs_val]; exact nat2_lt hh' hl'
  clear hzx hzy
  have HXY := Lib.hid (show val s (nat2 h l) + val s' (nat2 h' l') = zx + zy by rw [HZX.out, HZY.out])
  have HXB := Lib.hid (show val (negB (zx + zy)) (nat2 (hiW (Int.natAbs (zx + zy))) (loW (Int.natAbs (zx + zy)))) + val (negB (-zy)) (nat2 (hiW (Int.natAbs (-zy))) (loW (Int.natAbs (-zy)))) = zx by rw [val_ZW, val_ZW]; omega)
  have HCX := Lib.hid (show val (negB zx) (nat2 (hiW (Int.natAbs zx)) (loW (Int.natAbs zx))) = val s (nat2 h l) by rw [val_ZW, HZX.out])
  have nyn : (-zy).natAbs < B128 := by rw [Int.natAbs_neg]; exact ny
  have u1 := hiW_lt nx
  have u2 := loW_lt zx.natAbs
  have u3 := hiW_lt nyn
  have u4 := loW_lt (-zy).natAbs
  go_enter Try.func5, Try.ntmps5
  go_upto_region 1 with fail
  go_cut [7, 8] (fun p e wx => ∃ (ks : Nat) (ev : Int), p = .pointer (some ⟨ks, 0, none⟩) ∧ e = .int .i64 ev ∧ (ev = 11 ∨ ev = 0 ∧ (zx + zy).natAbs < B128 ∧ Box3 wx ks (.bool (negB (zx + zy))) (.int .u64 (hiW (Int.natAbs (zx + zy)))) (.int .u64 (loW (Int.natAbs (zx + zy))))) ∧ Box3 wx (w.heap.size + 1) (.bool s') (.int .u64 (h' : Int)) (.int .u64 (l' : Int)) ∧ Has3 w wx w.heap.size (.bool s) (.int .u64 (h : Int)) (.int .u64 (l : Int)))
  case first =>
    by_cases hfit : (zx + zy).natAbs < B128
    all_goals
      go_wp2_with fail
      first
        | refine (add_ok _ _ _ _ _ _ _ _ hh hl hh' hl' HXY.out hfit).mono ?_
        | refine (add_over _ _ _ _ _ _ _ _ hh hl hh' hl' HXY.out hfit).mono ?_
      rintro e w1 ⟨rfl, hb⟩
      have X1 : Has3 w w1 w.heap.size (.bool s) (.int .u64 (h : Int)) (.int .u64 (l : Int)) := (⟨(Box3.new w (.bool s) (.int .u64 (h : Int)) (.int .u64 (l : Int)) 24).alloc (.cells #[.bool s', .int .u64 (h' : Int), .int .u64 (l' : Int)] 24), ((Below.refl _ _).alloc (Nat.le_refl _) _).alloc (by simp) _⟩ : Has3 w _ _ _ _ _).keep hb
      have Y1 := (Box3.new (w.alloc (.cells #[.bool s, .int .u64 (h : Int), .int .u64 (l : Int)] 24)) (.bool s') (.int .u64 (h' : Int)) (.int .u64 (l' : Int)) 24).keep hb
      rw [size_alloc] at Y1
      clear hb
      go_wp2_with fail
      go_meet
      first
        | exact ⟨_, _, rfl, rfl, .inr ⟨rfl, hfit, Box3.new _ _ _ _ _⟩, Y1.alloc _, X1.alloc _⟩
        | exact ⟨_, _, rfl, rfl, .inl rfl, Y1.alloc _, X1.alloc _⟩
  case rest =>
    obtain ⟨ks, ev, rfl, rfl, hev, Y1, C0⟩ := hcut
    have HEV := Lib.hid hev
    clear hev
    go_upto_if 36 with fail
    go_cut [] (fun wx => Has3 w wx w.heap.size (.bool s) (.int .u64 (h : Int)) (.int .u64 (l : Int)))
    case first =>
      rcases HEV.out with rfl | ⟨rfl, hfit, S1⟩
      · go_wp2_with fail
        go_meet
        exact C0
      · clear HEV
        have v1 := hiW_lt hfit
        have v2 := loW_lt (Int.natAbs (zx + zy))
        go_upto_region 3 with fail
        go_cut [9, 10] (fun p e wx => ∃ g : Nat, p = .pointer (some ⟨g, 0, none⟩) ∧ e = .int .i64 0 ∧ Box3 wx g (.bool (negB zx)) (.int .u64 (hiW (Int.natAbs zx))) (.int .u64 (loW (Int.natAbs zx))) ∧ Has3 w wx w.heap.size (.bool s) (.int .u64 (h : Int)) (.int .u64 (l : Int)))
        case first =>
          as_aux_lemma =>
            have a0 := S1.c0; have a1 := S1.c1; have a2 := S1.c2
            have b0 := Y1.c0; have b1 := Y1.c1; have b2 := Y1.c2
            have sa := S1.sz; have sb := Y1.sz
            have sw := C0.below.size
            have D0 := S1
            have E0 := Y1
            go_region_held3 (fun w' => w'.cell? ⟨ks, 0, none⟩ = some (.bool (negB (zx + zy))) ∧ w'.cell? ⟨ks, 1, none⟩ = some (.int .u64 (hiW (Int.natAbs (zx + zy)))) ∧ w'.cell? ⟨ks, 2, none⟩ = some (.int .u64 (loW (Int.natAbs (zx + zy)))) ∧ w'.cell? ⟨w.heap.size + 1, 0, none⟩ = some (.bool s') ∧ w'.cell? ⟨w.heap.size + 1, 1, none⟩ = some (.int .u64 (h' : Int)) ∧ w'.cell? ⟨w.heap.size + 1, 2, none⟩ = some (.int .u64 (l' : Int)))
              (first | (with_reducible exact ⟨DB.c0, DB.c1, DB.c2, EB.c0, EB.c1, EB.c2⟩) | (with_reducible exact ⟨(DB.alloc _).c0, (DB.alloc _).c1, (DB.alloc _).c2, (EB.alloc _).c0, (EB.alloc _).c1, (EB.alloc _).c2⟩) | (with_reducible exact ⟨(DB.far (by omega) _ _ _).c0, (DB.far (by omega) _ _ _).c1, (DB.far (by omega) _ _ _).c2, (EB.far (by omega) _ _ _).c0, (EB.far (by omega) _ _ _).c1, (EB.far (by omega) _ _ _).c2⟩) | (with_reducible exact ⟨DA.c0, DA.c1, DA.c2, EA.c0, EA.c1, EA.c2⟩) | (with_reducible exact ⟨(DA.alloc _).c0, (DA.alloc _).c1, (DA.alloc _).c2, (EA.alloc _).c0, (EA.alloc _).c1, (EA.alloc _).c2⟩) | (with_reducible exact ⟨((D0.alloc _).keep ((Below.refl _ _).drew)).c0, ((D0.alloc _).keep ((Below.refl _ _).drew)).c1, ((D0.alloc _).keep ((Below.refl _ _).drew)).c2, ((E0.alloc _).keep ((Below.refl _ _).drew)).c0, ((E0.alloc _).keep ((Below.refl _ _).drew)).c1, ((E0.alloc _).keep ((Below.refl _ _).drew)).c2⟩) | go_keep)
              (first
                | (go_at_call 18; refine (neg_any _ _ _ _ _ hh' hl' HZY.out).mono ?_; rintro e wA ⟨rfl, hbA⟩; have szA := hbA.size; (try simp at szA); have CA : Has3 w wA w.heap.size (.bool s) (.int .u64 (h : Int)) (.int .u64 (l : Int)) := (by first | (with_reducible exact C0.drew.keep hbA) | (with_reducible exact (C0.alloc _).drew.keep hbA)); have DA : Box3 wA (ks) (.bool (negB (zx + zy))) (.int .u64 (hiW (Int.natAbs (zx + zy)))) (.int .u64 (loW (Int.natAbs (zx + zy)))) := (by first | (with_reducible exact (D0.keep ((Below.refl _ _).drew)).keep hbA) | (with_reducible exact ((D0.alloc _).keep ((Below.refl _ _).drew)).keep hbA)); have EA : Box3 wA (w.heap.size + 1) (.bool s') (.int .u64 (h' : Int)) (.int .u64 (l' : Int)) := (by first | (with_reducible exact (E0.keep ((Below.refl _ _).drew)).keep hbA) | (with_reducible exact ((E0.alloc _).keep ((Below.refl _ _).drew)).keep hbA)); first | (have NB := (by with_reducible exact (Box3.newD wc (.bool false) (.int .u64 0) (.int .u64 0) 24).keep hbA : Box3 wA wc.heap.size (.bool false) (.int .u64 0) (.int .u64 0)); have n0 := NB.c0; have n1 := NB.c1; have n2 := NB.c2; have n3 := NB.f0; have n4 := NB.f1; have n5 := NB.f2) | skip)
                | (go_at_call 8; refine (add_ok _ _ _ _ _ _ _ _ v1 v2 u3 u4 HXB.out nx).mono ?_; rintro e wB ⟨rfl, hbB⟩; have szB := hbB.size; (try simp at szB); have CB : Has3 w wB w.heap.size (.bool s) (.int .u64 (h : Int)) (.int .u64 (l : Int)) := (by first | (with_reducible exact CA.keep hbB) | (with_reducible exact (CA.alloc _).keep hbB)); have DB : Box3 wB (ks) (.bool (negB (zx + zy))) (.int .u64 (hiW (Int.natAbs (zx + zy)))) (.int .u64 (loW (Int.natAbs (zx + zy)))) := (by first | (with_reducible exact DA.keep hbB) | (with_reducible exact (DA.alloc _).keep hbB)); have EB : Box3 wB (w.heap.size + 1) (.bool s') (.int .u64 (h' : Int)) (.int .u64 (l' : Int)) := (by first | (with_reducible exact EA.keep hbB) | (with_reducible exact (EA.alloc _).keep hbB)); first | (have NB2 := (by with_reducible exact NB.keep hbB : Box3 wB wc.heap.size (.bool false) (.int .u64 0) (.int .u64 0)); have n0 := NB2.c0; have n1 := NB2.c1; have n2 := NB2.c2; have n3 := NB2.f0; have n4 := NB2.f1; have n5 := NB2.f2) | (have NB2 := (by with_reducible exact (Box3.new wA (.bool false) (.int .u64 0) (.int .u64 0) 24).keep hbB : Box3 wB wA.heap.size (.bool false) (.int .u64 0) (.int .u64 0)); have n0 := NB2.c0; have n1 := NB2.c1; have n2 := NB2.c2; have n3 := NB2.f0; have n4 := NB2.f1; have n5 := NB2.f2) | skip))
            all_goals
              go_wp2_with fail
              go_meet
              refine ⟨_, rfl, rfl, ?_, ?_⟩
              · first
                  | with_reducible exact NB2.stored _ _ _
                  | with_reducible exact Box3.new _ _ _ _ _
              · first
                  | with_reducible exact CB.far (by omega) (by omega) _ _ _
                  | with_reducible exact CB.alloc _
        case rest =>
          obtain ⟨g, rfl, rfl, G, C1⟩ := hcut
          have g0 := G.c0; have g1 := G.c1; have g2 := G.c2
          have x0 := C1.box.c0; have x1 := C1.box.c1; have x2 := C1.box.c2
          go_wp2_with fail
          refine (cmp_same _ _ _ _ _ _ _ u1 u2 hh hl HCX.out).mono ?_
          rintro e w3 ⟨rfl, hb⟩
          go_wp2_with fail
          go_meet
          exact C1.keep hb
    case rest =>
      have C1 := hcut
      clear hcut HXY HXB nyn u3 u4 ny HZY hh' hl' HEV Y1 C0
      have x0 := C1.box.c0; have x1 := C1.box.c1; have x2 := C1.box.c2
      by_cases h0 : d = 0
      · have HD := Lib.hid h0
        have t0 : ((d : Int) == 0) = true := by rw [beq_iff_eq]; omega
        clear h0
        go_wp2_with fail
        refine (div_zero' _ _ _ _ _ HD.out).mono ?_
        rintro e w1 ⟨rfl, hb⟩
        have C2 := C1.keep hb
        clear hb x0 x1 x2 C1
        go_wp2_with fail
        refine (known_any _).mono ?_
        rintro e w2 ⟨rfl, hb⟩
        have C3 := (C2.alloc _).keep hb
        clear hb C2
        go_wp2_with fail
        go_ret
        exact ⟨rfl, C3.below⟩
      · have t0 : ((d : Int) == 0) = false := by rw [beq_eq_false_iff_ne]; omega
        have d0 : 0 < d := by omega
        clear h0
        have nn := nat2_lt hh hl
        have DF := div_facts s (nat2 h l) d
        have DT := div_fit s (d := d) nn
        have RL := rem_lt (n := nat2 h l) d0
        generalize hq : val s (quoN (nat2 h l) d) = zq at DF DT
        generalize hr : remN (nat2 h l) d = r at DF RL
        have HQ := Lib.hid hq
        have HR := Lib.hid hr
        have HADD := Lib.hid (show zq * d + val s r = zx by rw [DF, HZX.out])
        have fp : (zq * (d : Int)).natAbs < B128 := by rw [natAbs_times]; exact DT.2
        have fq := DT.1
        have HTQ := Lib.hid DT.2
        have rd : r < B64 := Nat.lt_trans RL hd
        have FF := floor_facts s (nat2 h l) d d0
        have FB := floor_fit s nn d0
        have EF := even_facts s (nat2 h l) d d0
        have EB := even_fit s nn d0
        generalize hzf : val s (floorN s (nat2 h l) d) = zf at FF FB
        generalize hze : val s (evenN (nat2 h l) d) = ze at EF EB
        rw [HZX.out] at FF EF
        have HF := Lib.hid hzf
        have HE := Lib.hid hze
        have HFF := Lib.hid FF
        have HEF := Lib.hid EF
        clear hq hr DF DT hzf hze FF EF nn
        go_wp2_with fail
        refine (div_z _ _ _ _ _ _ _ hh hl hd d0 HQ.out HR.out).mono ?_
        rintro e w1 ⟨rfl, hb⟩
        have C2 := C1.keep hb
        clear hb x0 x1 x2 C1
        have K1 := Box3.new w1 (.bool (negB zq)) (.int .u64 (hiW (Int.natAbs zq))) (.int .u64 (loW (Int.natAbs zq))) 24
        have q0 := K1.c0; have q1 := K1.c1; have q2 := K1.c2
        have C3 := C2.alloc (.cells #[.bool (negB zq), .int .u64 (hiW (Int.natAbs zq)), .int .u64 (loW (Int.natAbs zq))] 24)
        clear C2
        go_wp2_with fail
        refine (times_z _ _ _ fq hd HTQ.out).mono ?_
        rintro e w2 ⟨rfl, hb⟩
        have C4 := C3.keep hb
        clear hb q0 q1 q2 C3 K1
        have x0 := C4.box.c0; have x1 := C4.box.c1; have x2 := C4.box.c2
        have z4 := C4.box.sz
        go_wp2_with fail
        refine (add_left _ _ _ _ _ fp rd HADD.out nx).mono ?_
        rintro e w3 ⟨rfl, hb⟩
        have C5 := ((C4.alloc _).alloc _).keep hb
        clear hb x0 x1 x2 C4 z4
        have x0 := C5.box.c0; have x1 := C5.box.c1; have x2 := C5.box.c2
        have z5 := C5.box.sz
        go_wp2_with fail
        refine (cmp_same _ _ _ _ _ _ _ u1 u2 hh hl HCX.out).mono ?_
        rintro e w4 ⟨rfl, hb⟩
        have C6 := (C5.alloc _).keep hb
        clear hb x0 x1 x2 C5 z5
        have x0 := C6.box.c0; have x1 := C6.box.c1; have x2 := C6.box.c2
        go_wp2_with fail
        refine (floor_z _ _ _ _ _ _ hh hl hd d0 HF.out).mono ?_
        rintro e w5 ⟨rfl, hb⟩
        have C7 := (C6.keep hb).alloc (.cells #[.bool (negB zf), .int .u64 (hiW (Int.natAbs zf)), .int .u64 (loW (Int.natAbs zf))] 24)
        have L7 := Box3.new w5 (.bool (negB zf)) (.int .u64 (hiW (Int.natAbs zf))) (.int .u64 (loW (Int.natAbs zf))) 24
        clear hb x0 x1 x2 C6
        have x0 := C7.box.c0; have x1 := C7.box.c1; have x2 := C7.box.c2
        go_wp2_with fail
        refine (even_z _ _ _ _ _ _ hh hl hd d0 HE.out).mono ?_
        rintro e w6 ⟨rfl, hb⟩
        have C8 := (C7.keep hb).alloc (.cells #[.bool (negB ze), .int .u64 (hiW (Int.natAbs ze)), .int .u64 (loW (Int.natAbs ze))] 24)
        have L8 := (L7.keep hb).alloc (.cells #[.bool (negB ze), .int .u64 (hiW (Int.natAbs ze)), .int .u64 (loW (Int.natAbs ze))] 24)
        have N8 := Box3.new w6 (.bool (negB ze)) (.int .u64 (hiW (Int.natAbs ze))) (.int .u64 (loW (Int.natAbs ze))) 24
        clear hb x0 x1 x2 C7 L7
        go_upto_region 16 with fail
        generalize hkl : w5.heap.size = kl at *
        generalize hkn : w6.heap.size = kn at *
        generalize hw8 : w6.alloc (.cells #[.bool (negB ze), .int .u64 (hiW (Int.natAbs ze)), .int .u64 (loW (Int.natAbs ze))] 24) = w8 at *
        clear hkl hkn hw8
        go_cut [23, 24] (fun p e wx => ∃ (kt : Nat) (ev : Int) (a b c : Value), p = .pointer (some ⟨kt, 0, none⟩) ∧ e = .int .i64 ev ∧ (ev = 11 ∨ ev = 0 ∧ (zf * (d : Int)).natAbs < B128 ∧ a = .bool (negB (zf * (d : Int))) ∧ b = .int .u64 (hiW (Int.natAbs (zf * (d : Int)))) ∧ c = .int .u64 (loW (Int.natAbs (zf * (d : Int))))) ∧ Box3 wx kt a b c ∧ Box3 wx kn (.bool (negB ze)) (.int .u64 (hiW (Int.natAbs ze))) (.int .u64 (loW (Int.natAbs ze))) ∧ Has3 w wx w.heap.size (.bool s) (.int .u64 (h : Int)) (.int .u64 (l : Int)) ∧ w.heap.size < kt ∧ kt ≠ kn)
        case first =>
          have q0 := L8.c0; have q1 := L8.c1; have q2 := L8.c2
          by_cases hfit : zf.natAbs * d < B128
          · have HFT := Lib.hid (show (zf * (d : Int)).natAbs < B128 by rw [natAbs_times]; exact hfit)
            go_wp2_with fail
            refine (times_z _ _ _ FB hd hfit).mono ?_
            rintro e w9 ⟨rfl, hb⟩
            have C9 := C8.keep hb
            have N9 := N8.keep hb
            clear hb q0 q1 q2
            go_wp2_with fail
            go_meet
            exact ⟨_, _, _, _, _, rfl, rfl, .inr ⟨rfl, HFT.out, rfl, rfl, rfl⟩, Box3.new _ _ _ _ _, N9.alloc _, C9.alloc _, C9.box.sz, Ne.symm (Nat.ne_of_lt N9.sz)⟩
          · go_wp2_with fail
            refine (times_z_over _ _ _ FB hd hfit).mono ?_
            rintro e w9 ⟨rfl, hb⟩
            have C9 := C8.keep hb
            have N9 := N8.keep hb
            clear hb q0 q1 q2
            go_wp2_with fail
            go_meet
            exact ⟨_, _, _, _, _, rfl, rfl, .inl rfl, Box3.new _ _ _ _ _, N9.alloc _, C9.alloc _, C9.box.sz, Ne.symm (Nat.ne_of_lt N9.sz)⟩
        case rest =>
          obtain ⟨kt, ev, ca, cb, cc, rfl, rfl, hev, T9, N9, C0, kt1, kt2⟩ := hcut
          have HEV := Lib.hid hev
          clear hev L8 C8 N8
          go_upto_if 118 with fail
          go_cut [] (fun wx => (∃ a b c : Value, Box3 wx kt a b c) ∧ Box3 wx kn (.bool (negB ze)) (.int .u64 (hiW (Int.natAbs ze))) (.int .u64 (loW (Int.natAbs ze))) ∧ Has3 w wx w.heap.size (.bool s) (.int .u64 (h : Int)) (.int .u64 (l : Int)))
          case first =>
            rcases HEV.out with rfl | ⟨rfl, hfit, rfl, rfl, rfl⟩
            · go_wp2_with fail
              go_meet
              exact ⟨⟨_, _, _, T9⟩, N9, C0⟩
            · clear HEV
              have fneg : (-(zf * (d : Int))).natAbs < B128 := by rw [Int.natAbs_neg]; exact hfit
              have v3 := hiW_lt fneg
              have v4 := loW_lt (-(zf * (d : Int))).natAbs
              obtain ⟨zo, hzo⟩ : ∃ zo, zx - zf * (d : Int) = zo := ⟨_, rfl⟩
              have HOF := Lib.hid (show val s (nat2 h l) + val (negB (-(zf * (d : Int)))) (nat2 (hiW (Int.natAbs (-(zf * (d : Int))))) (loW (Int.natAbs (-(zf * (d : Int)))))) = zo by rw [val_ZW, HZX.out]; omega)
              have HO := HFF.out
              rw [hzo] at HO
              have ro : zo.natAbs < d := by omega
              have fo : zo.natAbs < B128 := Nat.lt_trans (Nat.lt_trans ro hd) (by decide)
              have HSM := Lib.hid (small_hi hd ro)
              have HNG := Lib.hid (show negB zo = false by simp [negB]; omega)
              have HZO := Lib.hid hzo
              clear HO hzo
              go_upto_region 18 with fail
              go_cut [25, 26] (fun p e wx => ∃ g : Nat, p = .pointer (some ⟨g, 0, none⟩) ∧ e = .int .i64 0 ∧ Box3 wx g (.bool (negB zo)) (.int .u64 (hiW (Int.natAbs zo))) (.int .u64 (loW (Int.natAbs zo))) ∧ Has3 w wx w.heap.size (.bool s) (.int .u64 (h : Int)) (.int .u64 (l : Int)) ∧ Box3 wx kn (.bool (negB ze)) (.int .u64 (hiW (Int.natAbs ze))) (.int .u64 (loW (Int.natAbs ze))) ∧ Box3 wx kt (.bool (negB (zf * (d : Int)))) (.int .u64 (hiW (Int.natAbs (zf * (d : Int))))) (.int .u64 (loW (Int.natAbs (zf * (d : Int))))))
              case first =>
                as_aux_lemma =>
                  have a0 := C0.box.c0; have a1 := C0.box.c1; have a2 := C0.box.c2
                  have b0 := T9.c0; have b1 := T9.c1; have b2 := T9.c2
                  have sa := C0.box.sz; have sb := T9.sz; have sf0 := N9.sz; have sf1 := T9.sz
                  have sw := C0.below.size
                  have D0 := C0.box
                  have E0 := T9
                  go_region_held3 (fun w' => w'.cell? ⟨w.heap.size, 0, none⟩ = some (.bool s) ∧ w'.cell? ⟨w.heap.size, 1, none⟩ = some (.int .u64 (h : Int)) ∧ w'.cell? ⟨w.heap.size, 2, none⟩ = some (.int .u64 (l : Int)) ∧ w'.cell? ⟨kt, 0, none⟩ = some (.bool (negB (zf * (d : Int)))) ∧ w'.cell? ⟨kt, 1, none⟩ = some (.int .u64 (hiW (Int.natAbs (zf * (d : Int))))) ∧ w'.cell? ⟨kt, 2, none⟩ = some (.int .u64 (loW (Int.natAbs (zf * (d : Int))))))
                    (first | (with_reducible exact ⟨DB.c0, DB.c1, DB.c2, EB.c0, EB.c1, EB.c2⟩) | (with_reducible exact ⟨(DB.alloc _).c0, (DB.alloc _).c1, (DB.alloc _).c2, (EB.alloc _).c0, (EB.alloc _).c1, (EB.alloc _).c2⟩) | (with_reducible exact ⟨(DB.far (by omega) _ _ _).c0, (DB.far (by omega) _ _ _).c1, (DB.far (by omega) _ _ _).c2, (EB.far (by omega) _ _ _).c0, (EB.far (by omega) _ _ _).c1, (EB.far (by omega) _ _ _).c2⟩) | (with_reducible exact ⟨DA.c0, DA.c1, DA.c2, EA.c0, EA.c1, EA.c2⟩) | (with_reducible exact ⟨(DA.alloc _).c0, (DA.alloc _).c1, (DA.alloc _).c2, (EA.alloc _).c0, (EA.alloc _).c1, (EA.alloc _).c2⟩) | (with_reducible exact ⟨((D0.alloc _).keep ((Below.refl _ _).drew)).c0, ((D0.alloc _).keep ((Below.refl _ _).drew)).c1, ((D0.alloc _).keep ((Below.refl _ _).drew)).c2, ((E0.alloc _).keep ((Below.refl _ _).drew)).c0, ((E0.alloc _).keep ((Below.refl _ _).drew)).c1, ((E0.alloc _).keep ((Below.refl _ _).drew)).c2⟩) | go_keep)
                    (first
                      | (go_at_call 18; refine (neg_z _ _ hfit).mono ?_; rintro e wA ⟨rfl, hbA⟩; have szA := hbA.size; (try simp at szA); have CA : Has3 w wA w.heap.size (.bool s) (.int .u64 (h : Int)) (.int .u64 (l : Int)) := (by first | (with_reducible exact C0.drew.keep hbA) | (with_reducible exact (C0.alloc _).drew.keep hbA)); have DA : Box3 wA (w.heap.size) (.bool s) (.int .u64 (h : Int)) (.int .u64 (l : Int)) := (by first | (with_reducible exact (D0.keep ((Below.refl _ _).drew)).keep hbA) | (with_reducible exact ((D0.alloc _).keep ((Below.refl _ _).drew)).keep hbA)); have EA : Box3 wA (kt) (.bool (negB (zf * (d : Int)))) (.int .u64 (hiW (Int.natAbs (zf * (d : Int))))) (.int .u64 (loW (Int.natAbs (zf * (d : Int))))) := (by first | (with_reducible exact (E0.keep ((Below.refl _ _).drew)).keep hbA) | (with_reducible exact ((E0.alloc _).keep ((Below.refl _ _).drew)).keep hbA)); have F0A : Box3 wA kn (.bool (negB ze)) (.int .u64 (hiW (Int.natAbs ze))) (.int .u64 (loW (Int.natAbs ze))) := (by first | (with_reducible exact (N9.keep ((Below.refl _ _).drew)).keep hbA) | (with_reducible exact ((N9.alloc _).keep ((Below.refl _ _).drew)).keep hbA)); have F1A : Box3 wA kt (.bool (negB (zf * (d : Int)))) (.int .u64 (hiW (Int.natAbs (zf * (d : Int))))) (.int .u64 (loW (Int.natAbs (zf * (d : Int))))) := (by first | (with_reducible exact (T9.keep ((Below.refl _ _).drew)).keep hbA) | (with_reducible exact ((T9.alloc _).keep ((Below.refl _ _).drew)).keep hbA)); first | (have NB := (by with_reducible exact (Box3.newD wc (.bool false) (.int .u64 0) (.int .u64 0) 24).keep hbA : Box3 wA wc.heap.size (.bool false) (.int .u64 0) (.int .u64 0)); have n0 := NB.c0; have n1 := NB.c1; have n2 := NB.c2; have n3 := NB.f0; have n4 := NB.f1; have n5 := NB.f2) | skip)
                      | (go_at_call 8; refine (add_ok _ _ _ _ _ _ _ _ hh hl v3 v4 HOF.out fo).mono ?_; rintro e wB ⟨rfl, hbB⟩; have szB := hbB.size; (try simp at szB); have CB : Has3 w wB w.heap.size (.bool s) (.int .u64 (h : Int)) (.int .u64 (l : Int)) := (by first | (with_reducible exact CA.keep hbB) | (with_reducible exact (CA.alloc _).keep hbB)); have DB : Box3 wB (w.heap.size) (.bool s) (.int .u64 (h : Int)) (.int .u64 (l : Int)) := (by first | (with_reducible exact DA.keep hbB) | (with_reducible exact (DA.alloc _).keep hbB)); have EB : Box3 wB (kt) (.bool (negB (zf * (d : Int)))) (.int .u64 (hiW (Int.natAbs (zf * (d : Int))))) (.int .u64 (loW (Int.natAbs (zf * (d : Int))))) := (by first | (with_reducible exact EA.keep hbB) | (with_reducible exact (EA.alloc _).keep hbB)); have F0B : Box3 wB kn (.bool (negB ze)) (.int .u64 (hiW (Int.natAbs ze))) (.int .u64 (loW (Int.natAbs ze))) := (by first | (with_reducible exact F0A.keep hbB) | (with_reducible exact (F0A.alloc _).keep hbB)); have F1B : Box3 wB kt (.bool (negB (zf * (d : Int)))) (.int .u64 (hiW (Int.natAbs (zf * (d : Int))))) (.int .u64 (loW (Int.natAbs (zf * (d : Int))))) := (by first | (with_reducible exact F1A.keep hbB) | (with_reducible exact (F1A.alloc _).keep hbB)); first | (have NB2 := (by with_reducible exact NB.keep hbB : Box3 wB wc.heap.size (.bool false) (.int .u64 0) (.int .u64 0)); have n0 := NB2.c0; have n1 := NB2.c1; have n2 := NB2.c2; have n3 := NB2.f0; have n4 := NB2.f1; have n5 := NB2.f2) | (have NB2 := (by with_reducible exact (Box3.new wA (.bool false) (.int .u64 0) (.int .u64 0) 24).keep hbB : Box3 wB wA.heap.size (.bool false) (.int .u64 0) (.int .u64 0)); have n0 := NB2.c0; have n1 := NB2.c1; have n2 := NB2.c2; have n3 := NB2.f0; have n4 := NB2.f1; have n5 := NB2.f2) | skip))
                  all_goals
                    go_wp2_with fail
                    go_meet
                    refine ⟨_, rfl, rfl, ?_, ?_, ?_, ?_⟩
                    · first
                        | with_reducible exact NB2.stored _ _ _
                        | with_reducible exact Box3.new _ _ _ _ _
                    · first
                        | with_reducible exact CB.far (by omega) (by omega) _ _ _
                        | with_reducible exact CB.alloc _
                    · first
                        | with_reducible exact F0B.far (by omega) _ _ _
                        | with_reducible exact F0B.alloc _
                    · first
                        | with_reducible exact F1B.far (by omega) _ _ _
                        | with_reducible exact F1B.alloc _
              case rest =>
                obtain ⟨g, rfl, rfl, G, C1, N1, T1⟩ := hcut
                have g0 : wc.cell? ⟨g, 0, none⟩ = some (.bool false) := by rw [G.c0, HNG.out]
                have g1 : wc.cell? ⟨g, 1, none⟩ = some (.int .u64 0) := by rw [G.c1, HSM.out.1]; rfl
                have g2 : wc.cell? ⟨g, 2, none⟩ = some (.int .u64 (zo.natAbs : Int)) := by rw [G.c2, HSM.out.2]
                generalize hO : (zo.natAbs : Int) = O at g2
                have oo : O < (d : Int) := by omega
                clear hO
                go_wp2_with fail
                go_meet
                exact ⟨⟨_, _, _, T1⟩, N1, C1⟩
          case rest =>
            obtain ⟨⟨ca, cb, cc, T1⟩, N1, C0⟩ := hcut
            clear HEV T9 N9
            go_upto_region 21 with fail
            go_cut [24] (fun e wx => ∃ (ev : Int), e = .int .i64 ev ∧ (ev = 11 ∨ ev = 0 ∧ (ze * (d : Int)).natAbs < B128 ∧ Box3 wx kt (.bool (negB (ze * (d : Int)))) (.int .u64 (hiW (Int.natAbs (ze * (d : Int))))) (.int .u64 (loW (Int.natAbs (ze * (d : Int)))))) ∧ Has3 w wx w.heap.size (.bool s) (.int .u64 (h : Int)) (.int .u64 (l : Int)))
            case first =>
              have q0 := N1.c0; have q1 := N1.c1; have q2 := N1.c2
              by_cases hfit : ze.natAbs * d < B128
              · have HFT := Lib.hid (show (ze * (d : Int)).natAbs < B128 by rw [natAbs_times]; exact hfit)
                go_wp2_with fail
                refine (times_z _ _ _ EB hd hfit).mono ?_
                rintro e w9 ⟨rfl, hb⟩
                have C9 := C0.keep hb
                have T9 := T1.keep hb
                clear hb q0 q1 q2
                have t0 := T9.c0; have t1 := T9.c1; have t2 := T9.c2; have t3 := T9.f0; have t4 := T9.f1; have t5 := T9.f2
                go_wp2_with fail
                go_meet
                exact ⟨_, rfl, .inr ⟨rfl, HFT.out, T9.stored _ _ _⟩, C9.far (by omega) (by omega) _ _ _⟩
              · go_wp2_with fail
                refine (times_z_over _ _ _ EB hd hfit).mono ?_
                rintro e w9 ⟨rfl, hb⟩
                have C9 := C0.keep hb
                have T9 := T1.keep hb
                clear hb q0 q1 q2
                have t0 := T9.c0; have t1 := T9.c1; have t2 := T9.c2; have t3 := T9.f0; have t4 := T9.f1; have t5 := T9.f2
                go_wp2_with fail
                go_meet
                exact ⟨_, rfl, .inl rfl, C9.far (by omega) (by omega) _ _ _⟩
            case rest =>
              obtain ⟨ev, rfl, hev, C0⟩ := hcut
              have HEV := Lib.hid hev
              clear hev N1 T1
              go_upto_if 150 with fail
              go_cut [] (fun wx => Has3 w wx w.heap.size (.bool s) (.int .u64 (h : Int)) (.int .u64 (l : Int)))
              case first =>
                rcases HEV.out with rfl | ⟨rfl, hfit, T9⟩
                · go_wp2_with fail
                  go_meet
                  exact C0
                · clear HEV
                  have fneg : (-(ze * (d : Int))).natAbs < B128 := by rw [Int.natAbs_neg]; exact hfit
                  have v3 := hiW_lt fneg
                  have v4 := loW_lt (-(ze * (d : Int))).natAbs
                  obtain ⟨zo, hzo⟩ : ∃ zo, zx - ze * (d : Int) = zo := ⟨_, rfl⟩
                  have HOF := Lib.hid (show val s (nat2 h l) + val (negB (-(ze * (d : Int)))) (nat2 (hiW (Int.natAbs (-(ze * (d : Int))))) (loW (Int.natAbs (-(ze * (d : Int)))))) = zo by rw [val_ZW, HZX.out]; omega)
                  have HO := HEF.out
                  rw [hzo] at HO
                  have ro : zo.natAbs < d := HO.2
                  have fo : zo.natAbs < B128 := Nat.lt_trans (Nat.lt_trans ro hd) (by decide)
                  have HSM := Lib.hid (small_hi hd ro)
                  have HHF := Lib.hid HO.1
                  have HZO := Lib.hid hzo
                  clear HO hzo
                  go_upto_region 23 with fail
                  go_cut [27, 28] (fun p e wx => ∃ g : Nat, p = .pointer (some ⟨g, 0, none⟩) ∧ e = .int .i64 0 ∧ Box3 wx g (.bool (negB zo)) (.int .u64 (hiW (Int.natAbs zo))) (.int .u64 (loW (Int.natAbs zo))) ∧ Has3 w wx w.heap.size (.bool s) (.int .u64 (h : Int)) (.int .u64 (l : Int)))
                  case first =>
                    as_aux_lemma =>
                      have a0 := C0.box.c0; have a1 := C0.box.c1; have a2 := C0.box.c2
                      have b0 := T9.c0; have b1 := T9.c1; have b2 := T9.c2
                      have sa := C0.box.sz; have sb := T9.sz
                      have sw := C0.below.size
                      have D0 := C0.box
                      have E0 := T9
                      go_region_held3 (fun w' => w'.cell? ⟨w.heap.size, 0, none⟩ = some (.bool s) ∧ w'.cell? ⟨w.heap.size, 1, none⟩ = some (.int .u64 (h : Int)) ∧ w'.cell? ⟨w.heap.size, 2, none⟩ = some (.int .u64 (l : Int)) ∧ w'.cell? ⟨kt, 0, none⟩ = some (.bool (negB (ze * (d : Int)))) ∧ w'.cell? ⟨kt, 1, none⟩ = some (.int .u64 (hiW (Int.natAbs (ze * (d : Int))))) ∧ w'.cell? ⟨kt, 2, none⟩ = some (.int .u64 (loW (Int.natAbs (ze * (d : Int))))))
                        (first | (with_reducible exact ⟨DB.c0, DB.c1, DB.c2, EB.c0, EB.c1, EB.c2⟩) | (with_reducible exact ⟨(DB.alloc _).c0, (DB.alloc _).c1, (DB.alloc _).c2, (EB.alloc _).c0, (EB.alloc _).c1, (EB.alloc _).c2⟩) | (with_reducible exact ⟨(DB.far (by omega) _ _ _).c0, (DB.far (by omega) _ _ _).c1, (DB.far (by omega) _ _ _).c2, (EB.far (by omega) _ _ _).c0, (EB.far (by omega) _ _ _).c1, (EB.far (by omega) _ _ _).c2⟩) | (with_reducible exact ⟨DA.c0, DA.c1, DA.c2, EA.c0, EA.c1, EA.c2⟩) | (with_reducible exact ⟨(DA.alloc _).c0, (DA.alloc _).c1, (DA.alloc _).c2, (EA.alloc _).c0, (EA.alloc _).c1, (EA.alloc _).c2⟩) | (with_reducible exact ⟨((D0.alloc _).keep ((Below.refl _ _).drew)).c0, ((D0.alloc _).keep ((Below.refl _ _).drew)).c1, ((D0.alloc _).keep ((Below.refl _ _).drew)).c2, ((E0.alloc _).keep ((Below.refl _ _).drew)).c0, ((E0.alloc _).keep ((Below.refl _ _).drew)).c1, ((E0.alloc _).keep ((Below.refl _ _).drew)).c2⟩) | go_keep)
                        (first
                          | (go_at_call 18; refine (neg_z _ _ hfit).mono ?_; rintro e wA ⟨rfl, hbA⟩; have szA := hbA.size; (try simp at szA); have CA : Has3 w wA w.heap.size (.bool s) (.int .u64 (h : Int)) (.int .u64 (l : Int)) := (by first | (with_reducible exact C0.drew.keep hbA) | (with_reducible exact (C0.alloc _).drew.keep hbA)); have DA : Box3 wA (w.heap.size) (.bool s) (.int .u64 (h : Int)) (.int .u64 (l : Int)) := (by first | (with_reducible exact (D0.keep ((Below.refl _ _).drew)).keep hbA) | (with_reducible exact ((D0.alloc _).keep ((Below.refl _ _).drew)).keep hbA)); have EA : Box3 wA (kt) (.bool (negB (ze * (d : Int)))) (.int .u64 (hiW (Int.natAbs (ze * (d : Int))))) (.int .u64 (loW (Int.natAbs (ze * (d : Int))))) := (by first | (with_reducible exact (E0.keep ((Below.refl _ _).drew)).keep hbA) | (with_reducible exact ((E0.alloc _).keep ((Below.refl _ _).drew)).keep hbA)); first | (have NB := (by with_reducible exact (Box3.newD wc (.bool false) (.int .u64 0) (.int .u64 0) 24).keep hbA : Box3 wA wc.heap.size (.bool false) (.int .u64 0) (.int .u64 0)); have n0 := NB.c0; have n1 := NB.c1; have n2 := NB.c2; have n3 := NB.f0; have n4 := NB.f1; have n5 := NB.f2) | skip)
                          | (go_at_call 8; refine (add_ok _ _ _ _ _ _ _ _ hh hl v3 v4 HOF.out fo).mono ?_; rintro e wB ⟨rfl, hbB⟩; have szB := hbB.size; (try simp at szB); have CB : Has3 w wB w.heap.size (.bool s) (.int .u64 (h : Int)) (.int .u64 (l : Int)) := (by first | (with_reducible exact CA.keep hbB) | (with_reducible exact (CA.alloc _).keep hbB)); have DB : Box3 wB (w.heap.size) (.bool s) (.int .u64 (h : Int)) (.int .u64 (l : Int)) := (by first | (with_reducible exact DA.keep hbB) | (with_reducible exact (DA.alloc _).keep hbB)); have EB : Box3 wB (kt) (.bool (negB (ze * (d : Int)))) (.int .u64 (hiW (Int.natAbs (ze * (d : Int))))) (.int .u64 (loW (Int.natAbs (ze * (d : Int))))) := (by first | (with_reducible exact EA.keep hbB) | (with_reducible exact (EA.alloc _).keep hbB)); first | (have NB2 := (by with_reducible exact NB.keep hbB : Box3 wB wc.heap.size (.bool false) (.int .u64 0) (.int .u64 0)); have n0 := NB2.c0; have n1 := NB2.c1; have n2 := NB2.c2; have n3 := NB2.f0; have n4 := NB2.f1; have n5 := NB2.f2) | (have NB2 := (by with_reducible exact (Box3.new wA (.bool false) (.int .u64 0) (.int .u64 0) 24).keep hbB : Box3 wB wA.heap.size (.bool false) (.int .u64 0) (.int .u64 0)); have n0 := NB2.c0; have n1 := NB2.c1; have n2 := NB2.c2; have n3 := NB2.f0; have n4 := NB2.f1; have n5 := NB2.f2) | skip))
                      all_goals
                        go_wp2_with fail
                        go_meet
                        refine ⟨_, rfl, rfl, ?_, ?_⟩
                        · first
                            | with_reducible exact NB2.stored _ _ _
                            | with_reducible exact Box3.new _ _ _ _ _
                        · first
                            | with_reducible exact CB.far (by omega) (by omega) _ _ _
                            | with_reducible exact CB.alloc _
                  case rest =>
                    obtain ⟨g, rfl, rfl, G, C1⟩ := hcut
                    have g0 := G.c0
                    have g1 : wc.cell? ⟨g, 1, none⟩ = some (.int .u64 0) := by rw [G.c1, HSM.out.1]; rfl
                    have g2 : wc.cell? ⟨g, 2, none⟩ = some (.int .u64 (zo.natAbs : Int)) := by rw [G.c2, HSM.out.2]
                    generalize hO : (zo.natAbs : Int) = O at g2
                    have o0 : 0 ≤ O := by omega
                    have oo : O < (d : Int) := by omega
                    have o1 : O ≤ (d : Int) - O := by have := HHF.out; omega
                    have dn : IntKind.u64.wrap ((d : Int) - O) = (d : Int) - O := by rw [IntKind.wrap_u64]; unfold B64 at hd; omega
                    clear hO
                    go_wp2_with fail
                    go_meet
                    exact C1
              case rest =>
                have C1 := hcut
                clear hcut HEV C0
                go_wp2_with fail
                refine (known_any _).mono ?_
                rintro e w2 ⟨rfl, hb⟩
                have C3 := C1.keep hb
                clear hb
                go_wp2_with fail
                go_ret
                exact ⟨rfl, C3.below⟩
end Go.Proofs.Ytbenpcnibongaaa
