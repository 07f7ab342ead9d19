/- Contracts of package wide: Add, Cmp. -/
import Derived.Test.YtgkogjlcecbfjaaWide3
import Derived.Test.YtgkogjlcecbfjaaQuietTail
import Derived.Deep.QuietTactic
import Derived.Deep.DeepCutAuto
namespace Go.Proofs.Ytgkogjlcecbfjaa
open Go.RowKit Corr
set_option linter.unusedVariables false

theorem add_same_ok (s : Bool) (h l h' l' : Nat) (w : World) (hh : h < B64) (hl : l < B64) (hh' : h' < B64) (hl' : l' < B64) (hfit : nat2 h l + nat2 h' l' < B128) :
    Calls Try.prog 11 #[WV s h l, WV s h' l'] w fun e w' => e = .returned (.tuple #[ZW (val s (nat2 h l + nat2 h' l')), .int .i64 0]) ∧ Below w.heap.size w w' := by
  have a1 := add64_run0 l l'
  have a2 := add64_run h h' (hiW (l + l')) (hiW_sum_lt hl hl')
  have t : (((hiW (h + h' + hiW (l + l')) : Nat) : Int) != 0) = false := by rw [hiW_small (add_fit.1 hfit)]; rfl
  have l1 := loW_lt (h + h' + hiW (l + l'))
  have l2 := loW_lt (l + l')
  have HV := Lib.hid (congrArg (val s) (add_is hfit))
  have b1 : (s != s) = false := by simp
  go_enter Try.func11, Try.ntmps11
  go_wp2_with fail
  refine (canonical_z _ _ _ _ _ l1 l2 HV.out).mono ?_
  rintro e w1 ⟨rfl, hb⟩
  obtain ⟨hc, hf⟩ := bcell hb
  go_wp2_with fail
  refine bodyPost_ret (v := .tuple #[ZW (val s (nat2 h l + nat2 h' l')), .int .i64 0]) (by simp [results, Try.results11, go_sem, hc]) rfl ⟨rfl, ?_⟩
  exact (((((((Below.refl _ _).alloc (Nat.le_refl _) _).alloc (by simp) _).alloc (by simp; omega) _).trans (hb.mono (by simp; omega))).setCell (by simp; omega) _).setCell (by simp; omega) _).setCell (by simp; omega) _

theorem add_same_over (s : Bool) (h l h' l' : Nat) (w : World) (hh : h < B64) (hl : l < B64) (hh' : h' < B64) (hl' : l' < B64) (hfit : ¬ nat2 h l + nat2 h' l' < B128) :
    Calls Try.prog 11 #[WV s h l, WV s h' l'] w fun e w' => e = .returned (.tuple #[W0, .int .i64 11]) ∧ Below w.heap.size w w' := by
  have a1 := add64_run0 l l'
  have a2 := add64_run h h' (hiW (l + l')) (hiW_sum_lt hl hl')
  have t : (((hiW (h + h' + hiW (l + l')) : Nat) : Int) != 0) = true := by
    have := hiW_pos (Nat.le_of_not_lt (fun h => hfit (add_fit.2 h)))
    rw [bne_iff_ne]; omega
  have b1 : (s != s) = false := by simp
  go_enter Try.func11, Try.ntmps11
  go_wp2_with fail
  refine bodyPost_ret (v := .tuple #[W0, .int .i64 11]) (by simp [results, Try.results11, go_sem]) rfl ⟨rfl, ?_⟩
  exact (((Below.refl _ _).alloc (Nat.le_refl _) _).alloc (by simp) _).alloc (by simp; omega) _

theorem add_apart (s s' : Bool) (h l h' l' : Nat) (z : Int) (w : World) (hh : h < B64) (hl : l < B64) (hh' : h' < B64) (hl' : l' < B64) (hs : s' = !s)
    (hz : val s (nat2 h l) + val s' (nat2 h' l') = z) :
    Calls Try.prog 11 #[WV s h l, WV s' h' l'] w fun e w' => e = .returned (.tuple #[ZW z, .int .i64 0]) ∧ Below w.heap.size w w' := by
  have HS := Lib.hid hs
  have HZ := Lib.hid hz
  cases s <;> cases s' <;> first | (simp at hs; done) | skip
  all_goals
    clear hs hz
    go_enter Try.func11, Try.ntmps11
    go_wp2_with fail
    refine (apart_any _ _ _ _ _ _ _ _ hh hl hh' hl' HS.out HZ.out).mono ?_
    rintro e w1 ⟨rfl, hb⟩
    obtain ⟨hc, hf⟩ := bcell hb
    go_wp2_with fail
    refine bodyPost_ret (v := .tuple #[ZW z, .int .i64 0]) (by simp [results, Try.results11, go_sem, hc]) rfl ⟨rfl, ?_⟩
    exact (((((((Below.refl _ _).alloc (Nat.le_refl _) _).alloc (by simp) _).alloc (by simp; omega) _).trans (hb.mono (by simp; omega))).setCell (by simp; omega) _).setCell (by simp; omega) _).setCell (by simp; omega) _

theorem apart_fits (s s' : Bool) (a b : Nat) (ha : a < B128) (hb : b < B128) (hs : s' = !s) : (val s a + val s' b).natAbs < B128 := by
  subst hs; cases s <;> simp [val] <;> omega
/-- Add, where the sum fits. -/
theorem add_ok (s s' : Bool) (h l h' l' : Nat) (z : Int) (w : World) (hh : h < B64) (hl : l < B64) (hh' : h' < B64) (hl' : l' < B64)
    (hz : val s (nat2 h l) + val s' (nat2 h' l') = z) (hfit : z.natAbs < B128) :
    Calls Try.prog 11 #[WV s h l, WV s' h' l'] w fun e w' => e = .returned (.tuple #[ZW z, .int .i64 0]) ∧ Below w.heap.size w w' := by
  by_cases hs : s' = s
  · subst hs
    rw [val_add] at hz
    rw [← hz, natAbs_val] at hfit
    rw [← hz]
    exact add_same_ok _ h l h' l' w hh hl hh' hl' hfit
  · exact add_apart s s' h l h' l' z w hh hl hh' hl' (by cases s <;> cases s' <;> simp_all) hz
/-- Add, where it does not. -/
theorem add_over (s s' : Bool) (h l h' l' : Nat) (z : Int) (w : World) (hh : h < B64) (hl : l < B64) (hh' : h' < B64) (hl' : l' < B64)
    (hz : val s (nat2 h l) + val s' (nat2 h' l') = z) (hfit : ¬ z.natAbs < B128) :
    Calls Try.prog 11 #[WV s h l, WV s' h' l'] w fun e w' => e = .returned (.tuple #[W0, .int .i64 11]) ∧ Below w.heap.size w w' := by
  by_cases hs : s' = s
  · subst hs
    rw [val_add] at hz
    rw [← hz, natAbs_val] at hfit
    exact add_same_over _ h l h' l' w hh hl hh' hl' hfit
  · exact absurd (hz ▸ apart_fits s s' _ _ (nat2_lt hh hl) (nat2_lt hh' hl') (by cases s <;> cases s' <;> simp_all)) hfit

/-- Two blocks of three cells, side by side, that may be written. -/
structure Box6 (w : World) (k : Nat) (a b c d e f : Value) : Prop where
  c0 : w.cell? ⟨k, 0, none⟩ = some a
  c1 : w.cell? ⟨k, 1, none⟩ = some b
  c2 : w.cell? ⟨k, 2, none⟩ = some c
  d0 : w.cell? ⟨k + 1, 0, none⟩ = some d
  d1 : w.cell? ⟨k + 1, 1, none⟩ = some e
  d2 : w.cell? ⟨k + 1, 2, none⟩ = some f
  f0 : w.frozen? ⟨k, 0, none⟩ = false
  f1 : w.frozen? ⟨k, 1, none⟩ = false
  f2 : w.frozen? ⟨k, 2, none⟩ = false
  g0 : w.frozen? ⟨k + 1, 0, none⟩ = false
  g1 : w.frozen? ⟨k + 1, 1, none⟩ = false
  g2 : w.frozen? ⟨k + 1, 2, none⟩ = false
  sz : k + 1 < w.heap.size
theorem Box6.keep {W w1 : World} {k : Nat} {a b c d e f : Value} (h : Box6 W k a b c d e f) (hb : Below W.heap.size W w1) : Box6 w1 k a b c d e f := by
  have hk := h.sz
  have e1 : ∀ o, w1.cell? ⟨k, o, none⟩ = W.cell? ⟨k, o, none⟩ := fun o => hb.cell (by show k < _; omega)
  have e2 : ∀ o, w1.cell? ⟨k + 1, o, none⟩ = W.cell? ⟨k + 1, o, none⟩ := fun o => hb.cell (by show k + 1 < _; omega)
  have e3 : ∀ o, w1.frozen? ⟨k, o, none⟩ = W.frozen? ⟨k, o, none⟩ := fun o => hb.frozen (by show k < _; omega)
  have e4 : ∀ o, w1.frozen? ⟨k + 1, o, none⟩ = W.frozen? ⟨k + 1, o, none⟩ := fun o => hb.frozen (by show k + 1 < _; omega)
  exact ⟨(e1 _).trans h.c0, (e1 _).trans h.c1, (e1 _).trans h.c2, (e2 _).trans h.d0, (e2 _).trans h.d1, (e2 _).trans h.d2, (e3 _).trans h.f0, (e3 _).trans h.f1, (e3 _).trans h.f2, (e4 _).trans h.g0, (e4 _).trans h.g1, (e4 _).trans h.g2, Nat.lt_of_lt_of_le hk hb.size⟩
theorem Box6.mk2 (w : World) (a b c d e f : Value) (T T' : TypeId) : Box6 (((w.alloc (.cells #[a, b, c] T)).alloc (.cells #[d, e, f] T')).drew) w.heap.size a b c d e f := by
  have h1 : ((w.alloc (.cells #[a, b, c] T)).alloc (.cells #[d, e, f] T')).heap[w.heap.size]? = some (.cells #[a, b, c] T) := by
    rw [heap_alloc_old _ _ _ (by simp), heap_alloc_new]
  have h2 : ((w.alloc (.cells #[a, b, c] T)).alloc (.cells #[d, e, f] T')).heap[w.heap.size + 1]? = some (.cells #[d, e, f] T') := by
    rw [← size_alloc w (.cells #[a, b, c] T), heap_alloc_new]
  obtain ⟨⟨a0, a1, a2⟩, b0, b1, b2⟩ := cells3 (Below.refl _ _) h1
  obtain ⟨⟨c0, c1, c2⟩, d0, d1, d2⟩ := cells3 (Below.refl _ _) h2
  exact ⟨a0, a1, a2, c0, c1, c2, b0, b1, b2, d0, d1, d2, by show w.heap.size + 1 < ((w.alloc _).alloc _).heap.size; simp⟩

/-- Such blocks, new since the world w. -/
structure New6 (w W : World) (a b c d e f : Value) : Prop where
  box : Box6 W w.heap.size a b c d e f
  below : Below w.heap.size w W
theorem New6.keep {w W w1 : World} {a b c d e f : Value} (h : New6 w W a b c d e f) (hb : Below W.heap.size W w1) : New6 w w1 a b c d e f :=
  ⟨h.box.keep hb, h.below.trans (hb.mono (by have := h.box.sz; omega))⟩
theorem New6.mk2 (w : World) (a b c d e f : Value) (T T' : TypeId) : New6 w (((w.alloc (.cells #[a, b, c] T)).alloc (.cells #[d, e, f] T')).drew) a b c d e f :=
  ⟨Box6.mk2 w a b c d e f T T', (((Below.refl _ _).alloc (Nat.le_refl _) _).alloc (by simp) _).drew⟩

theorem New6.stored {w W : World} {a b c d e f : Value} (h : New6 w W a b c d e f) (a' b' c' d' e' f' : Value) :
    New6 w ((((((W.setCell ⟨w.heap.size, 0, none⟩ a').setCell ⟨w.heap.size, 1, none⟩ b').setCell ⟨w.heap.size, 2, none⟩ c').setCell ⟨w.heap.size + 1, 0, none⟩ d').setCell ⟨w.heap.size + 1, 1, none⟩ e').setCell ⟨w.heap.size + 1, 2, none⟩ f') a' b' c' d' e' f' := by
  obtain ⟨⟨c0, c1, c2, d0, d1, d2, f0, f1, f2, g0, g1, g2, sz⟩, hb⟩ := h
  refine ⟨⟨?_, ?_, ?_, ?_, ?_, ?_, ?_, ?_, ?_, ?_, ?_, ?_, ?_⟩, ?_⟩
  · simp [go_sem, c0]
  · simp [go_sem, c1]
  · simp [go_sem, c2]
  · simp [go_sem, d0]
  · simp [go_sem, d1]
  · simp [go_sem, d2]
  · simp [go_sem, f0]
  · simp [go_sem, f1]
  · simp [go_sem, f2]
  · simp [go_sem, g0]
  · simp [go_sem, g1]
  · simp [go_sem, g2]
  · simp [go_sem]; omega
  · exact (((((hb.setCell (by simp) _).setCell (by simp) _).setCell (by simp) _).setCell (by simp) _).setCell (by simp) _).setCell (by simp) _

theorem cmp_neg (x y : Int) (hx : x < 0) (hy : y < 0) : cmpI (y.natAbs : Int) (x.natAbs : Int) = cmpI x y := by
  unfold cmpI; split <;> split <;> first | rfl | omega | (split <;> first | rfl | omega)
theorem cmp_pos (x y : Int) (hx : ¬ x < 0) (hy : ¬ y < 0) : cmpI (x.natAbs : Int) (y.natAbs : Int) = cmpI x y := by
  rw [show (x.natAbs : Int) = x by omega, show (y.natAbs : Int) = y by omega]

set_option maxHeartbeats 1000000 in
theorem cmp_walk (s s' : Bool) (h l h' l' : Nat) (w : World) (hh : h < B64) (hl : l < B64) (hh' : h' < B64) (hl' : l' < B64) :
    Calls Try.prog 22 #[WV s h l, WV s' h' l'] w fun e w' => e = .returned (.int .i64 (cmpI (val s (nat2 h l)) (val s' (nat2 h' l')))) ∧ Below w.heap.size w w' := by
  have S0 := New6.mk2 w (.bool s) (.int .u64 (h : Int)) (.int .u64 (l : Int)) (.bool s') (.int .u64 (h' : Int)) (.int .u64 (l' : Int)) 24 24
  generalize hzx : val s (nat2 h l) = zx
  generalize hzy : val s' (nat2 h' l') = zy
  have HX := Lib.hid hzx
  have HY := Lib.hid hzy
  clear hzx hzy
  go_enter Try.func22, Try.ntmps22
  go_upto_region 1 with fail
  go_cut [] (fun wx => New6 w wx (.bool (negB zx)) (.int .u64 (hiW zx.natAbs)) (.int .u64 (loW zx.natAbs)) (.bool (negB zy)) (.int .u64 (hiW zy.natAbs)) (.int .u64 (loW zy.natAbs)))
  case first =>
    refine wp_region_quiet_tail 14 (fun w' => New6 w w' (.bool s) (.int .u64 (h : Int)) (.int .u64 (l : Int)) (.bool s') (.int .u64 (h' : Int)) (.int .u64 (l' : Int))) (by kernel_rfl) (by kernel_rfl) S0 ?_
    simp only [List.take_succ_cons, List.take_zero, List.drop_succ_cons, List.drop_zero]
    refine wpQuiet_step (fun K hK => ?_)
    rw [if_pos (by rfl)]
    refine ⟨.pointer (some ⟨w.heap.size, 0, none⟩), fun w' hw' => ?_, hK _ ?_⟩
    · (have k0 := hw'.box.c0; have k1 := hw'.box.c1; have k2 := hw'.box.c2; have k3 := hw'.box.d0; have k4 := hw'.box.d1; have k5 := hw'.box.d2; go_simp)
    clear hK K
    simp only [Act.put, List.setIfInBounds_toArray, List.set_cons_zero, List.set_cons_succ]
    refine wpQuiet_step (fun K hK => ?_)
    rw [if_pos (by rfl)]
    refine ⟨.bool s, fun w' hw' => ?_, hK _ ?_⟩
    · (have k0 := hw'.box.c0; have k1 := hw'.box.c1; have k2 := hw'.box.c2; have k3 := hw'.box.d0; have k4 := hw'.box.d1; have k5 := hw'.box.d2; go_simp)
    clear hK K
    simp only [Act.put, List.setIfInBounds_toArray, List.set_cons_zero, List.set_cons_succ]
    refine wpQuiet_step (fun K hK => ?_)
    rw [if_pos (by rfl)]
    refine ⟨.pointer (some ⟨w.heap.size, 1, none⟩), fun w' hw' => ?_, hK _ ?_⟩
    · (have k0 := hw'.box.c0; have k1 := hw'.box.c1; have k2 := hw'.box.c2; have k3 := hw'.box.d0; have k4 := hw'.box.d1; have k5 := hw'.box.d2; go_simp)
    clear hK K
    simp only [Act.put, List.setIfInBounds_toArray, List.set_cons_zero, List.set_cons_succ]
    refine wpQuiet_step (fun K hK => ?_)
    rw [if_pos (by rfl)]
    refine ⟨.int .u64 (h : Int), fun w' hw' => ?_, hK _ ?_⟩
    · (have k0 := hw'.box.c0; have k1 := hw'.box.c1; have k2 := hw'.box.c2; have k3 := hw'.box.d0; have k4 := hw'.box.d1; have k5 := hw'.box.d2; go_simp)
    clear hK K
    simp only [Act.put, List.setIfInBounds_toArray, List.set_cons_zero, List.set_cons_succ]
    refine wpQuiet_step (fun K hK => ?_)
    rw [if_pos (by rfl)]
    refine ⟨.pointer (some ⟨w.heap.size, 2, none⟩), fun w' hw' => ?_, hK _ ?_⟩
    · (have k0 := hw'.box.c0; have k1 := hw'.box.c1; have k2 := hw'.box.c2; have k3 := hw'.box.d0; have k4 := hw'.box.d1; have k5 := hw'.box.d2; go_simp)
    clear hK K
    simp only [Act.put, List.setIfInBounds_toArray, List.set_cons_zero, List.set_cons_succ]
    refine wpQuiet_step (fun K hK => ?_)
    rw [if_pos (by rfl)]
    refine ⟨.int .u64 (l : Int), fun w' hw' => ?_, hK _ ?_⟩
    · (have k0 := hw'.box.c0; have k1 := hw'.box.c1; have k2 := hw'.box.c2; have k3 := hw'.box.d0; have k4 := hw'.box.d1; have k5 := hw'.box.d2; go_simp)
    clear hK K
    simp only [Act.put, List.setIfInBounds_toArray, List.set_cons_zero, List.set_cons_succ]
    refine wpQuiet_step (fun K hK => ?_)
    rw [if_pos (by rfl)]
    refine ⟨ZW zx, fun w' hw' => ?_, hK _ ?_⟩
    · go_simp
      exact (canonical_z _ _ _ _ _ hh hl HX.out).mono fun e w1 ⟨he, hb⟩ => ⟨he, hw'.keep hb⟩
    clear hK K
    simp only [Act.put, List.setIfInBounds_toArray, List.set_cons_zero, List.set_cons_succ]
    refine wpQuiet_step (fun K hK => ?_)
    rw [if_pos (by rfl)]
    refine ⟨.pointer (some ⟨w.heap.size + 1, 0, none⟩), fun w' hw' => ?_, hK _ ?_⟩
    · (have k0 := hw'.box.c0; have k1 := hw'.box.c1; have k2 := hw'.box.c2; have k3 := hw'.box.d0; have k4 := hw'.box.d1; have k5 := hw'.box.d2; go_simp)
    clear hK K
    simp only [Act.put, List.setIfInBounds_toArray, List.set_cons_zero, List.set_cons_succ]
    refine wpQuiet_step (fun K hK => ?_)
    rw [if_pos (by rfl)]
    refine ⟨.bool s', fun w' hw' => ?_, hK _ ?_⟩
    · (have k0 := hw'.box.c0; have k1 := hw'.box.c1; have k2 := hw'.box.c2; have k3 := hw'.box.d0; have k4 := hw'.box.d1; have k5 := hw'.box.d2; go_simp)
    clear hK K
    simp only [Act.put, List.setIfInBounds_toArray, List.set_cons_zero, List.set_cons_succ]
    refine wpQuiet_step (fun K hK => ?_)
    rw [if_pos (by rfl)]
    refine ⟨.pointer (some ⟨w.heap.size + 1, 1, none⟩), fun w' hw' => ?_, hK _ ?_⟩
    · (have k0 := hw'.box.c0; have k1 := hw'.box.c1; have k2 := hw'.box.c2; have k3 := hw'.box.d0; have k4 := hw'.box.d1; have k5 := hw'.box.d2; go_simp)
    clear hK K
    simp only [Act.put, List.setIfInBounds_toArray, List.set_cons_zero, List.set_cons_succ]
    refine wpQuiet_step (fun K hK => ?_)
    rw [if_pos (by rfl)]
    refine ⟨.int .u64 (h' : Int), fun w' hw' => ?_, hK _ ?_⟩
    · (have k0 := hw'.box.c0; have k1 := hw'.box.c1; have k2 := hw'.box.c2; have k3 := hw'.box.d0; have k4 := hw'.box.d1; have k5 := hw'.box.d2; go_simp)
    clear hK K
    simp only [Act.put, List.setIfInBounds_toArray, List.set_cons_zero, List.set_cons_succ]
    refine wpQuiet_step (fun K hK => ?_)
    rw [if_pos (by rfl)]
    refine ⟨.pointer (some ⟨w.heap.size + 1, 2, none⟩), fun w' hw' => ?_, hK _ ?_⟩
    · (have k0 := hw'.box.c0; have k1 := hw'.box.c1; have k2 := hw'.box.c2; have k3 := hw'.box.d0; have k4 := hw'.box.d1; have k5 := hw'.box.d2; go_simp)
    clear hK K
    simp only [Act.put, List.setIfInBounds_toArray, List.set_cons_zero, List.set_cons_succ]
    refine wpQuiet_step (fun K hK => ?_)
    rw [if_pos (by rfl)]
    refine ⟨.int .u64 (l' : Int), fun w' hw' => ?_, hK _ ?_⟩
    · (have k0 := hw'.box.c0; have k1 := hw'.box.c1; have k2 := hw'.box.c2; have k3 := hw'.box.d0; have k4 := hw'.box.d1; have k5 := hw'.box.d2; go_simp)
    clear hK K
    simp only [Act.put, List.setIfInBounds_toArray, List.set_cons_zero, List.set_cons_succ]
    refine wpQuiet_step (fun K hK => ?_)
    rw [if_pos (by rfl)]
    refine ⟨ZW zy, fun w' hw' => ?_, hK _ ?_⟩
    · go_simp
      exact (canonical_z _ _ _ _ _ hh' hl' HY.out).mono fun e w1 ⟨he, hb⟩ => ⟨he, hw'.keep hb⟩
    clear hK K
    simp only [Act.put, List.setIfInBounds_toArray, List.set_cons_zero, List.set_cons_succ]
    refine wpQuiet_nil ?_
    intro w' hw'
    have k0 := hw'.box.c0; have k1 := hw'.box.c1; have k2 := hw'.box.c2; have k3 := hw'.box.d0; have k4 := hw'.box.d1; have k5 := hw'.box.d2
    have k6 := hw'.box.f0; have k7 := hw'.box.f1; have k8 := hw'.box.f2; have k9 := hw'.box.g0; have k10 := hw'.box.g1; have k11 := hw'.box.g2
    have HS := hw'.stored (.bool (negB zx)) (.int .u64 (hiW zx.natAbs)) (.int .u64 (loW zx.natAbs)) (.bool (negB zy)) (.int .u64 (hiW zy.natAbs)) (.int .u64 (loW zy.natAbs))
    go_wp2_with fail
    go_meet
    exact HS
  case rest =>
    have nx : zx.natAbs < B128 := by rw [← HX.out, natAbs_val]; exact nat2_lt hh hl
    have ny : zy.natAbs < B128 := by rw [← HY.out, natAbs_val]; exact nat2_lt hh' hl'
    have x1 := hiW_lt nx
    have x2 := loW_lt zx.natAbs
    have y1 := hiW_lt ny
    have y2 := loW_lt zy.natAbs
    clear nx ny S0 HX HY hh hl hh' hl'
    have k0 := hcut.box.c0; have k1 := hcut.box.c1; have k2 := hcut.box.c2; have k3 := hcut.box.d0; have k4 := hcut.box.d1; have k5 := hcut.box.d2
    by_cases gx : zx < 0
    · have bx : negB zx = true := by simp [negB, gx]
      rw [bx] at k0
      by_cases gy : zy < 0
      · have by' : negB zy = true := by simp [negB, gy]
        rw [by'] at k3
        have HC := Lib.hid (cmp_neg zx zy gx gy)
        clear bx by'
        go_wp2_with fail
        refine (cmpSize_any _ _ _ _ _ _ _ y1 y2 x1 x2).mono ?_
        rintro e w1 ⟨rfl, hb⟩
        rw [nat2_hilo, nat2_hilo, HC.out]
        go_wp2_with fail
        go_ret
        exact ⟨rfl, hcut.below.trans (hb.mono (by have := hcut.box.sz; omega))⟩
      · have by' : negB zy = false := by simp [negB, gy]
        rw [by'] at k3
        have HC := Lib.hid (cmpI_lt (show zx < zy by omega))
        clear bx by'
        go_wp2_with fail
        go_ret
        exact ⟨by rw [HC.out]; rfl, hcut.below⟩
    · have bx : negB zx = false := by simp [negB, gx]
      rw [bx] at k0
      by_cases gy : zy < 0
      · have by' : negB zy = true := by simp [negB, gy]
        rw [by'] at k3
        have HC := Lib.hid (cmpI_gt (show zy < zx by omega))
        clear bx by'
        go_wp2_with fail
        go_ret
        exact ⟨by rw [HC.out]; rfl, hcut.below⟩
      · have by' : negB zy = false := by simp [negB, gy]
        rw [by'] at k3
        have HC := Lib.hid (cmp_pos zx zy gx gy)
        clear bx by'
        go_wp2_with fail
        refine (cmpSize_any _ _ _ _ _ _ _ x1 x2 y1 y2).mono ?_
        rintro e w1 ⟨rfl, hb⟩
        rw [nat2_hilo, nat2_hilo, HC.out]
        go_wp2_with fail
        go_ret
        exact ⟨rfl, hcut.below.trans (hb.mono (by have := hcut.box.sz; omega))⟩
end Go.Proofs.Ytgkogjlcecbfjaa
