/- Contracts of package decimal: is, units, fit, rounded. (Written by wip/gen/gendc1.py.) -/
import Derived.Test.YtgkogjlcecbfjaaDecMath
import Derived.Test.YtgkogjlcecbfjaaWideX
import Derived.Test.YtgkogjlcecbfjaaRelMem
namespace Go.Proofs.Ytgkogjlcecbfjaa
open Go.RowKit Corr
set_option linter.unusedVariables false
theorem even_ev (s : Bool) (n d : Nat) (h0 : 0 < d) : val s (evenN n d) = evZ (val s n) d := by
  obtain ⟨r, hr⟩ : ∃ r : Nat, val s n % (d : Int) = r := ⟨(val s n % (d : Int)).toNat, by have := Int.emod_nonneg (val s n) (show (d : Int) ≠ 0 by omega); omega⟩
  rw [even_is s n d r _ h0 rfl hr]
  unfold evZ
  rw [hr]
  by_cases h : d < r + r ∨ (r + r = d ∧ (val s n / (d : Int)) % 2 = 1)
  · rw [if_pos h, if_pos (by omega)]
  · rw [if_neg h, if_neg (by omega)]
theorem quo_even {s : Bool} {n : Nat} {z : Int} (hz : val s n = z) (h : z % 10 = 0) : val s (quoN n 10) = z / 10 := by
  subst hz
  unfold quoN
  cases s <;> simp [val] at h ⊢ <;> omega
theorem rem_even {s : Bool} {n : Nat} {z : Int} (hz : val s n = z) : remN n 10 = 0 ↔ z % 10 = 0 := by
  subst hz
  unfold remN
  cases s <;> simp [val] <;> omega
theorem p10_64 {k : Nat} (h : k ≤ 19) : 10 ^ k < B64 := Nat.lt_of_le_of_lt (Nat.pow_le_pow_right (by omega) h) (by decide)
theorem nat2_abs {s : Bool} {h l : Nat} {z : Int} (hz : val s (nat2 h l) = z) : z.natAbs = nat2 h l := by rw [← hz, natAbs_val]
theorem of_abs {z : Int} {b : Bool} {h l : Nat} (e1 : negB z = b) (e2 : hiW z.natAbs = h) (e3 : loW z.natAbs = l) : val b (nat2 h l) = z := by subst e1 e2 e3; exact val_ZW z
theorem hi_of {z : Int} {h : Nat} (hz : z.natAbs < B128) (e2 : hiW z.natAbs = h) : h < B64 := by subst e2; exact hiW_lt hz
theorem lo_of {z : Int} {l : Nat} (e3 : loW z.natAbs = l) : l < B64 := by subst e3; exact loW_lt _
theorem times_w (b1 s : Bool) (h l n h1 l1 : Nat) (x z : Int) (w : World) (hh : h < B64) (hl : l < B64) (hn : n < B64) (hx : val s (nat2 h l) = x) (hz : x * (n : Int) = z) (hf : z.natAbs < B128) (e1 : negB z = b1) (e2 : hiW z.natAbs = h1) (e3 : loW z.natAbs = l1) :
    Calls Try.prog 10 #[WV s h l, .int .u64 n] w fun e w' => e = .returned (.tuple #[WV b1 h1 l1, .int .i64 0]) ∧ Below w.heap.size w w' := by
  have hf' : nat2 h l * n < B128 := by rw [← nat2_abs hx]; rw [← hz, Int.natAbs_mul, Int.natAbs_natCast] at hf; exact hf
  have := times_ok s h l n w hh hl hn hf'
  rw [← val_mul, hx, hz] at this
  subst e1 e2 e3
  exact this
theorem add_w (b1 s s' : Bool) (h l h' l' h1 l1 : Nat) (x y z : Int) (w : World) (hh : h < B64) (hl : l < B64) (hh' : h' < B64) (hl' : l' < B64) (hx : val s (nat2 h l) = x) (hy : val s' (nat2 h' l') = y) (hz : x + y = z) (hf : z.natAbs < B128) (e1 : negB z = b1) (e2 : hiW z.natAbs = h1) (e3 : loW z.natAbs = l1) :
    Calls Try.prog 11 #[WV s h l, WV s' h' l'] w fun e w' => e = .returned (.tuple #[WV b1 h1 l1, .int .i64 0]) ∧ Below w.heap.size w w' := by
  subst e1 e2 e3
  exact add_ok s s' h l h' l' z w hh hl hh' hl' (by rw [hx, hy, hz]) hf
theorem dis_yes (C S : Int) (w : World) (h0 : 0 ≤ S) (h9 : S ≤ 9) : Calls Try.prog 72 #[.agg #[.int .i64 C, .int .i64 S]] w fun e w' => e = .returned (.bool true) ∧ Below w.heap.size w w' := by
  go_enter Try.func72, Try.ntmps72
  go_wp2_with fail
  go_ret
  exact ⟨rfl, (Below.refl _ _).alloc (Nat.le_refl _) _⟩
theorem dis_no (C S : Int) (w : World) (h : S < 0 ∨ 9 < S) : Calls Try.prog 72 #[.agg #[.int .i64 C, .int .i64 S]] w fun e w' => e = .returned (.bool false) ∧ Below w.heap.size w w' := by
  rcases h with h | h
  · go_enter Try.func72, Try.ntmps72
    go_wp2_with fail
    go_ret
    exact ⟨rfl, (Below.refl _ _).alloc (Nat.le_refl _) _⟩
  · have h0 : 0 ≤ S := by omega
    have h1 : decide (S ≤ 9) = false := decide_eq_false (by omega)
    go_enter Try.func72, Try.ntmps72
    go_wp2_with fail
    go_ret
    exact ⟨rfl, (Below.refl _ _).alloc (Nat.le_refl _) _⟩

set_option maxHeartbeats 2000000 in
theorem dunits_any (b : Bool) (h l : Nat) (C : Int) (S s : Nat) (z : Int) (w : World) (hC1 : -9223372036854775808 ≤ C) (hC2 : C ≤ 9223372036854775807) (hS : S ≤ s) (hs : s ≤ 9) (hz : C * ((10 ^ (s - S) : Nat) : Int) = z) (e1 : negB z = b) (e2 : hiW z.natAbs = h) (e3 : loW z.natAbs = l) :
    Calls Try.prog 82 #[.agg #[.int .i64 C, .int .i64 (S : Int)], .int .i64 (s : Int)] w fun e w' => e = .returned (WV b h l) ∧ Below w.heap.size w w' := by
  obtain ⟨bo, ea⟩ : ∃ x, negB C = x := ⟨_, rfl⟩
  obtain ⟨ho, eb⟩ : ∃ x, hiW C.natAbs = x := ⟨_, rfl⟩
  obtain ⟨lo, ec⟩ : ∃ x, loW C.natAbs = x := ⟨_, rfl⟩
  have HO := Lib.hid (fun w => of_w bo ho lo C w hC1 hC2 ea eb ec)
  have HT := Lib.hid (fun w => times_w b bo ho lo (10 ^ (s - S)) h l C z w (hi_of (abs128 hC1 hC2) eb) (lo_of ec) (p10_64 (by omega)) (of_abs ea eb ec) hz (by rw [← hz]; exact Nat.lt_of_le_of_lt (scale_le hC1 hC2 (by omega)) (by decide)) e1 e2 e3)
  have hs1 : (s : Int) - (S : Int) = ((s - S : Nat) : Int) := by omega
  have hs2 : IntKind.i64.wrap ((s - S : Nat) : Int) = ((s - S : Nat) : Int) := IntWalk.i64_in _ (by omega)
  clear hz e1 e2 e3 ea eb ec
  have S0 := ((Mem.start w).push #[.int .i64 C, .int .i64 (S : Int)] 59).push #[.bool false, .int .u64 0, .int .u64 0] 24
  simp only [size_alloc] at S0
  go_enter Try.func82, Try.ntmps82
  go_upto_region 1 with fail
  refine wp_region_rel 13 (MemAt w (w.heap.size + 1 + 1) [(w.heap.size, #[.int .i64 C, .int .i64 (S : Int)]), (w.heap.size + 1, #[.bool false, .int .u64 0, .int .u64 0])] [])
    (fun i => List.getD [VE (.pointer (some ⟨w.heap.size, 0, none⟩)), VE (.int .i64 C), VE (.agg #[.bool bo, .int .u64 (ho : Int), .int .u64 (lo : Int)]), VE (.int .i64 (s : Int)), VE (.pointer (some ⟨w.heap.size, 1, none⟩)), VE (.int .i64 (S : Int)), VE (.int .i64 ((s - S : Nat) : Int)), VE (.int .u64 ((10 ^ (s - S) : Nat) : Int)), VE (.tuple #[.agg #[.bool b, .int .u64 (h : Int), .int .u64 (l : Int)], .int .i64 0]), VE (.tuple #[.agg #[.bool b, .int .u64 (h : Int), .int .u64 (l : Int)], .int .i64 0]), VE (.agg #[.bool b, .int .u64 (h : Int), .int .u64 (l : Int)]), VE (.int .i64 0), VA (w.heap.size + 1 + 1) #[.bool false, .int .u64 0, .int .u64 0]] i (fun _ _ => False)) [12] [0, 3, 4, 6, 9, 10, 11] (by kernel_rfl) (by kernel_rfl) ⟨S0.drew, by simp⟩ (fun _ _ h hb => h.grow hb)
    (stays_all (stays_cons (stays_VE _) (stays_cons (stays_VE _) (stays_cons (stays_VE _) (stays_cons (stays_VE _) (stays_cons (stays_VE _) (stays_cons (stays_VE _) (stays_cons (stays_VE _) (stays_cons (stays_VE _) (stays_cons (stays_VE _) (stays_cons (stays_VE _) (stays_cons (stays_VE _) (stays_cons (stays_VE _) (stays_cons (stays_VA _ _) stays_nil)))))))))))))) ⟨?_, ?_, ?_, ?_, ?_, ?_, ?_, ?_, ?_, ?_, ?_, ?_, ?_, trivial⟩ ?_
  · intro ev wv hE hw hd
    refine ifw rfl (ifw rfl ?_)
    have v2 : ev (.tmp 2) = .pointer (some ⟨w.heap.size, 0, none⟩) := hE.tmp 2 rfl
    refine ⟨.pointer (some ⟨w.heap.size, 0, none⟩), fun w => ?_, rfl⟩
    have e1 := hE.const; have e2 := hE.func; clear hE hd hw
    go_simp
  · intro ev wv hE hw hd
    refine ifw rfl (ifn rfl ?_)
    have v8 : ev (.tmp 8) = .pointer (some ⟨w.heap.size, 0, none⟩) := hd 0 (by decide)
    have kx := hw.m.c 0 0 rfl rfl
    refine rel_val (u := .int .i64 C) (w' := wv) ?_ (Below.refl _ _) ⟨rfl, fun h => by cases h⟩
    have e1 := hE.const; clear hE hd hw
    go_simp
  · intro ev wv hE hw hd
    refine ifw rfl (ifn rfl ?_)
    have v9 : ev (.tmp 9) = .int .i64 C := hd 1 (by decide)
    refine rel_call (f := 20) (args := #[.int .i64 C]) ?_ (HO.out _) ?_
    · have e0 := hE.func; have e1 := hE.const; clear hE hd hw
      go_simp
    · rintro e w' ⟨rfl, hb⟩
      exact ⟨_, rfl, hb, rfl, fun h => by cases h⟩
  · intro ev wv hE hw hd
    refine ifw rfl (ifw rfl ?_)
    have v1 : ev (.tmp 1) = .int .i64 (s : Int) := hE.tmp 1 rfl
    refine ⟨.int .i64 (s : Int), fun w => ?_, rfl⟩
    have e1 := hE.const; have e2 := hE.func; clear hE hd hw
    go_simp
  · intro ev wv hE hw hd
    refine ifw rfl (ifw rfl ?_)
    have v2 : ev (.tmp 2) = .pointer (some ⟨w.heap.size, 0, none⟩) := hE.tmp 2 rfl
    refine ⟨.pointer (some ⟨w.heap.size, 1, none⟩), fun w => ?_, rfl⟩
    have e1 := hE.const; have e2 := hE.func; clear hE hd hw
    go_simp
  · intro ev wv hE hw hd
    refine ifw rfl (ifn rfl ?_)
    have v12 : ev (.tmp 12) = .pointer (some ⟨w.heap.size, 1, none⟩) := hd 4 (by decide)
    have kx := hw.m.c 0 1 rfl rfl
    refine rel_val (u := .int .i64 (S : Int)) (w' := wv) ?_ (Below.refl _ _) ⟨rfl, fun h => by cases h⟩
    have e1 := hE.const; clear hE hd hw
    go_simp
  · intro ev wv hE hw hd
    refine ifw rfl (ifw rfl ?_)
    have v11 : ev (.tmp 11) = .int .i64 (s : Int) := hd 3 (by decide)
    have v13 : ev (.tmp 13) = .int .i64 (S : Int) := hd 5 (by decide)
    refine ⟨.int .i64 ((s - S : Nat) : Int), fun w => ?_, rfl⟩
    have e1 := hE.const; have e2 := hE.func; clear hE hd hw
    go_simp
  · intro ev wv hE hw hd
    refine ifw rfl (ifn rfl ?_)
    have v14 : ev (.tmp 14) = .int .i64 ((s - S : Nat) : Int) := hd 6 (by decide)
    refine rel_call (f := 31) (args := #[.int .i64 ((s - S : Nat) : Int)]) ?_ ((ten_ok (s - S) _ (by omega))) ?_
    · have e0 := hE.func; have e1 := hE.const; clear hE hd hw
      go_simp
    · rintro e w' ⟨rfl, rfl⟩
      exact ⟨_, rfl, Below.refl _ _, rfl, fun h => by cases h⟩
  · intro ev wv hE hw hd
    refine ifw rfl (ifn rfl ?_)
    have v10 : ev (.tmp 10) = .agg #[.bool bo, .int .u64 (ho : Int), .int .u64 (lo : Int)] := hd 2 (by decide)
    have v15 : ev (.tmp 15) = .int .u64 ((10 ^ (s - S) : Nat) : Int) := hd 7 (by decide)
    refine rel_call (f := 10) (args := #[.agg #[.bool bo, .int .u64 (ho : Int), .int .u64 (lo : Int)], .int .u64 ((10 ^ (s - S) : Nat) : Int)]) ?_ (HT.out _) ?_
    · have e0 := hE.func; have e1 := hE.const; clear hE hd hw
      go_simp
    · rintro e w' ⟨rfl, hb⟩
      exact ⟨_, rfl, hb, rfl, fun h => by cases h⟩
  · intro ev wv hE hw hd
    refine ifw rfl (ifw rfl ?_)
    have v16 : ev (.tmp 16) = .tuple #[.agg #[.bool b, .int .u64 (h : Int), .int .u64 (l : Int)], .int .i64 0] := hd 8 (by decide)
    refine ⟨.tuple #[.agg #[.bool b, .int .u64 (h : Int), .int .u64 (l : Int)], .int .i64 0], fun w => ?_, rfl⟩
    have e1 := hE.const; have e2 := hE.func; clear hE hd hw
    go_simp
  · intro ev wv hE hw hd
    refine ifw rfl (ifw rfl ?_)
    have v7 : ev (.tmp 7) = .tuple #[.agg #[.bool b, .int .u64 (h : Int), .int .u64 (l : Int)], .int .i64 0] := hd 9 (by decide)
    refine ⟨.agg #[.bool b, .int .u64 (h : Int), .int .u64 (l : Int)], fun w => ?_, rfl⟩
    have e1 := hE.const; have e2 := hE.func; clear hE hd hw
    go_simp
  · intro ev wv hE hw hd
    refine ifw rfl (ifw rfl ?_)
    have v7 : ev (.tmp 7) = .tuple #[.agg #[.bool b, .int .u64 (h : Int), .int .u64 (l : Int)], .int .i64 0] := hd 9 (by decide)
    refine ⟨.int .i64 0, fun w => ?_, rfl⟩
    have e1 := hE.const; have e2 := hE.func; clear hE hd hw
    go_simp
  · intro ev wv hE hw hd
    refine ifw rfl (ifn rfl ?_)
    refine rel_val (u := .pointer (some ⟨wv.heap.size, 0, none⟩)) (w' := wv.alloc (.cells #[.bool false, .int .u64 0, .int .u64 0] 24)) ?_ ((Below.refl _ _).alloc (Nat.le_refl _) _) ⟨⟨_, rfl, Blk.new _ _ _, hw.h⟩, fun _ => ⟨_, rfl, Nat.le_refl _, by simp⟩⟩
    clear hE hd hw
    go_simp
  · intro w1 M1
    intro v0 h0 _ v1 h1 _ v2 h2 _ v3 h3 _ v4 h4 _ v5 h5 _ v6 h6 _ v7 h7 _ v8 h8 _ v9 h9 _ v10 h10 _ v11 h11 _ v12 h12 n12
    simp only [Act.put, List.setIfInBounds_toArray, List.set_cons_zero, List.set_cons_succ, List.drop_succ_cons, List.drop_zero]
    obtain rfl : v0 = _ := h0
    obtain rfl : v1 = _ := h1
    obtain rfl : v2 = _ := h2
    obtain rfl : v3 = _ := h3
    obtain rfl : v4 = _ := h4
    obtain rfl : v5 = _ := h5
    obtain rfl : v6 = _ := h6
    obtain rfl : v7 = _ := h7
    obtain rfl : v8 = _ := h8
    obtain rfl : v9 = _ := h9
    obtain rfl : v10 = _ := h10
    obtain rfl : v11 = _ := h11
    obtain ⟨xg12, rfl, xB12, xl12⟩ : VA (w.heap.size + 1 + 1) #[.bool false, .int .u64 0, .int .u64 0] v12 w1 := h12
    change wpList Try.prog _ _ _ _ w1
    have SF := M1.m.join S0 xB12 (by simpa using xl12)
    have y0 := SF.c 2 0 rfl rfl; have y1 := SF.c 2 1 rfl rfl; have y2 := SF.c 2 2 rfl rfl
    have y3 := SF.f 2 0 rfl; have y4 := SF.f 2 1 rfl; have y5 := SF.f 2 2 rfl
    have M4 := SF.put3 2 rfl rfl (.bool b) (.int .u64 (h : Int)) (.int .u64 (l : Int)) rfl rfl
    clear SF xB12 xl12 M1 S0 n12
    go_wp2_with fail
    refine calm_normal ?_
    generalize ((w1.setCell ⟨xg12, 0, none⟩ (.bool b)).setCell ⟨xg12, 1, none⟩ (.int .u64 (h : Int))).setCell ⟨xg12, 2, none⟩ (.int .u64 (l : Int)) = w4 at *
    clear y0 y1 y2 y3 y4 y5
    have y0 := M4.c 2 0 rfl rfl; have y1 := M4.c 2 1 rfl rfl; have y2 := M4.c 2 2 rfl rfl
    have z0 := M4.c 1 0 rfl rfl; have z1 := M4.c 1 1 rfl rfl; have z2 := M4.c 1 2 rfl rfl
    have z3 := M4.f 1 0 rfl; have z4 := M4.f 1 1 rfl; have z5 := M4.f 1 2 rfl
    have HF := Lib.hid (M4.put3 1 rfl rfl (.bool b) (.int .u64 (h : Int)) (.int .u64 (l : Int)) rfl rfl)
    clear M4
    go_wp2_with fail
    exact bodyPost_ret (v := WV b h l) (by simp [results, Try.results82, go_sem, z0, z1, z2]) rfl ⟨rfl, HF.out.bl⟩

set_option maxHeartbeats 4000000 in
theorem dfit_any (b0 : Bool) (h0 l0 s0 : Nat) (u0 : Int) (w : World) (hh0 : h0 < B64) (hl0 : l0 < B64) (hs : s0 ≤ 18) (hu : val b0 (nat2 h0 l0) = u0) :
    Calls Try.prog 74 #[WV b0 h0 l0, .int .i64 (s0 : Int)] w fun e w' => e = .returned (.tuple #[.agg #[.int .i64 (mC u0 s0), .int .i64 (mS u0 s0 : Int)], .int .i64 (mE u0 s0)]) ∧ Below w.heap.size w w' := by
  have S0 := ((Mem.start w).push #[.bool b0, .int .u64 (h0 : Int), .int .u64 (l0 : Int)] 24).push #[.int .i64 0, .int .i64 0] 59
  simp only [size_alloc] at S0
  have HU0 := Lib.hid hu
  clear hu
  go_enter Try.func74, Try.ntmps74
  go_wp2_with fail
  go_step3
  go_wp2_with fail
  go_step3
  go_wp2_with fail
  go_loopg [1] s0 (fun k t wr => ∃ (s : Nat) (b : Bool) (h l : Nat) (u : Int), t = .int .i64 (s : Int) ∧ s = k ∧ s ≤ 18 ∧ h < B64 ∧ l < B64 ∧ Hid (val b (nat2 h l) = u) ∧ Hid (strip u s = strip u0 s0) ∧ Mem w wr [(w.heap.size, #[.bool b, .int .u64 (h : Int), .int .u64 (l : Int)]), (w.heap.size + 1, #[.int .i64 0, .int .i64 0])] [])
  case atStart => exact ⟨s0, b0, h0, l0, u0, rfl, rfl, hs, hh0, hl0, HU0, Lib.hid rfl, S0⟩
  case round =>
    obtain ⟨s, b, h, l, u, rfl, hsk, hs18, hh, hl, HU, HINV, S⟩ := hrel
    clear S0
    subst hsk
    have HDV := Lib.hid (fun w => div_w b _ h l 10 _ _ _ _ w hh hl (by decide) (by decide) rfl rfl rfl rfl rfl)
    obtain ⟨bq, hq, lq, r, hd1, hd2, hd3, hd4, hd5⟩ : ∃ (bq : Bool) (hq lq r : Nat), (∀ w, Calls Try.prog 27 #[WV b h l, .int .u64 (10 : Nat)] w fun e w' => e = .returned (.tuple #[WV bq hq lq, .int .u64 (r : Int), .int .i64 0]) ∧ Below w.heap.size w w') ∧ hq < B64 ∧ lq < B64 ∧ (u % 10 = 0 → val bq (nat2 hq lq) = u / 10) ∧ (r = 0 ↔ u % 10 = 0) := by
      refine ⟨_, _, _, _, HDV.out, hiW_lt ?_, loW_lt _, fun h10 => ?_, rem_even HU.out⟩
      · rw [natAbs_val]; exact Nat.lt_of_le_of_lt (Nat.div_le_self _ _) (nat2_lt hh hl)
      · rw [val_ZW]; exact quo_even HU.out h10
    clear HDV
    have HD := Lib.hid hd1
    have HQ := Lib.hid hd4
    have HR := Lib.hid hd5
    clear hd1 hd4 hd5
    have x0 := S.c 0 0 rfl rfl; have x1 := S.c 0 1 rfl rfl; have x2 := S.c 0 2 rfl rfl
    go_wp2_with fail
    refine (HD.out _).mono ?_
    rintro e w1 ⟨rfl, hb⟩
    have T := (S.keep hb).push #[.bool bq, .int .u64 (hq : Int), .int .u64 (lq : Int)] 24
    clear S hb x0 x1 x2
    by_cases hs0 : s = 0
    · subst hs0
      have HST := Lib.hid (strip_no (u := u) (s := 0) (.inl rfl))
      have S := T.take 2
      clear T
      have x0 := S.c 0 0 rfl rfl; have x1 := S.c 0 1 rfl rfl; have x2 := S.c 0 2 rfl rfl
      by_cases hf : -9223372036854775808 ≤ u ∧ u ≤ 9223372036854775807
      · have HV := Lib.hid (made_fit HST.out HINV.out hf)
        have HSM := Lib.hid (fun w' => small_ok b h l u w' hl HU.out hf.1 hf.2)
        clear hf
        go_wp2_with fail
        refine (HSM.out _).mono ?_
        rintro e w9 ⟨rfl, hb9⟩
        have S9 := S.keep hb9
        have z0 := S9.c 1 0 rfl rfl; have z1 := S9.c 1 1 rfl rfl; have z2 := S9.f 1 0 rfl; have z3 := S9.f 1 1 rfl
        have HF := Lib.hid (S9.put20 1 rfl (.int .i64 u) (.int .i64 0))
        clear S S9 hb9 x0 x1 x2
        go_wp2_with fail
        rw [Exit.noGoto_ret]
        exact bodyPost_ret (v := .tuple #[.agg #[.int .i64 u, .int .i64 0], .int .i64 0]) (by simp [results, Try.results74, go_sem, z0, z1]) rfl ⟨by rw [HV.out.1, HV.out.2.1, HV.out.2.2]; rfl, HF.out.bl⟩
      · have HV := Lib.hid (made_over HST.out HINV.out hf)
        have HSM := Lib.hid (fun w' => small_no b h l u w' hl HU.out hf)
        clear hf
        go_wp2_with fail
        refine (HSM.out _).mono ?_
        rintro e w9 ⟨rfl, hb9⟩
        have S9 := S.keep hb9
        have z0 := S9.c 1 0 rfl rfl; have z1 := S9.c 1 1 rfl rfl; have z2 := S9.f 1 0 rfl; have z3 := S9.f 1 1 rfl
        have HF := Lib.hid (S9.put20 1 rfl (.int .i64 0) (.int .i64 0))
        clear S S9 hb9 x0 x1 x2
        go_wp2_with fail
        rw [Exit.noGoto_ret]
        exact bodyPost_ret (v := .tuple #[.agg #[.int .i64 0, .int .i64 0], .int .i64 11]) (by simp [results, Try.results74, go_sem, z0, z1]) rfl ⟨by rw [HV.out.1, HV.out.2.1, HV.out.2.2]; rfl, HF.out.bl⟩
    · obtain ⟨j, rfl⟩ : ∃ j, s = j + 1 := ⟨s - 1, by omega⟩
      clear hs0
      by_cases hr : r = 0
      · have h10 := HR.out.1 hr
        subst hr
        have HI2 := Lib.hid (show strip (u / 10) j = strip u0 s0 by rw [← HINV.out]; exact (strip_yes j h10).symm)
        have HU2 := Lib.hid (HQ.out h10)
        have ua := T.c 0 0 rfl rfl; have ub := T.c 0 1 rfl rfl; have uc := T.c 0 2 rfl rfl; have ud := T.f 0 0 rfl; have ue := T.f 0 1 rfl; have uf := T.f 0 2 rfl
        have HM := Lib.hid ((T.put3 0 rfl rfl (.bool bq) (.int .u64 (hq : Int)) (.int .u64 (lq : Int)) rfl rfl).take 2)
        clear T h10
        go_wp2_with fail
        go_roundg j
        case measure => omega
        case rel => exact ⟨_, _, _, _, _, rfl, rfl, by omega, hd2, hd3, HU2, HI2, HM.out⟩
      · have HST := Lib.hid (strip_no (s := j + 1) (.inr (fun h => hr (HR.out.2 h))))
        have hr' : ((r : Int) != 0) = true := by rw [bne_iff_ne]; omega
        clear hr
        have S := T.take 2
        clear T
        have x0 := S.c 0 0 rfl rfl; have x1 := S.c 0 1 rfl rfl; have x2 := S.c 0 2 rfl rfl
        by_cases hf : -9223372036854775808 ≤ u ∧ u ≤ 9223372036854775807
        · have HV := Lib.hid (made_fit HST.out HINV.out hf)
          have HSM := Lib.hid (fun w' => small_ok b h l u w' hl HU.out hf.1 hf.2)
          clear hf
          go_wp2_with fail
          refine (HSM.out _).mono ?_
          rintro e w9 ⟨rfl, hb9⟩
          have S9 := S.keep hb9
          have z0 := S9.c 1 0 rfl rfl; have z1 := S9.c 1 1 rfl rfl; have z2 := S9.f 1 0 rfl; have z3 := S9.f 1 1 rfl
          have HF := Lib.hid (S9.put20 1 rfl (.int .i64 u) (.int .i64 ((j : Int) + 1)))
          clear S S9 hb9 x0 x1 x2
          go_wp2_with fail
          rw [Exit.noGoto_ret]
          exact bodyPost_ret (v := .tuple #[.agg #[.int .i64 u, .int .i64 ((j : Int) + 1)], .int .i64 0]) (by simp [results, Try.results74, go_sem, z0, z1]) rfl ⟨by rw [HV.out.1, HV.out.2.1, HV.out.2.2]; rfl, HF.out.bl⟩
        · have HV := Lib.hid (made_over HST.out HINV.out hf)
          have HSM := Lib.hid (fun w' => small_no b h l u w' hl HU.out hf)
          clear hf
          go_wp2_with fail
          refine (HSM.out _).mono ?_
          rintro e w9 ⟨rfl, hb9⟩
          have S9 := S.keep hb9
          have z0 := S9.c 1 0 rfl rfl; have z1 := S9.c 1 1 rfl rfl; have z2 := S9.f 1 0 rfl; have z3 := S9.f 1 1 rfl
          have HF := Lib.hid (S9.put20 1 rfl (.int .i64 0) (.int .i64 0))
          clear S S9 hb9 x0 x1 x2
          go_wp2_with fail
          rw [Exit.noGoto_ret]
          exact bodyPost_ret (v := .tuple #[.agg #[.int .i64 0, .int .i64 0], .int .i64 11]) (by simp [results, Try.results74, go_sem, z0, z1]) rfl ⟨by rw [HV.out.1, HV.out.2.1, HV.out.2.2]; rfl, HF.out.bl⟩
end Go.Proofs.Ytgkogjlcecbfjaa
