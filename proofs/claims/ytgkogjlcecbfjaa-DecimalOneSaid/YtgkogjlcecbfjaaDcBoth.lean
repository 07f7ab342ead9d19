/- Contracts of corrodyref02: May. Package decimal's answers beside the document's: the same ones. -/
import Derived.Test.YtgkogjlcecbfjaaDec5
import Derived.Test.YtgkogjlcecbfjaaDcKnown
namespace Go.Proofs.Ytgkogjlcecbfjaa
open Go.RowKit Corr
set_option linter.unusedVariables false
theorem nmay_none (C S : Int) (w : World) (h : S < 0 ∨ 9 < S) : Calls Try.prog 51 #[.agg #[.int .i64 C, .int .i64 S]] w fun e w' => e = .returned (.bool false) ∧ Below w.heap.size w w' := by
  have S0 := (Mem.start w).push #[.int .i64 C, .int .i64 S] 59
  have HI := Lib.hid (fun w => nis_no C S w h)
  clear h
  go_enter Try.func51, Try.ntmps51
  go_wp2_with fail
  refine (HI.out _).mono ?_
  rintro e w1 ⟨rfl, hb⟩
  have HB := Lib.hid (S0.keep hb).bl
  clear S0 hb
  go_wp2_with fail
  go_ret
  exact ⟨rfl, HB.out⟩
/-- The canonical one of a number in the ninth place. -/
theorem nmay_some (b : Bool) (C : Int) (S : Nat) (zx u : Int) (w : World) (hC1 : -9223372036854775808 ≤ C) (hC2 : C ≤ 9223372036854775807) (hS : S ≤ 9) (hzx : C * ((10 ^ (18 - S) : Nat) : Int) = zx) (hu : evZ zx (10 ^ (18 - 9)) = u) (hb : decide (mE u 9 = 0 ∧ mC u 9 = C ∧ mS u 9 = S) = b) :
    Calls Try.prog 51 #[.agg #[.int .i64 C, .int .i64 (S : Int)]] w fun e w' => e = .returned (.bool b) ∧ Below w.heap.size w w' := by
  have S0 := (Mem.start w).push #[.int .i64 C, .int .i64 (S : Int)] 59
  have HI := Lib.hid (fun w => nis_yes C (S : Int) w (by omega) (by omega))
  have HP := Lib.hid (fun w => nput_any C S zx u w hC1 hC2 hS hzx hu)
  obtain ⟨c, hc⟩ : ∃ c, mC u 9 = c := ⟨_, rfl⟩
  obtain ⟨t, ht⟩ : ∃ t, mS u 9 = t := ⟨_, rfl⟩
  obtain ⟨e, he⟩ : ∃ e, mE u 9 = e := ⟨_, rfl⟩
  rw [hc, ht, he] at HP hb
  clear hzx hu hc ht he
  by_cases h : e = 0
  · subst h
    by_cases h1 : c = C
    · subst h1
      by_cases h2 : t = S
      · subst h2
        have hbt : b = true := by rw [← hb]; simp
        subst hbt
        clear hb
        go_enter Try.func51, Try.ntmps51
        go_wp2_with fail
        refine (HI.out _).mono ?_
        rintro e w1 ⟨rfl, hb⟩
        have S1 := S0.keep hb
        have x0 := S1.c 0 0 rfl rfl; have x1 := S1.c 0 1 rfl rfl
        clear S0 hb
        go_wp2_with fail
        refine (HP.out _).mono ?_
        rintro e w2 ⟨rfl, hb⟩
        have S2 := (S1.keep hb).push #[.int .i64 c, .int .i64 (t : Int)] 59
        have HB := Lib.hid S2.bl
        clear x0 x1
        have x0 := S2.c 0 0 rfl rfl; have x1 := S2.c 0 1 rfl rfl; have y0 := S2.c 1 0 rfl rfl; have y1 := S2.c 1 1 rfl rfl
        clear S1 S2 hb
        go_wp2_with fail
        go_ret
        exact ⟨rfl, HB.out⟩
      · have hbt : b = false := by rw [← hb]; simp [h2]
        subst hbt
        have h3 : ((S : Int) == (t : Int)) = false := by rw [beq_eq_false_iff_ne]; omega
        clear hb h2
        go_enter Try.func51, Try.ntmps51
        go_wp2_with fail
        refine (HI.out _).mono ?_
        rintro e w1 ⟨rfl, hb⟩
        have S1 := S0.keep hb
        have x0 := S1.c 0 0 rfl rfl; have x1 := S1.c 0 1 rfl rfl
        clear S0 hb
        go_wp2_with fail
        refine (HP.out _).mono ?_
        rintro e w2 ⟨rfl, hb⟩
        have S2 := (S1.keep hb).push #[.int .i64 c, .int .i64 (t : Int)] 59
        have HB := Lib.hid S2.bl
        clear x0 x1
        have x0 := S2.c 0 0 rfl rfl; have x1 := S2.c 0 1 rfl rfl; have y0 := S2.c 1 0 rfl rfl; have y1 := S2.c 1 1 rfl rfl
        clear S1 S2 hb
        go_wp2_with fail
        go_ret
        exact ⟨rfl, HB.out⟩
    · have hbt : b = false := by rw [← hb]; simp [h1]
      subst hbt
      have h3 : (C == c) = false := by rw [beq_eq_false_iff_ne]; omega
      clear hb h1
      go_enter Try.func51, Try.ntmps51
      go_wp2_with fail
      refine (HI.out _).mono ?_
      rintro e w1 ⟨rfl, hb⟩
      have S1 := S0.keep hb
      have x0 := S1.c 0 0 rfl rfl; have x1 := S1.c 0 1 rfl rfl
      clear S0 hb
      go_wp2_with fail
      refine (HP.out _).mono ?_
      rintro e w2 ⟨rfl, hb⟩
      have S2 := (S1.keep hb).push #[.int .i64 c, .int .i64 (t : Int)] 59
      have HB := Lib.hid S2.bl
      clear x0 x1
      have x0 := S2.c 0 0 rfl rfl; have x1 := S2.c 0 1 rfl rfl; have y0 := S2.c 1 0 rfl rfl; have y1 := S2.c 1 1 rfl rfl
      clear S1 S2 hb
      go_wp2_with fail
      go_ret
      exact ⟨rfl, HB.out⟩
  · have hbt : b = false := by rw [← hb]; simp [h]
    subst hbt
    have h3 : (e == 0) = false := by rw [beq_eq_false_iff_ne]; omega
    clear hb h
    go_enter Try.func51, Try.ntmps51
    go_wp2_with fail
    refine (HI.out _).mono ?_
    rintro e' w1 ⟨rfl, hb⟩
    have S1 := S0.keep hb
    have x0 := S1.c 0 0 rfl rfl; have x1 := S1.c 0 1 rfl rfl
    clear S0 hb
    go_wp2_with fail
    refine (HP.out _).mono ?_
    rintro e' w2 ⟨rfl, hb⟩
    have S2 := (S1.keep hb).push #[.int .i64 c, .int .i64 (t : Int)] 59
    have HB := Lib.hid S2.bl
    clear S1 S2 hb x0 x1
    go_wp2_with fail
    go_ret
    exact ⟨rfl, HB.out⟩
end Go.Proofs.Ytgkogjlcecbfjaa
namespace Corr
open Go
theorem ev_add {C C' : Int} {S S' : Nat} (h : S ≤ 9) (h' : S' ≤ 9) : evZ (C * ((10 ^ (18 - S) : Nat) : Int) + C' * ((10 ^ (18 - S') : Nat) : Int)) (10 ^ (18 - 9)) = nine C S + nine C' S' := by
  rw [nine_up C h, nine_up C' h', ← Int.add_mul]; exact evZ_mul _ (10 ^ 9) (p10 9)
theorem ev_sub {C C' : Int} {S S' : Nat} (h : S ≤ 9) (h' : S' ≤ 9) : evZ (C * ((10 ^ (18 - S) : Nat) : Int) - C' * ((10 ^ (18 - S') : Nat) : Int)) (10 ^ (18 - 9)) = nine C S - nine C' S' := by
  rw [nine_up C h, nine_up C' h', ← Int.sub_mul]; exact evZ_mul _ (10 ^ 9) (p10 9)
theorem ev_put {C : Int} {S : Nat} (h : S ≤ 9) : evZ (C * ((10 ^ (18 - S) : Nat) : Int)) (10 ^ (18 - 9)) = nine C S := by
  rw [nine_up C h]; exact evZ_mul _ (10 ^ 9) (p10 9)
theorem ev_scale' {z : Int} {d k n : Nat} {x : Int} (hd : 0 < d) (hk : 0 < k) (hx : x = z * (k : Int)) (hn : n = d * k) : evZ x n = evZ z d := by rw [hx, hn]; exact evZ_scale z d k hd hk
theorem ev_mul' {z : Int} {n : Nat} {x : Int} (hn : 0 < n) (hx : x = z * (n : Int)) : evZ x n = z := by rw [hx]; exact evZ_mul z n hn
end Corr
namespace Go.Proofs.Ytgkogjlcecbfjaa
open Go.RowKit Corr
set_option linter.unusedVariables false
theorem ev_rnd {z x : Int} {s p m n : Nat} (hp : p ≤ 9) (hm : p + m = n) (hs : s ≤ n) (hx : x = z * ((10 ^ (n - s) : Nat) : Int)) : evZ x (10 ^ m) = rndZ z s p := by
  unfold rndZ
  by_cases h : p < s
  · rw [if_pos h]
    exact ev_scale' (k := 10 ^ (n - s)) (p10 _) (p10 _) hx (by rw [← Nat.pow_add]; congr 1; omega)
  · rw [if_neg h]
    exact ev_mul' (p10 _) (by rw [hx, Int.mul_assoc, ← pow_split (show (p - s) + m = n - s by omega)])
theorem ev_round {C : Int} {S p : Nat} (h : S ≤ 9) (hp : p ≤ 9) : evZ (C * ((10 ^ (18 - S) : Nat) : Int)) (10 ^ (18 - p)) = rndZ C S p := ev_rnd hp (show p + (18 - p) = 18 by omega) (by omega) rfl
theorem ev_prod {C C' : Int} {S S' : Nat} (h : S ≤ 9) (h' : S' ≤ 9) : evZ (C * ((10 ^ (18 - S) : Nat) : Int) * (C' * ((10 ^ (18 - S') : Nat) : Int))) (10 ^ 27) = rndZ (C * C') (S + S') 9 := by
  refine ev_rnd (by omega) (show 9 + 27 = 36 by omega) (by omega) ?_
  rw [pow_split (show (18 - S) + (18 - S') = 36 - (S + S') by omega), Int.mul_assoc, Int.mul_assoc, Int.mul_left_comm ((10 ^ (18 - S) : Nat) : Int) C']
theorem ev_quo {C C' : Int} {S S' : Nat} (h : S ≤ 9) (h' : S' ≤ 9) (h0 : C' ≠ 0) : evZ (C * ((10 ^ (18 - S) : Nat) : Int) * ((10 ^ 9 : Nat) : Int)) (C' * ((10 ^ (18 - S') : Nat) : Int)).natAbs = evZ (C * ((10 ^ (9 + S' - S) : Nat) : Int)) C'.natAbs := by
  refine ev_scale' (k := 10 ^ (18 - S')) (by omega) (p10 _) ?_ (by rw [Int.natAbs_mul, Int.natAbs_natCast])
  rw [Int.mul_assoc, Int.mul_assoc, ← pow_split (show (18 - S) + 9 = 27 - S by omega), ← pow_split (show (9 + S' - S) + (18 - S') = 27 - S by omega)]
theorem ev_quo_neg {C C' : Int} {S S' : Nat} (h : S ≤ 9) (h' : S' ≤ 9) (h0 : C' ≠ 0) : evZ (-(C * ((10 ^ (18 - S) : Nat) : Int) * ((10 ^ 9 : Nat) : Int))) (C' * ((10 ^ (18 - S') : Nat) : Int)).natAbs = evZ (-(C * ((10 ^ (9 + S' - S) : Nat) : Int))) C'.natAbs := by
  rw [evZ_neg _ _ (by rw [Int.natAbs_mul, Int.natAbs_natCast]; exact Nat.mul_pos (by omega) (p10 _)), evZ_neg _ _ (by omega), ev_quo h h' h0]
section
variable {C C' : Int} {S S' : Nat}
theorem add_both (x : IsD C S) (y : IsD C' S') : ∃ c t e : Int, Ans 34 #[DV C S, DV C' S'] c t e ∧ Ans 41 #[DV C S, DV C' S'] c t e :=
  ⟨_, _, _, fun w => dadd_any C C' S S' _ w x.lo x.hi x.s y.lo y.hi y.s rfl, fun w => nadd02_any C C' S S' _ _ _ w x.lo x.hi x.s y.lo y.hi y.s rfl rfl (ev_add x.s y.s)⟩
theorem sub_both (x : IsD C S) (y : IsD C' S') : ∃ c t e : Int, Ans 35 #[DV C S, DV C' S'] c t e ∧ Ans 42 #[DV C S, DV C' S'] c t e :=
  ⟨_, _, _, fun w => dsub_any C C' S S' _ w x.lo x.hi x.s y.lo y.hi y.s rfl, fun w => nsub02_any C C' S S' _ _ _ w x.lo x.hi x.s y.lo y.hi y.s rfl rfl (ev_sub x.s y.s)⟩
theorem mul_both (x : IsD C S) (y : IsD C' S') : ∃ c t e : Int, Ans 36 #[DV C S, DV C' S'] c t e ∧ Ans 43 #[DV C S, DV C' S'] c t e :=
  ⟨_, _, _, fun w => dmul_any C C' S S' _ w x.lo x.hi x.s y.lo y.hi y.s rfl, fun w => nmul02_any C C' S S' _ _ _ w x.lo x.hi x.s y.lo y.hi y.s rfl rfl (ev_prod x.s y.s)⟩
theorem div_both (x : IsD C S) (y : IsD C' S') (h0 : C' ≠ 0) : ∃ c t e : Int, Ans 37 #[DV C S, DV C' S'] c t e ∧ Ans 45 #[DV C S, DV C' S'] c t e := by
  rcases Int.lt_or_le C' 0 with h | h
  · refine ⟨_, _, _, fun w => ddiv_neg C C' S S' _ w x.lo x.hi x.s y.lo y.hi y.s h rfl, fun w => ndiv02_neg C C' S S' _ _ _ w x.lo x.hi x.s y.lo y.hi y.s rfl rfl ?_ (ev_quo_neg x.s y.s h0)⟩
    exact Int.mul_neg_of_neg_of_pos h (p10i _)
  · refine ⟨_, _, _, fun w => ddiv_pos C C' S S' _ w x.lo x.hi x.s y.lo y.hi y.s (by omega) rfl, fun w => ndiv02_pos C C' S S' _ _ _ w x.lo x.hi x.s y.lo y.hi y.s rfl rfl ?_ (ev_quo x.s y.s h0)⟩
    exact Int.mul_pos (by omega) (p10i _)
theorem cmp_both (x : IsD C S) (y : IsD C' S') : ∃ q : Int, AnsIE 38 #[DV C S, DV C' S'] q 0 ∧ AnsI 44 #[DV C S, DV C' S'] q :=
  ⟨_, fun w => dcmp_any C C' _ S S' w x.lo x.hi x.s y.lo y.hi y.s rfl, fun w => ncmp02_any C C' S S' _ _ _ w x.lo x.hi x.s y.lo y.hi y.s rfl rfl (by rw [nine_up C x.s, nine_up C' y.s]; exact cmpI_scale (p10i 9))⟩
theorem put_both (x : IsD C S) : ∃ c t e : Int, Ans 46 #[DV C S] c t e ∧ Ans 53 #[DV C S] c t e ∧ (0 ≤ C → Ans 48 #[DV C S] c t e) :=
  ⟨_, _, _, fun w => dput_any C S _ w x.lo x.hi x.s rfl, fun w => nput_any C S _ _ w x.lo x.hi x.s rfl (ev_put x.s), fun h w => dabs_pos C S _ w x.lo x.hi x.s h rfl⟩
theorem neg_both (x : IsD C S) : ∃ c t e : Int, Ans 47 #[DV C S] c t e ∧ Ans 42 #[DV 0 0, DV C S] c t e ∧ (C < 0 → Ans 48 #[DV C S] c t e) := by
  refine ⟨_, _, _, fun w => dneg_any C S _ w x.lo x.hi x.s rfl, fun w => nsub02_any 0 C 0 S _ _ _ w (by omega) (by omega) (by omega) x.lo x.hi x.s rfl rfl ?_, fun h w => dabs_neg C S _ w x.lo x.hi x.s h rfl⟩
  rw [ev_sub (by omega) x.s]
  show nine 0 0 - nine C S = - nine C S
  rw [show nine 0 0 = 0 from by unfold nine; exact Int.zero_mul _]; omega
theorem round_both {p : Nat} (x : IsD C S) (hp : p ≤ 9) : ∃ c t e : Int, Ans 49 #[DV C S, .int .i64 p] c t e ∧ Ans 54 #[DV C S, .int .i64 p] c t e :=
  ⟨_, _, _, fun w => dround_any C S p _ w x.lo x.hi x.s hp rfl, fun w => nround_any C S p _ _ w x.lo x.hi x.s hp rfl (ev_round x.s hp)⟩
theorem canonB (u : Int) {C : Int} {S : Nat} (x : IsD C S) (hu : nine C S = u) : decide (mE u 9 = 0 ∧ mC u 9 = C ∧ mS u 9 = S) = decide (S = 0 ∨ ¬ C % 10 = 0) := by
  obtain ⟨h1, h2, h3⟩ := strip_spec 9 u
  rw [Bool.eq_iff_iff]
  simp only [decide_eq_true_eq]
  constructor
  · rintro ⟨he, hc, hs⟩
    unfold mE at he
    unfold mC at hc
    unfold mS at hs
    by_cases hf : fitsI (strip u 9).1 = true
    · rw [if_pos hf] at hc hs
      rw [hc, hs] at h2
      exact h2
    · rw [if_neg hf] at he; cases he
  · intro hcn
    have hst : strip u 9 = (C, S) := strip_is x.s hcn (by rw [← hu]; rfl)
    have hf : fitsI C = true := by simp [fitsI, x.lo, x.hi]
    unfold mE mC mS
    rw [hst]
    simp [hf]
theorem may_both (x : IsD C S) : ∃ b : Bool, AnsB 50 #[DV C S] b ∧ AnsB 51 #[DV C S] b :=
  ⟨_, fun w => dmay_some _ C S w x.lo x.hi x.s rfl, fun w => nmay_some _ C S _ _ w x.lo x.hi x.s rfl (ev_put x.s) (canonB _ x rfl)⟩
end
theorem is_yes {C : Int} {S : Nat} (x : IsD C S) : AnsB 39 #[DV C S] true := fun w => nis_yes C S w (by omega) (by have := x.s; omega)
end Go.Proofs.Ytgkogjlcecbfjaa
