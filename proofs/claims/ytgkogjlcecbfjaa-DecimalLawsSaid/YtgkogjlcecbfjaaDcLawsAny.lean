/- DecimalLaws: what package decimal tells of itself. DecimalLaws at every two Decs: the ways joined. -/
import Derived.Test.YtgkogjlcecbfjaaDcKnown
import Derived.Test.YtgkogjlcecbfjaaDcLaws
namespace Corr
open Go
set_option linter.unusedVariables false
theorem strip_between : ∀ (s : Nat) (u : Int), (0 ≤ u → 0 ≤ (strip u s).1 ∧ (strip u s).1 ≤ u) ∧ (u ≤ 0 → u ≤ (strip u s).1 ∧ (strip u s).1 ≤ 0)
  | 0, u => by rw [strip]; exact ⟨fun h => ⟨h, Int.le_refl _⟩, fun h => ⟨Int.le_refl _, h⟩⟩
  | s + 1, u => by
    by_cases h : u % 10 = 0
    · rw [strip_yes s h]
      obtain ⟨h1, h2⟩ := strip_between s (u / 10)
      exact ⟨fun h0 => ⟨(h1 (by omega)).1, by have := (h1 (by omega)).2; omega⟩, fun h0 => ⟨by have := (h2 (by omega)).1; omega, (h2 (by omega)).2⟩⟩
    · rw [strip_no (s := s + 1) (.inr h)]; exact ⟨fun h => ⟨h, Int.le_refl _⟩, fun h => ⟨Int.le_refl _, h⟩⟩
/-- A Dec's canonical one fits. -/
theorem put_fits {C : Int} {S : Nat} (x : IsD C S) : mE (nine C S) 9 = 0 := by
  have h : strip (nine C S) 9 = strip C S := strip_at x.s rfl
  have hb := strip_between S C
  have h1 := x.lo; have h2 := x.hi
  have hf : fitsI (strip C S).1 = true := by
    rcases Int.lt_or_le C 0 with h0 | h0
    · have := hb.2 (by omega); simp [fitsI]; omega
    · have := hb.1 h0; simp [fitsI]; omega
  unfold mE
  rw [h, if_pos hf]
/-- What fits: the number told is canonical, and has this worth. -/
theorem made_is {u : Int} (h : mE u 9 = 0) : IsD (mC u 9) (mS u 9) ∧ nine (mC u 9) (mS u 9) = u ∧ (mS u 9 = 0 ∨ ¬ mC u 9 % 10 = 0) := by
  obtain ⟨h1, h2, h3⟩ := strip_spec 9 u
  have hf : fitsI (strip u 9).1 = true := by
    unfold mE at h
    by_cases hf : fitsI (strip u 9).1 = true
    · exact hf
    · rw [if_neg hf] at h; cases h
  have e1 : mC u 9 = (strip u 9).1 := by unfold mC; rw [if_pos hf]
  have e2 : mS u 9 = (strip u 9).2 := by unfold mS; rw [if_pos hf]
  rw [e1, e2]
  simp [fitsI] at hf
  exact ⟨⟨hf.1, hf.2, h1⟩, h3.symm, h2⟩
theorem mE_or (u : Int) : mE u 9 = 0 ∨ mE u 9 = 11 := by unfold mE; split <;> simp
/-- Order goes with what is told of the difference. -/
theorem sign_of {u : Int} (h : mE u 9 = 0) : (mC u 9 < 0 ↔ u < 0) ∧ (mC u 9 = 0 ↔ u = 0) := by
  obtain ⟨hx, hu, _⟩ := made_is h
  have hp := p10i (9 - mS u 9)
  unfold nine at hu
  generalize mC u 9 = c at *
  generalize ((10 ^ (9 - mS u 9) : Nat) : Int) = k at *
  rcases Int.lt_trichotomy c 0 with h0 | h0 | h0
  · have := Int.mul_neg_of_neg_of_pos h0 hp; omega
  · subst h0; simp at hu; omega
  · have := Int.mul_pos h0 hp; omega
theorem cmpI_sign (x y : Int) : (cmpI x y < 0 ↔ x - y < 0) ∧ (cmpI x y = 0 ↔ x - y = 0) := by
  rcases Int.lt_trichotomy x y with h | h | h
  · rw [cmpI_lt h]; omega
  · rw [cmpI_eq h]; omega
  · rw [cmpI_gt h]; omega
theorem back_pos {C' n : Int} (h : 0 < C') : evZ (n * C') C'.natAbs = n := by
  have : C' = ((C'.natAbs : Nat) : Int) := by omega
  have h2 := evZ_mul n C'.natAbs (by omega)
  rwa [← this] at h2
theorem back_neg {C' n : Int} (h : C' < 0) : evZ (-(n * C')) C'.natAbs = n := by
  have : -C' = ((C'.natAbs : Nat) : Int) := by omega
  have h2 := evZ_mul n C'.natAbs (by omega)
  rwa [← this, Int.mul_neg] at h2
end Corr
namespace Go.Proofs.Ytgkogjlcecbfjaa
open Go.RowKit Corr
set_option linter.unusedVariables false
/-- A product that is exact, divided again. -/
theorem back_div {C C' c : Int} {S S' t : Nat} (hS : S ≤ 9) (hs : S + S' ≤ 9) (ht : t ≤ 9) (hc : nine c t = rndZ (C * C') (S + S') 9) : c * ((10 ^ (9 + S' - t) : Nat) : Int) = nine C S * C' := by
  unfold rndZ at hc
  rw [if_neg (by omega)] at hc
  have e1 : c * ((10 ^ (9 + S' - t) : Nat) : Int) = nine c t * ((10 ^ S' : Nat) : Int) := by
    unfold nine; rw [Int.mul_assoc, ← pow_split (show (9 - t) + S' = 9 + S' - t by omega)]
  rw [e1, hc]
  unfold nine
  rw [Int.mul_assoc, ← pow_split (show (9 - (S + S')) + S' = 9 - S by omega), Int.mul_right_comm]
theorem dadd_none {C C' S S' : Int} (h : (S < 0 ∨ 9 < S) ∨ (S' < 0 ∨ 9 < S')) : Ans 34 #[DV C S, DV C' S'] 0 0 2 := fun w => by
  by_cases h1 : S < 0 ∨ 9 < S
  · exact dadd_no1 C C' S S' w h1
  · exact dadd_no2 C C' S S' w (by omega) (by omega) (by omega)
theorem dsub_none {C C' S S' : Int} (h : (S < 0 ∨ 9 < S) ∨ (S' < 0 ∨ 9 < S')) : Ans 35 #[DV C S, DV C' S'] 0 0 2 := fun w => by
  by_cases h1 : S < 0 ∨ 9 < S
  · exact dsub_no1 C C' S S' w h1
  · exact dsub_no2 C C' S S' w (by omega) (by omega) (by omega)
theorem dmul_none {C C' S S' : Int} (h : (S < 0 ∨ 9 < S) ∨ (S' < 0 ∨ 9 < S')) : Ans 36 #[DV C S, DV C' S'] 0 0 2 := fun w => by
  by_cases h1 : S < 0 ∨ 9 < S
  · exact dmul_no1 C C' S S' w h1
  · exact dmul_no2 C C' S S' w (by omega) (by omega) (by omega)
theorem dcmp_none {C C' S S' : Int} (h : (S < 0 ∨ 9 < S) ∨ (S' < 0 ∨ 9 < S')) : AnsIE 38 #[DV C S, DV C' S'] 0 2 := fun w => by
  by_cases h1 : S < 0 ∨ 9 < S
  · exact dcmp_no1 C C' S S' w h1
  · exact dcmp_no2 C C' S S' w (by omega) (by omega) (by omega)
theorem put_some {C S : Int} (c0 : -9223372036854775808 ≤ C) (c1 : C ≤ 9223372036854775807) : ∃ p t i : Int, Ans 46 #[DV C S] p t i := by
  by_cases h : S < 0 ∨ 9 < S
  · exact ⟨0, 0, 2, fun w => dput_no C S w h⟩
  · obtain ⟨S, rfl⟩ : ∃ k : Nat, S = (k : Int) := ⟨S.toNat, by omega⟩
    exact ⟨_, _, _, fun w => dput_any C S _ w c0 c1 (by omega) rfl⟩
section
variable {C C' : Int} {S S' : Nat}
theorem laws_put (x : IsD C S) : Ans 46 #[DV C S] (mC (nine C S) 9) (mS (nine C S) 9) 0 := fun w => by
  have h := dput_any C S _ w x.lo x.hi x.s rfl
  rw [put_fits x] at h; exact h
theorem laws_may {u : Int} (h : mE u 9 = 0) : AnsB 50 #[DV (mC u 9) (mS u 9)] true := fun w => by
  obtain ⟨x, _, hc⟩ := made_is h
  exact dmay_some true _ _ w x.lo x.hi x.s (decide_eq_true hc)
theorem laws_back (x : IsD C S) (y : IsD C' S') (h : mE (nine C S + nine C' S') 9 = 0) :
    Ans 35 #[DV (mC (nine C S + nine C' S') 9) (mS (nine C S + nine C' S') 9), DV C' S'] (mC (nine C S) 9) (mS (nine C S) 9) 0 := fun w => by
  obtain ⟨a, ha, _⟩ := made_is h
  have hs := dsub_any _ _ _ _ (nine C S) w a.lo a.hi a.s y.lo y.hi y.s (by rw [ha]; omega)
  rw [put_fits x] at hs; exact hs
theorem laws_div (x : IsD C S) (y : IsD C' S') (h : mE (rndZ (C * C') (S + S') 9) 9 = 0) (hs : S + S' ≤ 9) (h0 : C' ≠ 0) :
    Ans 37 #[DV (mC (rndZ (C * C') (S + S') 9) 9) (mS (rndZ (C * C') (S + S') 9) 9), DV C' S'] (mC (nine C S) 9) (mS (nine C S) 9) 0 := fun w => by
  obtain ⟨a, ha, _⟩ := made_is h
  have hb := back_div x.s hs a.s ha
  rcases Int.lt_or_le C' 0 with hn | hn
  · have hd := ddiv_neg _ _ _ _ (nine C S) w a.lo a.hi a.s y.lo y.hi y.s hn (by rw [hb]; exact back_neg hn)
    rw [put_fits x] at hd; exact hd
  · have hd := ddiv_pos _ _ _ _ (nine C S) w a.lo a.hi a.s y.lo y.hi y.s (by omega) (by rw [hb]; exact back_pos (by omega))
    rw [put_fits x] at hd; exact hd
theorem laws_sign (x : IsD C S) (y : IsD C' S') (h : mE (nine C S - nine C' S') 9 = 0) : ∃ bn bz : Bool, decide (cmpI (nine C S) (nine C' S') < 0) = bn ∧ decide (mC (nine C S - nine C' S') 9 < 0) = bn ∧ (cmpI (nine C S) (nine C' S') == 0) = bz ∧ (mC (nine C S - nine C' S') 9 == 0) = bz := by
  obtain ⟨h1, h2⟩ := sign_of h
  obtain ⟨h3, h4⟩ := cmpI_sign (nine C S) (nine C' S')
  refine ⟨_, _, rfl, ?_, rfl, ?_⟩
  · rw [Bool.eq_iff_iff]; simp only [decide_eq_true_eq]; rw [h1, h3]
  · rw [Bool.eq_iff_iff]; simp only [beq_iff_eq]; rw [h2, h4]
end
theorem zero_of {e : Int} (h : ¬ e = 0) : (e == 0) = false := by rw [beq_eq_false_iff_ne]; exact h
theorem laws_any (C S C' S' : Int) (c0 : -9223372036854775808 ≤ C) (c1 : C ≤ 9223372036854775807) (c0' : -9223372036854775808 ≤ C') (c1' : C' ≤ 9223372036854775807) : AnsB 8 #[DV C S, DV C' S'] true := by
  by_cases h : (S < 0 ∨ 9 < S) ∨ (S' < 0 ∨ 9 < S')
  · obtain ⟨p, t, i, hp⟩ := put_some (S := S) c0 c1
    exact laws_bad C S C' S' p t i (dadd_none h) (dadd_none h.symm) (dmul_none h) (dmul_none h.symm) hp (dcmp_none h) (dsub_none h)
  · obtain ⟨S, rfl⟩ : ∃ k : Nat, S = (k : Int) := ⟨S.toNat, by omega⟩
    obtain ⟨S', rfl⟩ : ∃ k : Nat, S' = (k : Int) := ⟨S'.toNat, by omega⟩
    have x : IsD C S := ⟨c0, c1, by omega⟩
    have y : IsD C' S' := ⟨c0', c1', by omega⟩
    have a1 : Ans 34 #[DV C S, DV C' S'] _ _ _ := fun w => dadd_any C C' S S' _ w x.lo x.hi x.s y.lo y.hi y.s rfl
    have a2 : Ans 34 #[DV C' S', DV C S] _ _ _ := fun w => dadd_any C' C S' S (nine C S + nine C' S') w y.lo y.hi y.s x.lo x.hi x.s (Int.add_comm _ _)
    have m1 : Ans 36 #[DV C S, DV C' S'] _ _ _ := fun w => dmul_any C C' S S' _ w x.lo x.hi x.s y.lo y.hi y.s rfl
    have m2 : Ans 36 #[DV C' S', DV C S] _ _ _ := fun w => dmul_any C' C S' S (rndZ (C * C') (S + S') 9) w y.lo y.hi y.s x.lo x.hi x.s (by rw [Int.mul_comm C' C, Nat.add_comm S' S])
    have q1 : AnsIE 38 #[DV C S, DV C' S'] _ 0 := fun w => dcmp_any C C' _ S S' w x.lo x.hi x.s y.lo y.hi y.s rfl
    have s1 : Ans 35 #[DV C S, DV C' S'] _ _ _ := fun w => dsub_any C C' S S' _ w x.lo x.hi x.s y.lo y.hi y.s rfl
    by_cases ha : mE (nine C S + nine C' S') 9 = 0
    · rw [ha] at a1 a2
      by_cases hm : mE (rndZ (C * C') (S + S') 9) 9 = 0
      · rw [hm] at m1 m2
        exact laws_am C S C' S' _ _ _ _ _ _ _ _ _ _ (by omega) (by have := x.s; omega) (by omega) (by have := y.s; omega) a1 a2 m1 m2 (laws_put x) q1 s1 (laws_sign x y) (laws_may ha) (laws_back x y ha) (laws_may hm) (fun hs h0 => laws_div x y hm (by omega) h0)
      · exact laws_ax C S C' S' _ _ _ _ _ _ _ _ _ _ _ (by omega) (by have := x.s; omega) (by omega) (by have := y.s; omega) a1 a2 m1 m2 (laws_put x) q1 s1 (laws_sign x y) (laws_may ha) (laws_back x y ha) (zero_of hm)
    · by_cases hm : mE (rndZ (C * C') (S + S') 9) 9 = 0
      · rw [hm] at m1 m2
        exact laws_xm C S C' S' _ _ _ _ _ _ _ _ _ _ _ (by omega) (by have := x.s; omega) (by omega) (by have := y.s; omega) a1 a2 m1 m2 (laws_put x) q1 s1 (laws_sign x y) (zero_of ha) (laws_may hm) (fun hs h0 => laws_div x y hm (by omega) h0)
      · exact laws_xx C S C' S' _ _ _ _ _ _ _ _ _ _ _ _ (by omega) (by have := x.s; omega) (by omega) (by have := y.s; omega) a1 a2 m1 m2 (laws_put x) q1 s1 (laws_sign x y) (zero_of ha) (zero_of hm)
end Go.Proofs.Ytgkogjlcecbfjaa
