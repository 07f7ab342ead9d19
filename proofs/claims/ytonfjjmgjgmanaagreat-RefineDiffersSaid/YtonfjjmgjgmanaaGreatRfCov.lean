/- Common parts of some timelines: there is one such list. Plain. -/
import Derived.Test.YtonfjjmgjgmanaaGreatRfMoved
import Derived.Test.YtonfjjmgjgmanaaGreatRf1
import Derived.Test.YtonfjjmgjgmanaaGreatTl4
namespace Corr
open Go Go.RowKit
set_option linter.unusedVariables false
/-- Where segments begin, but for the first one. -/
def starts (s : ItL) : List Int := s.tail.map (·.1)
theorem starts_cons (s t : It) (r : ItL) : starts (s :: t :: r) = t.1 :: starts (t :: r) := rfl
/-- Between two beginnings there is one value. -/
theorem cov_flat {f : Int → Int} : ∀ {l : ItL} {a b x y : Int}, covP f a b l → a ≤ x → x < y → y ≤ b → (∀ e ∈ starts l, x < e → e < y → False) → ∀ d, x ≤ d → d < y → f d = f x
  | [], a, b, x, y, h, hx, hxy, hy, _, d, _, _ => by have e : a = b := h; omega
  | [s], a, b, x, y, h, hx, hxy, hy, _, d, d1, d2 => by
    obtain ⟨h1, h2, h3, _, h5⟩ := h
    have h5 : s.2.1 = b := h5
    rw [h3 d (by omega) (by omega), h3 x (by omega) (by omega)]
  | s :: t :: r, a, b, x, y, h, hx, hxy, hy, he, d, d1, d2 => by
    obtain ⟨h1, h2, h3, _, h5⟩ := h
    have ht : t.1 = s.2.1 := h5.1
    by_cases hc : x < s.2.1
    · have : y ≤ s.2.1 := by
        by_cases h6 : s.2.1 < y
        · exact (he t.1 (by rw [starts_cons]; simp) (by omega) (by omega)).elim
        · omega
      rw [h3 d (by omega) (by omega), h3 x (by omega) (by omega)]
    · exact cov_flat h5 (by omega) hxy hy (fun e he' => he e (by rw [starts_cons]; simp [he'])) d d1 d2
/-- Where one begins there is another value than on the day ahead. -/
theorem cov_turn {f : Int → Int} : ∀ {l : ItL} {a b : Int}, covP f a b l → ∀ e ∈ starts l, a < e ∧ e < b ∧ f e ≠ f (e - 1)
  | [], _, _, _, e, he => by simp [starts] at he
  | [s], _, _, _, e, he => by simp [starts] at he
  | s :: t :: r, a, b, h, e, he => by
    obtain ⟨h1, h2, h3, h4, h5⟩ := h
    have ht : t.1 = s.2.1 := h5.1
    rw [starts_cons, List.mem_cons] at he
    have hle := covP_le h5
    simp only [List.length_cons] at hle
    rcases he with rfl | he
    · refine ⟨by omega, by omega, ?_⟩
      rw [h5.2.2.1 t.1 (Int.le_refl _) h5.2.1, h3 (t.1 - 1) (by omega) (by omega)]
      exact h4 t rfl
    · obtain ⟨k1, k2, k3⟩ := cov_turn h5 e he
      exact ⟨by omega, k2, k3⟩
/-- Pieces between such beginnings are the parts. -/
theorem cut_cov {F : Int → List Int} {ends : List Int} {a0 b : Int} (hc : ∀ x y, a0 ≤ x → x < y → y ≤ b → (∀ e ∈ ends, x < e → e < y → False) → ∀ d, x ≤ d → d < y → F d = F x) (hd : ∀ e ∈ ends, F e ≠ F (e - 1)) : ∀ {l : SpL} {a : Int}, a0 ≤ a → a ≤ b → cutP ends b a b l → covG F a b (l.map fun s => (s.1, s.2, F s.1))
  | [], a, _, _, h => h
  | s :: r, a, ha, hab, h => by
    obtain ⟨h1, h2, h3, h4⟩ := h
    obtain ⟨n1, n2⟩ := nextE_in ends h2
    rw [← h3] at n1 n2
    have hflat := hc a s.2 ha n1 n2 (fun e he k1 k2 => nextE_none he k1 (by rw [← h3]; exact k2))
    refine ⟨h1, by show s.1 < s.2; omega, fun d d1 d2 => ?_, fun t ht => ?_, cut_cov hc hd (show a0 ≤ s.2 by omega) n2 h4⟩
    · show F d = F s.1
      rw [h1]; exact hflat d (by have : s.1 ≤ d := d1; omega) (by have : d < s.2 := d2; exact this)
    · cases r with
      | nil => cases ht
      | cons u r =>
        have e : t = (u.1, u.2, F u.1) := by simpa using ht.symm
        subst e
        obtain ⟨u1, u2, _, _⟩ := h4
        show ¬ F u.1 = F s.1
        rw [u1, h1]
        have hm : s.2 ∈ ends := by
          rcases nextE_mem (d := a) ends b with h | h
          · rw [← h3] at h; omega
          · rw [← h3] at h; exact h
        have := hd s.2 hm
        rw [hflat (s.2 - 1) (by omega) (by omega)] at this
        exact this
/-- The ends of some timelines' segments. -/
def endsAll : List ItL → List Int
  | [] => []
  | s :: r => starts s ++ endsAll r
theorem parts_cov {a b : Int} {pieces : SpL} : ∀ (ls sgs : List ItL), ls.length = sgs.length → (∀ (i : Nat) (l s : ItL), ls[i]? = some l → sgs[i]? = some s → covP (atL l) a b s) →
    (∀ x y, a ≤ x → x < y → y ≤ b → (∀ e ∈ endsAll sgs, x < e → e < y → False) → ∀ d, x ≤ d → d < y → ls.map (atL · d) = ls.map (atL · x)) ∧ ∀ e ∈ endsAll sgs, ls.map (atL · e) ≠ ls.map (atL · (e - 1))
  | [], [], _, _ => ⟨fun _ _ _ _ _ _ _ _ _ => rfl, fun e he => by cases he⟩
  | [], s :: r, h, _ => by simp at h
  | l :: ls, [], h, _ => by simp at h
  | l :: ls, s :: sgs, h, hs => by
    obtain ⟨i1, i2⟩ := parts_cov (pieces := pieces) ls sgs (by simpa using h) fun i l' s' h1 h2 => hs (i + 1) l' s' (by simpa using h1) (by simpa using h2)
    have h0 := hs 0 l s rfl rfl
    refine ⟨fun x y h1 h2 h3 h4 d d1 d2 => ?_, fun e he => ?_⟩
    · rw [List.map_cons, List.map_cons, cov_flat h0 h1 h2 h3 (fun e he => h4 e (List.mem_append_left _ he)) d d1 d2, i1 x y h1 h2 h3 (fun e he => h4 e (List.mem_append_right _ he)) d d1 d2]
    · rcases List.mem_append.1 he with he | he
      · rw [List.map_cons, List.map_cons]
        intro e'
        exact (cov_turn h0 e he).2.2 (List.cons.inj e').1
      · rw [List.map_cons, List.map_cons]
        intro e'
        exact i2 e he (List.cons.inj e').2
/-- The common parts, as they are told. -/
def partsS (ls : List ItL) (a b : Int) (out : List (Int × Int × List Int)) : Prop := if mayB a b = true then covG (fun d => ls.map (atL · d)) a b out else out = []
theorem partsS_one {ls : List ItL} {a b : Int} {l m : List (Int × Int × List Int)} (h : partsS ls a b l) (h' : partsS ls a b m) : l = m := by
  unfold partsS at h h'
  split at h
  · rename_i hm
    rw [if_pos hm] at h'
    exact covG_one h h'
  · rename_i hm
    rw [if_neg hm] at h'
    rw [h, h']
theorem partsS_of {ls sgs : List ItL} {a b : Int} {pieces : SpL} (hl : ls.length = sgs.length) (hs : ∀ (i : Nat) (l s : ItL), ls[i]? = some l → sgs[i]? = some s → segsP l a b s) (hc : cutS (endsAll sgs) a b pieces) : partsS ls a b (pieces.map fun s => (s.1, s.2, ls.map (atL · s.1))) := by
  unfold partsS
  unfold cutS at hc
  by_cases hm : mayB a b = true
  · rw [if_pos hm] at hc ⊢
    have hs' : ∀ (i : Nat) (l s : ItL), ls[i]? = some l → sgs[i]? = some s → covP (atL l) a b s := fun i l s h1 h2 => by
      have := hs i l s h1 h2
      unfold segsP at this
      rwa [if_pos hm] at this
    obtain ⟨p1, p2⟩ := parts_cov (pieces := pieces) ls sgs hl hs'
    have hb := (mayB_iff.1 hm).2.1
    exact cut_cov p1 p2 (Int.le_refl _) (by omega) hc
  · rw [if_neg hm] at hc ⊢
    rw [hc]; rfl
end Corr
