/- Words that are read, told with a blank between, are read again. No walk in this text. -/
import Derived.Test.YtfceoehfellpgaaDoorLxK
import Derived.Lib.Join
namespace Corr
open Go Go.RowKit Go.PlainAid
theorem bt_ext {s : ByteArray} {a i k : Nat} (h : a + k < i) (hi : i ≤ s.size) : bt (s.extract a i) k = bt s (a + k) := by
  obtain ⟨b, hb, hb2⟩ := bt_at (show a + k < s.size by omega)
  rw [← hb2]
  apply bt_of
  rw [ByteArray.data_extract, Array.toList_extract, List.extract_eq_take_drop, List.getElem?_take, if_pos (by omega), List.getElem?_drop]
  exact hb
theorem size_ext {s : ByteArray} {a i : Nat} (hi : i ≤ s.size) : (s.extract a i).size = i - a := by
  rw [ByteArray.size_extract]; omega
/-- The bytes of s from a to i stand in J from b on; behind them a blank or nothing. -/
structure Again (s : ByteArray) (a i : Nat) (J : ByteArray) (b : Nat) : Prop where
  le : a ≤ i
  hi : i ≤ s.size
  fit : b + (i - a) ≤ J.size
  same : ∀ k, k < i - a → bt J (b + k) = bt s (a + k)
  stop : b + (i - a) < J.size → bt J (b + (i - a)) = 32
section
variable {s J : ByteArray} {a i b : Nat} {p : Int → Bool}
theorem Again.at_ (h : Again s a i J b) {x : Nat} (h1 : a ≤ x) (h2 : x < i) : bt J (b + (x - a)) = bt s x := by
  have := h.same (x - a) (by omega)
  rw [show a + (x - a) = x by omega] at this
  exact this
theorem Again.run (h : Again s a i J b) (hp : p 32 = false) {x : Nat} (hx : a ≤ x) (r : RunTo p s x i) : RunTo p J (b + (x - a)) (b + (i - a)) := by
  have hxi := r.1
  refine ⟨by omega, h.fit, fun k h1 h2 => ?_, fun hj => by rw [h.stop hj]; exact hp⟩
  have := h.at_ (x := a + (k - b)) (by omega) (by omega)
  rw [show b + (a + (k - b) - a) = k by omega] at this
  rw [this]; exact r.2.2.1 _ (by omega) (by omega)
theorem Again.mid (h : Again s a i J b) {x j : Nat} (hx : a ≤ x) (hj : j < i) (r : RunTo p s x j) : RunTo p J (b + (x - a)) (b + (j - a)) := by
  have hxi := r.1
  have hf := h.fit
  have hl := h.hi
  refine ⟨by omega, by omega, fun k h1 h2 => ?_, fun _ => by rw [h.at_ (by omega) hj]; exact r.2.2.2 (by omega)⟩
  have := h.at_ (x := a + (k - b)) (by omega) (by omega)
  rw [show b + (a + (k - b) - a) = k by omega] at this
  rw [this]; exact r.2.2.1 _ (by omega) (by omega)
theorem sign2_blank (x : Int) : sign2B x 32 = false := by unfold sign2B; simp
theorem endN_again (h : Again s a i J b) (hai : a < i) (he : endN s a = i) : endN J b = b + (i - a) ∧ bt J b = bt s a := by
  have hb0 : bt J b = bt s a := by have := h.at_ (x := a) (Nat.le_refl _) hai; simpa using this
  refine ⟨?_, hb0⟩
  have hfit := h.fit
  have his := h.hi
  have e0 : b + (a - a) = b := by omega
  cases q : smallB (bt s a) with
  | true =>
    rw [endN_small q] at he
    have r : RunTo wordB s a i := he ▸ runTo_to (by omega)
    rw [endN_small (by rw [hb0]; exact q)]
    have := h.run (p := wordB) (by decide) (Nat.le_refl _) r
    rw [e0] at this
    exact runTo_eq this
  | false =>
    cases q0 : digB (bt s a) with
    | true =>
      rw [endN_digit q q0] at he
      rw [endN_digit (by rw [hb0]; exact q) (by rw [hb0]; exact q0)]
      by_cases hc : runTo digB s a + 1 < s.size ∧ bt s (runTo digB s a) = 46 ∧ digB (bt s (runTo digB s a + 1)) = true
      · rw [if_pos hc] at he
        have r0 : RunTo digB s a (runTo digB s a) := runTo_to (by omega)
        generalize runTo digB s a = i0 at *
        have r1 : RunTo digB s (i0 + 1) i := he ▸ runTo_to (by omega)
        have hai0 := r0.1
        have hlt : i0 + 1 < i := by
          have := r1.1
          by_cases e : i = i0 + 1
          · have h1 := r1.2.2.2 (by omega)
            rw [e, hc.2.2] at h1; cases h1
          · omega
        have m0 := h.mid (p := digB) (Nat.le_refl _) (by omega) r0
        rw [e0] at m0
        rw [runTo_eq m0]
        have m1 := h.run (p := digB) (by decide) (x := i0 + 1) (by omega) r1
        rw [show b + (i0 + 1 - a) = b + (i0 - a) + 1 by omega] at m1
        have h46 := h.at_ (x := i0) (by omega) (by omega)
        have hd := h.at_ (x := i0 + 1) (by omega) (by omega)
        rw [show b + (i0 + 1 - a) = b + (i0 - a) + 1 by omega] at hd
        rw [if_pos ⟨by omega, by rw [h46]; exact hc.2.1, by rw [hd]; exact hc.2.2⟩]
        exact runTo_eq m1
      · rw [if_neg hc] at he
        have r0 : RunTo digB s a i := he ▸ runTo_to (by omega)
        have m0 := h.run (p := digB) (by decide) (Nat.le_refl _) r0
        rw [e0] at m0
        rw [runTo_eq m0, if_neg]
        intro e
        have := h.stop (by omega)
        rw [this] at e
        exact absurd e.2.1 (by decide)
    | false =>
      rw [endN_else q q0] at he
      rw [endN_else (by rw [hb0]; exact q) (by rw [hb0]; exact q0)]
      by_cases h2 : a + 1 < s.size ∧ sign2B (bt s a) (bt s (a + 1)) = true
      · rw [if_pos h2] at he
        have h1 := h.at_ (x := a + 1) (by omega) (by omega)
        rw [show b + (a + 1 - a) = b + 1 by omega] at h1
        rw [if_pos ⟨by omega, by rw [hb0, h1]; exact h2.2⟩]; omega
      · rw [if_neg h2] at he
        by_cases h3 : sign1B (bt s a) = true
        · rw [if_pos h3] at he
          rw [if_neg, if_pos (by rw [hb0]; exact h3)]
          · omega
          · intro e
            have := h.stop (by omega)
            rw [show b + (i - a) = b + 1 by omega] at this
            rw [this, sign2_blank] at e
            cases e.2
        · rw [if_neg h3] at he; omega
end
/-- The words stand in J from b on, a blank behind each but the last. -/
def LaidT (J : ByteArray) : Nat → List Tk → Prop
  | b, [] => J.size ≤ b
  | b, x :: r => b + x.2.1.size ≤ J.size ∧ J.extract b (b + x.2.1.size) = x.2.1 ∧ (b + x.2.1.size < J.size → bt J (b + x.2.1.size) = 32) ∧ LaidT J (b + x.2.1.size + 1) r
/-- Alike but for places. -/
def sameT (x y : Tk) : Prop := x.1 = y.1 ∧ x.2.1 = y.2.1 ∧ x.2.2.1 = y.2.2.1 ∧ x.2.2.2.1 = y.2.2.2.1
inductive SameL : List Tk → List Tk → Prop
  | nil : SameL [] []
  | cons {x y : Tk} {l k : List Tk} : sameT x y → SameL l k → SameL (x :: l) (y :: k)
/-- Whatever text holds the words, from b on, is read as they are. -/
def ReadsT (toks : List Tk) : Prop := ∀ (J : ByteArray) (b m : Nat) (out : List Tk), LaidT J b toks → J.size ≤ b + m → ∃ toks', lexR J m b out = (out ++ toks', 0, 0) ∧ SameL toks toks'
theorem readsT_nil : ReadsT [] := fun J b m out h _ => ⟨[], by rw [lexR_end h, List.append_nil], .nil⟩
theorem readsT_cons {s : ByteArray} {a i : Nat} (f : Nat → Tk) {toks : List Tk} (hf : ∀ x y, sameT (f x) (f y)) (hW : ∀ x, (f x).2.1 = s.extract a i) (hai : a < i) (his : i ≤ s.size) (he : endN s a = i) (hbl : ¬ bt s a = 32)
    (hl : ∀ b out K, lexW (bt s a) b (b + (i - a)) (s.extract a i) out K = K (out ++ [f b])) (h : ReadsT toks) : ReadsT (f a :: toks) := by
  intro J b m out hL hm
  unfold LaidT at hL
  rw [hW, size_ext his] at hL
  obtain ⟨h1, h2, h3, h4⟩ := hL
  have hA : Again s a i J b := ⟨by omega, his, h1, fun k hk => by
    have e1 := bt_ext (s := J) (a := b) (i := b + (i - a)) (k := k) (by omega) h1
    rw [h2, bt_ext (by omega) his] at e1
    exact e1.symm, h3⟩
  obtain ⟨e1, e2⟩ := endN_again hA hai he
  obtain ⟨m, rfl⟩ : ∃ m', m = m' + 1 := ⟨m - 1, by omega⟩
  rw [lexR_word (by omega) (by rw [e2]; exact hbl), e1, h2, e2, hl]
  obtain ⟨m', hm', hstep⟩ : ∃ m', J.size ≤ b + (i - a) + 1 + m' ∧ lexR J m (b + (i - a)) (out ++ [f b]) = lexR J m' (b + (i - a) + 1) (out ++ [f b]) := by
    by_cases hlt : b + (i - a) < J.size
    · obtain ⟨m, rfl⟩ : ∃ m', m = m' + 1 := ⟨m - 1, by omega⟩
      exact ⟨m, by omega, lexR_blank hlt (h3 hlt)⟩
    · exact ⟨0, by omega, by rw [lexR_end (by omega), lexR_end (by omega)]⟩
  rw [hstep]
  obtain ⟨t', e3, e4⟩ := h J (b + (i - a) + 1) m' (out ++ [f b]) h4 hm'
  exact ⟨f b :: t', by rw [e3, List.append_assoc]; rfl, .cons (hf _ _) e4⟩
theorem lex_again {s : ByteArray} : ∀ {n a : Nat} {out fin : List Tk}, lexR s n a out = (fin, 0, 0) → s.size ≤ a + n → ∃ toks, fin = out ++ toks ∧ ReadsT toks
  | 0, a, out, fin, h, _ => ⟨[], by injection h with h _; rw [← h, List.append_nil], readsT_nil⟩
  | n + 1, a, out, fin, h, hn => by
    by_cases h1 : s.size ≤ a
    · rw [lexR_end h1] at h
      exact ⟨[], by injection h with h _; rw [← h, List.append_nil], readsT_nil⟩
    by_cases hbl : bt s a = 32
    · rw [lexR_blank (by omega) hbl] at h
      exact lex_again h (by omega)
    rw [lexR_word (by omega) hbl] at h
    obtain ⟨hai, his⟩ := endN_le (show a < s.size by omega)
    obtain ⟨i, hi⟩ : ∃ i, endN s a = i := ⟨_, rfl⟩
    rw [hi] at h hai his
    by_cases h2 : i = a ∨ (smallB (bt s a) = true ∧ 12 < i - a)
    · unfold lexW at h; rw [if_pos h2] at h; injection h with _ h; injection h with _ h; cases h
    have ha : a < i := by have : ¬ i = a := fun e => h2 (.inl e); omega
    have hna : ∀ b, ¬ b + (i - a) = b := fun b => by omega
    have hle : ∀ b, b + (i - a) - b = i - a := fun b => by omega
    have close : ∀ f : Nat → Tk, (∀ x y, sameT (f x) (f y)) → (∀ x, (f x).2.1 = s.extract a i) → (∀ b out K, lexW (bt s a) b (b + (i - a)) (s.extract a i) out K = K (out ++ [f b])) → lexR s n i (out ++ [f a]) = (fin, 0, 0) → ∃ toks, fin = out ++ toks ∧ ReadsT toks := by
      intro f hf hW hl h
      obtain ⟨toks, e1, e2⟩ := lex_again h (by omega)
      exact ⟨f a :: toks, by rw [e1, List.append_assoc]; rfl, readsT_cons f hf hW ha his hi hbl hl e2⟩
    cases q : smallB (bt s a) with
    | true =>
      have h12 : ¬ 12 < i - a := fun e => h2 (.inr ⟨q, e⟩)
      have hl : ∀ b out K, lexW (bt s a) b (b + (i - a)) (s.extract a i) out K = K (out ++ [tk 1 (s.extract a i) 0 0 b]) := fun b out K => by
        unfold lexW
        rw [if_neg (by rintro (e | e); exact hna b e; have := e.2; rw [hle] at this; exact h12 this), if_pos q]
      have hl0 := hl a out (lexR s n i)
      rw [show a + (i - a) = i by omega] at hl0
      rw [hl0] at h
      exact close (fun b => tk 1 (s.extract a i) 0 0 b) (fun _ _ => ⟨rfl, rfl, rfl, rfl⟩) (fun _ => rfl) hl h
    | false =>
      cases q0 : digB (bt s a) with
      | false =>
        have hl : ∀ b out K, lexW (bt s a) b (b + (i - a)) (s.extract a i) out K = K (out ++ [tk 3 (s.extract a i) 0 0 b]) := fun b out K => lexW_sign (hna b) q q0
        have hl0 := hl a out (lexR s n i)
        rw [show a + (i - a) = i by omega] at hl0
        rw [hl0] at h
        exact close (fun b => tk 3 (s.extract a i) 0 0 b) (fun _ _ => ⟨rfl, rfl, rfl, rfl⟩) (fun _ => rfl) hl h
      | true =>
        rw [lexW_num (by omega) q q0] at h
        by_cases h11 : pE (s.extract a i).data.toList = 11
        · rw [if_pos h11] at h; injection h with _ h; injection h with _ h; cases h
        rw [if_neg h11] at h
        by_cases h0 : pE (s.extract a i).data.toList = 0
        · have hl : ∀ b out K, lexW (bt s a) b (b + (i - a)) (s.extract a i) out K = K (out ++ [tk 2 (s.extract a i) (pC (s.extract a i).data.toList) (pS (s.extract a i).data.toList : Int) b]) := fun b out K => by
            rw [lexW_num (hna b) q q0, if_neg h11, if_neg (fun e => e h0)]
          rw [if_neg (fun e => e h0)] at h
          exact close (fun b => tk 2 (s.extract a i) (pC (s.extract a i).data.toList) (pS (s.extract a i).data.toList : Int) b) (fun _ _ => ⟨rfl, rfl, rfl, rfl⟩) (fun _ => rfl) hl h
        · rw [if_pos h0] at h; injection h with _ h; injection h with _ h; cases h
/-- Where the words stand in s, from a on: one behind the other, blanks alone between. -/
def PosT (s : ByteArray) : Nat → List Tk → Prop
  | a, [] => ∀ k, a ≤ k → k < s.size → bt s k = 32
  | a, x :: r => ∃ b : Nat, x.2.2.2.2 = (b : Int) ∧ a ≤ b ∧ b + x.2.1.size ≤ s.size ∧ s.extract b (b + x.2.1.size) = x.2.1 ∧ 0 < x.2.1.size ∧ (∀ k, a ≤ k → k < b → bt s k = 32) ∧ PosT s (b + x.2.1.size) r
theorem posT_blank {s : ByteArray} {a : Nat} (hb : bt s a = 32) : ∀ {toks : List Tk}, PosT s (a + 1) toks → PosT s a toks
  | [], h => fun k h1 h2 => by
    by_cases e : k = a
    · rw [e]; exact hb
    · exact h k (by omega) h2
  | x :: r, ⟨b, h1, h2, h3, h4, h5, h6, h7⟩ => ⟨b, h1, by omega, h3, h4, h5, fun k k1 k2 => by
    by_cases e : k = a
    · rw [e]; exact hb
    · exact h6 k (by omega) k2, h7⟩
theorem posT_word {s : ByteArray} {a i : Nat} {x : Tk} {toks : List Tk} (hai : a < i) (his : i ≤ s.size) (hW : x.2.1 = s.extract a i) (hx : x.2.2.2.2 = (a : Int)) (h : PosT s i toks) : PosT s a (x :: toks) := by
  have hz : x.2.1.size = i - a := by rw [hW, size_ext his]
  refine ⟨a, hx, Nat.le_refl _, by omega, ?_, by omega, fun k h1 h2 => absurd h2 (by omega), ?_⟩
  · rw [hz, show a + (i - a) = i by omega, hW]
  · rw [hz, show a + (i - a) = i by omega]; exact h
theorem lex_pos {s : ByteArray} : ∀ {n a : Nat} {out fin : List Tk}, lexR s n a out = (fin, 0, 0) → s.size ≤ a + n → ∃ toks, fin = out ++ toks ∧ PosT s a toks
  | 0, a, out, fin, h, hn => ⟨[], by injection h with h _; rw [← h, List.append_nil], fun k h1 h2 => by omega⟩
  | n + 1, a, out, fin, h, hn => by
    by_cases h1 : s.size ≤ a
    · rw [lexR_end h1] at h
      exact ⟨[], by injection h with h _; rw [← h, List.append_nil], fun k k1 k2 => by omega⟩
    by_cases hbl : bt s a = 32
    · rw [lexR_blank (by omega) hbl] at h
      obtain ⟨toks, e, p⟩ := lex_pos h (by omega)
      exact ⟨toks, e, posT_blank hbl p⟩
    rw [lexR_word (by omega) hbl] at h
    obtain ⟨hai, his⟩ := endN_le (show a < s.size by omega)
    obtain ⟨i, hi⟩ : ∃ i, endN s a = i := ⟨_, rfl⟩
    rw [hi] at h hai his
    by_cases h2 : i = a ∨ (smallB (bt s a) = true ∧ 12 < i - a)
    · unfold lexW at h; rw [if_pos h2] at h; injection h with _ h; injection h with _ h; cases h
    have hne : ¬ i = a := fun e => h2 (.inl e)
    have close : ∀ x : Tk, x.2.1 = s.extract a i → x.2.2.2.2 = (a : Int) → lexR s n i (out ++ [x]) = (fin, 0, 0) → ∃ toks, fin = out ++ toks ∧ PosT s a toks := by
      intro x hW hx h
      obtain ⟨toks, e1, e2⟩ := lex_pos h (by omega)
      exact ⟨x :: toks, by rw [e1, List.append_assoc]; rfl, posT_word (by omega) his hW hx e2⟩
    cases q : smallB (bt s a) with
    | true =>
      unfold lexW at h
      rw [if_neg h2, if_pos q] at h
      exact close _ rfl rfl h
    | false =>
      cases q0 : digB (bt s a) with
      | false => rw [lexW_sign hne q q0] at h; exact close _ rfl rfl h
      | true =>
        rw [lexW_num hne q q0] at h
        by_cases h11 : pE (s.extract a i).data.toList = 11
        · rw [if_pos h11] at h; injection h with _ h; injection h with _ h; cases h
        rw [if_neg h11] at h
        by_cases h0 : pE (s.extract a i).data.toList = 0
        · rw [if_neg (fun e => e h0)] at h; exact close _ rfl rfl h
        · rw [if_pos h0] at h; injection h with _ h; injection h with _ h; cases h
theorem join_two (x y : List UInt8) (r : List (List UInt8)) : Lib.join (x :: y :: r) [32] = x ++ 32 :: Lib.join (y :: r) [32] := by
  rw [Lib.join_cons, Lib.join_cons]
  simp [Lib.joinTail]
/-- The words, a blank between, in a string. -/
theorem laid_join (J : ByteArray) : ∀ (toks : List Tk) (pre : List UInt8), J.data.toList = pre ++ Lib.join (toks.map (·.2.1.data.toList)) [32] → LaidT J pre.length toks
  | [], pre, h => by
    have := congrArg List.length h
    rw [size_len] at this
    simp [Lib.join_nil] at this
    show J.size ≤ pre.length
    omega
  | x :: r, pre, h => by
    have hx : ∀ (R : List UInt8), J.data.toList = pre ++ (x.2.1.data.toList ++ R) → J.extract pre.length (pre.length + x.2.1.size) = x.2.1 := by
      intro R hR
      apply ByteArray.ext
      apply Array.toList_inj.1
      rw [ByteArray.data_extract, Array.toList_extract, List.extract_eq_take_drop, hR, List.drop_left, show pre.length + x.2.1.size - pre.length = x.2.1.data.toList.length by rw [size_len]; omega, List.take_left]
    cases r with
    | nil =>
      have h' : J.data.toList = pre ++ (x.2.1.data.toList ++ []) := by rw [h]; simp [Lib.join_one]
      have hz := congrArg List.length h'
      rw [size_len, List.length_append, List.append_nil, size_len] at hz
      exact ⟨by omega, hx [] h', fun e => by omega, by show J.size ≤ _; omega⟩
    | cons y r =>
      have h' : J.data.toList = pre ++ (x.2.1.data.toList ++ (32 :: Lib.join ((y :: r).map (·.2.1.data.toList)) [32])) := by rw [h]; simp only [List.map_cons]; rw [join_two]
      have h2 : J.data.toList = (pre ++ x.2.1.data.toList ++ [32]) ++ Lib.join ((y :: r).map (·.2.1.data.toList)) [32] := by rw [h']; simp
      have hz := congrArg List.length h'
      rw [size_len, List.length_append, List.length_append, List.length_cons, size_len] at hz
      have ih := laid_join J (y :: r) _ h2
      rw [List.length_append, List.length_append, size_len] at ih
      refine ⟨by omega, hx _ h', fun _ => ?_, ih⟩
      have : J.data.toList[pre.length + x.2.1.size]? = some 32 := by
        rw [h', List.getElem?_append_right (by omega), List.getElem?_append_right (by rw [size_len]; omega), size_len]
        rw [show pre.length + x.2.1.size - pre.length - x.2.1.size = 0 by omega]; rfl
      exact bt_of this
theorem join_short {s : ByteArray} : ∀ {toks : List Tk} {a : Nat}, PosT s a toks → a ≤ s.size → (Lib.join (toks.map (·.2.1.data.toList)) [32]).length ≤ 2 * (s.size - a)
  | [], a, _, _ => Nat.zero_le _
  | [x], a, ⟨b, h1, h2, h3, h4, h5, h6, h7⟩, ha => by
    simp only [List.map_cons, List.map_nil, Lib.join_one]
    rw [size_len]; omega
  | x :: y :: r, a, ⟨b, h1, h2, h3, h4, h5, h6, h7⟩, ha => by
    have ih := join_short (toks := y :: r) h7 (by omega)
    simp only [List.map_cons] at ih ⊢
    rw [join_two, List.length_append, List.length_cons, size_len]
    omega
/-- The words of s, told with a blank between, are read again. -/
theorem back_lex {s J : ByteArray} {toks : List Tk} (h : lexL s = (toks, 0, 0)) (hs : s.size ≤ 200) (hJ : J.data.toList = Lib.join (toks.map (·.2.1.data.toList)) [32]) : PosT s 0 toks ∧ J.size ≤ 400 ∧ ∃ toks', lexL J = (toks', 0, 0) ∧ SameL toks toks' := by
  unfold lexL at h
  rw [if_neg (by omega)] at h
  obtain ⟨t1, e1, p1⟩ := lex_pos h (by omega)
  obtain ⟨t2, e2, p2⟩ := lex_again h (by omega)
  rw [List.nil_append] at e1 e2
  subst e1
  subst e2
  have hJl := congrArg List.length hJ
  rw [size_len] at hJl
  have h4 := join_short p1 (Nat.zero_le _)
  obtain ⟨t', e3, e4⟩ := p2 J 0 J.size [] (laid_join J _ [] (by rw [hJ]; rfl)) (by omega)
  refine ⟨p1, by omega, t', ?_, e4⟩
  unfold lexL
  rw [if_neg (by omega), e3]; rfl
end Corr
