/- Days in order, each once: they cut a span as Cut does. How many segments a timeline has. What is left of segments. Plain. Contracts of package refine: may, all, same, made, segs; what tells a line's values along its segments. -/
import Derived.Test.YtonfjjmgjgmanaaGreatRf1
import Derived.Test.YtonfjjmgjgmanaaGreatRfCov
import Derived.Test.YtonfjjmgjgmanaaGreatRfK
import Derived.Lib.SlicesCompact
import Derived.Laws.EntriesVeiled
import Derived.Defers
import Derived.Recover
import Derived.Deep.LoopGhost
import Derived.BigQuiet
namespace Corr
set_option maxRecDepth 8000
open Go Go.RowKit Go.Lib
set_option linter.unusedVariables false
/-- Rising, each greater than the one ahead. -/
def risesS : List Int → Prop := List.Pairwise (· < ·)
section
variable {L : List Int}
theorem compact_mem (L : List Int) (x : Int) : x ∈ Lib.compact L ↔ x ∈ L := by
  unfold Lib.compact Lib.compactUpTo
  rw [List.mem_map]
  constructor
  · rintro ⟨j, hj, rfl⟩
    rw [List.mem_filter, List.mem_range] at hj
    have : L.toArray[j]! = L[j]'hj.1 := by simp [hj.1]
    rw [this]; exact List.getElem_mem _
  · intro hx
    obtain ⟨k, hk, rfl⟩ := List.getElem_of_mem hx
    have key : ∀ k (hk : k < L.length), ∃ j, j ∈ (List.range L.length).filter (Lib.keeps L.toArray) ∧ L.toArray[j]! = L[k] := by
      intro k
      induction k with
      | zero => intro hk; exact ⟨0, List.mem_filter.2 ⟨List.mem_range.2 hk, Lib.keeps_lt_one _ 0 (by omega)⟩, by simp [hk]⟩
      | succ k ih =>
        intro hk
        by_cases h : L.toArray[k + 1]! = L.toArray[k]!
        · obtain ⟨j, h1, h2⟩ := ih (by omega)
          refine ⟨j, h1, h2.trans ?_⟩
          have e1 : L.toArray[k + 1]! = L[k + 1] := by simp [hk]
          have e2 : L.toArray[k]! = L[k]'(by omega) := by simp [show k < L.length by omega]
          rw [← e1, ← e2, h]
        · exact ⟨k + 1, List.mem_filter.2 ⟨List.mem_range.2 hk, Lib.keeps_pos (by simpa using h)⟩, by simp [hk]⟩
    obtain ⟨j, h1, h2⟩ := key k hk
    exact ⟨j, h1, h2⟩
theorem compact_rises (h : L.Pairwise (· ≤ ·)) : risesS (Lib.compact L) := by
  unfold risesS Lib.compact Lib.compactUpTo
  rw [List.pairwise_map]
  refine (List.pairwise_lt_range.filter _).imp_of_mem ?_
  intro i j hi hj hij
  rw [List.mem_filter, List.mem_range] at hi hj
  have hL := List.pairwise_iff_getElem.1 h
  have hk := hj.2
  unfold Lib.keeps at hk
  rw [decide_eq_true_eq] at hk
  have hne := hk.resolve_left (by omega)
  have e1 : L.toArray[i]! = L[i]'hi.1 := by simp [hi.1]
  have e2 : L.toArray[j]! = L[j]'hj.1 := by simp [hj.1]
  have e3 : L.toArray[j - 1]! = L[j - 1]'(by omega) := by simp [show j - 1 < L.length by omega]
  rw [e2, e3] at hne
  rw [e1, e2]
  have h1 : L[j - 1]'(by omega) ≤ L[j]'hj.1 := hL (j - 1) j (by omega) hj.1 (by omega)
  have h2 : L[i]'hi.1 ≤ L[j - 1]'(by omega) := by
    by_cases e : i = j - 1
    · subst e; exact Int.le_refl _
    · exact hL i (j - 1) hi.1 (by omega) (by omega)
  omega
theorem compact_len (L : List Int) : (Lib.compact L).length ≤ L.length := by
  unfold Lib.compact Lib.compactUpTo
  rw [List.length_map]
  have := List.length_filter_le (Lib.keeps L.toArray) (List.range L.length)
  simpa using this
end
/-- The days that are put in order. -/
def cutDays (ends : List Int) (a b : Int) : List Int := b :: ends.filter fun e => decide (a < e ∧ e < b)
def cutRow (ends : List Int) (a b : Int) : List Int := Lib.compact ((cutDays ends a b).mergeSort fun x y => decide (x ≤ y))
theorem cutRow_mem (ends : List Int) (a b x : Int) : x ∈ cutRow ends a b ↔ x = b ∨ (x ∈ ends ∧ a < x ∧ x < b) := by
  unfold cutRow cutDays
  rw [compact_mem, List.mem_mergeSort, List.mem_cons, List.mem_filter, decide_eq_true_eq]
theorem cutRow_rises (ends : List Int) (a b : Int) : risesS (cutRow ends a b) := by
  unfold cutRow
  apply compact_rises
  have := List.pairwise_mergeSort (le := fun x y : Int => decide (x ≤ y)) (fun a b c h1 h2 => by simp at *; omega) (fun a b => by simp; omega) (cutDays ends a b)
  exact this.imp fun h => by simpa using h
theorem cutDays_len (ends : List Int) (a b : Int) : (cutDays ends a b).length ≤ ends.length + 1 := by
  unfold cutDays
  rw [List.length_cons]
  have := List.length_filter_le (fun e => decide (a < e ∧ e < b)) ends
  omega
theorem cutDays_more {ends : List Int} {k : Nat} {e a b : Int} (h : ends[k]? = some e) : cutDays (ends.take (k + 1)) a b = cutDays (ends.take k) a b ++ (if a < e ∧ e < b then [e] else []) := by
  unfold cutDays
  rw [List.take_add_one, h, List.filter_append, List.cons_append]
  congr 2
  by_cases hc : a < e ∧ e < b
  · rw [if_pos hc]; simp [hc]
  · rw [if_neg hc]; simp; omega
theorem cutRow_len (ends : List Int) (a b : Int) : (cutRow ends a b).length ≤ ends.length + 1 := by
  unfold cutRow
  have h1 := compact_len ((cutDays ends a b).mergeSort fun x y => decide (x ≤ y))
  rw [List.length_mergeSort] at h1
  have := cutDays_len ends a b
  omega
/-- Side by side, from a on. -/
def pairsF : Int → List Int → SpL
  | _, [] => []
  | a, t :: r => (a, t) :: pairsF t r
def lastD : Int → List Int → Int
  | a, [] => a
  | _, t :: r => lastD t r
theorem lastD_snoc : ∀ (l : List Int) (a t : Int), lastD a (l ++ [t]) = t
  | [], _, _ => rfl
  | x :: r, a, t => lastD_snoc r x t
theorem pairsF_snoc : ∀ (l : List Int) (a t : Int), pairsF a (l ++ [t]) = pairsF a l ++ [(lastD a l, t)]
  | [], a, t => rfl
  | x :: r, a, t => by
    show (a, x) :: pairsF x (r ++ [t]) = (a, x) :: (pairsF x r ++ [_])
    rw [pairsF_snoc r x t]; rfl
theorem cut_pairs {ends : List Int} {b : Int} : ∀ (L : List Int) (a : Int), a < b → risesS L → (∀ x, x ∈ L ↔ x = b ∨ (x ∈ ends ∧ a < x ∧ x < b)) → cutP ends b a b (pairsF a L)
  | [], a, hab, hr, hm => by have := (hm b).2 (.inl rfl); cases this
  | t :: r, a, hab, hr, hm => by
    obtain ⟨hr1, hr2⟩ := List.pairwise_cons.1 hr
    have ht := (hm t).1 List.mem_cons_self
    obtain ⟨n1, n2⟩ := nextE_in ends hab
    have hn : nextE ends a b ∈ t :: r := by
      rw [hm]
      rcases nextE_mem (d := a) ends b with h | h
      · exact .inl h
      · by_cases e : nextE ends a b = b
        · exact .inl e
        · exact .inr ⟨h, n1, by omega⟩
    have hle : t ≤ nextE ends a b := by
      rcases List.mem_cons.1 hn with h | h
      · omega
      · have := hr1 _ h; omega
    have heq : t = nextE ends a b := by
      by_cases e : t < nextE ends a b
      · exfalso
        rcases ht with h | ⟨h, h1, h2⟩
        · omega
        · exact nextE_none h h1 e
      · omega
    refine ⟨rfl, hab, heq, ?_⟩
    show cutP ends b t b (pairsF t r)
    by_cases htb : t = b
    · have : r = [] := by
        cases r with
        | nil => rfl
        | cons y q =>
          have h1 := hr1 y List.mem_cons_self
          rcases (hm y).1 (by simp) with h | ⟨_, _, h⟩ <;> omega
      rw [this]; exact htb
    · have htl : t < b := by omega
      refine cut_pairs r t htl hr2 fun x => ?_
      constructor
      · intro hx
        have h1 := hr1 x hx
        rcases (hm x).1 (List.mem_cons_of_mem _ hx) with h | ⟨h, h2, h3⟩
        · exact .inl h
        · exact .inr ⟨h, h1, h3⟩
      · intro hx
        have : x ∈ t :: r := (hm x).2 (by
          rcases hx with h | ⟨h, h2, h3⟩
          · exact .inl h
          · exact .inr ⟨h, by omega, h3⟩)
        rcases List.mem_cons.1 this with h | h
        · rcases hx with h' | ⟨_, h2, _⟩ <;> omega
        · exact h
theorem cutS_row (ends : List Int) {a b : Int} (hm : mayB a b = true) : cutS ends a b (pairsF a (cutRow ends a b)) := by
  unfold cutS
  rw [if_pos hm]
  exact cut_pairs _ a (mayB_iff.1 hm).2.1 (cutRow_rises ends a b) fun x => cutRow_mem ends a b x
/-- At most so many days at which there is another value than on the day ahead. -/
def stepsF (N : Nat) (f : Int → Int) : Prop := ∃ D : List Int, D.length ≤ N ∧ ∀ d, f d ≠ f (d - 1) → d ∈ D
theorem stepsF_none (N : Nat) : stepsF N (fun _ => 0) := ⟨[], by simp, fun d h => absurd rfl h⟩
theorem stepsF.more {N M : Nat} {f : Int → Int} (h : stepsF N f) (hN : N ≤ M) : stepsF M f := by obtain ⟨D, h1, h2⟩ := h; exact ⟨D, by omega, h2⟩
theorem stepsF_put {N : Nat} {f : Int → Int} (h : stepsF N f) (a b v : Int) : stepsF (N + 2) (putF f a b v) := by
  unfold putF
  split
  · obtain ⟨D, h1, h2⟩ := h
    refine ⟨a :: b :: D, by simp only [List.length_cons]; omega, fun d hd => ?_⟩
    by_cases ha : d = a
    · rw [ha]; simp
    by_cases hb : d = b
    · rw [hb]; simp
    refine List.mem_cons_of_mem _ (List.mem_cons_of_mem _ (h2 d ?_))
    unfold updF at hd
    by_cases hc : a ≤ d ∧ d < b
    · rw [if_pos hc, if_pos (by omega)] at hd; exact absurd rfl hd
    · rw [if_neg hc, if_neg (by omega)] at hd; exact hd
  · exact h.more (by omega)
/-- A rising list of some days is no longer than they are many. -/
theorem rises_len : ∀ (L D : List Int), risesS L → (∀ x ∈ L, x ∈ D) → L.length ≤ D.length
  | [], D, _, _ => by simp
  | x :: r, D, hr, hs => by
    obtain ⟨h1, h2⟩ := List.pairwise_cons.1 hr
    have hx := hs x List.mem_cons_self
    have := rises_len r (D.erase x) h2 fun y hy => (List.mem_erase_of_ne (fun e => by have := h1 y hy; omega)).2 (hs y (List.mem_cons_of_mem _ hy))
    rw [List.length_erase_of_mem hx] at this
    have hp := List.length_pos_of_mem hx
    simp only [List.length_cons]; omega
theorem starts_rise {f : Int → Int} : ∀ {l : ItL} {a b : Int}, covP f a b l → risesS (starts l) ∧ ∀ e ∈ starts l, a < e
  | [], _, _, _ => ⟨List.Pairwise.nil, fun e he => by simp [starts] at he⟩
  | [s], _, _, _ => ⟨List.Pairwise.nil, fun e he => by simp [starts] at he⟩
  | s :: t :: r, a, b, h => by
    obtain ⟨h1, h2, h3, h4, h5⟩ := h
    have ht : t.1 = s.2.1 := h5.1
    obtain ⟨k1, k2⟩ := starts_rise h5
    rw [starts_cons]
    refine ⟨List.Pairwise.cons (fun e he => by have := k2 e he; omega) k1, fun e he => ?_⟩
    rcases List.mem_cons.1 he with rfl | he
    · omega
    · have := k2 e he; omega
theorem cov_steps {N : Nat} {f : Int → Int} {l : ItL} {a b : Int} (hs : stepsF N f) (h : covP f a b l) : l.length ≤ N + 1 := by
  obtain ⟨D, h1, h2⟩ := hs
  have hl := rises_len (starts l) D (starts_rise h).1 fun e he => h2 e (cov_turn h e he).2.2
  have : (starts l).length = l.length - 1 := by unfold starts; simp
  omega
theorem segF_steps {N : Nat} {f : Int → Int} {l : ItL} {a b : Int} (hs : stepsF N f) (h : segF f a b l) : l.length ≤ N + 1 := by
  unfold segF at h
  split at h
  · exact cov_steps hs h
  · rw [h]; simp
/-- Parts of any timelines, told by their segments. -/
theorem partsF_of {fs : List (Int → Int)} {sgs : List ItL} {a b : Int} {pieces : SpL} (hm : mayB a b = true) (hl : fs.length = sgs.length) (hs : ∀ (i : Nat) (f : Int → Int) (s : ItL), fs[i]? = some f → sgs[i]? = some s → covP f a b s) (hc : cutP (endsAll sgs) b a b pieces) : partsF fs a b (pieces.map fun s => (s.1, s.2, fs.map (· s.1))) := by
  unfold partsF
  rw [if_pos hm]
  have key : ∀ (fs : List (Int → Int)) (sgs : List ItL), fs.length = sgs.length → (∀ (i : Nat) (f : Int → Int) (s : ItL), fs[i]? = some f → sgs[i]? = some s → covP f a b s) →
      (∀ x y, a ≤ x → x < y → y ≤ b → (∀ e ∈ endsAll sgs, x < e → e < y → False) → ∀ d, x ≤ d → d < y → fs.map (· d) = fs.map (· x)) ∧ ∀ e ∈ endsAll sgs, fs.map (· e) ≠ fs.map (· (e - 1)) := by
    intro fs
    induction fs with
    | nil =>
      intro sgs h _
      cases sgs with
      | nil => exact ⟨fun _ _ _ _ _ _ _ _ _ => rfl, fun e he => by cases he⟩
      | cons s r => simp at h
    | cons f fs ih =>
      intro sgs h hs
      cases sgs with
      | nil => simp at h
      | cons s sgs =>
        obtain ⟨i1, i2⟩ := ih sgs (by simpa using h) fun i f' s' h1 h2 => hs (i + 1) f' s' (by simpa using h1) (by simpa using h2)
        have h0 := hs 0 f s rfl rfl
        refine ⟨fun x y h1 h2 h3 h4 d d1 d2 => ?_, fun e he => ?_⟩
        · rw [List.map_cons, List.map_cons, cov_flat h0 h1 h2 h3 (fun e he => h4 e (List.mem_append_left _ he)) d d1 d2, i1 x y h1 h2 h3 (fun e he => h4 e (List.mem_append_right _ he)) d d1 d2]
        · rcases List.mem_append.1 he with he | he
          · rw [List.map_cons, List.map_cons]
            intro e'
            exact (cov_turn h0 e he).2.2 (List.cons.inj e').1
          · rw [List.map_cons, List.map_cons]
            intro e'
            exact i2 e he (List.cons.inj e').2
  obtain ⟨p1, p2⟩ := key fs sgs hl hs
  have hb := (mayB_iff.1 hm).2.1
  exact cut_cov p1 p2 (Int.le_refl _) (by omega) hc
/-- The first ones' begins, too: they cut nothing. -/
def beginsAll : List ItL → List Int
  | [] => []
  | s :: r => s.map (·.1) ++ beginsAll r
theorem beginsAll_snoc : ∀ (s : List ItL) (x : ItL), beginsAll (s ++ [x]) = beginsAll s ++ x.map (·.1)
  | [], x => by simp [beginsAll]
  | y :: r, x => by simp [beginsAll, beginsAll_snoc r x]
theorem begins_mem {a b : Int} {x : Int} (hx : a < x) : ∀ (fs : List (Int → Int)) (sgs : List ItL), fs.length = sgs.length → (∀ (i : Nat) (f : Int → Int) (s : ItL), fs[i]? = some f → sgs[i]? = some s → covP f a b s) → (x ∈ beginsAll sgs ↔ x ∈ endsAll sgs)
  | [], [], _, _ => by simp [beginsAll, endsAll]
  | [], s :: r, h, _ => by simp at h
  | f :: fs, [], h, _ => by simp at h
  | f :: fs, s :: sgs, h, hs => by
    have ih := begins_mem hx fs sgs (by simpa using h) fun i f' s' h1 h2 => hs (i + 1) f' s' (by simpa using h1) (by simpa using h2)
    have h0 := hs 0 f s rfl rfl
    show x ∈ s.map (·.1) ++ beginsAll sgs ↔ x ∈ starts s ++ endsAll sgs
    rw [List.mem_append, List.mem_append, ih]
    have e : x ∈ s.map (·.1) ↔ x ∈ starts s := by
      cases s with
      | nil => simp [starts]
      | cons y r =>
        have : y.1 = a := h0.1
        unfold starts
        rw [List.map_cons, List.mem_cons, List.tail_cons]
        constructor
        · rintro (e | e)
          · omega
          · exact e
        · exact fun e => .inr e
    rw [e]
theorem cutP_mem {e1 e2 : List Int} {b m : Int} : ∀ {l : SpL} {a : Int}, (∀ x, a < x → (x ∈ e1 ↔ x ∈ e2)) → cutP e1 b a m l → cutP e2 b a m l
  | [], a, _, h => h
  | s :: r, a, he, h => by
    obtain ⟨h1, h2, h3, h4⟩ := h
    have hn : nextE e1 a b = nextE e2 a b := by
      obtain ⟨p1, p2⟩ := nextE_in e1 h2
      obtain ⟨q1, q2⟩ := nextE_in e2 h2
      by_cases c1 : nextE e1 a b < nextE e2 a b
      · exfalso
        rcases nextE_mem (d := a) e1 b with h | h
        · omega
        · exact nextE_none ((he _ p1).1 h) p1 c1
      · by_cases c2 : nextE e2 a b < nextE e1 a b
        · exfalso
          rcases nextE_mem (d := a) e2 b with h | h
          · omega
          · exact nextE_none ((he _ q1).2 h) q1 c2
        · omega
    refine ⟨h1, h2, h3.trans hn, cutP_mem (fun x hx => he x ?_) h4⟩
    have := (nextE_in e1 h2).1
    omega
end Corr
namespace Corr
set_option maxRecDepth 8000
open Go Go.RowKit
set_option linter.unusedVariables false
/-- What tells a line's values along what is left of its segments, whose rows lie in blocks R. -/
def TelR (R : Nat → Prop) (f : Int → Int) (b d : Int) (g : Nat) (w : World) : Prop := ∃ A n c l x, Blk w g #[.slice A n c] ∧ Itm w A n c l ∧ covP f x b l ∧ x ≤ d ∧ (∀ ad, A = some ad → R ad.block)
section
variable {R G : Nat → Prop} {f : Int → Int} {b d d' : Int} {g : Nat} {w w' : World}
theorem TelR.later (h : TelR R f b d g w) (hd : d ≤ d') : TelR R f b d' g w := by
  obtain ⟨A, n, c, l, x, h1, h2, h3, h4, h5⟩ := h
  exact ⟨A, n, c, l, x, h1, h2, h3, Int.le_trans h4 hd, h5⟩
theorem TelR.off (h : TelR R f b d g w) (ho : Off G w w') (hg : ¬ G g) (hR : ∀ k, R k → ¬ G k) : TelR R f b d g w' := by
  obtain ⟨A, n, c, l, x, h1, h2, h3, h4, h5⟩ := h
  exact ⟨A, n, c, l, x, ho.blk h1 hg, ho.lies h2 fun _ ad e => hR _ (h5 ad e), h3, h4, h5⟩
theorem TelR.sz (h : TelR R f b d g w) : g < w.heap.size := by
  obtain ⟨A, n, c, l, x, h1, _⟩ := h; exact h1.sz
end
end Corr
namespace Go.Proofs.YtonfjjmgjgmanaaGreat
set_option maxRecDepth 8000
open Go.RowKit Corr
set_option linter.unusedVariables false
set_option linter.unusedSimpArgs false
theorem rfmay_any (a b : Int) (w : World) : Calls Tryz.prog 32 #[.agg #[.int .i64 a, .int .i64 b]] w fun e w' => e = .returned (.bool (mayB a b)) ∧ Below w.heap.size w w' := by
  have HB := Lib.hid ((Below.refl w.heap.size w).alloc (Nat.le_refl _) (.cells #[.int .i64 a, .int .i64 b] 24))
  by_cases p0 : 1 ≤ a
  · have d0 : decide (1 ≤ a) = true := decide_eq_true p0
    by_cases p1 : a < b
    · have HF := Lib.hid (show decide (b ≤ 3652060) = mayB a b by unfold mayB; rw [decide_eq_true p0, decide_eq_true p1]; rfl)
      clear p0
      go_enter Tryz.func32, Tryz.ntmps32
      go_wp2_with fail
      go_ret
      exact ⟨ret_b HF.out, HB.out⟩
    · have HF := Lib.hid (show false = mayB a b by unfold mayB; rw [decide_eq_false p1]; simp)
      have d1 : decide (a < b) = false := decide_eq_false p1
      clear p0 p1
      go_enter Tryz.func32, Tryz.ntmps32
      go_wp2_with fail
      go_ret
      exact ⟨ret_b HF.out, HB.out⟩
  · have HF := Lib.hid (show false = mayB a b by unfold mayB; rw [decide_eq_false p0]; rfl)
    have d0 : decide (1 ≤ a) = false := decide_eq_false p0
    clear p0
    go_enter Tryz.func32, Tryz.ntmps32
    go_wp2_with fail
    go_ret
    exact ⟨ret_b HF.out, HB.out⟩
theorem rfcatch_idle (p : Addr) (w : World) : CallsD Tryz.prog 40 #[.pointer (some p)] .returning w fun e u' w' => e = .returned (.tuple #[]) ∧ u' = .returning ∧ w' = w := by
  refine callsD_of_wpS Tryz.func40 rfl fun c₀ cs hu => ?_
  apply wpS_seq
  apply wpS_region
  simp [wpOpsS, go_sem, recoverD, hu, Tryz.ntmps40, Exit.thenS]
  refine wpS_cond (t := false) (by simp [Act.eval, Array.replicate]) ?_
  simp only [Bool.false_eq_true, if_false]
  refine wpS_of_wp (wp_skip ?_)
  cases c₀
  simp_all [bodyPostS, results, Tryz.results40]
theorem rfsame_any (a b : Int) (w : World) : Calls Tryz.prog 21 #[.int .i64 a, .int .i64 b] w fun e w' => e = .returned (.bool (a == b)) ∧ Below w.heap.size w w' := by
  have hmf : ∀ (fn : Fn) (first cap : Array Value) (w : World), (Instr.makeFunc fn first cap).run Tryz.prog w = .ok (.func fn first cap) w := fun _ _ _ _ => rfl
  have HB := Lib.hid (((Below.refl w.heap.size w).alloc (Nat.le_refl _) (.cells #[.bool (a == b)] 4)))
  go_enter_defers Tryz.func21, Tryz.ntmps21
  go_wp2
  refine leaves_cons (f := 40) (args := #[.pointer (some ⟨w.heap.size, 0, none⟩)]) (by simp) (by simp [go_sem]) ?_
  refine (rfcatch_idle ⟨w.heap.size, 0, none⟩ _).mono ?_
  rintro e u' w'' ⟨rfl, rfl, rfl⟩
  simp [Leaves, settle, results, Tryz.results21, go_sem]
  exact HB.out
theorem rfall_any (w : World) : Calls Tryz.prog 24 #[] w fun e w' => e = .returned (.agg #[.int .i64 1, .int .i64 3652060]) ∧ Below w.heap.size w w' := by
  have HB := Lib.hid ((Below.refl w.heap.size w).alloc (Nat.le_refl _) (.cells #[.int .i64 1, .int .i64 3652060] 24))
  go_enter Tryz.func24, Tryz.ntmps24
  go_wp2_with fail
  refine bodyPost_ret (results_cell_row rfl _ _ w.heap.size 24 _ (0, 0) _ rfl (heap_alloc_new w _) Tryz.underlying24 rfl (by kernel_rfl)) rfl ?_
  exact ⟨rfl, HB.out⟩
theorem rfsegs_any {Rep : RepL} (K : TlK0 Rep) (p : Value) (F : Nat → Prop) (N : Nat) (f : Int → Int) (a b : Int) (w : World) (H : Rep w p F N f) (hN : N ≤ 300) (hm : mayB a b = true) : Calls Tryz.prog 23 #[p, .agg #[.int .i64 a, .int .i64 b]] w (RetSegF 45 w f a b) := by
  have hb := (Below.refl w.heap.size w).alloc (Nat.le_refl _) (.cells #[.int .i64 a, .int .i64 b] 24)
  have h1 := Blk.new w #[.int .i64 a, .int .i64 b] 24
  have x0 := h1.get 0 rfl
  have x1 := h1.get 1 rfl
  have HB := Lib.hid hb
  have HS := Lib.hid (K.segs _ p F N f a b (K.keep H (Off.of (F := fun _ => False) hb) fun _ _ e => e) hN)
  have HM := Lib.hid hm
  clear hb h1 K H hm
  go_enter Tryz.func23, Tryz.ntmps23
  go_wp2_with fail
  refine HS.out.mono ?_
  rintro e w1 ⟨out, A, n, c, rfl, h1, h2, h3⟩
  have hn : 0 < n := by
    have hl : out.length = n := Itm.count (own_lies h2)
    unfold segF at h1
    rw [if_pos HM.out] at h1
    cases out with
    | nil =>
      have e : a = b := h1
      have := (mayB_iff.1 HM.out).2.1
      omega
    | cons y r => simp only [List.length_cons] at hl; omega
  have H1 := Lib.hid h1
  have H2 := Lib.hid (own_low h2 HB.out.size)
  have H3 := Lib.hid (HB.out.trans (h3.mono HB.out.size))
  have d0 : decide ((n : Int) > 0) = true := decide_eq_true (by omega)
  clear h1 h2 h3 x0 x1
  go_wp2_with fail
  go_ret
  exact ⟨out, A, n, c, rfl, H1.out, H2.out, H3.out⟩
theorem rfalong_any (A : Option Addr) (n c : Nat) (w : World) : Calls Tryz.prog 33 #[.slice A n c] w fun e w' => e = .returned (.func (.func 45) #[] #[.pointer (some ⟨w.heap.size, 0, none⟩)]) ∧ w' = w.alloc (.cells #[.slice A n c] 40) := by
  have hmf : ∀ (fn : Fn) (first cap : Array Value) (w : World), (Instr.makeFunc fn first cap).run Tryz.prog w = .ok (.func fn first cap) w := fun _ _ _ _ => rfl
  go_enter Tryz.func33, Tryz.ntmps33
  go_wp2_with fail
  go_ret
  exact ⟨rfl, rfl⟩
/-- A line's value on a day: what was gone over is left behind. -/
theorem rftell_any {R : Nat → Prop} {f : Int → Int} {b d : Int} {g : Nat} {w : World} (H : TelR R f b d g w) (hg : ¬ R g) (hd : d < b) : Calls Tryz.prog 45 #[.int .i64 d, .pointer (some ⟨g, 0, none⟩)] w fun e w' => e = .returned (.int .i64 (f d)) ∧ TelR R f b d g w' ∧ Off (· = g) w w' := by
  obtain ⟨A, n, c, l, x, h1, h2, h3, h4, h5⟩ := H
  have H1 := Lib.hid h1
  have H2 := Lib.hid h2
  have H3 := Lib.hid h3
  have H5 := Lib.hid h5
  clear h1 h2 h3 h5
  go_enter Tryz.func45, Tryz.ntmps45
  go_upto_region 1 with fail
  go_loopg [] n (fun kk wr => ∃ (A : Option Addr) (n c : Nat) (l : ItL) (x : Int), Hid (kk = n) ∧ Hid (Blk wr g #[.slice A n c]) ∧ Hid (Itm wr A n c l) ∧ Hid (covP f x b l) ∧ x ≤ d ∧ Hid (∀ ad, A = some ad → R ad.block) ∧ Hid (Off (· = g) w wr))
  case atStart => exact ⟨A, n, c, l, x, Lib.hid rfl, H1, H2, H3, h4, H5, Lib.hid (Off.refl _ _)⟩
  case round =>
    clear H1 H2 H3 H5 h4
    obtain ⟨A, n, c, l, x, HK, H1, H2, H3, h4, H5, HO⟩ := hrel
    have hl := Itm.count H2.out
    obtain ⟨y, r, rfl⟩ : ∃ y r, l = y :: r := by
      cases l with
      | nil => have : x = b := H3.out; omega
      | cons y r => exact ⟨y, r, rfl⟩
    simp only [List.length_cons] at hl
    obtain ⟨gr, off, s, rfl, hs, hgr, c0, c1, c2⟩ := Itm.get H2.out (k := 0) (by omega)
    have hs' : s = y := by simpa using hs.symm
    subst hs'
    obtain ⟨k1, k2, k3, k4, k5⟩ := H3.out
    have HR := Lib.hid (H5.out _ rfl)
    obtain ⟨y1, y2, y3⟩ := s
    simp only [] at k1 k2 k3 k4 k5 c0 c1 c2
    have c1' : wr.cell? ⟨gr, off + 1, none⟩ = some (.int .i64 y2) := by simpa using c1
    have c2' : wr.cell? ⟨gr, off + 2, none⟩ = some (.int .i64 y3) := by simpa using c2
    have x0 := H1.out.get 0 rfl
    have hn0 : (0 : Int) < (n : Int) := by omega
    have HD := Lib.hid k5
    have HV := Lib.hid (fun h => k3 d (by omega) h)
    clear c0 c1 c2 k3 k4 k5 hs
    by_cases hy : y2 ≤ d
    · have d0 : decide (y2 ≤ d) = true := decide_eq_true hy
      obtain ⟨z, q, rfl⟩ : ∃ z q, r = z :: q := by
        cases r with
        | nil => have : y2 = b := HD.out; omega
        | cons z q => exact ⟨z, q, rfl⟩
      simp only [List.length_cons] at hl
      obtain ⟨j, rfl⟩ : ∃ j, n = j + 1 := ⟨n - 1, by omega⟩
      have hc := H2.out.cap
      have HDR := Lib.hid (H2.out.drop (k := 1) (by omega))
      have hn1 : (1 : Int) ≤ ((j + 1 : Nat) : Int) := by omega
      have x0f := H1.out.f 0
      have HDQ := Lib.hid (show Itm wr (some ⟨gr, off + 3, none⟩) j (c - 1) (z :: q) by simpa using HDR.out)
      have hgg : gr ≠ g := fun e => hg (by rw [← e]; exact HR.out)
      clear HDR
      go_wp2_with fail
      have hoff : Off (· = g) wr (wr.setCell ⟨g, 0, none⟩ (.slice (some ⟨gr, off + 3, none⟩) j (c - 1))) := Off.set (F := (· = g)) (a := ⟨g, 0, none⟩) rfl _
      go_roundg j
      case measure => rw [HK.out]; omega
      case rel => exact ⟨some ⟨gr, off + 3, none⟩, j, c - 1, z :: q, y2, Lib.hid rfl, Lib.hid (by have := H1.out.set 0 (.slice (some ⟨gr, off + 3, none⟩) j (c - 1)); simpa using this), Lib.hid (hoff.lies HDQ.out fun _ ad e => by injection e with e; rw [← e]; exact hgg), HD, hy, Lib.hid (fun ad e => by injection e with e; rw [← e]; exact HR.out), Lib.hid (HO.out.trans hoff)⟩
    · have d0 : decide (y2 ≤ d) = false := decide_eq_false hy
      have HVL := Lib.hid (HV.out (by omega))
      go_wp2_with fail
      go_ret
      exact ⟨(by rw [HVL.out]; first | done | rfl), ⟨some ⟨gr, off, none⟩, n, c, (y1, y2, y3) :: r, x, H1.out, H2.out, H3.out, h4, H5.out⟩, HO.out⟩
end Go.Proofs.YtonfjjmgjgmanaaGreat
