/- A region that draws its order, whose head only makes memory (loads of what stays, calls, allocs) and whose tail is forced: EACH OPERATION IS SHOWN ONCE, in whatever world, from what the operations that it waits for have yielded; the values need not be one in every order: each is known by a property that stays. Over any program. -/
import Derived.Deep.Quiet
import Derived.StillTail
import Derived.Below
namespace Corr
open Go Go.RowKit

theorem countP_lt {α : Type} {p q : α → Bool} : ∀ (l : List α), (∀ x ∈ l, q x = true → p x = true) → (∃ x ∈ l, p x = true ∧ q x = false) → l.countP q < l.countP p
  | [], _, h => by obtain ⟨_, h, _⟩ := h; cases h
  | x :: l, h1, h2 => by
    have hle : l.countP q ≤ l.countP p := List.countP_mono_left fun y hy hq => h1 y (List.mem_cons_of_mem _ hy) hq
    by_cases hx : p x = true ∧ q x = false
    · rw [List.countP_cons_of_neg (by simp [hx.2]), List.countP_cons_of_pos hx.1]; omega
    · have hl : l.countP q < l.countP p := countP_lt l (fun y hy => h1 y (List.mem_cons_of_mem _ hy)) (by
        obtain ⟨y, hy, h3⟩ := h2
        rcases List.mem_cons.1 hy with rfl | hy
        · exact absurd h3 hx
        · exact ⟨y, hy, h3⟩)
      by_cases hq : q x = true
      · rw [List.countP_cons_of_pos hq, List.countP_cons_of_pos (h1 x List.mem_cons_self hq)]; omega
      · rw [List.countP_cons_of_neg hq]
        by_cases hp : p x = true
        · rw [List.countP_cons_of_pos hp]; omega
        · rw [List.countP_cons_of_neg hp]; exact hl

/-- The operations' slots. -/
def dstAt (l : List Oper) (j : Nat) : Nat := ((l[j]?).bind (·.dst)).getD 0
def headDs (l : List Oper) (n : Nat) : List Nat := (l.take n).filterMap (·.dst)
/-- What an operation waits for. -/
def depsL (o : Oper) : List Nat := (o.after.toList.filter fun e => Region.binds .any e).map (·.on)
def yv : Value → Option Bool
  | .bool b => some b
  | _ => none
/-- Is it carried out? -/
def wantE (l : List Oper) (ev : Operand → Value) (o : Oper) : Bool :=
  match o.guard with
  | none => true
  | some (g, want) => yv (ev (.tmp (dstAt l g))) == some want
/-- Operands: constants are what they are, slots that the head does not write are as they were. -/
structure Ev (a0 : Act) (ds : List Nat) (ev : Operand → Value) : Prop where
  const : ∀ v, ev (.const v) = v
  glob : ∀ g, ev (.global g) = .pointer (some ⟨g, 0, none⟩)
  func : ∀ f, ev (.func f) = .func (.func f) #[] #[]
  tmp : ∀ s, ds.contains s = false → ev (.tmp s) = a0.eval (.tmp s)
def relUpon (P : Program) (w : World) (R : Value → World → Prop) : Result Next → Prop
  | .ok (.value u) w' => Below w.heap.size w w' ∧ R u w'
  | .ok .skip w' => Below w.heap.size w w' ∧ R undef w'
  | .ok (.enter f args) w' => Calls P f args w' fun e w'' => ∃ u, e = .returned u ∧ Below w.heap.size w w'' ∧ R u w''
  | _ => False
def OpRel (P : Program) (o : Oper) (ev : Operand → Value) (w : World) (R : Value → World → Prop) : Prop := relUpon P w R ((execOp ev o).run P w)
/-- .. and never ends in a panic. -/
def calm (Q : Exit → Act → World → Prop) (e : Exit) (a : Act) (w : World) : Prop := (∀ c, e ≠ .panic c) ∧ Q e a w
theorem calm_normal {Q : Exit → Act → World → Prop} {a : Act} {w : World} (h : Q .normal a w) : calm Q .normal a w := ⟨(fun _ h => by cases h), h⟩
/-- Does t wait for i, over at most so many edges? -/
def waitsT (ops : Array Oper) : Nat → Nat → Nat → Bool
  | 0, _, _ => false
  | f + 1, t, i => Region.waitsFor .any ops t i || (List.range ops.size).any fun k => Region.waitsFor .any ops t k && waitsT ops f k i
/-- A new block's address. -/
def Fresh (w : World) (u : Value) (w' : World) : Prop := ∃ g, u = .pointer (some ⟨g, 0, none⟩) ∧ w.heap.size ≤ g ∧ g < w'.heap.size

section
variable (P : Program) (l : List Oper) (n : Nat) (C : World → Prop) (V : Nat → Value → World → Prop) (al eg : List Nat) (a0 : Act)
def stepR (o : Oper) (i : Nat) : Prop := ∀ (ev : Operand → Value) (w : World), Ev a0 (headDs l n) ev → C w → (∀ j ∈ depsL o, V j (ev (.tmp (dstAt l j))) w) →
  if wantE l ev o = true then (if eg.contains i = true then ∃ u, (∀ w, (execOp ev o).run P w = .ok (.value u) w) ∧ V i u w else OpRel P o ev w (fun u w' => V i u w' ∧ (al.contains i = true → Fresh w u w'))) else V i undef w
def stepsR : List Oper → Nat → Prop
  | [], _ => True
  | o :: r, i => stepR P l n C V al eg a0 o i ∧ stepsR r (i + 1)
def finR (w : World) (Fin : Act → Prop) : List Oper → Nat → Act → List Value → Prop
  | [], _, a, _ => Fin a
  | o :: r, i, a, acc => ∀ v, V i v w → ((al.contains i = true → ∀ u ∈ acc, v ≠ u) → finR w Fin r (i + 1) (a.put o.dst v) (if al.contains i = true then v :: acc else acc))
/-- The form: by the kernel. -/
def relB (size : Nat) : Bool :=
  decide (n ≤ l.length) && Region.noSelect l.toArray &&
  ((List.range n).all fun i => match l[i]? with
    | some o => (match o.dst with | some d => decide (d < size) | none => false) && o.after.all (fun e => !Region.binds .any e || decide (e.on < i)) &&
        (match o.guard with | some (g, _) => !al.contains i && (match (l[g]?).bind (·.dst) with | some d => decide (d < size) | none => false) | none => true)
    | none => false) &&
  ((List.range n).all fun i => (List.range n).all fun j => i == j || dstAt l i != dstAt l j) &&
  ((List.range l.length).all fun t => decide (t < n) || (List.range n).all fun i => waitsT l.toArray 3 t i || (eg.contains i && ((l[i]?).map fun o => (depsL o).all fun d => waitsT l.toArray 3 t d).getD false)) &&
  ((List.range n).all fun i => !eg.contains i || !al.contains i && match l[i]? with
    | some oi => (List.range l.length).all fun j => j == i || (depsL oi).contains j || Region.waitsFor .any l.toArray j i || ((l[j]?).map fun oj => oi.apart l.toArray oj).getD false
    | none => false) &&
  Region.seqB .any l.toArray (l.length - n) n ((List.replicate n true ++ List.replicate (l.length - n) false).toArray)
end

section
variable {P : Program} {l : List Oper} {n : Nat} {C : World → Prop} {V : Nat → Value → World → Prop} {al eg : List Nat} {a0 : Act}

def vOf (l : List Oper) (a : Act) (j : Nat) : Value := a.eval (.tmp (dstAt l j))
structure RInv (l : List Oper) (n : Nat) (C : World → Prop) (V : Nat → Value → World → Prop) (al : List Nat) (a0 : Act) (listed : Array Bool) (a : Act) (w : World) : Prop where
  c : C w
  size : a.tmps.size = a0.tmps.size
  defers : a.defers = a0.defers
  off : ∀ s, (∀ j, j < n → listed.getD j false = true → dstAt l j ≠ s) → a.tmps[s]? = a0.tmps[s]?
  v : ∀ j, j < n → listed.getD j false = true → V j (vOf l a j) w
  lt : ∀ j, al.contains j = true → j < n → listed.getD j false = true → ∃ g, vOf l a j = .pointer (some ⟨g, 0, none⟩) ∧ g < w.heap.size
  ne : ∀ i j, al.contains i = true → al.contains j = true → i < n → j < n → i ≠ j → listed.getD i false = true → listed.getD j false = true → vOf l a i ≠ vOf l a j
  inv : HeadInv .any l.toArray n listed

/-- What the form says of one operation. -/
structure FormOf (l : List Oper) (n size : Nat) (al eg : List Nat) : Prop where
  le : n ≤ l.length
  sel : Region.noSelect l.toArray = true
  dst : ∀ i o, i < n → l[i]? = some o → ∃ d, o.dst = some d ∧ d < size
  edge : ∀ i o, i < n → l[i]? = some o → ∀ e ∈ o.after, Region.binds .any e = true → e.on < i
  guard : ∀ i o g b, i < n → l[i]? = some o → o.guard = some (g, b) → al.contains i = false ∧ ∃ d, (l[g]?).bind (·.dst) = some d ∧ d < size
  apart : ∀ i j, i < n → j < n → i ≠ j → dstAt l i ≠ dstAt l j
  tail : ∀ t, n ≤ t → t < l.length → ∀ i o, i < n → l[i]? = some o → waitsT l.toArray 3 t i = true ∨ (eg.contains i = true ∧ ∀ d ∈ depsL o, waitsT l.toArray 3 t d = true)
  eager : ∀ i o, i < n → l[i]? = some o → eg.contains i = true → al.contains i = false ∧ ∀ j oj, l[j]? = some oj → j ≠ i → j ∈ depsL o ∨ Region.waitsFor .any l.toArray j i = true ∨ o.apart l.toArray oj = true
  seq : Region.seqB .any l.toArray (l.length - n) n ((List.replicate n true ++ List.replicate (l.length - n) false).toArray) = true

theorem form_of {size : Nat} (h : relB l n al eg size = true) : FormOf l n size al eg := by
  simp only [relB, Bool.and_eq_true, decide_eq_true_eq] at h
  obtain ⟨⟨⟨⟨⟨⟨h1, h2⟩, h3⟩, h4⟩, h5⟩, h7⟩, h6⟩ := h
  have key : ∀ i o, i < n → l[i]? = some o → (∃ d, o.dst = some d ∧ d < size) ∧ (∀ e ∈ o.after, Region.binds .any e = true → e.on < i) ∧ ∀ g b, o.guard = some (g, b) → al.contains i = false ∧ ∃ d, (l[g]?).bind (·.dst) = some d ∧ d < size := by
    intro i o hi ho
    have h := List.all_eq_true.1 h3 i (List.mem_range.2 hi)
    simp only [ho, Bool.and_eq_true] at h
    obtain ⟨⟨ha, hb⟩, hc⟩ := h
    refine ⟨?_, ?_, ?_⟩
    · cases hd : o.dst with
      | none => rw [hd] at ha; cases ha
      | some d => rw [hd] at ha; exact ⟨d, rfl, of_decide_eq_true ha⟩
    · intro e he hbd
      have := Array.all_eq_true_iff_forall_mem.1 hb e he
      simpa [hbd] using this
    · intro g b hg
      rw [hg] at hc
      simp only [Bool.and_eq_true, Bool.not_eq_true'] at hc
      refine ⟨hc.1, ?_⟩
      cases hd : (l[g]?).bind (·.dst) with
      | none => rw [hd] at hc; cases hc.2
      | some d => rw [hd] at hc; exact ⟨d, rfl, of_decide_eq_true hc.2⟩
  refine ⟨h1, h2, fun i o hi ho => (key i o hi ho).1, fun i o hi ho => (key i o hi ho).2.1, fun i o g b hi ho => (key i o hi ho).2.2 g b, fun i j hi hj hne => ?_, fun t ht htl i o hi ho => ?_, fun i o hi ho heg => ?_, h6⟩
  · have h := List.all_eq_true.1 (List.all_eq_true.1 h4 i (List.mem_range.2 hi)) j (List.mem_range.2 hj)
    simpa [hne] using h
  · have h := List.all_eq_true.1 h5 t (List.mem_range.2 htl)
    rw [decide_eq_false (by omega), Bool.false_or] at h
    have h := List.all_eq_true.1 h i (List.mem_range.2 hi)
    simp only [ho, Option.map_some, Option.getD_some, Bool.or_eq_true, Bool.and_eq_true] at h
    rcases h with h | ⟨h, h'⟩
    · exact .inl h
    · exact .inr ⟨h, fun d hd => List.all_eq_true.1 h' d hd⟩
  · have h := List.all_eq_true.1 h7 i (List.mem_range.2 hi)
    simp only [heg, ho, Bool.not_true, Bool.false_or, Bool.and_eq_true, Bool.not_eq_true'] at h
    refine ⟨h.1, fun j oj hj hji => ?_⟩
    have hjl : j < l.length := (List.getElem?_eq_some_iff.1 hj).1
    have h := List.all_eq_true.1 h.2 j (List.mem_range.2 hjl)
    simp only [hj, Option.map_some, Option.getD_some, Bool.or_eq_true, beq_iff_eq, hji, false_or, List.contains_iff_mem] at h
    rcases h with (h | h) | h
    · exact .inl h
    · exact .inr (.inl h)
    · exact .inr (.inr h)
/-- What is ready has all that it waits for behind it. -/
theorem waits_listed {listed : Array Bool} (inv : HeadInv .any l.toArray n listed) : ∀ (f t i : Nat), waitsT l.toArray f t i = true → (∀ o, l[t]? = some o → ∀ e ∈ o.after, Region.binds .any e = true → listed.getD e.on false = true) → listed.getD i false = true
  | 0, _, _, h, _ => by cases h
  | f + 1, t, i, h, hd => by
    simp only [waitsT, Bool.or_eq_true] at h
    rcases h with h | h
    · obtain ⟨o, ho, e, he, hb, hon⟩ := Region.waitsFor_spec h
      have := hd o (by simpa using ho) e he hb
      rwa [hon] at this
    · obtain ⟨k, _, h⟩ := List.any_eq_true.1 h
      simp only [Bool.and_eq_true] at h
      obtain ⟨o, ho, e, he, hb, hon⟩ := Region.waitsFor_spec h.1
      have hk := hd o (by simpa using ho) e he hb
      rw [hon] at hk
      exact waits_listed inv f k i h.2 (fun ok hok e' he' hb' => inv.closed k ok (by simpa using hok) hk e' he' hb')

theorem dstAt_of {o : Oper} {i d : Nat} (ho : l[i]? = some o) (hd : o.dst = some d) : dstAt l i = d := by simp [dstAt, ho, hd]
theorem eval_of_get {a b : Act} {s : Nat} (h : a.tmps[s]? = b.tmps[s]?) : a.eval (.tmp s) = b.eval (.tmp s) := by
  show a.tmps.getD s undef = b.tmps.getD s undef
  rw [Array.getD_eq_getD_getElem?, Array.getD_eq_getD_getElem?, h]
theorem eval_put_self {a : Act} {d : Nat} {u : Value} (h : d < a.tmps.size) : (a.put (some d) u).eval (.tmp d) = u := by
  show (a.tmps.setIfInBounds d u).getD d undef = u
  rw [Array.getD_eq_getD_getElem?, Array.getElem?_setIfInBounds_self_of_lt h]; rfl
theorem eval_put_ne {a : Act} {d s : Nat} {u : Value} (h : d ≠ s) : (a.put (some d) u).eval (.tmp s) = a.eval (.tmp s) :=
  Act.eval_put fun _ he hx => h ((Option.some.inj he).trans (Operand.tmp.inj hx).symm)

theorem wp_of_rel {o : Oper} {a : Act} {w : World} {R : Value → World → Prop} {K : Act → World → Prop} {Q : Exit → Act → World → Prop} (h : OpRel P o a.eval w R)
    (hK : ∀ u w', Below w.heap.size w w' → R u w' → K (a.put o.dst u) w') : o.wp P a w K Q := by
  unfold OpRel at h
  unfold Oper.wp
  generalize (execOp a.eval o).run P w = r at *
  cases r with
  | ok x w' =>
    cases x <;> simp only [relUpon] at h <;> simp only [Oper.upon]
    case value u => exact hK _ _ h.1 h.2
    case skip => exact hK _ _ h.1 h.2
    case enter f args => exact h.mono fun e w'' ⟨u, he, hb, hr⟩ => by subst he; exact hK _ _ hb hr
  | halt x w' => simp only [relUpon] at h

theorem steps_get (hs : stepsR P l n C V al eg a0 (l.take n) 0) : ∀ i o, i < n → l[i]? = some o → stepR P l n C V al eg a0 o i := by
  have key : ∀ (r : List Oper) (k : Nat), stepsR P l n C V al eg a0 r k → ∀ i o, r[i]? = some o → stepR P l n C V al eg a0 o (k + i) := by
    intro r
    induction r with
    | nil => intro k _ i o h; cases i <;> cases h
    | cons x r ih =>
      intro k h i o ho
      cases i with
      | zero =>
        have : x = o := by simpa using ho
        subst this
        exact h.1
      | succ i =>
        have := ih (k + 1) h.2 i o (by simpa using ho)
        rw [show k + (i + 1) = k + 1 + i by omega]; exact this
  intro i o hi ho
  have := key _ 0 hs i o (by rw [List.getElem?_take]; simp [hi, ho])
  rwa [Nat.zero_add] at this

theorem fin_get {w : World} {Fin : Act → Prop} {listed : Array Bool} {a : Act} (F : FormOf l n a0.tmps.size al eg) (I : RInv l n C V al a0 listed a w) (hall : ∀ i, i < n → listed.getD i false = true)
    (h : finR V al w Fin (l.take n) 0 a0 []) : Fin a := by
  have key : ∀ (r : List Oper) (k : Nat) (b : Act) (acc : List Value), (∀ j, r[j]? = (l.take n)[k + j]?) → k + r.length = n → b.defers = a0.defers → b.tmps.size = a0.tmps.size →
      (∀ s, (∃ j, j < k ∧ dstAt l j = s) → b.tmps[s]? = a.tmps[s]?) → (∀ s, (∀ j, j < k → dstAt l j ≠ s) → b.tmps[s]? = a0.tmps[s]?) →
      (∀ u ∈ acc, ∃ j, j < k ∧ al.contains j = true ∧ u = vOf l a j) → finR V al w Fin r k b acc → Fin a := by
    intro r
    induction r with
    | nil =>
      intro k b acc _ hk hd hsz h1 h2 _ hfi
      have hk : k = n := by simpa using hk
      subst hk
      have : b = a := by
        cases b with
        | mk bt bd =>
        cases a with
        | mk at_ ad =>
        have e1 : bd = ad := hd.trans I.defers.symm
        have e2 : bt = at_ := by
          apply Array.ext_getElem?
          intro s
          by_cases hs : ∃ j, j < k ∧ dstAt l j = s
          · exact h1 s hs
          · have h3 : ∀ j, j < k → dstAt l j ≠ s := fun j hj e => hs ⟨j, hj, e⟩
            exact (h2 s h3).trans (I.off s fun j hj _ => h3 j hj).symm
        rw [e1, e2]
      rw [← this]; exact hfi
    | cons o r ih =>
      intro k b acc hr hk hd hsz h1 h2 hacc h
      have hkn : k < n := by simp at hk; omega
      have ho : l[k]? = some o := by
        have := hr 0
        rw [List.getElem?_take] at this
        simpa [hkn] using this.symm
      obtain ⟨d, hdo, hdl⟩ := F.dst k o hkn ho
      have hdk := dstAt_of ho hdo
      have hda : d < a.tmps.size := by rw [I.size]; exact hdl
      have hval : a.tmps[d]? = some (vOf l a k) := by
        unfold vOf; rw [hdk]
        show a.tmps[d]? = some (a.tmps.getD d undef)
        simp [hda]
      have h' := h (vOf l a k) (I.v k hkn (hall k hkn)) (fun hc u hu => by
        obtain ⟨j, hj, hja, rfl⟩ := hacc u hu
        exact I.ne k j hc hja hkn (by omega) (by omega) (hall k hkn) (hall j (by omega)))
      refine ih (k + 1) (b.put o.dst (vOf l a k)) _ (fun j => by have := hr (j + 1); simpa [Nat.add_assoc, Nat.add_comm 1 j] using this) (by simp at hk; omega) ?_ ?_ ?_ ?_ ?_ h'
      · rw [hdo]; exact hd
      · rw [hdo]; simpa [Act.put] using hsz
      · intro s hs
        rw [hdo]
        show (b.tmps.setIfInBounds d (vOf l a k))[s]? = a.tmps[s]?
        by_cases e : d = s
        · subst e
          rw [Array.getElem?_setIfInBounds_self_of_lt (by rw [hsz]; exact hdl), hval]
        · rw [Array.getElem?_setIfInBounds_ne e]
          obtain ⟨j, hj, hjs⟩ := hs
          exact h1 s ⟨j, by
            rcases Nat.lt_or_ge j k with h | h
            · exact h
            · have : j = k := by omega
              subst this; rw [hdk] at hjs; exact absurd hjs e, hjs⟩
      · intro s hs
        rw [hdo]
        show (b.tmps.setIfInBounds d (vOf l a k))[s]? = a0.tmps[s]?
        rw [Array.getElem?_setIfInBounds_ne (by rw [← hdk]; exact hs k (by omega))]
        exact h2 s fun j hj => hs j (by omega)
      · intro u hu
        by_cases hc : al.contains k = true
        · rw [if_pos hc] at hu
          rcases List.mem_cons.1 hu with rfl | hu
          · exact ⟨k, by omega, hc, rfl⟩
          · obtain ⟨j, hj, h3⟩ := hacc u hu
            exact ⟨j, by omega, h3⟩
        · rw [if_neg hc] at hu
          obtain ⟨j, hj, h3⟩ := hacc u hu
          exact ⟨j, by omega, h3⟩
  refine key (l.take n) 0 a0 [] (by simp) (by have := F.le; simp; omega) rfl rfl ?_ (fun _ _ => rfl) (fun u hu => by cases hu) h
  intro s hs
  obtain ⟨j, hj, _⟩ := hs
  omega

theorem rel_any {Q : Exit → Act → World → Prop} {g : Nat} (F : FormOf l n a0.tmps.size al eg) (hQ : ∀ c a w, ¬ Q (.panic c) a w) (hCg : ∀ w w' : World, C w → Below w.heap.size w w' → C w')
    (hVg : ∀ i, i < n → ∀ v (w w' : World), V i v w → Below w.heap.size w w' → V i v w') (hs : ∀ i o, i < n → l[i]? = some o → stepR P l n C V al eg a0 o i)
    (hT : ∀ listed a w, RInv l n C V al a0 listed a w → (∀ i, i < n → listed.getD i false = true) → wpAny P .any l.toArray Q g listed a w) :
    ∀ (f : Nat) (listed : Array Bool) (a : Act) (w : World), (List.range n).countP (fun i => !listed.getD i false) ≤ f → RInv l n C V al a0 listed a w → wpAny P .any l.toArray Q (f + g) listed a w := by
  have addM : ∀ (g : Nat) (listed : Array Bool) (a : Act) (w : World), wpAny P .any l.toArray Q g listed a w → wpAny P .any l.toArray Q (g + 1) listed a w := by
    intro g
    induction g with
    | zero => intro listed a w h; exact ⟨fun _ => h.2, fun i hi => by rw [h.1] at hi; cases hi⟩
    | succ g ih => intro listed a w h; exact ⟨h.1, fun i hi => wpOp_mono (fun a' w' h' => ih _ a' w' h') (h.2 i hi)⟩
  have addN : ∀ (f : Nat) (listed : Array Bool) (a : Act) (w : World), wpAny P .any l.toArray Q g listed a w → wpAny P .any l.toArray Q (f + g) listed a w := by
    intro f
    induction f with
    | zero => intro listed a w h; rw [Nat.zero_add]; exact h
    | succ f ih => intro listed a w h; rw [show f + 1 + g = f + g + 1 by omega]; exact addM _ _ _ _ (ih _ _ _ h)
  intro f
  induction f with
  | zero =>
    intro listed a w hc I
    refine addN 0 _ _ _ (hT listed a w I fun i hi => ?_)
    have h0 : (List.range n).countP (fun i => !listed.getD i false) = 0 := by omega
    have := List.countP_eq_zero.1 h0 i (List.mem_range.2 hi)
    simpa using this
  | succ f ih =>
    intro listed a w hc I
    by_cases hall : ∀ i, i < n → listed.getD i false = true
    · exact addN _ _ _ _ (hT listed a w I hall)
    · have hex : ∃ i, i < n ∧ listed.getD i false = false := by
        rcases Classical.em (∃ i, i < n ∧ listed.getD i false = false) with h | h
        · exact h
        · exact absurd (fun i hi => by
            cases e : listed.getD i false with
            | true => rfl
            | false => exact absurd ⟨i, hi, e⟩ h) hall
      have hlsz : listed.size = l.length := by simpa using I.inv.size
      -- the least one may come up
      have hmin : ∀ k, k < n → listed.getD k false = false → ∃ i, i ∈ Region.ready .any l.toArray listed := by
        intro k
        induction k using Nat.strongRecOn with
        | _ k ihk =>
          intro hk hkl
          have hkl' : k < l.length := Nat.lt_of_lt_of_le hk F.le
          by_cases hb : ∀ e ∈ (l[k]'hkl').after, Region.binds .any e = true → listed.getD e.on false = true
          · exact ⟨k, mem_ready.2 ⟨getD_in (by omega) hkl, l[k]'hkl', by simp [hkl'], hb⟩⟩
          · have : ∃ e ∈ (l[k]'hkl').after, Region.binds .any e = true ∧ listed.getD e.on false = false := by
              rcases Classical.em (∃ e ∈ (l[k]'hkl').after, Region.binds .any e = true ∧ listed.getD e.on false = false) with h | h
              · exact h
              · exact absurd (fun e he hbe => by
                  cases e' : listed.getD e.on false with
                  | true => rfl
                  | false => exact absurd ⟨e, he, hbe, e'⟩ h) hb
            obtain ⟨e, he, hbe, hel⟩ := this
            have hlt := F.edge k _ hk (List.getElem?_eq_getElem hkl') e he hbe
            exact ihk e.on hlt (by omega) hel
      obtain ⟨k0, hk0, hk0l⟩ := hex
      obtain ⟨i0, hi0⟩ := hmin k0 hk0 hk0l
      rw [show f + 1 + g = f + g + 1 by omega]
      -- what every head operation that may come up does
      have step : ∀ i, i < n → i ∈ Region.ready .any l.toArray listed → ∃ o d, l[i]? = some o ∧ o.dst = some d ∧ Region.wanted o (yielded l.toArray a.tmps) = wantE l a.eval o ∧
          (if wantE l a.eval o = true then (if eg.contains i = true then ∃ u, (∀ w, (execOp a.eval o).run P w = .ok (.value u) w) ∧ V i u w else OpRel P o a.eval w (fun u w' => V i u w' ∧ (al.contains i = true → Fresh w u w'))) else V i undef w) ∧
          ∀ u w', Below w.heap.size w w' → V i u w' → (al.contains i = true → Fresh w u w') → wpAny P .any l.toArray Q (f + g) (listed.setIfInBounds i true) (a.put o.dst u) w' := by
        intro i hin hi
        obtain ⟨hiu, o, ho, hdeps⟩ := mem_ready.1 hi
        have hol : l[i]? = some o := by simpa using ho
        obtain ⟨d, hdo, hdl⟩ := F.dst i o hin hol
        have hdi := dstAt_of hol hdo
        have hil : i < listed.size := by rw [hlsz]; exact Nat.lt_of_lt_of_le hin F.le
        have hiu' : listed.getD i false = false := getD_both hiu
        have hEv : Ev a0 (headDs l n) a.eval := ⟨fun _ => rfl, fun _ => rfl, fun _ => rfl, fun s hsd => eval_of_get (I.off s fun j hj _ hjs => by
          have hjl : j < l.length := Nat.lt_of_lt_of_le hj F.le
          obtain ⟨dj, hdj, _⟩ := F.dst j _ hj (List.getElem?_eq_getElem hjl)
          have hjd := dstAt_of (List.getElem?_eq_getElem hjl) hdj
          have hmem : s ∈ headDs l n := List.mem_filterMap.2 ⟨l[j], by
            rw [List.mem_take_iff_getElem]; exact ⟨j, by omega, rfl⟩, by rw [hdj, ← hjs, hjd]⟩
          rw [List.contains_iff_mem.2 hmem] at hsd
          cases hsd)⟩
        have hst := hs i o hin hol a.eval w hEv I.c (fun j hj => by
          obtain ⟨e, he, rfl⟩ := List.mem_map.1 hj
          obtain ⟨he1, he2⟩ := List.mem_filter.1 he
          have heo : e ∈ o.after := by simpa using he1
          have := hdeps e heo he2
          have hlt := F.edge i o hin hol e heo he2
          exact I.v e.on (by omega) this)
        have hw : Region.wanted o (yielded l.toArray a.tmps) = wantE l a.eval o := by
          unfold Region.wanted wantE
          cases hg : o.guard with
          | none => rfl
          | some gb =>
            obtain ⟨gi, b⟩ := gb
            obtain ⟨_, dg, hdg, hdgl⟩ := F.guard i o gi b hin hol hg
            have h1 : dstAt l gi = dg := by simp [dstAt, hdg]
            have h2 : dg < a.tmps.size := by rw [I.size]; exact hdgl
            have h3 : ((l.toArray[gi]?).bind (·.dst)) = some dg := by simpa using hdg
            simp only [yielded, h3, h1, Option.bind_some]
            have h4 : a.eval (.tmp dg) = a.tmps[dg] := by
              show a.tmps.getD dg undef = _
              simp [h2]
            rw [h4, Array.getElem?_eq_getElem h2]
            cases a.tmps[dg] <;> rfl
        have hnext : ∀ u w', Below w.heap.size w w' → V i u w' → (al.contains i = true → Fresh w u w') → wpAny P .any l.toArray Q (f + g) (listed.setIfInBounds i true) (a.put o.dst u) w' := by
          intro u w' hb hv hfr
          have hsetne : ∀ j, j ≠ i → (listed.setIfInBounds i true).getD j false = listed.getD j false := fun j hj => getD_set_ne false (Ne.symm hj)
          refine ih _ _ _ ?_ ?_
          · have := countP_lt (p := fun j => !listed.getD j false) (q := fun j => !(listed.setIfInBounds i true).getD j false) (List.range n)
              (fun j _ h => by
                by_cases e : j = i
                · subst e; simp [hiu']
                · rw [hsetne j e] at h; exact h)
              ⟨i, List.mem_range.2 hin, by simp [hiu'], by simp [hil]⟩
            omega
          · have hput : a.put o.dst u = a.put (some d) u := by rw [hdo]
            have vself : vOf l (a.put o.dst u) i = u := by unfold vOf; rw [hput, hdi]; exact eval_put_self (by rw [I.size]; exact hdl)
            have vne : ∀ j, j < n → j ≠ i → vOf l (a.put o.dst u) j = vOf l a j := fun j hj hji => by
              unfold vOf; rw [hput]; exact eval_put_ne (by rw [← hdi]; exact F.apart i j hin hj (Ne.symm hji))
            refine ⟨hCg _ _ I.c hb, by rw [hput]; simpa [Act.put] using I.size, by rw [hput]; exact I.defers, fun s hsn => ?_, fun j hj hjl => ?_, fun j hja hj hjl => ?_, fun j k hja hka hj hk hjk hjl hkl => ?_, I.inv.set hi hin⟩
            · rw [hput]
              show (a.tmps.setIfInBounds d u)[s]? = a0.tmps[s]?
              have h1 : d ≠ s := by rw [← hdi]; exact hsn i hin (by simp [hil])
              rw [Array.getElem?_setIfInBounds_ne h1]
              exact I.off s fun j hj hjl => by
                by_cases e : j = i
                · subst e; rw [hdi]; exact h1
                · exact hsn j hj (by rw [hsetne j e]; exact hjl)
            · by_cases e : j = i
              · subst e; rw [vself]; exact hv
              · rw [vne j hj e]; rw [hsetne j e] at hjl; exact hVg j hj _ _ _ (I.v j hj hjl) hb
            · by_cases e : j = i
              · subst e
                obtain ⟨gg, h1, _, h3⟩ := hfr hja
                exact ⟨gg, by rw [vself]; exact h1, h3⟩
              · rw [hsetne j e] at hjl
                obtain ⟨gg, h1, h2⟩ := I.lt j hja hj hjl
                exact ⟨gg, by rw [vne j hj e]; exact h1, Nat.lt_of_lt_of_le h2 hb.size⟩
            · have new : ∀ k, al.contains k = true → k < n → k ≠ i → listed.getD k false = true → al.contains i = true → u ≠ vOf l a k := by
                intro k hka hk hki hkl hia heq
                obtain ⟨g1, h1, h2, _⟩ := hfr hia
                obtain ⟨g2, h3, h4⟩ := I.lt k hka hk hkl
                rw [h1, h3] at heq
                injection heq with heq
                injection heq with heq
                injection heq with e1 _ _
                omega
              by_cases e : j = i
              · subst e
                rw [hsetne k (Ne.symm hjk)] at hkl
                rw [vself, vne k hk (Ne.symm hjk)]
                exact new k hka hk (Ne.symm hjk) hkl hja
              · rw [hsetne j e] at hjl
                by_cases e2 : k = i
                · subst e2
                  rw [vself, vne j hj hjk]
                  exact Ne.symm (new j hja hj hjk hjl hka)
                · rw [hsetne k e2] at hkl
                  rw [vne j hj e, vne k hk e2]
                  exact I.ne j k hja hka hj hk hjk hjl hkl
        exact ⟨o, d, hol, hdo, hw, hst, hnext⟩
      have noal : ∀ i o, i < n → l[i]? = some o → wantE l a.eval o = false → al.contains i = true → False := by
        intro i o hin hol hwt hia
        cases hg : o.guard with
        | none => unfold wantE at hwt; rw [hg] at hwt; cases hwt
        | some gb =>
          obtain ⟨gi, b⟩ := gb
          rw [(F.guard i o gi b hin hol hg).1] at hia
          cases hia
      by_cases hegr : ∃ i, i < n ∧ eg.contains i = true ∧ i ∈ Region.ready .any l.toArray listed
      · obtain ⟨i, hin, hieg, hi⟩ := hegr
        obtain ⟨o, d, hol, hdo, hw, hst, hnext⟩ := step i hin hi
        have hoa : l.toArray[i]? = some o := by simpa using hol
        obtain ⟨hial, hfree⟩ := F.eager i o hin hol hieg
        obtain ⟨_, o', ho', hdeps⟩ := mem_ready.1 hi
        have : o' = o := Option.some.inj (ho'.symm.trans hoa)
        subst this
        obtain ⟨v, hy, hv⟩ : ∃ v, Yields P l.toArray o' v a ∧ V i v w := by
          by_cases hwt : wantE l a.eval o' = true
          · rw [if_pos hwt, if_pos hieg] at hst
            obtain ⟨u, h1, h2⟩ := hst
            exact ⟨u, .inl ⟨hw.trans hwt, h1⟩, h2⟩
          · rw [if_neg hwt] at hst
            exact ⟨undef, .inr ⟨hw.trans (by simpa using hwt), rfl⟩, hst⟩
        refine wpAny_first hoa (Region.noSelect_spec F.sel) (fun c a w h => absurd h (hQ c _ w)) (f + g) listed a w ?_ hi hy (hnext v w (Below.refl _ _) hv (fun h => by rw [hial] at h; cases h))
        intro j oj hoj hji hjl hjw
        rcases hfree j oj (by simpa using hoj) hji with h | h | h
        · obtain ⟨e, he, rfl⟩ := List.mem_map.1 h
          obtain ⟨he1, he2⟩ := List.mem_filter.1 he
          have h1 := hdeps e (by simpa using he1) he2
          rw [getD_both hjl] at h1
          cases h1
        · obtain ⟨oj', hoj', e, he, hb, hon⟩ := Region.waitsFor_spec h
          have : oj' = oj := Option.some.inj (hoj'.symm.trans hoj)
          subst this
          exact absurd hon (hjw e he hb)
        · exact h
      · have hhead : ∀ t, t ∈ Region.ready .any l.toArray listed → t < n := by
          intro t ht
          rcases Nat.lt_or_ge t n with h | h
          · exact h
          · exfalso
            obtain ⟨_, ot, hot, htd⟩ := mem_ready.1 ht
            have htl : t < l.length := by simpa using (Array.getElem?_eq_some_iff.1 hot).1
            have htd' : ∀ o, l[t]? = some o → ∀ e ∈ o.after, Region.binds .any e = true → listed.getD e.on false = true := fun o ho e he hb => by
              have : o = ot := Option.some.inj ((show l.toArray[t]? = some o by simpa using ho).symm.trans hot)
              subst this; exact htd e he hb
            have hk0l' : k0 < l.length := Nat.lt_of_lt_of_le hk0 F.le
            rcases F.tail t h htl k0 _ hk0 (List.getElem?_eq_getElem hk0l') with h1 | ⟨h1, h2⟩
            · rw [waits_listed I.inv 3 t k0 h1 htd'] at hk0l; cases hk0l
            · refine hegr ⟨k0, hk0, h1, mem_ready.2 ⟨getD_in (by omega) hk0l, l[k0], by simp [hk0l'], fun e he hb => ?_⟩⟩
              exact waits_listed I.inv 3 t e.on (h2 e.on (List.mem_map.2 ⟨e, List.mem_filter.2 ⟨by simpa using he, hb⟩, rfl⟩)) htd'
        refine ⟨(fun h0 => by rw [h0] at hi0; cases hi0), fun i hi => ?_⟩
        have hin := hhead i hi
        obtain ⟨o, d, hol, hdo, hw, hst, hnext⟩ := step i hin hi
        have ho : l.toArray[i]? = some o := by simpa using hol
        have hne : eg.contains i = false := by
          cases h : eg.contains i with
          | false => rfl
          | true => exact absurd ⟨i, hin, h, hi⟩ hegr
        unfold wpOp
        simp only [ho]
        rw [hw]
        by_cases hwt : wantE l a.eval o = true
        · rw [if_pos hwt]
          rw [if_pos hwt, if_neg (by rw [hne]; decide)] at hst
          exact .inl (wp_of_rel hst fun u w' hb h => hnext u w' hb h.1 h.2)
        · rw [if_neg hwt]
          rw [if_neg hwt] at hst
          exact hnext undef w (Below.refl _ _) hst (fun hia => (noal i o hin hol (by simpa using hwt) hia).elim)

/-- **A region that draws its order, its head's operations shown one by one, its tail forced.** -/
theorem wp_region_rel {id : Nat} {Q : Exit → Act → World → Prop} {w : World} (n : Nat) (C : World → Prop) (V : Nat → Value → World → Prop) (al eg : List Nat) (hm : P.follows .mixedOrders = true)
    (hB : relB l n al eg a0.tmps.size = true) (hC : C w.drew) (hCg : ∀ w w' : World, C w → Below w.heap.size w w' → C w') (hVg : ∀ i, i < n → ∀ v (w w' : World), V i v w → Below w.heap.size w w' → V i v w')
    (hs : stepsR P l n C V al eg a0 (l.take n) 0)
    (hf : ∀ w', C w' → finR V al w' (fun a' => wpList P l.toArray (calm Q) (l.drop n) a' w') (l.take n) 0 a0 []) : (Code.region id l.toArray true).wp P Q a0 w := by
  have F := form_of hB
  refine Code.wp_mono (Q := calm Q) (fun _ _ _ h => h.2) (wp_region_any hm ?_)
  have inv0 : HeadInv .any l.toArray n (Array.replicate l.toArray.size false) :=
    ⟨by simp, fun j oj _ hl => (by rw [getD_replicate_false] at hl; cases hl), fun t _ ht => getD_in (by simpa using ht) (getD_replicate_false _ _)⟩
  have none0 : ∀ j, (Array.replicate l.toArray.size false).getD j false = true → False := fun j h => by rw [getD_replicate_false] at h; cases h
  have I0 : RInv l n C V al a0 (Array.replicate l.toArray.size false) a0 w.drew :=
    ⟨hC, rfl, rfl, fun _ _ => rfl, fun j _ h => (none0 j h).elim, fun j _ _ h => (none0 j h).elim, fun i _ _ _ _ _ _ h _ => (none0 i h).elim, inv0⟩
  have hfin := rel_any (P := P) (Q := calm Q) (g := l.length - n) F (fun c _ _ h => h.1 c rfl) hCg hVg (steps_get hs)
    (fun listed a' w' I hall => by
      have hQ := fin_get F I hall (hf w' I.c)
      have hl : listed = (List.replicate n true ++ List.replicate (l.length - n) false).toArray := by
        have hsz2 : listed.size = l.length := by simpa using I.inv.size
        have hle := F.le
        apply Array.ext
        · simp [hsz2]; omega
        · intro i h1 h2
          by_cases hi : i < n
          · have := hall i hi
            simp [h1] at this
            rw [this]
            simp only [List.getElem_toArray]
            rw [List.getElem_append_left (by simpa using hi)]
            simp
          · have := I.inv.tail i (by omega) (by simpa [hsz2] using h1)
            simp [h1] at this
            rw [this]
            simp only [List.getElem_toArray]
            rw [List.getElem_append_right (by simp; omega)]
            simp
      have := wpAny_of_seq (P := P) (md := .any) (ops := l.toArray) (Q' := calm Q) (l.drop n) n listed a' w' (fun j => by simp [List.getElem?_drop]) (by rw [hl]; simpa using F.seq) hQ
      simpa using this)
    n (Array.replicate l.toArray.size false) a0 w.drew (by
      have := List.countP_le_length (p := fun i => !(Array.replicate l.toArray.size false).getD i false) (l := List.range n)
      simpa using this) I0
  have hle := F.le
  rw [show n + (l.length - n) = l.toArray.size by simp; omega] at hfin
  exact hfin
end
end Corr
