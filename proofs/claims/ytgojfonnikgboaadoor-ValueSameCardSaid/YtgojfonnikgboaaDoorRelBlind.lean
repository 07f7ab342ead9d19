/- A region that draws its order, some of whose operations have no slot of their own (stores into a map): each operation once; what holds of the world hangs on which operations are behind; the slots' values are known ahead. (After XRelSet.lean's law; no guards in the head.) Over any program. -/
import Derived.Test.YtgojfonnikgboaaDoorRelSet
namespace Corr
open Go Go.RowKit
set_option linter.unusedVariables false
section
variable (P : Program) (l : List Oper) (n : Nat) (C : (Nat → Bool) → World → Prop) (val : Nat → Value) (bl : List Nat) (a0 : Act)
def stepB (o : Oper) (i : Nat) : Prop := ∀ (ev : Operand → Value) (w : World) (S : Nat → Bool), Ev a0 (headDs l n) ev → C S w → S i = false → (∀ j ∈ depsL o, S j = true ∧ (bl.contains j = false → ev (.tmp (dstAt l j)) = val j)) →
  OpSet P o ev w (fun u w' => (bl.contains i = false → u = val i) ∧ C (addS S i) w')
def stepsB : List Oper → Nat → Prop
  | [], _ => True
  | o :: r, i => stepB P l n C val bl a0 o i ∧ stepsB r (i + 1)
def finB (Fin : Act → Prop) : List Oper → Nat → Act → Prop
  | [], _, a => Fin a
  | o :: r, i, a => ∀ v, v = val i → finB Fin r (i + 1) (a.put o.dst v)
def blindB (size : Nat) : Bool :=
  decide (n ≤ l.length) && Region.noSelect l.toArray &&
  ((List.range n).all fun i => match l[i]? with
    | some o => (match o.dst with | some d => decide (d < size) && !bl.contains i | none => bl.contains i) && o.after.all (fun e => !Region.binds .any e || decide (e.on < i)) && o.guard.isNone
    | none => false) &&
  ((List.range n).all fun i => (List.range n).all fun j => i == j || bl.contains i || bl.contains j || dstAt l i != dstAt l j) &&
  ((List.range l.length).all fun t => decide (t < n) || (List.range n).all fun i => waitsT l.toArray 3 t i) &&
  Region.seqB .any l.toArray (l.length - n) n ((List.replicate n true ++ List.replicate (l.length - n) false).toArray)
end
section
variable {P : Program} {l : List Oper} {n : Nat} {C : (Nat → Bool) → World → Prop} {val : Nat → Value} {bl : List Nat} {a0 : Act}
structure FormB (l : List Oper) (n size : Nat) (bl : List Nat) : Prop where
  le : n ≤ l.length
  sel : Region.noSelect l.toArray = true
  dst : ∀ i o, i < n → l[i]? = some o → bl.contains i = false → ∃ d, o.dst = some d ∧ d < size
  bare : ∀ i o, i < n → l[i]? = some o → bl.contains i = true → o.dst = none
  edge : ∀ i o, i < n → l[i]? = some o → ∀ e ∈ o.after, Region.binds .any e = true → e.on < i
  guard : ∀ i o, i < n → l[i]? = some o → o.guard = none
  apart : ∀ i j, i < n → j < n → i ≠ j → bl.contains i = false → bl.contains j = false → dstAt l i ≠ dstAt l j
  tail : ∀ t, n ≤ t → t < l.length → ∀ i, i < n → waitsT l.toArray 3 t i = true
  seq : Region.seqB .any l.toArray (l.length - n) n ((List.replicate n true ++ List.replicate (l.length - n) false).toArray) = true
theorem formB_of {size : Nat} (h : blindB l n bl size = true) : FormB l n size bl := by
  simp only [blindB, Bool.and_eq_true, decide_eq_true_eq] at h
  obtain ⟨⟨⟨⟨⟨h1, h2⟩, h3⟩, h4⟩, h5⟩, h6⟩ := h
  have key : ∀ i o, i < n → l[i]? = some o → ((match o.dst with | some d => decide (d < size) && !bl.contains i | none => bl.contains i) = true) ∧ (∀ e ∈ o.after, Region.binds .any e = true → e.on < i) ∧ o.guard = Option.none := by
    intro i o hi ho
    have h := List.all_eq_true.1 h3 i (List.mem_range.2 hi)
    simp only [ho, Bool.and_eq_true] at h
    obtain ⟨⟨ha, hb⟩, hc⟩ := h
    refine ⟨ha, fun e he hbd => ?_, by simpa using hc⟩
    have := Array.all_eq_true_iff_forall_mem.1 hb e he
    simpa [hbd] using this
  refine ⟨h1, h2, fun i o hi ho hb => ?_, fun i o hi ho hb => ?_, fun i o hi ho => (key i o hi ho).2.1, fun i o hi ho => (key i o hi ho).2.2, fun i j hi hj hne hbi hbj => ?_, fun t ht htl i hi => ?_, h6⟩
  · have h := (key i o hi ho).1
    cases hd : o.dst with
    | none => rw [hd] at h; simp only at h; rw [hb] at h; cases h
    | some d => rw [hd] at h; simp only [Bool.and_eq_true, decide_eq_true_eq] at h; exact ⟨d, rfl, h.1⟩
  · have h := (key i o hi ho).1
    cases hd : o.dst with
    | none => rfl
    | some d => rw [hd] at h; simp only [Bool.and_eq_true] at h; rw [hb] at h; cases h.2
  · have h := List.all_eq_true.1 (List.all_eq_true.1 h4 i (List.mem_range.2 hi)) j (List.mem_range.2 hj)
    rw [hbi, hbj] at h
    simpa [hne] using h
  · have h := List.all_eq_true.1 h5 t (List.mem_range.2 htl)
    rw [decide_eq_false (by omega), Bool.false_or] at h
    exact List.all_eq_true.1 h i (List.mem_range.2 hi)
theorem stepsB_get (hs : stepsB P l n C val bl a0 (l.take n) 0) : ∀ i o, i < n → l[i]? = some o → stepB P l n C val bl a0 o i := by
  have key : ∀ (r : List Oper) (k : Nat), stepsB P l n C val bl a0 r k → ∀ i o, r[i]? = some o → stepB P l n C val bl a0 o (k + i) := by
    intro r
    induction r with
    | nil => intro k _ i o h; cases i <;> cases h
    | cons x r ih =>
      intro k h i o ho
      cases i with
      | zero =>
        have : x = o := by simpa using ho
        subst this
        exact h.1
      | succ i =>
        have := ih (k + 1) h.2 i o (by simpa using ho)
        rw [show k + (i + 1) = k + 1 + i by omega]; exact this
  intro i o hi ho
  have := key _ 0 hs i o (by rw [List.getElem?_take]; simp [hi, ho])
  rwa [Nat.zero_add] at this
structure BInv (l : List Oper) (n : Nat) (val : Nat → Value) (bl : List Nat) (a0 : Act) (listed : Array Bool) (a : Act) : Prop where
  size : a.tmps.size = a0.tmps.size
  defers : a.defers = a0.defers
  off : ∀ s, (∀ j, j < n → bl.contains j = false → listed.getD j false = true → dstAt l j ≠ s) → a.tmps[s]? = a0.tmps[s]?
  v : ∀ j, j < n → bl.contains j = false → listed.getD j false = true → vOf l a j = val j
  inv : HeadInv .any l.toArray n listed
theorem finB_get {Fin : Act → Prop} {listed : Array Bool} {a : Act} (F : FormB l n a0.tmps.size bl) (I : BInv l n val bl a0 listed a) (hall : ∀ i, i < n → listed.getD i false = true)
    (h : finB val Fin (l.take n) 0 a0) : Fin a := by
  have key : ∀ (r : List Oper) (k : Nat) (b : Act), (∀ j, r[j]? = (l.take n)[k + j]?) → k + r.length = n → b.defers = a0.defers → b.tmps.size = a0.tmps.size →
      (∀ s, (∃ j, j < k ∧ bl.contains j = false ∧ dstAt l j = s) → b.tmps[s]? = a.tmps[s]?) → (∀ s, (∀ j, j < k → bl.contains j = false → dstAt l j ≠ s) → b.tmps[s]? = a0.tmps[s]?) →
      finB val Fin r k b → Fin a := by
    intro r
    induction r with
    | nil =>
      intro k b _ hk hd hsz h1 h2 hfi
      have hk : k = n := by simpa using hk
      subst hk
      have : b = a := by
        cases b with
        | mk bt bd =>
        cases a with
        | mk at_ ad =>
        have e1 : bd = ad := hd.trans I.defers.symm
        have e2 : bt = at_ := by
          apply Array.ext_getElem?
          intro s
          by_cases hs : ∃ j, j < k ∧ bl.contains j = false ∧ dstAt l j = s
          · exact h1 s hs
          · have h3 : ∀ j, j < k → bl.contains j = false → dstAt l j ≠ s := fun j hj hb e => hs ⟨j, hj, hb, e⟩
            exact (h2 s h3).trans (I.off s fun j hj hb _ => h3 j hj hb).symm
        rw [e1, e2]
      rw [← this]; exact hfi
    | cons o r ih =>
      intro k b hr hk hd hsz h1 h2 h
      have hkn : k < n := by simp at hk; omega
      have ho : l[k]? = some o := by
        have := hr 0
        rw [List.getElem?_take] at this
        simpa [hkn] using this.symm
      have hr' : ∀ j, r[j]? = (l.take n)[k + 1 + j]? := fun j => by have := hr (j + 1); simpa [Nat.add_assoc, Nat.add_comm 1 j] using this
      have hk' : k + 1 + r.length = n := by simp at hk; omega
      by_cases hb : bl.contains k = true
      · have h' : finB val Fin r (k + 1) b := by
          have := h (val k) rfl
          rw [F.bare k o hkn ho hb] at this
          exact this
        refine ih (k + 1) b hr' hk' hd hsz (fun s hs => ?_) (fun s hs => h2 s fun j hj => hs j (by omega)) h'
        obtain ⟨j, hj, hjb, hjs⟩ := hs
        refine h1 s ⟨j, ?_, hjb, hjs⟩
        rcases Nat.lt_or_ge j k with h | h
        · exact h
        · have : j = k := by omega
          subst this; rw [hb] at hjb; cases hjb
      · have hb : bl.contains k = false := by simpa using hb
        have h' : finB val Fin r (k + 1) (b.put o.dst (val k)) := h (val k) rfl
        obtain ⟨d, hdo, hdl⟩ := F.dst k o hkn ho hb
        have hdk := dstAt_of ho hdo
        have hda : d < a.tmps.size := by rw [I.size]; exact hdl
        have hval : a.tmps[d]? = some (val k) := by
          rw [← I.v k hkn hb (hall k hkn)]
          unfold vOf; rw [hdk]
          show a.tmps[d]? = some (a.tmps.getD d undef)
          simp [hda]
        refine ih (k + 1) (b.put o.dst (val k)) hr' hk' ?_ ?_ ?_ ?_ h'
        · rw [hdo]; exact hd
        · rw [hdo]; simpa [Act.put] using hsz
        · intro s hs
          rw [hdo]
          show (b.tmps.setIfInBounds d (val k))[s]? = a.tmps[s]?
          by_cases e : d = s
          · subst e
            rw [Array.getElem?_setIfInBounds_self_of_lt (by rw [hsz]; exact hdl), hval]
          · rw [Array.getElem?_setIfInBounds_ne e]
            obtain ⟨j, hj, hjb, hjs⟩ := hs
            exact h1 s ⟨j, by
              rcases Nat.lt_or_ge j k with h | h
              · exact h
              · have : j = k := by omega
                subst this; rw [hdk] at hjs; exact absurd hjs e, hjb, hjs⟩
        · intro s hs
          rw [hdo]
          show (b.tmps.setIfInBounds d (val k))[s]? = a0.tmps[s]?
          rw [Array.getElem?_setIfInBounds_ne (by rw [← hdk]; exact hs k (by omega) hb)]
          exact h2 s fun j hj => hs j (by omega)
  refine key (l.take n) 0 a0 (by simp) (by have := F.le; simp; omega) rfl rfl ?_ (fun _ _ => rfl) h
  intro s hs
  obtain ⟨j, hj, _⟩ := hs
  omega
theorem blind_any {Q : Exit → Act → World → Prop} {g : Nat} (F : FormB l n a0.tmps.size bl) (hs : ∀ i o, i < n → l[i]? = some o → stepB P l n C val bl a0 o i)
    (hT : ∀ listed a w, BInv l n val bl a0 listed a → C (behind listed) w → (∀ i, i < n → listed.getD i false = true) → wpAny P .any l.toArray Q g listed a w) :
    ∀ (f : Nat) (listed : Array Bool) (a : Act) (w : World), (List.range n).countP (fun i => !listed.getD i false) ≤ f → BInv l n val bl a0 listed a → C (behind listed) w → wpAny P .any l.toArray Q (f + g) listed a w := by
  have addM : ∀ (g : Nat) (listed : Array Bool) (a : Act) (w : World), wpAny P .any l.toArray Q g listed a w → wpAny P .any l.toArray Q (g + 1) listed a w := by
    intro g
    induction g with
    | zero => intro listed a w h; exact ⟨fun _ => h.2, fun i hi => by rw [h.1] at hi; cases hi⟩
    | succ g ih => intro listed a w h; exact ⟨h.1, fun i hi => wpOp_mono (fun a' w' h' => ih _ a' w' h') (h.2 i hi)⟩
  have addN : ∀ (f : Nat) (listed : Array Bool) (a : Act) (w : World), wpAny P .any l.toArray Q g listed a w → wpAny P .any l.toArray Q (f + g) listed a w := by
    intro f
    induction f with
    | zero => intro listed a w h; rw [Nat.zero_add]; exact h
    | succ f ih => intro listed a w h; rw [show f + 1 + g = f + g + 1 by omega]; exact addM _ _ _ _ (ih _ _ _ h)
  intro f
  induction f with
  | zero =>
    intro listed a w hc I hC
    refine addN 0 _ _ _ (hT listed a w I hC fun i hi => ?_)
    have h0 : (List.range n).countP (fun i => !listed.getD i false) = 0 := by omega
    have := List.countP_eq_zero.1 h0 i (List.mem_range.2 hi)
    simpa using this
  | succ f ih =>
    intro listed a w hc I hC
    by_cases hall : ∀ i, i < n → listed.getD i false = true
    · exact addN _ _ _ _ (hT listed a w I hC hall)
    · have hex : ∃ i, i < n ∧ listed.getD i false = false := by
        rcases Classical.em (∃ i, i < n ∧ listed.getD i false = false) with h | h
        · exact h
        · exact absurd (fun i hi => by
            cases e : listed.getD i false with
            | true => rfl
            | false => exact absurd ⟨i, hi, e⟩ h) hall
      have hlsz : listed.size = l.length := by simpa using I.inv.size
      have hmin : ∀ k, k < n → listed.getD k false = false → ∃ i, i ∈ Region.ready .any l.toArray listed := by
        intro k
        induction k using Nat.strongRecOn with
        | _ k ihk =>
          intro hk hkl
          have hkl' : k < l.length := Nat.lt_of_lt_of_le hk F.le
          by_cases hb : ∀ e ∈ (l[k]'hkl').after, Region.binds .any e = true → listed.getD e.on false = true
          · exact ⟨k, mem_ready.2 ⟨getD_in (by omega) hkl, l[k]'hkl', by simp [hkl'], hb⟩⟩
          · have : ∃ e ∈ (l[k]'hkl').after, Region.binds .any e = true ∧ listed.getD e.on false = false := by
              rcases Classical.em (∃ e ∈ (l[k]'hkl').after, Region.binds .any e = true ∧ listed.getD e.on false = false) with h | h
              · exact h
              · exact absurd (fun e he hbe => by
                  cases e' : listed.getD e.on false with
                  | true => rfl
                  | false => exact absurd ⟨e, he, hbe, e'⟩ h) hb
            obtain ⟨e, he, hbe, hel⟩ := this
            have hlt := F.edge k _ hk (List.getElem?_eq_getElem hkl') e he hbe
            exact ihk e.on hlt (by omega) hel
      obtain ⟨k0, hk0, hk0l⟩ := hex
      obtain ⟨i0, hi0⟩ := hmin k0 hk0 hk0l
      rw [show f + 1 + g = f + g + 1 by omega]
      have hhead : ∀ t, t ∈ Region.ready .any l.toArray listed → t < n := by
        intro t ht
        rcases Nat.lt_or_ge t n with h | h
        · exact h
        · exfalso
          obtain ⟨_, ot, hot, htd⟩ := mem_ready.1 ht
          have htl : t < l.length := by simpa using (Array.getElem?_eq_some_iff.1 hot).1
          have htd' : ∀ o, l[t]? = some o → ∀ e ∈ o.after, Region.binds .any e = true → listed.getD e.on false = true := fun o ho e he hb => by
            have : o = ot := Option.some.inj ((show l.toArray[t]? = some o by simpa using ho).symm.trans hot)
            subst this; exact htd e he hb
          have h1 := F.tail t h htl k0 hk0
          rw [waits_listed I.inv 3 t k0 h1 htd'] at hk0l; cases hk0l
      refine ⟨(fun h0 => by rw [h0] at hi0; cases hi0), fun i hi => ?_⟩
      have hin := hhead i hi
      obtain ⟨hiu, o, ho, hdeps⟩ := mem_ready.1 hi
      have hol : l[i]? = some o := by simpa using ho
      have hil : i < listed.size := by rw [hlsz]; exact Nat.lt_of_lt_of_le hin F.le
      have hiu' : listed.getD i false = false := getD_both hiu
      have hEv : Ev a0 (headDs l n) a.eval := ⟨fun _ => rfl, fun _ => rfl, fun _ => rfl, fun s hsd => eval_of_get (I.off s fun j hj hjb _ hjs => by
        have hjl : j < l.length := Nat.lt_of_lt_of_le hj F.le
        obtain ⟨dj, hdj, _⟩ := F.dst j _ hj (List.getElem?_eq_getElem hjl) hjb
        have hjd := dstAt_of (List.getElem?_eq_getElem hjl) hdj
        have hmem : s ∈ headDs l n := List.mem_filterMap.2 ⟨l[j], by
          rw [List.mem_take_iff_getElem]; exact ⟨j, by omega, rfl⟩, by rw [hdj, ← hjs, hjd]⟩
        rw [List.contains_iff_mem.2 hmem] at hsd
        cases hsd)⟩
      have hst := hs i o hin hol a.eval w (behind listed) hEv hC hiu' (fun j hj => by
        obtain ⟨e, he, rfl⟩ := List.mem_map.1 hj
        obtain ⟨he1, he2⟩ := List.mem_filter.1 he
        have heo : e ∈ o.after := by simpa using he1
        have := hdeps e heo he2
        have hlt := F.edge i o hin hol e heo he2
        exact ⟨this, fun hb => I.v e.on (by omega) hb this⟩)
      have hw : Region.wanted o (yielded l.toArray a.tmps) = true := by
        unfold Region.wanted; rw [F.guard i o hin hol]
      unfold wpOp
      simp only [ho]
      rw [hw, if_pos rfl]
      refine .inl (wp_of_set hst fun u w' h => ?_)
      have hsetne : ∀ j, j ≠ i → (listed.setIfInBounds i true).getD j false = listed.getD j false := fun j hj => getD_set_ne false (Ne.symm hj)
      refine ih _ _ _ ?_ ?_ (by rw [behind_set hil]; exact h.2)
      · have := countP_lt (p := fun j => !listed.getD j false) (q := fun j => !(listed.setIfInBounds i true).getD j false) (List.range n)
          (fun j _ h => by
            by_cases e : j = i
            · subst e; simp [hiu']
            · rw [hsetne j e] at h; exact h)
          ⟨i, List.mem_range.2 hin, by simp [hiu'], by simp [hil]⟩
        omega
      · by_cases hb : bl.contains i = true
        · have hput : a.put o.dst u = a := by rw [F.bare i o hin hol hb]; rfl
          rw [hput]
          refine ⟨I.size, I.defers, fun s hsn => I.off s fun j hj hjb hjl => ?_, fun j hj hjb hjl => ?_, I.inv.set hi hin⟩
          · have e : j ≠ i := fun e => by subst e; rw [hb] at hjb; cases hjb
            exact hsn j hj hjb (by rw [hsetne j e]; exact hjl)
          · have e : j ≠ i := fun e => by subst e; rw [hb] at hjb; cases hjb
            exact I.v j hj hjb (by rw [← hsetne j e]; exact hjl)
        · have hb : bl.contains i = false := by simpa using hb
          obtain ⟨d, hdo, hdl⟩ := F.dst i o hin hol hb
          have hdi := dstAt_of hol hdo
          have hput : a.put o.dst u = a.put (some d) u := by rw [hdo]
          have vself : vOf l (a.put o.dst u) i = u := by unfold vOf; rw [hput, hdi]; exact eval_put_self (by rw [I.size]; exact hdl)
          have vne : ∀ j, j < n → j ≠ i → bl.contains j = false → vOf l (a.put o.dst u) j = vOf l a j := fun j hj hji hjb => by
            unfold vOf; rw [hput]; exact eval_put_ne (by rw [← hdi]; exact F.apart i j hin hj (Ne.symm hji) hb hjb)
          refine ⟨by rw [hput]; simpa [Act.put] using I.size, by rw [hput]; exact I.defers, fun s hsn => ?_, fun j hj hjb hjl => ?_, I.inv.set hi hin⟩
          · rw [hput]
            show (a.tmps.setIfInBounds d u)[s]? = a0.tmps[s]?
            have h1 : d ≠ s := by rw [← hdi]; exact hsn i hin hb (by simp [hil])
            rw [Array.getElem?_setIfInBounds_ne h1]
            exact I.off s fun j hj hjb hjl => by
              by_cases e : j = i
              · subst e; rw [hdi]; exact h1
              · exact hsn j hj hjb (by rw [hsetne j e]; exact hjl)
          · by_cases e : j = i
            · subst e; rw [vself]; exact h.1 hb
            · rw [vne j hj e hjb]; rw [hsetne j e] at hjl; exact I.v j hj hjb hjl
/-- **A region that draws its order, some of whose operations have no slot.** -/
theorem wp_region_blind {id : Nat} {Q : Exit → Act → World → Prop} {w : World} (n : Nat) (C : (Nat → Bool) → World → Prop) (val : Nat → Value) (bl : List Nat) (hm : P.follows .mixedOrders = true)
    (hB : blindB l n bl a0.tmps.size = true) (hC : C (fun _ => false) w.drew)
    (hs : stepsB P l n C val bl a0 (l.take n) 0)
    (hf : ∀ (S : Nat → Bool) (w' : World), (∀ i, i < n → S i = true) → C S w' → finB val (fun a' => wpList P l.toArray (calm Q) (l.drop n) a' w') (l.take n) 0 a0) : (Code.region id l.toArray true).wp P Q a0 w := by
  have F := formB_of hB
  refine Code.wp_mono (Q := calm Q) (fun _ _ _ h => h.2) (wp_region_any hm ?_)
  have inv0 : HeadInv .any l.toArray n (Array.replicate l.toArray.size false) :=
    ⟨by simp, fun j oj _ hl => (by rw [getD_replicate_false] at hl; cases hl), fun t _ ht => getD_in (by simpa using ht) (getD_replicate_false _ _)⟩
  have none0 : ∀ j, (Array.replicate l.toArray.size false).getD j false = true → False := fun j h => by rw [getD_replicate_false] at h; cases h
  have I0 : BInv l n val bl a0 (Array.replicate l.toArray.size false) a0 :=
    ⟨rfl, rfl, fun _ _ => rfl, fun j _ _ h => (none0 j h).elim, inv0⟩
  have hC0 : C (behind (Array.replicate l.toArray.size false)) w.drew := by
    have e : behind (Array.replicate l.toArray.size false) = fun _ => false := by funext j; unfold behind; exact getD_replicate_false _ _
    rw [e]; exact hC
  have hfin := blind_any (P := P) (Q := calm Q) (g := l.length - n) F (stepsB_get hs)
    (fun listed a' w' I hCl hall => by
      have hQ := finB_get F I hall (hf (behind listed) w' hall hCl)
      have hl : listed = (List.replicate n true ++ List.replicate (l.length - n) false).toArray := by
        have hsz2 : listed.size = l.length := by simpa using I.inv.size
        have hle := F.le
        apply Array.ext
        · simp [hsz2]; omega
        · intro i h1 h2
          by_cases hi : i < n
          · have := hall i hi
            simp [h1] at this
            rw [this]
            simp only [List.getElem_toArray]
            rw [List.getElem_append_left (by simpa using hi)]
            simp
          · have := I.inv.tail i (by omega) (by simpa [hsz2] using h1)
            simp [h1] at this
            rw [this]
            simp only [List.getElem_toArray]
            rw [List.getElem_append_right (by simp; omega)]
            simp
      have := wpAny_of_seq (P := P) (md := .any) (ops := l.toArray) (Q' := calm Q) (l.drop n) n listed a' w' (fun j => by simp [List.getElem?_drop]) (by rw [hl]; simpa using F.seq) hQ
      simpa using this)
    n (Array.replicate l.toArray.size false) a0 w.drew (by
      have := List.countP_le_length (p := fun i => !(Array.replicate l.toArray.size false).getD i false) (l := List.range n)
      simpa using this) I0 hC0
  have hle := F.le
  rw [show n + (l.length - n) = l.toArray.size by simp; omega] at hfin
  exact hfin
end
/-- An operation without a slot. -/
theorem set_skip {P : Program} {o : Oper} {ev : Operand → Value} {w w' : World} {R : Value → World → Prop} (hr : (execOp ev o).run P w = .ok .skip w') (hR : R undef w') : OpSet P o ev w R := by
  unfold OpSet; rw [hr]; exact hR
end Corr
