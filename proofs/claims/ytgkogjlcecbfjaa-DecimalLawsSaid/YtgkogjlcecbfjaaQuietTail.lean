/- A region that draws its order: a head whose operations yield one value in every world of a class (calls that make memory among them), and a tail in one forced order: the head's lexical walk, and then the tail's, serve every order. Over any program. -/
import Derived.Deep.Quiet
import Derived.StillTail
namespace Corr
open Go

section
variable {P : Program} {ops hd : Array Oper} {md : Region.Mode} {C : World → Prop} {n : Nat}

theorem wpAny_more {Q : Exit → Act → World → Prop} : ∀ (f : Nat) (listed : Array Bool) (a : Act) (w : World), wpAny P md ops Q f listed a w → wpAny P md ops Q (f + 1) listed a w
  | 0, listed, a, w, h => ⟨fun _ => h.2, fun i hi => by rw [h.1] at hi; cases hi⟩
  | f + 1, listed, a, w, h => ⟨h.1, fun i hi => wpOp_mono (fun a' w' h' => wpAny_more f _ a' w' h') (h.2 i hi)⟩
theorem wpAny_add {Q : Exit → Act → World → Prop} (g : Nat) (listed : Array Bool) (a : Act) (w : World) (h : wpAny P md ops Q g listed a w) : ∀ f : Nat, wpAny P md ops Q (f + g) listed a w
  | 0 => by rw [Nat.zero_add]; exact h
  | f + 1 => by rw [show f + 1 + g = f + g + 1 by omega]; exact wpAny_more _ _ _ _ (wpAny_add g listed a w h f)

/-- The head is the region's beginning; its edges lead back; it has no guards. -/
structure Heads (md : Region.Mode) (ops hd : Array Oper) (n : Nat) : Prop where
  same : ∀ i, i < n → hd[i]? = ops[i]?
  size : hd.size = n
  lt : n < ops.size
  edge : ∀ (i : Nat) (o : Oper), hd[i]? = some o → ∀ e ∈ o.after, Region.binds md e = true → e.on < i
  guard : ∀ (i : Nat) (o : Oper), hd[i]? = some o → o.guard = none
  sink : Region.sinkB md ops n = true
  chain : Region.chainB md ops n = true

theorem all_listed (H : Heads md ops hd n) {listed : Array Bool} (hsz : listed.size = n) (hr : Region.ready md hd listed = []) : ∀ i, i < n → listed.getD i false = true := by
  intro i
  induction i using Nat.strongRecOn with
  | _ i ih =>
    intro hi
    cases hl : listed.getD i false with
    | true => rfl
    | false =>
      exfalso
      have hlt : i < hd.size := by rw [H.size]; exact hi
      have hm : i ∈ Region.ready md hd listed := mem_ready.2 ⟨getD_in (by omega) hl, hd[i], Array.getElem?_eq_getElem hlt, fun e he hb =>
        have hlt' := H.edge i hd[i] (Array.getElem?_eq_getElem hlt) e he hb
        ih e.on hlt' (by omega)⟩
      rw [hr] at hm
      cases hm

theorem head_any (H : Heads md ops hd n) {g : Nat} {Q : Act → Prop} {Q' : Exit → Act → World → Prop}
    (hT : ∀ listed a w, HeadInv md ops n listed → (∀ i, i < n → listed.getD i false = true) → C w → Q a → wpAny P md ops Q' g listed a w) :
    ∀ (f : Nat) (listed listed' : Array Bool) (a : Act) (w : World), HeadInv md ops n listed → listed'.size = n → (∀ i, i < n → ∀ d, listed'.getD i d = listed.getD i d) → C w →
      wpAnyQ P md hd C Q f listed' a → wpAny P md ops Q' (f + g) listed a w := by
  intro f
  induction f with
  | zero =>
    intro listed listed' a w inv hsz hsame hw h
    rw [Nat.zero_add]
    exact hT listed a w inv (fun i hi => by rw [← hsame i hi]; exact all_listed H hsz h.1 i hi) hw h.2
  | succ f ih =>
    intro listed listed' a w inv hsz hsame hw h
    cases hr : Region.ready md hd listed' with
    | nil =>
      exact wpAny_add _ _ _ _ (hT listed a w inv (fun i hi => by rw [← hsame i hi]; exact all_listed H hsz hr i hi) hw (h.1 hr)) (f + 1)
    | cons k ks =>
      have hk : k ∈ Region.ready md hd listed' := by rw [hr]; exact List.mem_cons_self
      obtain ⟨hkl, ok, hok, hkall⟩ := mem_ready.1 hk
      have hkn : k < n := by have := (Array.getElem?_eq_some_iff.1 hok).1; rw [H.size] at this; exact this
      have hku : listed.getD k true = false := by rw [← hsame k hkn]; exact hkl
      have hnone := tail_waits H.sink H.chain H.lt inv (n - k) k rfl hkn hku
      have hback : ∀ (i : Nat) (o : Oper), hd[i]? = some o → ∀ e ∈ o.after, Region.binds md e = true → e.on < n := fun i o ho e he hb => by
        have h1 := H.edge i o ho e he hb
        have h2 := (Array.getElem?_eq_some_iff.1 ho).1
        rw [H.size] at h2
        omega
      have hmem : ∀ i, i ∈ Region.ready md ops listed → i < n ∧ i ∈ Region.ready md hd listed' := by
        intro i hi
        have hin : i < n := by
          rcases Nat.lt_or_ge i n with h' | h'
          · exact h'
          · exact absurd hi (hnone i h')
        obtain ⟨h1, o, ho, hall⟩ := mem_ready.1 hi
        have ho' : hd[i]? = some o := by rw [H.same i hin]; exact ho
        exact ⟨hin, mem_ready.2 ⟨by rw [hsame i hin]; exact h1, o, ho', fun e he hb => by rw [hsame _ (hback i o ho' e he hb)]; exact hall e he hb⟩⟩
      have hkr : k ∈ Region.ready md ops listed := mem_ready.2 ⟨hku, ok, by rw [← H.same k hkn]; exact hok, fun e he hb => by rw [← hsame _ (hback k ok hok e he hb)]; exact hkall e he hb⟩
      rw [show f + 1 + g = (f + g) + 1 by omega]
      refine ⟨(fun h0 => by rw [h0] at hkr; cases hkr), fun i hi => ?_⟩
      obtain ⟨hin, hi'⟩ := hmem i hi
      obtain ⟨_, o, ho, _⟩ := mem_ready.1 hi'
      have hq := h.2 i hi'
      have hwant : ∀ y, Region.wanted o y = true := fun y => by simp [Region.wanted, H.guard i o ho]
      have ho2 : ops[i]? = some o := by rw [← H.same i hin]; exact ho
      unfold qOp at hq
      simp only [ho, hwant, if_true] at hq
      unfold wpOp
      simp only [ho2, hwant, if_true]
      refine .inl (Oper.wp_of_quiet hw (fun a' w' hw' hK => ?_) hq)
      refine ih _ _ a' w' (inv.set hi hin) (by simp [hsz]) (fun j hj d => ?_) hw' hK
      by_cases hij : i = j
      · subst hij
        simp [hsz, inv.size, hj, Nat.lt_trans hj H.lt]
      · rw [getD_set_ne d hij, getD_set_ne d hij]
        exact hsame j hj d

/-- Are the head's edges, guards right; is the tail forced? (By the kernel.) -/
def headsB (md : Region.Mode) (l : List Oper) (n : Nat) : Bool :=
  decide (n < l.length) && ((List.range n).all fun i => match l[i]? with | some o => o.guard.isNone && o.after.all (fun e => !Region.binds md e || decide (e.on < i)) | none => false) &&
  Region.sinkB md l.toArray n && Region.chainB md l.toArray n && Region.lexB md (l.take n).toArray &&
  Region.seqB md l.toArray (l.length - n) n ((List.replicate n true ++ List.replicate (l.length - n) false).toArray)

theorem heads_of {l : List Oper} (h : headsB md l n = true) : Heads md l.toArray (l.take n).toArray n := by
  simp only [headsB, Bool.and_eq_true, decide_eq_true_eq] at h
  obtain ⟨⟨⟨⟨⟨hn, hall⟩, hs⟩, hc⟩, _⟩, _⟩ := h
  have key : ∀ (i : Nat) (o : Oper), (l.take n).toArray[i]? = some o → o.guard = none ∧ ∀ e ∈ o.after, Region.binds md e = true → e.on < i := by
    intro i o ho
    have hi : i < n := by
      have := (Array.getElem?_eq_some_iff.1 ho).1
      simp at this; omega
    have ho' : l[i]? = some o := by
      have h2 : (l.take n)[i]? = some o := by simpa using ho
      rw [List.getElem?_take] at h2
      simpa [hi] using h2
    have h1 := List.all_eq_true.1 hall i (List.mem_range.2 hi)
    simp only [ho', Bool.and_eq_true, Option.isNone_iff_eq_none] at h1
    refine ⟨h1.1, fun e he hb => ?_⟩
    have h2 := Array.all_eq_true_iff_forall_mem.1 h1.2 e he
    simpa [hb] using h2
  exact ⟨fun i hi => by simp [hi], by simp; omega, by simpa using hn, fun i o ho => (key i o ho).2, fun i o ho => (key i o ho).1, hs, hc⟩

theorem wp_region_quiet_tail {id : Nat} {Q : Exit → Act → World → Prop} {a : Act} {w : World} {l : List Oper} (n : Nat) (C : World → Prop) (hm : P.follows .mixedOrders = true) (hB : headsB .any l n = true) (hC : C w.drew)
    (h : wpQuiet P (l.take n).toArray C (fun a' => ∀ w', C w' → wpList P l.toArray Q (l.drop n) a' w') (l.take n) a) : (Code.region id l.toArray true).wp P Q a w := by
  have H := heads_of hB
  simp only [headsB, Bool.and_eq_true, decide_eq_true_eq] at hB
  obtain ⟨⟨⟨⟨⟨hn, _⟩, _⟩, _⟩, hlex⟩, hseq⟩ := hB
  simp only [Region.lexB, Bool.and_eq_true] at hlex
  have hsz : (l.take n).toArray.size = n := by simp; omega
  have hq := wpAnyQ_lex (P := P) (C := C) (md := .any) (Q := fun a' => ∀ w', C w' → wpList P l.toArray Q (l.drop n) a' w') hlex.1 (l.take n) 0 (Array.replicate (l.take n).toArray.size false) a (by simp) (by simpa using hlex.2) h
  have hlen : (l.take n).length = n := by simp; omega
  rw [hlen] at hq
  refine wp_region_any hm ?_
  have inv0 : HeadInv .any l.toArray n (Array.replicate l.toArray.size false) :=
    ⟨by simp, fun j oj _ hl => (by rw [getD_replicate_false] at hl; cases hl), fun t _ ht => getD_in (by simpa using ht) (getD_replicate_false _ _)⟩
  have hfin := head_any (P := P) (C := C) H (g := l.length - n) (Q := fun a' => ∀ w', C w' → wpList P l.toArray Q (l.drop n) a' w') (Q' := Q)
    (fun listed a' w' inv hall hw' hQ => by
      have hl : listed = (List.replicate n true ++ List.replicate (l.length - n) false).toArray := by
        have hsz2 : listed.size = l.length := by simpa using inv.size
        apply Array.ext
        · simp [hsz2]; omega
        · intro i h1 h2
          by_cases hi : i < n
          · have := hall i hi
            simp [h1] at this
            rw [this]
            simp only [List.getElem_toArray]
            rw [List.getElem_append_left (by simpa using hi)]
            simp
          · have := inv.tail i (by omega) (by simpa [hsz2] using h1)
            simp [h1] at this
            rw [this]
            simp only [List.getElem_toArray]
            rw [List.getElem_append_right (by simp; omega)]
            simp
      have := wpAny_of_seq (P := P) (md := .any) (ops := l.toArray) (Q' := Q) (l.drop n) n listed a' w' (fun j => by simp [List.getElem?_drop]) (by rw [hl]; simpa using hseq) (hQ w' hw')
      simpa using this)
    n _ _ a w.drew inv0 (by simp [hsz]) (fun i hi d => by
      have h1 : i < l.length := by omega
      rw [hsz]
      simp [hi, h1]) hC hq
  rw [show n + (l.length - n) = l.toArray.size by simp; omega] at hfin
  exact hfin
end
end Corr
