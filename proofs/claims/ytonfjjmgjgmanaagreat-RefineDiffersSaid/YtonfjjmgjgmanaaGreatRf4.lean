/- Where two differ: there is one list of spans, as few as it goes. Plain. Contract of corrodyref12: Differ. (Written by wip/gen/genrf4.py.) -/
import Derived.Test.YtonfjjmgjgmanaaGreatRfCov
import Derived.Test.YtonfjjmgjgmanaaGreatRf3
import Derived.BigQuiet
namespace Corr
set_option maxRecDepth 8000
open Go Go.RowKit
set_option linter.unusedVariables false
section
variable {α : Type} {f : Int → α}
theorem covG_snoc {m t : Int} {v : α} (hmt : m < t) (hv : ∀ d, m ≤ d → d < t → f d = v) : ∀ {l : List (Int × Int × α)} {a : Int}, covG f a m l → (∀ s, l.getLast? = some s → ¬ v = s.2.2) → covG f a t (l ++ [(m, t, v)])
  | [], a, h, _ => by
    have e : a = m := h
    subst e
    exact ⟨rfl, hmt, hv, (fun _ h => by cases h), rfl⟩
  | [s], a, h, hl => by
    obtain ⟨h1, h2, h3, h4, h5⟩ := h
    have h5 : s.2.1 = m := h5
    refine ⟨h1, h2, h3, fun t' ht => ?_, h5.symm, hmt, hv, (fun _ h => by cases h), rfl⟩
    have : t' = (m, t, v) := by simpa using ht.symm
    subst this
    exact hl s rfl
  | s :: u :: r, a, h, hl => by
    obtain ⟨h1, h2, h3, h4, h5⟩ := h
    refine ⟨h1, h2, h3, fun t' ht => h4 t' (by simpa using ht), ?_⟩
    exact covG_snoc hmt hv h5 fun s' hs' => hl s' (by rw [List.getLast?_cons_cons]; exact hs')
theorem covG_ext {m t x : Int} {v : α} (hmt : m < t) (hv : ∀ d, m ≤ d → d < t → f d = v) : ∀ {l : List (Int × Int × α)} {a : Int}, covG f a m (l ++ [(x, m, v)]) → covG f a t (l ++ [(x, t, v)])
  | [], a, h => by
    obtain ⟨h1, h2, h3, h4, h5⟩ := h
    exact ⟨h1, by show x < t; have : x < m := h2; omega, fun d d1 d2 => by
      by_cases hd : d < m
      · exact h3 d d1 hd
      · exact hv d (by omega) d2, (fun _ h => by cases h), rfl⟩
  | s :: r, a, h => by
    obtain ⟨h1, h2, h3, h4, h5⟩ := h
    refine ⟨h1, h2, h3, fun t' ht => ?_, covG_ext hmt hv h5⟩
    cases r with
    | nil =>
      have : t' = (x, t, v) := by simpa using ht.symm
      subst this
      exact h4 (x, m, v) rfl
    | cons u r => exact h4 t' (by simpa using ht)
theorem last_snoc {β : Type} {r : List β} {x s : β} (h : (r ++ [x]).getLast? = some s) : s = x := by simpa using h.symm
theorem covG_last {m : Int} : ∀ {l : List (Int × Int × α)} {a : Int}, covG f a m l → ∀ s, l.getLast? = some s → s.2.1 = m ∧ s.1 < m ∧ a ≤ s.1 ∧ f s.1 = s.2.2
  | [], _, _, s, h => by cases h
  | [s], a, h, u, hu => by
    obtain ⟨h1, h2, h3, h4, h5⟩ := h
    have : s = u := by simpa using hu
    subst this
    have h5 : s.2.1 = m := h5
    exact ⟨h5, by omega, by omega, h3 s.1 (Int.le_refl _) h2⟩
  | s :: t :: r, a, h, u, hu => by
    obtain ⟨h1, h2, h3, h4, h5⟩ := h
    rw [List.getLast?_cons_cons] at hu
    obtain ⟨k1, k2, k3, k4⟩ := covG_last h5 u hu
    exact ⟨k1, k2, by omega, k4⟩
theorem covG_in {m : Int} : ∀ {l : List (Int × Int × α)} {a : Int}, covG f a m l → ∀ s ∈ l, a ≤ s.1 ∧ s.1 < s.2.1 ∧ s.2.1 ≤ m
  | [], _, _, s, h => by cases h
  | s :: r, a, h, u, hu => by
    obtain ⟨h1, h2, h3, h4, h5⟩ := h
    have hl := covG_le h5
    rcases List.mem_cons.1 hu with rfl | hu
    · exact ⟨by omega, h2, by omega⟩
    · obtain ⟨k1, k2, k3⟩ := covG_in h5 u hu
      exact ⟨by omega, k2, k3⟩
end
/-- The spans of what is true. -/
def difL (bs : List (Int × Int × Bool)) : SpL := (bs.filter (·.2.2)).map fun s => (s.1, s.2.1)
theorem difL_snoc (l : List (Int × Int × Bool)) (s : Int × Int × Bool) : difL (l ++ [s]) = if s.2.2 = true then difL l ++ [(s.1, s.2.1)] else difL l := by
  unfold difL
  rw [List.filter_append]
  cases h : s.2.2 <;> simp [h]
theorem difL_mem {l : List (Int × Int × Bool)} {s : Int × Int} (h : s ∈ difL l) : ∃ u ∈ l, s = (u.1, u.2.1) := by
  unfold difL at h
  obtain ⟨u, hu, rfl⟩ := List.mem_map.1 h
  exact ⟨u, (List.mem_filter.1 hu).1, rfl⟩
/-- What Differ tells: the days of a span at which two are unlike. -/
def difS (f g : Int → Int) (a b : Int) (out : SpL) : Prop := if mayB a b = true then ∃ bs, covG (fun d => decide (f d ≠ g d)) a b bs ∧ out = difL bs else out = []
theorem difS_one {f g : Int → Int} {a b : Int} {l m : SpL} (h : difS f g a b l) (h' : difS f g a b m) : l = m := by
  unfold difS at h h'
  split at h
  · rename_i hm
    rw [if_pos hm] at h'
    obtain ⟨p, hp, rfl⟩ := h
    obtain ⟨q, hq, rfl⟩ := h'
    rw [covG_one hp hq]
  · rename_i hm
    rw [if_neg hm] at h'
    rw [h, h']
/-- Up to a day: the spans so far. -/
def difI (f g : Int → Int) (a m : Int) (out : SpL) : Prop := ∃ bs, covG (fun d => decide (f d ≠ g d)) a m bs ∧ out = difL bs
section
variable {f g : Int → Int} {a m t : Int} {out : SpL}
theorem difI.start : difI f g a a [] := ⟨[], rfl, rfl⟩
theorem snoc_cases {α : Type} (l : List α) : l = [] ∨ ∃ r x, l = r ++ [x] := by
  rcases List.eq_nil_or_concat l with h | ⟨r, x, h⟩
  · exact .inl h
  · exact .inr ⟨r, x, by simpa using h⟩
/-- A piece on which they are alike. -/
theorem difI.same (h : difI f g a m out) (hmt : m < t) (hv : ∀ d, m ≤ d → d < t → f d = g d) : difI f g a t out := by
  obtain ⟨bs, hc, rfl⟩ := h
  have hv' : ∀ d, m ≤ d → d < t → (fun d => decide (f d ≠ g d)) d = false := fun d h1 h2 => by simp [hv d h1 h2]
  rcases snoc_cases bs with rfl | ⟨r, ⟨x, m', v⟩, rfl⟩
  · exact ⟨[] ++ [(m, t, false)], covG_snoc hmt hv' hc (fun _ h => by cases h), rfl⟩
  · obtain ⟨h1, _⟩ := covG_last hc (x, m', v) (by simp)
    have h1 : m' = m := h1
    subst h1
    cases v with
    | false => exact ⟨_, covG_ext hmt hv' hc, by rw [difL_snoc, difL_snoc]; rfl⟩
    | true => exact ⟨_, covG_snoc hmt hv' hc (fun s hs => by rw [last_snoc hs]; exact fun h => by cases h), by rw [difL_snoc (r ++ [(x, m', true)])]; rfl⟩
/-- A piece on which they are unlike, behind another one. -/
theorem difI.more {l : SpL} {x : Int} (h : difI f g a m (l ++ [(x, m)])) (hmt : m < t) (hv : ∀ d, m ≤ d → d < t → f d ≠ g d) : difI f g a t (l ++ [(x, t)]) := by
  obtain ⟨bs, hc, he⟩ := h
  have hv' : ∀ d, m ≤ d → d < t → (fun d => decide (f d ≠ g d)) d = true := fun d h1 h2 => by simp [hv d h1 h2]
  rcases snoc_cases bs with rfl | ⟨r, ⟨y, m', v⟩, rfl⟩
  · simp [difL] at he
  · obtain ⟨h1, h2, _⟩ := covG_last hc (y, m', v) (by simp)
    have h1 : m' = m := h1
    have h2 : y < m := h2
    subst h1
    rw [difL_snoc] at he
    cases v with
    | false =>
      have he : l ++ [(x, m')] = difL r := he
      exfalso
      obtain ⟨u, hu, e⟩ := difL_mem (l := r) (s := (x, m')) (by rw [← he]; simp)
      have hin : ∀ {r : List (Int × Int × Bool)} {a : Int}, covG (fun d => decide (f d ≠ g d)) a m' (r ++ [(y, m', false)]) → ∀ u ∈ r, u.2.1 ≤ y := by
        intro r
        induction r with
        | nil => intro a _ u hu; cases hu
        | cons s r ih =>
          intro a h u hu
          obtain ⟨k1, k2, k3, k4, k5⟩ := h
          rcases List.mem_cons.1 hu with rfl | hu
          · exact (covG_in k5 (y, m', false) (by simp)).1
          · exact ih k5 u hu
      have := hin hc u hu
      have e : m' = u.2.1 := congrArg Prod.snd e
      omega
    | true =>
      have he : l ++ [(x, m')] = difL r ++ [(y, m')] := he
      obtain ⟨e1, e2⟩ := List.append_inj' he rfl
      have e2 : x = y := by simpa using e2
      subst e1 e2
      exact ⟨_, covG_ext hmt hv' hc, by rw [difL_snoc]; rfl⟩
/-- A piece on which they are unlike, alone. -/
theorem difI.new (h : difI f g a m out) (hl : ∀ s, out.getLast? = some s → ¬ s.2 = m) (hmt : m < t) (hv : ∀ d, m ≤ d → d < t → f d ≠ g d) : difI f g a t (out ++ [(m, t)]) := by
  obtain ⟨bs, hc, rfl⟩ := h
  have hv' : ∀ d, m ≤ d → d < t → (fun d => decide (f d ≠ g d)) d = true := fun d h1 h2 => by simp [hv d h1 h2]
  rcases snoc_cases bs with rfl | ⟨r, ⟨y, m', v⟩, rfl⟩
  · exact ⟨[] ++ [(m, t, true)], covG_snoc hmt hv' hc (fun _ h => by cases h), rfl⟩
  · obtain ⟨h1, _⟩ := covG_last hc (y, m', v) (by simp)
    have h1 : m' = m := h1
    subst h1
    cases v with
    | true =>
      exfalso
      refine hl (y, m') ?_ rfl
      rw [difL_snoc]; simp
    | false => exact ⟨_, covG_snoc hmt hv' hc (fun s hs => by rw [last_snoc hs]; exact fun h => by cases h), by rw [difL_snoc (r ++ [(y, m', false)])]; rfl⟩
end
/-- What a call leaves that tells where two differ. -/
def RetDif (T : TypeId) (w : World) (f g : Int → Int) (a b : Int) (e : Ending) (w' : World) : Prop := ∃ out A n c, e = .returned (.slice A n c) ∧ difS f g a b out ∧ w'.ownsRow w.heap.size T 2 (.slice A n c) n (cells2 out) ∧ Below w.heap.size w w'
end Corr
namespace Corr
set_option maxRecDepth 8000
open Go Go.RowKit
set_option linter.unusedVariables false
theorem cellsP_at : ∀ {l : List PtQ} {i : Nat} {q : PtQ}, l[i]? = some q → (cellsP l)[i * 3]? = some (.int .i64 q.1) ∧ (cellsP l)[i * 3 + 1]? = some (.int .i64 q.2.1) ∧ (cellsP l)[i * 3 + 2]? = some q.2.2
  | [], _, _, h => by simp at h
  | s :: r, 0, q, h => by
    obtain rfl : s = q := by simpa using h
    exact ⟨rfl, rfl, rfl⟩
  | s :: r, i + 1, q, h => by
    have := cellsP_at (l := r) (i := i) (q := q) (by simpa using h)
    rw [show (i + 1) * 3 = i * 3 + 1 + 1 + 1 by omega]
    exact this
theorem cells2_setD : ∀ {l : SpL} {x e t : Int}, (cells2 (l ++ [(x, e)])).set (l.length * 2 + 1) (.int .i64 t) = cells2 (l ++ [(x, t)])
  | [], _, _, _ => rfl
  | s :: r, x, e, t => by
    have := cells2_setD (l := r) (x := x) (e := e) (t := t)
    rw [List.length_cons, show (r.length + 1) * 2 + 1 = r.length * 2 + 1 + 1 + 1 by omega]
    simp only [List.cons_append, cells2, List.set_cons_succ]
    rw [this]
theorem difI_le {f g : Int → Int} {a m : Int} {out : SpL} (h : difI f g a m out) : a + (out.length : Int) ≤ m := by
  obtain ⟨bs, hc, rfl⟩ := h
  have h1 := covG_le hc
  have h2 : (difL bs).length ≤ bs.length := by unfold difL; rw [List.length_map]; exact List.length_filter_le _ _
  omega
theorem drop_at {α : Type} {l : List α} {i : Nat} {x : α} (h : l[i]? = some x) : l.drop i = x :: l.drop (i + 1) := by
  have hi := (List.getElem?_eq_some_iff.1 h).1
  rw [List.drop_eq_getElem_cons hi, (List.getElem?_eq_some_iff.1 h).2]
end Corr
namespace Go.Proofs.YtonfjjmgjgmanaaGreat
set_option maxRecDepth 8000
open Go.RowKit Corr
set_option linter.unusedVariables false
set_option linter.unusedSimpArgs false
set_option maxHeartbeats 8000000 in
theorem differ_any (g h n1 c1 n2 c2 : Nat) (A1 A2 : Option Addr) (l m : ItL) (a b : Int) (w : World) (T1 : RTl w g A1 n1 c1 l) (T2 : RTl w h A2 n2 c2 m) (hn1 : n1 ≤ 100000) (hn2 : n2 ≤ 100000) : Calls Tryz.prog 9 #[.pointer (some ⟨g, 0, none⟩), .pointer (some ⟨h, 0, none⟩), .agg #[.int .i64 a, .int .i64 b]] w (RetDif 24 w (atL l) (atL m) a b) := by
  have hb0 := (Below.refl w.heap.size w).alloc (Nat.le_refl _) (.cells #[.int .i64 a, .int .i64 b] 24)
  have hb1 := Joins.below_alloc2 w (.cells #[.int .i64 a, .int .i64 b] 24) (.cells #[.pointer (some ⟨g, 0, none⟩), .pointer (some ⟨h, 0, none⟩)] 28)
  have hx := Blk.new w #[.int .i64 a, .int .i64 b] 24
  have x0 := hx.get 0 rfl
  have x1 := hx.get 1 rfl
  have hv := Blk.new (w.alloc (.cells #[.int .i64 a, .int .i64 b] 24)) #[.pointer (some ⟨g, 0, none⟩), .pointer (some ⟨h, 0, none⟩)] 28
  simp only [size_alloc] at hv
  have HP := Lib.hid (parts_any (some ⟨w.heap.size + 1, 0, none⟩) 2 2 [g, h] [l, m] a b _ (show TlsR _ _ _ _ _ _ from ⟨⟨rfl, Nat.le_refl _, fun _ => ⟨w.heap.size + 1, 0, rfl, hv.sz, fun i v hi => by
      have := hv.get i (v := v) (by simpa using hi)
      simpa using this⟩⟩, rfl, fun i g' l' h1 h2 => by
      match i, h1, h2 with
      | 0, h1, h2 =>
        obtain rfl : g = g' := by simpa using h1
        obtain rfl : l = l' := by simpa using h2
        exact ⟨_, _, _, T1.keep hb1, hn1⟩
      | 1, h1, h2 =>
        obtain rfl : h = g' := by simpa using h1
        obtain rfl : m = l' := by simpa using h2
        exact ⟨_, _, _, T2.keep hb1, hn2⟩
      | i + 2, h1, h2 => simp at h1⟩) (by omega))
  have HB1 := Lib.hid hb1
  clear T1 T2 hb0 hb1 hx hv hn1 hn2
  go_enter Tryz.func9, Tryz.ntmps9
  go_wp2_with fail
  refine HP.out.mono ?_
  clear HP
  rintro e w3 ⟨qs, ps, A, nP, cP, rfl, hps, ho, hin, hb⟩
  have HPS := Lib.hid hps
  have HO := Lib.hid ho
  have HIN := Lib.hid hin
  have HB3 := Lib.hid (HB1.out.trans (hb.mono HB1.out.size))
  have HLN := Lib.hid (show qs.length = nP from by have := (own_lies ho).len; rw [cellsP_len] at this; omega)
  obtain ⟨B3, hB3⟩ : ∃ B, w3.heap.size = B := ⟨_, rfl⟩
  have HB3E := Lib.hid hB3
  clear hps ho hin hb HB1 x0 x1 hB3
  by_cases hm : mayB a b = true
  · have HF := Lib.hid (show covG (fun d => [l, m].map (atL · d)) a b ps by have := HPS.out; unfold partsS at this; rwa [if_pos hm] at this)
    have HMM := Lib.hid (mayB_iff.1 hm)
    have HNP := Lib.hid (show nP ≤ 3652060 by have h1 := covG_le HF.out; have h2 := HMM.out; have h3 := HIN.out.len; have h4 := HLN.out; omega)
    go_wp2_with fail
    go_loopw [7, 9] (fun v z wr => ∃ (i nO cO : Nat) (AO : Option Addr) (out : SpL) (mm : Int), v = .slice AO nO cO ∧ z = .int .i64 (i : Int) ∧ i ≤ nP ∧ wr.ownsRow B3 24 2 (.slice AO nO cO) nO (cells2 out) ∧ Hid (covG (fun d => [l, m].map (atL · d)) mm b (ps.drop i)) ∧ Hid (difI (atL l) (atL m) a mm out) ∧ Hid (Below w3.heap.size w3 wr)) (fun _ z _ => (nP - intOf z).toNat)
    case atStart => exact ⟨0, 0, 0, none, [], a, rfl, rfl, Nat.zero_le _, World.ownsRow_nil _ _ _ _, by rw [List.drop_zero]; exact HF, Lib.hid difI.start, Lib.hid (Below.refl _ _)⟩
    case round =>
      obtain ⟨i, nO, cO, AO, out, mm, rfl, rfl, hi, hown, HC, HD, HBW⟩ := hrel
      have HNPV := HNP.out
      by_cases hlt : i < nP
      · obtain ⟨q, hq⟩ : ∃ q, qs[i]? = some q := ⟨_, List.getElem?_eq_getElem (by rw [HLN.out]; exact hlt)⟩
        obtain ⟨p, hp⟩ : ∃ p, ps[i]? = some p := ⟨_, List.getElem?_eq_getElem (by rw [← HIN.out.len, HLN.out]; exact hlt)⟩
        obtain ⟨i1, i2, AV, nV, cV, i3, hnum⟩ := HIN.out.each i q p hq hp
        obtain ⟨q1, q2, q3⟩ := q
        obtain ⟨p1, p2, pv⟩ := p
        have i1 : q1 = p1 := i1
        have i2 : q2 = p2 := i2
        have i3 : q3 = .slice AV nV cV := i3
        subst i1 i2 i3
        have hcov := HC.out
        rw [drop_at hp] at hcov
        obtain ⟨k1, k2, k3, k4, k5⟩ := hcov
        have k1 : q1 = mm := k1
        subst k1
        have k2 : q1 < q2 := k2
        have hpv : pv = [atL l q1, atL m q1] := (k3 q1 (Int.le_refl _) k2).symm
        subst hpv
        have HK3 := Lib.hid (show ∀ d, q1 ≤ d → d < q2 → [atL l d, atL m d] = [atL l q1, atL m q1] from k3)
        have HK5 := Lib.hid (show covG (fun d => [l, m].map (atL · d)) q2 b (ps.drop (i + 1)) from k5)
        obtain ⟨u1, hu1⟩ : ∃ u, atL l q1 = u := ⟨_, rfl⟩
        obtain ⟨u2, hu2⟩ : ∃ u, atL m q1 = u := ⟨_, rfl⟩
        rw [hu1, hu2] at hnum HK3
        have hlies := (own_lies HO.out).keep HBW.out
        obtain ⟨gp, off, rfl, hgp, hcell⟩ := hlies.at_ (by omega)
        obtain ⟨cc0, cc1, cc2⟩ := cellsP_at hq
        have c0 := hcell _ _ cc0
        have c1 := hcell _ _ cc1
        have c2 := hcell _ _ cc2
        rw [← Nat.add_assoc] at c1 c2
        have hnV : nV = 2 := by have := hnum.count; simpa using this.symm
        subst hnV
        obtain ⟨gv, ov, z1, rfl, hz1, hgv, v0⟩ := Nums.get (hnum.keep HBW.out) (k := 0) (by omega)
        obtain ⟨gv', ov', z2, hA, hz2, _, v1⟩ := Nums.get (hnum.keep HBW.out) (k := 1) (by omega)
        injection hA with hA
        injection hA with e1 e2 _
        subst e1 e2
        obtain rfl : u1 = z1 := by simpa using hz1
        obtain rfl : u2 = z2 := by simpa using hz2
        rw [Nat.add_zero] at v0
        have hcV : (2 : Nat) ≤ cV := hnum.cap
        have d0 : decide ((i : Int) < (nP : Int)) = true := decide_eq_true (by omega)
        have j0 : decide ((i : Int) < 0) = false := decide_eq_false (by omega)
        have j1 : (0 : Int) ≤ (i : Int) := by omega
        have j2 : (i : Int) < (nP : Int) := by omega
        have j3 : ((i : Int)).toNat = i := by omega
        have HU := Lib.hid (show atL l q1 = u1 ∧ atL m q1 = u2 from ⟨hu1, hu2⟩)
        have HK2 := Lib.hid k2
        clear hq hp k3 k4 k5 hnum hlies hcell cc0 cc1 cc2 hz1 hz2 hu1 hu2 k2 i1 i2
        by_cases hv : u1 = u2
        · have e1 : (u1 == u2) = true := by simpa using hv
          have HD2 := Lib.hid (HD.out.same HK2.out (fun d h1 h2 => by have := HK3.out d h1 h2; simp at this; omega))
          clear hv
          go_upto_region 6 with fail
          go_quiet (fail)
          have hdr := Joins.below_draws wr.heap.size wr nq
          have hownq := own_keep hown hdr
          have HBQ := Lib.hid (HBW.out.trans (hdr.mono HBW.out.size))
          have k0 := (Below.cell hdr hgp).trans c0
          have k1 := (Below.cell (p := ⟨gp, off + i * 3 + 1, none⟩) hdr hgp).trans c1
          have hgpq : gp < (wr.drewN nq).heap.size := Nat.lt_of_lt_of_le hgp hdr.size
          generalize wr.drewN nq = wq at *
          clear c0 c1 c2 v0 v1 hown hdr
          go_wp2_with fail
          go_roundw
          case rel => exact ⟨i + 1, nO, cO, AO, out, q2, rfl, by go_num, by omega, hownq, HK5, HD2, HBQ⟩
          case measure => simp [intOf]; omega
        · have e1 : (u1 == u2) = false := by simpa using hv
          have HNE := Lib.hid (show ∀ d, q1 ≤ d → d < q2 → atL l d ≠ atL m d from fun d h1 h2 => by have := HK3.out d h1 h2; simp at this; omega)
          have HDL := Lib.hid (show out.length ≤ 3652060 by have h1 := difI_le HD.out; have h2 := covG_le HK5.out; have h3 := HMM.out; have h4 := HK2.out; omega)
          have HLO := Lib.hid (show out.length = nO from by have := hown.1; rw [cells2_len] at this; omega)
          clear hv
          rcases snoc_cases out with rfl | ⟨r, ⟨x, e⟩, rfl⟩
          · have hn0 : nO = 0 := HLO.out.symm
            subst hn0
            have HD2 := Lib.hid (HD.out.new (fun _ h => by cases h) HK2.out HNE.out)
            have HLEN := Lib.hid (show 0 ≤ 3652060 from Nat.zero_le _)
            go_upto_region 6 with fail
            go_quiet (fail)
            have hdr := Joins.below_draws wr.heap.size wr nq
            have hownq := own_keep hown hdr
            have HBQ := Lib.hid (HBW.out.trans (hdr.mono HBW.out.size))
            have k0 := (Below.cell hdr hgp).trans c0
            have k1 := (Below.cell (p := ⟨gp, off + i * 3 + 1, none⟩) hdr hgp).trans c1
            have hgpq : gp < (wr.drewN nq).heap.size := Nat.lt_of_lt_of_le hgp hdr.size
            generalize wr.drewN nq = wq at *
            clear c0 c1 c2 v0 v1 hown hdr
            go_upto_region 8 with fail
            go_quiet (fail)
            have hdr := Joins.below_draws wq.heap.size wq nq
            have hown8 := own_keep hownq hdr
            have HB8 := Lib.hid (HBQ.out.trans (hdr.mono HBQ.out.size))
            have e0 := (Below.cell hdr hgpq).trans k0
            have e1' := (Below.cell (p := ⟨gp, off + i * 3 + 1, none⟩) hdr hgpq).trans k1
            generalize wq.drewN nq = w8 at *
            clear k0 k1 hownq hdr
            go_upto_region 10 with fail
            have HOB := Lib.hid (own_ge hown8)
            have hszq : B3 ≤ w8.heap.size := by have := HB8.out.size; have := HB3E.out; omega
            have HOA := Lib.hid ((hown8.alloc (.cells #[.int .i64 q1, .int .i64 q2] 24)).drew)
            have HBA := Lib.hid ((HB8.out.alloc (by have := HB3E.out; omega) (.cells #[.int .i64 q1, .int .i64 q2] 24)).drew)
            have HSZ := Lib.hid hszq
            have hlen := HLEN.out
            clear hszq hown8
            go_region_law (first
              | (refine step_app (by rfl) _ _ 32 (by rfl) [.int .i64 q1, .int .i64 q2] elem_span12 (by rfl) HOA.out (by rfl) (by rfl) (fun _ => ⟨_, rfl, new_cells w8 [.int .i64 q1, .int .i64 q2] 24⟩) (ints_one [q1, q2]) (by omega) (by unfold maxLen; omega) (by have := HSZ.out; simp; omega) ?_; intro v1 w1 hown1 hgrow1))
            all_goals
              have HB9 := Lib.hid (HBA.out.grown hgrow1 (by have := HSZ.out; have := HB3E.out; simp; omega) (by intro k hk; have := HOB.out k hk; have := HB3E.out; omega))
              obtain ⟨A9, d9, rfl, _⟩ := Lies.of_own hown1 (by have := hown1.1; exact this)
              have HO9 := Lib.hid (show w1.ownsRow B3 24 2 (.slice A9 (0 + 1) d9) (0 + 1) (cells2 ([] ++ [(q1, q2)])) by first | (rw [cells2_append]; exact hown1) | simpa [cells2] using hown1)
              clear hown1 hgrow1 HOA HBA
              go_wp2_with fail
              go_roundw
              case rel => exact ⟨i + 1, 0 + 1, d9, A9, [] ++ [(q1, q2)], q2, rfl, by go_num, by omega, HO9.out, HK5, HD2, HB9⟩
              case measure => simp [intOf]; omega
          · obtain ⟨k, hk⟩ : ∃ k, r.length = k := ⟨_, rfl⟩
            have hn0 : nO = k + 1 := by rw [← HLO.out, List.length_append, hk]; rfl
            subst hn0
            rcases Joins.ownsRow_forms hown with ⟨_, h0⟩ | ⟨g3, d3, hv3⟩
            · cases h0
            · injection hv3 with a1 _ a3
              subst a1 a3
              have hs : (r ++ [(x, e)])[k]? = some (x, e) := by rw [← hk]; simp
              have HLEN := Lib.hid (show k + 1 ≤ 3652060 by have := HDL.out; rw [List.length_append, hk] at this; exact this)
              have HKL := Lib.hid hk
              have wk : IntKind.i64.wrap (k : Int) = (k : Int) := IntWalk.i64_in _ (by have := HLEN.out; omega)
              have wk0 : decide ((k : Int) < 0) = false := decide_eq_false (by omega)
              have wk1 : (0 : Int) ≤ (k : Int) := by omega
              have wk2 : (k : Int) < (k : Int) + 1 := by omega
              have wk3 : ((k : Int)).toNat = k := by omega
              have c3 : wr.cell? ⟨g3, k * 2, none⟩ = some (.int .i64 x) := by rw [hown.cellAt _ (by omega)]; exact cells2_0 hs
              have c4 : wr.cell? ⟨g3, k * 2 + 1, none⟩ = some (.int .i64 e) := by rw [hown.cellAt _ (by omega)]; exact cells2_1 hs
              have hg3 : g3 < wr.heap.size := own_lt hown rfl
              clear hs hk
              by_cases p1 : e = q1
              · have d1 : (e == q1) = true := by simpa using p1
                subst p1
                have HD2 := Lib.hid (HD.out.more HK2.out HNE.out)
                go_upto_region 6 with fail
                go_quiet (fail)
                have hdr := Joins.below_draws wr.heap.size wr nq
                have hownq := own_keep hown hdr
                have HBQ := Lib.hid (HBW.out.trans (hdr.mono HBW.out.size))
                have k0 := (Below.cell hdr hgp).trans c0
                have k1 := (Below.cell (p := ⟨gp, off + i * 3 + 1, none⟩) hdr hgp).trans c1
                have hgpq : gp < (wr.drewN nq).heap.size := Nat.lt_of_lt_of_le hgp hdr.size
                have hdr3 := hdr
                generalize wr.drewN nq = wq at *
                have y3 := (Below.cell (p := ⟨g3, k * 2, none⟩) hdr3 hg3).trans c3
                have y4 := (Below.cell (p := ⟨g3, k * 2 + 1, none⟩) hdr3 hg3).trans c4
                have hg3q : g3 < wq.heap.size := Nat.lt_of_lt_of_le hg3 hdr3.size
                clear c3 c4 c0 c1 c2 v0 v1 hown hdr hdr3
                go_upto_region 8 with fail
                go_quiet (fail)
                have hdr := Joins.below_draws wq.heap.size wq nq
                have hown8 := own_keep hownq hdr
                have HB8 := Lib.hid (HBQ.out.trans (hdr.mono HBQ.out.size))
                have e0 := (Below.cell hdr hgpq).trans k0
                have e1' := (Below.cell (p := ⟨gp, off + i * 3 + 1, none⟩) hdr hgpq).trans k1
                have hdr8 := hdr
                generalize wq.drewN nq = w8 at *
                have y3' := (Below.cell (p := ⟨g3, k * 2, none⟩) hdr8 hg3q).trans y3
                have y4' := (Below.cell (p := ⟨g3, k * 2 + 1, none⟩) hdr8 hg3q).trans y4
                clear y3 y4 k0 k1 hownq hdr hdr8
                have f1 : w8.frozen? ⟨g3, k * 2 + 1, none⟩ = false := hown8.frozenAt _
                have HST := hown8.stored (k * 2 + 1) (.int .i64 q2)
                have HO9 := Lib.hid (show (w8.setCell ⟨g3, k * 2 + 1, none⟩ (.int .i64 q2)).ownsRow B3 24 2 (.slice (some ⟨g3, 0, none⟩) (k + 1) cO) (k + 1) (cells2 (r ++ [(x, q2)])) by rw [← cells2_setD (e := e), HKL.out]; exact HST.1)
                have HB9 := Lib.hid (HB8.out.setCell (p := ⟨g3, k * 2 + 1, none⟩) (by have := own_ge hown8 g3 rfl; have := HB3E.out; show w3.heap.size ≤ g3; omega) (.int .i64 q2))
                clear HST hown8
                go_wp2_with fail
                go_roundw
                case rel => exact ⟨i + 1, k + 1, cO, some ⟨g3, 0, none⟩, r ++ [(x, q2)], q2, rfl, by go_num, by omega, HO9.out, HK5, HD2, HB9⟩
                case measure => simp [intOf]; omega
              · have d1 : (e == q1) = false := by simpa using p1
                have HD2 := Lib.hid (HD.out.new (fun s hs => by rw [last_snoc hs]; exact p1) HK2.out HNE.out)
                clear p1
                go_upto_region 6 with fail
                go_quiet (fail)
                have hdr := Joins.below_draws wr.heap.size wr nq
                have hownq := own_keep hown hdr
                have HBQ := Lib.hid (HBW.out.trans (hdr.mono HBW.out.size))
                have k0 := (Below.cell hdr hgp).trans c0
                have k1 := (Below.cell (p := ⟨gp, off + i * 3 + 1, none⟩) hdr hgp).trans c1
                have hgpq : gp < (wr.drewN nq).heap.size := Nat.lt_of_lt_of_le hgp hdr.size
                have hdr3 := hdr
                generalize wr.drewN nq = wq at *
                have y3 := (Below.cell (p := ⟨g3, k * 2, none⟩) hdr3 hg3).trans c3
                have y4 := (Below.cell (p := ⟨g3, k * 2 + 1, none⟩) hdr3 hg3).trans c4
                have hg3q : g3 < wq.heap.size := Nat.lt_of_lt_of_le hg3 hdr3.size
                clear c3 c4 c0 c1 c2 v0 v1 hown hdr hdr3
                go_upto_region 8 with fail
                go_quiet (fail)
                have hdr := Joins.below_draws wq.heap.size wq nq
                have hown8 := own_keep hownq hdr
                have HB8 := Lib.hid (HBQ.out.trans (hdr.mono HBQ.out.size))
                have e0 := (Below.cell hdr hgpq).trans k0
                have e1' := (Below.cell (p := ⟨gp, off + i * 3 + 1, none⟩) hdr hgpq).trans k1
                generalize wq.drewN nq = w8 at *
                clear y3 y4 k0 k1 hownq hdr
                go_upto_region 10 with fail
                have HOB := Lib.hid (own_ge hown8)
                have hszq : B3 ≤ w8.heap.size := by have := HB8.out.size; have := HB3E.out; omega
                have HOA := Lib.hid ((hown8.alloc (.cells #[.int .i64 q1, .int .i64 q2] 24)).drew)
                have HBA := Lib.hid ((HB8.out.alloc (by have := HB3E.out; omega) (.cells #[.int .i64 q1, .int .i64 q2] 24)).drew)
                have HSZ := Lib.hid hszq
                have hlen := HLEN.out
                clear hszq hown8
                go_region_law (first
                  | (refine step_app (by rfl) _ _ 32 (by rfl) [.int .i64 q1, .int .i64 q2] elem_span12 (by rfl) HOA.out (by rfl) (by rfl) (fun _ => ⟨_, rfl, new_cells w8 [.int .i64 q1, .int .i64 q2] 24⟩) (ints_one [q1, q2]) (by omega) (by unfold maxLen; omega) (by have := HSZ.out; simp; omega) ?_; intro v1 w1 hown1 hgrow1))
                all_goals
                  have HB9 := Lib.hid (HBA.out.grown hgrow1 (by have := HSZ.out; have := HB3E.out; simp; omega) (by intro k hk; have := HOB.out k hk; have := HB3E.out; omega))
                  obtain ⟨A9, d9, rfl, _⟩ := Lies.of_own hown1 (by have := hown1.1; exact this)
                  have HO9 := Lib.hid (show w1.ownsRow B3 24 2 (.slice A9 ((k + 1) + 1) d9) ((k + 1) + 1) (cells2 ((r ++ [(x, e)]) ++ [(q1, q2)])) by first | (rw [cells2_append]; exact hown1) | simpa [cells2] using hown1)
                  clear hown1 hgrow1 HOA HBA
                  go_wp2_with fail
                  go_roundw
                  case rel => exact ⟨i + 1, (k + 1) + 1, d9, A9, (r ++ [(x, e)]) ++ [(q1, q2)], q2, rfl, by go_num, by omega, HO9.out, HK5, HD2, HB9⟩
                  case measure => simp [intOf]; omega
      · have hik : i = nP := by omega
        have HDD := Lib.hid (show difI (atL l) (atL m) a b out by
          have h1 := HC.out
          rw [List.drop_eq_nil_of_le (by rw [← HIN.out.len, HLN.out]; omega)] at h1
          have h1 : mm = b := h1
          rw [← h1]; exact HD.out)
        have HWW := Lib.hid (show Below w.heap.size w wr from HB3.out.trans (HBW.out.mono HB3.out.size))
        have hB3w : w.heap.size ≤ B3 := by rw [← HB3E.out]; exact HB3.out.size
        have d0 : decide ((i : Int) < (nP : Int)) = false := decide_eq_false (by omega)
        go_wp2_with fail
        refine bodyPost_ret (results_tmp rfl _ _ _) rfl ?_
        exact ⟨out, AO, nO, cO, rfl, by unfold difS; rw [if_pos hm]; exact HDD.out, own_low hown hB3w, HWW.out⟩
  · have h0 := HPS.out
    unfold partsS at h0
    rw [if_neg hm] at h0
    have hnP : nP = 0 := by have h1 := HIN.out.len; have h2 := HLN.out; rw [h0, List.length_nil] at h1; omega
    subst hnP
    have HMM := Lib.hid hm
    clear hm h0
    go_wp2_with fail
    refine wp_loop_rounds 1 ?_
    rw [rounds_succ]
    go_wp2_with fail
    refine bodyPost_ret (results_tmp rfl _ _ _) rfl ?_
    exact ⟨[], none, 0, 0, rfl, by unfold difS; rw [if_neg HMM.out], World.ownsRow_nil _ _ _ _, HB3.out⟩
end Go.Proofs.YtonfjjmgjgmanaaGreat
