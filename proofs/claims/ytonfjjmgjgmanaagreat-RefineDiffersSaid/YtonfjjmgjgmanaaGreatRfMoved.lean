/- Contract of corrodyref12: Moved. What a moved timeline has on each day. Plain. -/
import Derived.Test.YtonfjjmgjgmanaaGreatTl4
import Derived.Test.YtonfjjmgjgmanaaGreatSep
import Derived.BigQuiet
import Derived.Deep.LoopGhost
namespace Corr
set_option maxRecDepth 8000
open Go Go.RowKit
set_option linter.unusedVariables false
/-- What a put moved by some days is. -/
def mvIt (by_ : Int) (y : It) : It := (max 1 (y.1 + by_), min 3652060 (y.2.1 + by_), y.2.2)
def putT (l : ItL) (y : It) : ItL := if mayB y.1 y.2.1 = true then l ++ [y] else l
def movedL (by_ : Int) (l : ItL) : ItL := l.foldl (fun o y => putT o (mvIt by_ y)) []
theorem movedL_more {by_ : Int} {l : ItL} {k : Nat} {y : It} (h : l[k]? = some y) : movedL by_ (l.take (k + 1)) = putT (movedL by_ (l.take k)) (mvIt by_ y) := by
  unfold movedL
  rw [List.take_add_one, h, List.foldl_append]; rfl
theorem putT_len (l : ItL) (y : It) : (putT l y).length ≤ l.length + 1 := by unfold putT; split <;> simp
theorem movedL_len (by_ : Int) : ∀ (l o : ItL), (l.foldl (fun o y => putT o (mvIt by_ y)) o).length ≤ o.length + l.length
  | [], o => by simp
  | y :: r, o => by
    have h1 := movedL_len by_ r (putT o (mvIt by_ y))
    have h2 := putT_len o (mvIt by_ y)
    simp only [List.foldl_cons, List.length_cons]; omega
/-- All puts are of spans that may be. -/
def goodL (l : ItL) : Prop := ∀ y ∈ l, mayB y.1 y.2.1 = true
theorem goodL_put {l : ItL} (h : goodL l) (y : It) : goodL (putT l y) := by
  unfold putT
  split
  · rename_i hm
    intro z hz
    rcases List.mem_append.1 hz with hz | hz
    · exact h z hz
    · have : z = y := by simpa using hz
      rw [this]; exact hm
  · exact h
section
variable {T : TypeId} {w w' : World} {g n c : Nat} {A : Option Addr} {l : ItL} {G : Nat → Prop}
theorem RTlW.off (h : RTlW T w g A n c l) (ho : Off G w w') (hg : ¬ G g) (ha : ∀ k, (Value.slice A n c).ownBlock = some k → ¬ G k) : RTlW T w' g A n c l := ⟨ho.blk h.b hg, ho.own h.o ha⟩
theorem RetPut.state {e : Ending} (h : RTlW T w g A n c l) {l' : ItL} (r : RetPut T g w l' e w') : e = .returned (.int .i64 0) ∧ ∃ A' n' c', RTlW T w' g A' n' c' l' ∧ Off (· = g) w w' ∧ ∀ k, (Value.slice A' n' c').ownBlock = some k → w.heap.size ≤ k := by
  obtain ⟨A', n', c', w1, rfl, hb, ho, rfl⟩ := r
  have hg := h.sz
  have hge := own_ge ho
  refine ⟨rfl, A', n', c', ⟨?_, ?_⟩, (Off.of hb).trans (Off.set (F := (· = g)) (a := ⟨g, 0, none⟩) rfl _), hge⟩
  · have := (h.b.keep hb).set 0 (.slice A' n' c')
    simpa using this
  · refine (Off.set (F := (· = g)) (a := ⟨g, 0, none⟩) rfl _).own (own_low ho (Nat.zero_le _)) fun k hk e => ?_
    have := hge k hk
    omega
end
end Corr
namespace Go.Proofs.YtonfjjmgjgmanaaGreat
set_option maxRecDepth 8000
open Go.RowKit Corr
set_option linter.unusedVariables false
set_option linter.unusedSimpArgs false
/-- The document's Put, in one word. -/
theorem put12_any (g n c : Nat) (A : Option Addr) (l : ItL) (a b v : Int) (w : World) (T : RTlW 46 w g A n c l) (hn : n ≤ 100000) : Calls Tryz.prog 20 #[.pointer (some ⟨g, 0, none⟩), .agg #[.int .i64 a, .int .i64 b], .int .i64 v] w fun e w' => (∃ z, e = .returned (.int .i64 z)) ∧ ∃ A' n' c', RTlW 46 w' g A' n' c' (putT l (a, b, v)) ∧ Off (· = g) w w' ∧ ∀ k, (Value.slice A' n' c').ownBlock = some k → (Value.slice A n c).ownBlock = some k ∨ w.heap.size ≤ k := by
  cases h : mayB a b with
  | false =>
    refine (put_no _ a b v w h).mono ?_
    rintro e w' ⟨rfl, hb⟩
    refine ⟨⟨_, rfl⟩, A, n, c, ?_, Off.of hb, fun k hk => .inl hk⟩
    rw [show putT l (a, b, v) = l by unfold putT; rw [if_neg (by rw [h]; decide)]]
    exact T.keep hb
  | true =>
    refine (put_yes g n c A l a b v w T hn h).mono ?_
    intro e w' r
    obtain ⟨rfl, A', n', c', h1, h2, h3⟩ := RetPut.state T r
    refine ⟨⟨_, rfl⟩, A', n', c', ?_, h2, fun k hk => .inr (h3 k hk)⟩
    rw [show putT l (a, b, v) = l ++ [(a, b, v)] by unfold putT; rw [if_pos h]]
    exact h1
set_option maxHeartbeats 8000000 in
theorem moved_any (g n c : Nat) (A : Option Addr) (l : ItL) (by_ : Int) (w : World) (T : RTl w g A n c l) (hg : goodL l) (hb : -3652060 ≤ by_ ∧ by_ ≤ 3652060) (hn : n ≤ 10000) : Calls Tryz.prog 11 #[.pointer (some ⟨g, 0, none⟩), .int .i64 by_] w fun e w' => ∃ h A' n' c', e = .returned (.pointer (some ⟨h, 0, none⟩)) ∧ w.heap.size ≤ h ∧ RTlW 46 w' h A' n' c' (movedL by_ l) ∧ Below w.heap.size w w' ∧ ∀ k, (Value.slice A' n' c').ownBlock = some k → w.heap.size ≤ k := by
  have HT := Lib.hid T
  have HG := Lib.hid hg
  have HLEN := Lib.hid (Itm.count T.i)
  have HN := Lib.hid (Blk.new w #[.slice none 0 0] 38)
  have HB0 := Lib.hid (show Ext w _ from (Below.refl w.heap.size w).alloc (Nat.le_refl _) (.cells #[.slice none 0 0] 38))
  obtain ⟨b1, b2⟩ := hb
  clear T hg
  go_enter Tryz.func11, Tryz.ntmps11
  go_upto_region 3 with fail
  obtain ⟨h, hh⟩ : ∃ k, w.heap.size = k := ⟨_, rfl⟩
  have HH := Lib.hid hh
  rw [hh] at HN ⊢
  generalize w.alloc (.cells #[.slice none 0 0] 38) = wq at *
  clear hh
  go_loopg [6] n (fun kk z wr => ∃ (k : Nat) (A' : Option Addr) (n' c' : Nat), z = .int .i64 (k : Int) ∧ k ≤ n ∧ Hid (kk = n - k) ∧ Hid (RTlW 46 wr h A' n' c' (movedL by_ (l.take k))) ∧ Hid (Below w.heap.size w wr) ∧ Hid (∀ k, (Value.slice A' n' c').ownBlock = some k → w.heap.size ≤ k))
  case atStart => exact ⟨0, none, 0, 0, rfl, by omega, Lib.hid rfl, Lib.hid ⟨HN.out, World.ownsRow_nil _ _ _ _⟩, Lib.hid HB0.out, Lib.hid (fun k e => by cases e)⟩
  case round =>
    clear HN HB0
    obtain ⟨k, A', n', c', rfl, hk, HK, HR, HB, HW⟩ := hrel
    have HTR := Lib.hid (HT.out.keep HB.out)
    have s0 := HTR.out.s
    have hn' : n' ≤ 10000 := by
      have h1 := HR.out.len
      have h2 := movedL_len by_ (l.take k) []
      have h3 : (movedL by_ (l.take k)).length ≤ 0 + (l.take k).length := h2
      rw [List.length_take] at h3
      omega
    by_cases hlt : k < n
    · obtain ⟨gI, off, s, rfl, hs, hgl, c0, c1, c2⟩ := Itm.get HTR.out.i hlt
      have HMO := Lib.hid (movedL_more (by_ := by_) hs)
      have hgd := mayB_iff.1 (HG.out s (List.mem_of_getElem? hs))
      obtain ⟨s1, s2, s3⟩ := s
      simp only [] at c0 c1 c2 hgd
      obtain ⟨p1, hp1⟩ : ∃ z, s1 + by_ = z := ⟨_, rfl⟩
      obtain ⟨p2, hp2⟩ : ∃ z, s2 + by_ = z := ⟨_, rfl⟩
      have w1' : IntKind.i64.wrap (s1 + by_) = p1 := by rw [IntWalk.i64_in _ (by omega)]; exact hp1
      have w2' : IntKind.i64.wrap (s2 + by_) = p2 := by rw [IntWalk.i64_in _ (by omega)]; exact hp2
      have HV := Lib.hid (show mvIt by_ (s1, s2, s3) = (max 1 p1, min 3652060 p2, s3) by unfold mvIt; rw [← hp1, ← hp2])
      have i0 : decide ((k : Int) < (n : Int)) = true := decide_eq_true (by omega)
      have i1 : (0 : Int) ≤ (k : Int) := by omega
      have i2 : (k : Int) < (n : Int) := by omega
      have i3 : ((k : Int)).toNat = k := by omega
      have i4 : decide ((k : Int) < 0) = false := decide_eq_false (by omega)
      have HHG := Lib.hid (show g ≠ h from fun e => by have := HT.out.lt; have := HH.out; omega)
      clear hs hp1 hp2 hgd
      go_upto_region 5 with fail
      go_quiet (fail)
      have HBQ := Lib.hid (HB.out.trans (Joins.below_draws _ wr nq))
      have HRQ := Lib.hid (HR.out.keep (Joins.below_draws _ wr nq))
      have HTQ := Lib.hid (HTR.out.keep (Joins.below_draws _ wr nq))
      have d2 : (wr.drewN nq).cell? ⟨gI, off + k * 3 + 2, none⟩ = some (.int .i64 s3) := c2
      clear s0 c0 c1 c2
      generalize wr.drewN nq = wn at *
      have s0 := HTQ.out.s
      have HSZ := Lib.hid HBQ.out.size
      by_cases hf : p1 < 1
      · have df : decide (p1 < 1) = true := decide_eq_true hf
        by_cases ht : 3652060 < p2
        · have dt : decide (p2 > 3652060) = true := decide_eq_true ht
          have HE := Lib.hid (show mvIt by_ (s1, s2, s3) = (1, 3652060, s3) by rw [HV.out, Int.max_eq_left (by omega), Int.min_eq_left (by omega)])
          go_wp2_with fail
          refine (put12_any h n' c' A' _ 1 3652060 s3 wn HRQ.out (by omega)).mono ?_
          rintro e w5 ⟨⟨z, rfl⟩, A5, n5, c5, hR5, hF5, hU5⟩
          have HB5 := Lib.hid (HBQ.out.trans (hF5.below HBQ.out.size (fun k e => by rw [e]; exact Nat.le_of_eq HH.out)))
          have HR5 := Lib.hid hR5
          have HU5 := Lib.hid (show ∀ k, (Value.slice A5 n5 c5).ownBlock = some k → w.heap.size ≤ k from fun k hk => (hU5 k hk).elim (fun e => HW.out k e) (fun e => Nat.le_trans HSZ.out e))
          clear hR5 hF5 hU5 s0 d2
          go_wp2_with fail
          go_roundg (n - (k + 1))
          case measure => rw [HK.out]; omega
          case rel => exact ⟨k + 1, A5, n5, c5, val_int (by omega), by omega, Lib.hid rfl, Lib.hid (by rw [HMO.out, HE.out]; exact HR5.out), HB5, HU5⟩
        · have dt : decide (p2 > 3652060) = false := decide_eq_false ht
          have HE := Lib.hid (show mvIt by_ (s1, s2, s3) = (1, p2, s3) by rw [HV.out, Int.max_eq_left (by omega), Int.min_eq_right (by omega)])
          go_wp2_with fail
          refine (put12_any h n' c' A' _ 1 p2 s3 wn HRQ.out (by omega)).mono ?_
          rintro e w5 ⟨⟨z, rfl⟩, A5, n5, c5, hR5, hF5, hU5⟩
          have HB5 := Lib.hid (HBQ.out.trans (hF5.below HBQ.out.size (fun k e => by rw [e]; exact Nat.le_of_eq HH.out)))
          have HR5 := Lib.hid hR5
          have HU5 := Lib.hid (show ∀ k, (Value.slice A5 n5 c5).ownBlock = some k → w.heap.size ≤ k from fun k hk => (hU5 k hk).elim (fun e => HW.out k e) (fun e => Nat.le_trans HSZ.out e))
          clear hR5 hF5 hU5 s0 d2
          go_wp2_with fail
          go_roundg (n - (k + 1))
          case measure => rw [HK.out]; omega
          case rel => exact ⟨k + 1, A5, n5, c5, val_int (by omega), by omega, Lib.hid rfl, Lib.hid (by rw [HMO.out, HE.out]; exact HR5.out), HB5, HU5⟩
      · have df : decide (p1 < 1) = false := decide_eq_false hf
        by_cases ht : 3652060 < p2
        · have dt : decide (p2 > 3652060) = true := decide_eq_true ht
          have HE := Lib.hid (show mvIt by_ (s1, s2, s3) = (p1, 3652060, s3) by rw [HV.out, Int.max_eq_right (by omega), Int.min_eq_left (by omega)])
          go_wp2_with fail
          refine (put12_any h n' c' A' _ p1 3652060 s3 wn HRQ.out (by omega)).mono ?_
          rintro e w5 ⟨⟨z, rfl⟩, A5, n5, c5, hR5, hF5, hU5⟩
          have HB5 := Lib.hid (HBQ.out.trans (hF5.below HBQ.out.size (fun k e => by rw [e]; exact Nat.le_of_eq HH.out)))
          have HR5 := Lib.hid hR5
          have HU5 := Lib.hid (show ∀ k, (Value.slice A5 n5 c5).ownBlock = some k → w.heap.size ≤ k from fun k hk => (hU5 k hk).elim (fun e => HW.out k e) (fun e => Nat.le_trans HSZ.out e))
          clear hR5 hF5 hU5 s0 d2
          go_wp2_with fail
          go_roundg (n - (k + 1))
          case measure => rw [HK.out]; omega
          case rel => exact ⟨k + 1, A5, n5, c5, val_int (by omega), by omega, Lib.hid rfl, Lib.hid (by rw [HMO.out, HE.out]; exact HR5.out), HB5, HU5⟩
        · have dt : decide (p2 > 3652060) = false := decide_eq_false ht
          have HE := Lib.hid (show mvIt by_ (s1, s2, s3) = (p1, p2, s3) by rw [HV.out, Int.max_eq_right (by omega), Int.min_eq_right (by omega)])
          go_wp2_with fail
          refine (put12_any h n' c' A' _ p1 p2 s3 wn HRQ.out (by omega)).mono ?_
          rintro e w5 ⟨⟨z, rfl⟩, A5, n5, c5, hR5, hF5, hU5⟩
          have HB5 := Lib.hid (HBQ.out.trans (hF5.below HBQ.out.size (fun k e => by rw [e]; exact Nat.le_of_eq HH.out)))
          have HR5 := Lib.hid hR5
          have HU5 := Lib.hid (show ∀ k, (Value.slice A5 n5 c5).ownBlock = some k → w.heap.size ≤ k from fun k hk => (hU5 k hk).elim (fun e => HW.out k e) (fun e => Nat.le_trans HSZ.out e))
          clear hR5 hF5 hU5 s0 d2
          go_wp2_with fail
          go_roundg (n - (k + 1))
          case measure => rw [HK.out]; omega
          case rel => exact ⟨k + 1, A5, n5, c5, val_int (by omega), by omega, Lib.hid rfl, Lib.hid (by rw [HMO.out, HE.out]; exact HR5.out), HB5, HU5⟩
    · have i0 : decide ((k : Int) < (n : Int)) = false := decide_eq_false (by omega)
      have HEN := Lib.hid (show l.take k = l from List.take_of_length_le (by rw [HLEN.out]; omega))
      go_wp2_with fail
      refine bodyPost_ret (results_tmp rfl _ _ _) rfl ?_
      exact ⟨h, A', n', c', rfl, Nat.le_of_eq HH.out, by rw [HEN.out] at HR; exact HR.out, HB.out, HW.out⟩
end Go.Proofs.YtonfjjmgjgmanaaGreat
namespace Corr
set_option maxRecDepth 8000
open Go Go.RowKit
set_option linter.unusedVariables false
theorem rfAt_snoc (l : ItL) (y : It) (d : Int) : atL (l ++ [y]) d = if onB d y = true then y.2.2 else atL l d := by
  unfold atL
  rw [List.reverse_append, List.reverse_cons, List.reverse_nil, List.nil_append, List.cons_append, List.nil_append, List.find?_cons]
  cases h : onB d y with
  | true => rfl
  | false => rfl
theorem onB_iff {d : Int} {y : It} : onB d y = true ↔ y.1 ≤ d ∧ d < y.2.1 := by unfold onB; simp
theorem movedL_snoc (by_ : Int) (l : ItL) (y : It) : movedL by_ (l ++ [y]) = putT (movedL by_ l) (mvIt by_ y) := by
  unfold movedL; rw [List.foldl_append]; rfl
theorem moved_rev {by_ : Int} {d : Int} (h1 : 1 ≤ d) (h2 : d < 3652060) : ∀ r : ItL, goodL r.reverse → atL (movedL by_ r.reverse) d = atL r.reverse (d - by_)
  | [], _ => rfl
  | y :: r, hg => by
    rw [List.reverse_cons] at hg ⊢
    have hy := mayB_iff.1 (hg y (by simp))
    have ih := moved_rev (by_ := by_) h1 h2 r (fun z hz => hg z (by simp at hz ⊢; exact .inl hz))
    rw [movedL_snoc, rfAt_snoc]
    unfold putT
    by_cases hm : mayB (mvIt by_ y).1 (mvIt by_ y).2.1 = true
    · rw [if_pos hm, rfAt_snoc, ih]
      have e : (onB d (mvIt by_ y) = true) ↔ (onB (d - by_) y = true) := by
        rw [onB_iff, onB_iff]
        show max 1 (y.1 + by_) ≤ d ∧ d < min 3652060 (y.2.1 + by_) ↔ _
        omega
      by_cases h : onB (d - by_) y = true
      · rw [if_pos h, if_pos (e.2 h)]; rfl
      · rw [if_neg h, if_neg (fun h' => h (e.1 h'))]
    · rw [if_neg hm, ih, if_neg]
      intro h
      rw [onB_iff] at h
      apply hm
      rw [mayB_iff]
      show 1 ≤ max 1 (y.1 + by_) ∧ max 1 (y.1 + by_) < min 3652060 (y.2.1 + by_) ∧ min 3652060 (y.2.1 + by_) ≤ 3652060
      omega
/-- Each day has what as many days ahead had. -/
theorem moved_at {by_ : Int} {l : ItL} (hg : goodL l) {d : Int} (h1 : 1 ≤ d) (h2 : d < 3652060) : atL (movedL by_ l) d = atL l (d - by_) := by
  have h := moved_rev (by_ := by_) h1 h2 l.reverse (by rw [List.reverse_reverse]; exact hg)
  rw [List.reverse_reverse] at h
  exact h
theorem goodL_moved (by_ : Int) (l : ItL) : goodL (movedL by_ l) := by
  have key : ∀ (l o : ItL), goodL o → goodL (l.foldl (fun o y => putT o (mvIt by_ y)) o) := by
    intro l
    induction l with
    | nil => intro o h; exact h
    | cons y r ih => intro o h; exact ih _ (goodL_put h _)
  exact key l [] (fun y hy => by cases hy)
/-- A covering list over any values: parts side by side, neighbours unlike, each with f's value. -/
def covG {α : Type} (f : Int → α) : Int → Int → List (Int × Int × α) → Prop
  | a, b, [] => a = b
  | a, b, s :: r => s.1 = a ∧ s.1 < s.2.1 ∧ (∀ d, s.1 ≤ d → d < s.2.1 → f d = s.2.2) ∧ (∀ t, r.head? = some t → ¬ t.2.2 = s.2.2) ∧ covG f s.2.1 b r
theorem covG_le {α : Type} {f : Int → α} : ∀ {l : List (Int × Int × α)} {a b : Int}, covG f a b l → a + (l.length : Int) ≤ b
  | [], a, b, h => by have : a = b := h; simp; omega
  | s :: r, a, b, h => by
    obtain ⟨h1, h2, _, _, h5⟩ := h
    have := covG_le h5
    simp at this ⊢; omega
theorem covG_one {α : Type} {f : Int → α} : ∀ {l m : List (Int × Int × α)} {a b : Int}, covG f a b l → covG f a b m → l = m
  | [], [], _, _, _, _ => rfl
  | [], t :: q, a, b, h, k => by
    have e : a = b := h
    obtain ⟨h1, h2, _, _, h5⟩ := k
    have := covG_le h5
    omega
  | s :: r, [], a, b, h, k => by
    have e : a = b := k
    obtain ⟨h1, h2, _, _, h5⟩ := h
    have := covG_le h5
    omega
  | s :: r, t :: q, a, b, h, k => by
    obtain ⟨h1, h2, h3, h4, h5⟩ := h
    obtain ⟨k1, k2, k3, k4, k5⟩ := k
    have hv : s.2.2 = t.2.2 := by rw [← h3 a (by omega) (by omega), ← k3 a (by omega) (by omega)]
    have step : ∀ {s t : Int × Int × α} {r q : List (Int × Int × α)}, s.1 = a → t.1 = a → s.2.2 = t.2.2 → s.1 < s.2.1 → (∀ d, t.1 ≤ d → d < t.2.1 → f d = t.2.2) → (∀ u, r.head? = some u → ¬ u.2.2 = s.2.2) → covG f s.2.1 b r → covG f t.2.1 b q → ¬ s.2.1 < t.2.1 := by
      intro s t r q h1 k1 hv h2 k3 h4 h5 k5 hlt
      have hb := covG_le k5
      cases r with
      | nil => have : s.2.1 = b := h5; omega
      | cons u r =>
        obtain ⟨u1, u2, u3, _, _⟩ := h5
        refine h4 u rfl ?_
        rw [← u3 s.2.1 (by omega) (by omega), k3 s.2.1 (by omega) hlt, hv]
    have h21 : s.2.1 = t.2.1 := by
      have := step h1 k1 hv h2 k3 h4 h5 k5
      have := step k1 h1 hv.symm k2 h3 k4 k5 h5
      omega
    have e : s = t := Prod.ext (h1.trans k1.symm) (Prod.ext h21 hv)
    subst e
    rw [covG_one h5 k5]
end Corr
