/- A span that is cut at days: there is one such list. No walk in this text. Contract of corrodyref12: Cut. -/
import Derived.Test.YtonfjjmgjgmanaaGreatTl4
import Derived.Test.YtonfjjmgjgmanaaGreatRow4
import Derived.Deep.RegionLaw
import Derived.Deep.AppendLies
import Derived.Deep.LoopGhost
import Derived.Test.YtonfjjmgjgmanaaGreatSep
namespace Corr
set_option maxRecDepth 8000
open Go Go.RowKit
/-- The first of some days above one, below a last one. -/
def nextE (ends : List Int) (d o : Int) : Int := ends.foldl (fun o e => less1 d e o) o
theorem nextE_more {ends : List Int} {k : Nat} {e d o : Int} (h : ends[k]? = some e) : nextE (ends.take (k + 1)) d o = less1 d e (nextE (ends.take k) d o) := by
  unfold nextE
  rw [List.take_add_one, h, List.foldl_append]; rfl
theorem lessE_in {d x o : Int} (h : d < o) : d < less1 d x o ∧ less1 d x o ≤ o := by
  unfold less1; split <;> omega
theorem nextE_in {d : Int} : ∀ (ends : List Int) {o : Int}, d < o → d < nextE ends d o ∧ nextE ends d o ≤ o
  | [], o, h => ⟨h, Int.le_refl _⟩
  | e :: r, o, h => by
    have h1 := lessE_in (x := e) h
    have h2 := nextE_in (d := d) r h1.1
    exact ⟨h2.1, Int.le_trans h2.2 h1.2⟩
/-- Nothing lies between. -/
theorem nextE_none {d : Int} : ∀ {ends : List Int} {o e : Int}, e ∈ ends → d < e → e < nextE ends d o → False
  | [], _, _, he, _, _ => by cases he
  | x :: r, o, e, he, h1, h2 => by
    rcases List.mem_cons.1 he with rfl | he
    · have h3 : d < less1 d e o → nextE r d (less1 d e o) ≤ less1 d e o := fun h => (nextE_in r h).2
      have h4 : nextE (e :: r) d o = nextE r d (less1 d e o) := rfl
      rw [h4] at h2
      unfold less1 at h3 h2
      split at h3
      · rename_i hc
        rw [if_pos hc] at h2
        have := h3 hc.1
        omega
      · rename_i hc
        rw [if_neg hc] at h2
        by_cases h5 : d < o
        · have := h3 h5
          omega
        · have key : ∀ (r : List Int) (o : Int), ¬ d < o → nextE r d o = o := by
            intro r
            induction r with
            | nil => intro o _; rfl
            | cons y r ih =>
              intro o ho
              show nextE r d (less1 d y o) = o
              have : less1 d y o = o := by unfold less1; rw [if_neg]; omega
              rw [this]; exact ih o ho
          rw [key r o h5] at h2
          omega
    · exact nextE_none (ends := r) he h1 h2
/-- It is one of the days, or the last one. -/
theorem nextE_mem {d : Int} : ∀ (ends : List Int) (o : Int), nextE ends d o = o ∨ nextE ends d o ∈ ends
  | [], o => .inl rfl
  | x :: r, o => by
    have h4 : nextE (x :: r) d o = nextE r d (less1 d x o) := rfl
    rw [h4]
    rcases nextE_mem (d := d) r (less1 d x o) with h | h
    · rw [h]
      unfold less1
      split
      · exact .inr (by simp)
      · exact .inl rfl
    · exact .inr (List.mem_cons_of_mem _ h)
/-- The span from a to m, cut: the last piece is not yet. -/
def cutP (ends : List Int) (T : Int) : Int → Int → SpL → Prop
  | a, m, [] => a = m
  | a, m, s :: r => s.1 = a ∧ a < T ∧ s.2 = nextE ends a T ∧ cutP ends T s.2 m r
theorem cutP_snoc {ends : List Int} {T m : Int} (hm : m < T) : ∀ {l : SpL} {a : Int}, cutP ends T a m l → cutP ends T a (nextE ends m T) (l ++ [(m, nextE ends m T)])
  | [], a, h => by
    have e : a = m := h
    subst e
    exact ⟨rfl, hm, rfl, rfl⟩
  | s :: r, a, h => ⟨h.1, h.2.1, h.2.2.1, cutP_snoc hm h.2.2.2⟩
theorem cutP_len {ends : List Int} {T m : Int} : ∀ {l : SpL} {a : Int}, cutP ends T a m l → a + (l.length : Int) ≤ m ∧ (a ≤ T → m ≤ T)
  | [], a, h => by have e : a = m := h; subst e; simp
  | s :: r, a, h => by
    obtain ⟨h1, h2, h3, h4⟩ := h
    have h5 := cutP_len h4
    have h6 := nextE_in ends h2
    rw [← h3] at h6
    simp only [List.length_cons]
    omega
/-- What Cut tells. -/
def cutS (ends : List Int) (a b : Int) (l : SpL) : Prop := if mayB a b = true then cutP ends b a b l else l = []
/-- What a call leaves that tells spans. -/
def RetCut (T : TypeId) (w : World) (ends : List Int) (a b : Int) (e : Ending) (w' : World) : Prop := ∃ out A n c, e = .returned (.slice A n c) ∧ cutS ends a b out ∧ w'.ownsRow w.heap.size T 2 (.slice A n c) n (cells2 out) ∧ Below w.heap.size w w'
end Corr
namespace Go.Proofs.YtonfjjmgjgmanaaGreat
set_option maxRecDepth 8000
open Go.RowKit Corr
set_option linter.unusedVariables false
set_option linter.unusedSimpArgs false
theorem elem_span12 : Elem Tryz.prog 32 24 (.agg #[.int .i64 0, .int .i64 0]) 2 16 := by
  obtain ⟨i, h0, h1, h2, h3⟩ := info_parts (show (Tryz.prog.info? 24).map (fun i => (i.zero, i.size, i.bytes)) = some (some (.agg #[.int .i64 0, .int .i64 0]), 2, 16) by kernel_rfl)
  exact ⟨Tryz.underlying32, ⟨i, h0, h1, h2, h3⟩, rfl, by decide⟩
theorem cut_no (E : Value) (ends : List Int) (a b : Int) (w : World) (h : mayB a b = false) : Calls Tryz.prog 41 #[.agg #[.int .i64 a, .int .i64 b], E] w (RetCut 24 w ends a b) := by
  have HM := Lib.hid (may11_any a b (w.alloc (.cells #[.int .i64 a, .int .i64 b] 24)))
  rw [h] at HM
  have HB0 := Lib.hid (show Ext w _ from (Below.refl w.heap.size w).alloc (Nat.le_refl _) (.cells #[.int .i64 a, .int .i64 b] 24))
  have HX := Lib.hid (Blk.new w #[.int .i64 a, .int .i64 b] 24)
  have HP := Lib.hid (show cutS ends a b [] by unfold cutS; rw [if_neg (by rw [h]; decide)])
  clear h
  go_enter Tryz.func41, Tryz.ntmps41
  go_upto_region 2 with fail
  generalize w.heap.size = hx at HX ⊢
  generalize w.alloc (.cells #[.int .i64 a, .int .i64 b] 24) = wq at *
  have x0 := HX.out.get 0 rfl
  have x1 := HX.out.get 1 rfl
  go_wp2_with fail
  refine HM.out.mono ?_
  rintro e w1 ⟨rfl, hb⟩
  have HB := Lib.hid (HB0.out.grow hb)
  clear hb x0 x1
  go_wp2_with fail
  go_ret
  exact ⟨[], none, 0, 0, rfl, HP.out, World.ownsRow_nil _ _ _ _, HB.out⟩
set_option maxHeartbeats 8000000 in
theorem cut_yes (E : Option Addr) (N c : Nat) (ends : List Int) (a b : Int) (w : World) (R : Nums w E N c ends) (hN : N ≤ 1000000000) (h : mayB a b = true) : Calls Tryz.prog 41 #[.agg #[.int .i64 a, .int .i64 b], .slice E N c] w (RetCut 24 w ends a b) := by
  have HM := Lib.hid (may11_any a b (w.alloc (.cells #[.int .i64 a, .int .i64 b] 24)))
  rw [h] at HM
  obtain ⟨ha, hab, hb6⟩ := mayB_iff.1 h
  have HP := Lib.hid (show ∀ out, cutP ends b a b out → cutS ends a b out by intro out ho; unfold cutS; rw [if_pos h]; exact ho)
  have HB0 := Lib.hid (show Ext w _ from (Below.refl w.heap.size w).alloc (Nat.le_refl _) (.cells #[.int .i64 a, .int .i64 b] 24))
  have HX := Lib.hid (Blk.new w #[.int .i64 a, .int .i64 b] 24)
  have HR := Lib.hid R
  have HC := Lib.hid R.count
  clear h R
  go_enter Tryz.func41, Tryz.ntmps41
  go_upto_region 2 with fail
  generalize w.heap.size = hx at HX ⊢
  generalize w.alloc (.cells #[.int .i64 a, .int .i64 b] 24) = wq at *
  have x0 := HX.out.get 0 rfl
  have x1 := HX.out.get 1 rfl
  go_wp2_with fail
  refine HM.out.mono ?_
  rintro e w1 ⟨rfl, hb⟩
  have HB := Lib.hid (HB0.out.grow hb)
  have HX1 := Lib.hid (HX.out.keep hb)
  clear hb x0 x1
  have x0 := HX1.out.get 0 rfl
  go_upto_region 5 with fail
  clear x0
  go_loopg [5, 6] (b - a).toNat (fun kk v z wr => ∃ (out : SpL) (n d : Nat) (A : Option Addr) (m : Int), v = .slice A n d ∧ z = .int .i64 m ∧ wr.ownsRow w.heap.size 24 2 (.slice A n d) n (cells2 out) ∧ Hid (kk = (b - m).toNat) ∧ Hid (cutP ends b a m out) ∧ Hid (Blk wr hx #[.int .i64 a, .int .i64 b]) ∧ Hid (Below w.heap.size w wr) ∧ Hid (¬ (Value.slice A n d).ownBlock = some hx))
  case atStart => exact ⟨[], 0, 0, none, a, rfl, rfl, World.ownsRow_nil _ _ _ _, Lib.hid rfl, Lib.hid rfl, HX1, Lib.hid HB.out, Lib.hid (fun e => by cases e)⟩
  case round =>
    clear HX1 HB
    obtain ⟨out, n, d, A, m, rfl, rfl, hown, HK, HC1, HX1, HB, HXO⟩ := hrel
    have hlen := cutP_len HC1.out
    have hmb := hlen.2 (by omega)
    have HO := Lib.hid hown
    have hn : n ≤ 4000000 := by
      have h1 := hown.1
      rw [cells2_len] at h1
      omega
    have x0 := HX1.out.get 0 rfl
    have x1 := HX1.out.get 1 rfl
    clear hlen hown
    by_cases hlt : m < b
    · have d0 : decide (m < b) = true := decide_eq_true hlt
      obtain ⟨hn1, hn2⟩ := nextE_in ends hlt
      go_upto_region 8 with fail
      go_loopg [7, 8] N (fun k2 t i w2 => ∃ (i' : Nat) (z : Int), t = .int .i64 z ∧ i = .int .i64 (i' : Int) ∧ i' ≤ N ∧ Hid (k2 = N - i') ∧ Hid (z = nextE (ends.take i') m b) ∧ w2 = wr)
      case atStart => exact ⟨0, b, rfl, rfl, by omega, Lib.hid rfl, Lib.hid rfl, rfl⟩
      case round =>
        obtain ⟨i', z, rfl, rfl, hi, HK2, HZ, hwr⟩ := hrel
        subst hwr
        by_cases hi2 : i' < N
        · obtain ⟨g, off, e, rfl, he, hg, ce⟩ := Nums.get (HR.out.keep HB.out) hi2
          have HE := Lib.hid (nextE_more (d := m) (o := b) he)
          have i0 : decide ((i' : Int) < (N : Int)) = true := decide_eq_true (by omega)
          have i1 : (0 : Int) ≤ (i' : Int) := by omega
          have i2 : (i' : Int) < (N : Int) := by omega
          have i3 : ((i' : Int)).toNat = i' := by omega
          have i4 : decide ((i' : Int) < 0) = false := decide_eq_false (by omega)
          clear he
          by_cases h1 : m < e
          · have d1 : decide (e > m) = true := decide_eq_true h1
            by_cases h2 : e < z
            · have d2 : decide (e < z) = true := decide_eq_true h2
              go_wp2_with fail
              go_roundg (N - (i' + 1))
              case measure => rw [HK2.out]; omega
              case rel => exact ⟨i' + 1, e, rfl, val_int (by omega), by omega, Lib.hid rfl, Lib.hid (by rw [HE.out, ← HZ.out]; unfold less1; rw [if_pos ⟨h1, h2⟩]), rfl⟩
            · have d2 : decide (e < z) = false := decide_eq_false h2
              go_wp2_with fail
              go_roundg (N - (i' + 1))
              case measure => rw [HK2.out]; omega
              case rel => exact ⟨i' + 1, z, rfl, val_int (by omega), by omega, Lib.hid rfl, Lib.hid (by rw [HE.out, ← HZ.out]; unfold less1; rw [if_neg (fun h => by omega)]), rfl⟩
          · have d1 : decide (e > m) = false := decide_eq_false h1
            go_wp2_with fail
            go_roundg (N - (i' + 1))
            case measure => rw [HK2.out]; omega
            case rel => exact ⟨i' + 1, z, rfl, val_int (by omega), by omega, Lib.hid rfl, Lib.hid (by rw [HE.out, ← HZ.out]; unfold less1; rw [if_neg (fun h => by omega)]), rfl⟩
        · have hz : z = nextE ends m b := by rw [HZ.out, List.take_of_length_le (by rw [HC.out]; omega)]
          have HZ2 := Lib.hid hz
          have i0 : decide ((i' : Int) < (N : Int)) = false := decide_eq_false (by omega)
          have hz1 : m < z := by omega
          have hz2 : z ≤ b := by omega
          clear hz hn1 hn2
          have hsz := HB.out.size
          go_wp2_with (at_builtin; refine wpList_app2 rfl _ _ 32 rfl (cells2 [(m, z)]) elem_span12 rfl (HO.out.alloc (.cells (cells2 [(m, z)]).toArray 24)) rfl rfl (new_cells wr (cells2 [(m, z)]) 24) (cells2_one _) (by omega) (by unfold maxLen; omega) (by simp; omega) ?_)
          intro v4 w4 hown4 hg4 hat4
          have hxs := HX1.out.sz
          have HB4 := Lib.hid ((HB.out.alloc hsz (.cells (cells2 [(m, z)]).toArray 24)).grown hg4 (by simp; omega) (own_ge HO.out))
          have HX4 := Lib.hid ((Off.of (F := fun k => (Value.slice A n d).ownBlock = some k) ((Below.refl _ wr).alloc (Nat.le_refl _) (.cells (cells2 [(m, z)]).toArray 24))).trans (Off.grown (v := .slice A n d) hg4) |>.blk HX1.out (fun e => HXO.out e))
          obtain ⟨A4, d4, rfl, _⟩ := Lies.of_own hown4 (by have := hown4.1; exact this)
          have HO4 := Lib.hid hown4
          have HXO4 := Lib.hid (show ¬ (Value.slice A4 (n + 1) d4).ownBlock = some hx from fun e => by
            rcases hat4 hx e with h | h
            · exact HXO.out h
            · first | omega | (simp at h; omega) | (rw [size_alloc] at h; omega))
          clear hown4 hg4 hat4 hxs x0 x1
          go_wp2_with fail
          go_roundg (b - z).toNat
          case measure => rw [HK.out]; omega
          case rel => exact ⟨out ++ [(m, z)], n + 1, d4, A4, z, rfl, rfl, by rw [cells2_append]; exact HO4.out, Lib.hid rfl, Lib.hid (by rw [HZ2.out]; exact cutP_snoc hlt HC1.out), HX4, HB4, HXO4⟩
    · have d0 : decide (m < b) = false := decide_eq_false hlt
      have hm : m = b := by omega
      have HF := Lib.hid (HP.out out (by have := HC1.out; rw [hm] at this; exact this))
      clear hm
      go_wp2_with fail
      refine bodyPost_ret (results_tmp rfl _ _ _) rfl ?_
      exact ⟨out, A, n, d, rfl, HF.out, HO.out, HB.out⟩
theorem cut_any (E : Option Addr) (N c : Nat) (ends : List Int) (a b : Int) (w : World) (R : Nums w E N c ends) (hN : N ≤ 1000000000) : Calls Tryz.prog 41 #[.agg #[.int .i64 a, .int .i64 b], .slice E N c] w (RetCut 24 w ends a b) := by
  cases h : mayB a b with
  | false => exact cut_no _ ends a b w h
  | true => exact cut_yes E N c ends a b w R hN h
end Go.Proofs.YtonfjjmgjgmanaaGreat
