/- What the laws of package refine ask of it, said of the values of days; two timelines made of puts. -/
import Derived.Test.YtonfjjmgjgmanaaGreatTlKnown
import Derived.Test.YtonfjjmgjgmanaaGreatRf4
namespace Corr
set_option maxRecDepth 8000
open Go Go.RowKit
set_option linter.unusedVariables false
/-- The common parts, by the values of days. -/
def partsF (fs : List (Int → Int)) (a b : Int) (out : PtL) : Prop := if mayB a b = true then covG (fun d => fs.map (· d)) a b out else out = []
theorem partsF_one {fs : List (Int → Int)} {a b : Int} {l m : PtL} (h : partsF fs a b l) (h' : partsF fs a b m) : l = m := by
  unfold partsF at h h'
  split at h
  · rename_i hm; rw [if_pos hm] at h'; exact covG_one h h'
  · rename_i hm; rw [if_neg hm] at h'; rw [h, h']
def RetPartsF (T : TypeId) (w : World) (fs : List (Int → Int)) (a b : Int) (e : Ending) (w' : World) : Prop := ∃ qs ps A n c, e = .returned (.slice A n c) ∧ partsF fs a b ps ∧ w'.ownsRow w.heap.size T 3 (.slice A n c) n (cellsP qs) ∧ PtsIn w' qs ps ∧ Below w.heap.size w w'
/-- A day's value, so many days ahead. -/
def mvF (f : Int → Int) (k : Int) : Int → Int := fun d => if 1 ≤ d ∧ d < 3652060 then f (d - k) else 0
theorem atL_off {l : ItL} (h : goodL l) : offF (atL l) := by
  intro d hd
  unfold atL
  have : l.reverse.find? (onB d) = none := by
    rw [List.find?_eq_none]
    intro y hy
    have hm := mayB_iff.1 (h y (List.mem_reverse.1 hy))
    rw [onB_iff]; omega
  rw [this]
theorem moved_F {l : ItL} (h : goodL l) (k : Int) : atL (movedL k l) = mvF (atL l) k := by
  funext d
  unfold mvF
  split
  · rename_i hd; exact moved_at h hd.1 hd.2
  · rename_i hd; exact atL_off (goodL_moved k l) d (by omega)
theorem mvF_far {f : Int → Int} (h : offF f) {k : Int} (hk : ¬ (-3652060 ≤ k ∧ k ≤ 3652060)) : mvF f k = fun _ => 0 := by
  funext d
  unfold mvF
  split
  · exact h _ (by omega)
  · rfl
theorem set_two {α : Type} {ts : List α} {a b c x : α} : (ts ++ [a, b, c]).set (ts.length + 1) x = ts ++ [a, x, c] := by
  rw [List.set_append_right _ _ (by omega), Nat.add_sub_cancel_left]; rfl
theorem take_two {α : Type} {ts : List α} {a b c : α} : (ts ++ [a, b, c]).take (ts.length + 2) = ts ++ [a, b] := by
  rw [List.take_append, List.take_of_length_le (by omega), Nat.add_sub_cancel_left]; rfl
/-- Puts, one by one. -/
def putAll (l : ItL) : ItL := l.foldl (fun o x => putL o x.1 x.2.1 x.2.2) []
theorem putAll_more {l : ItL} {k : Nat} {x : It} (h : l[k]? = some x) : putAll (l.take (k + 1)) = putL (putAll (l.take k)) x.1 x.2.1 x.2.2 := by
  unfold putAll
  rw [List.take_add_one, h, List.foldl_append]; rfl
theorem putAll_len (l : ItL) : ∀ k, (putAll (l.take k)).length ≤ k
  | 0 => by simp [putAll]
  | k + 1 => by
    cases h : l[k]? with
    | none =>
      rw [List.getElem?_eq_none_iff] at h
      have := putAll_len l k
      rw [List.take_of_length_le h] at this
      rw [List.take_of_length_le (by omega)]; omega
    | some x =>
      rw [putAll_more h]
      have h1 := putAll_len l k
      have h2 := putL_len (putAll (l.take k)) x.1 x.2.1 x.2.2
      omega
theorem putAll_length (l : ItL) : (putAll l).length ≤ l.length := by
  have := putAll_len l l.length
  rwa [List.take_length] at this
theorem goodL_putL {l : ItL} (h : goodL l) (a b v : Int) : goodL (putL l a b v) := by
  unfold putL
  split
  · rename_i hm
    intro y hy
    rcases List.mem_append.1 hy with hy | hy
    · exact h y hy
    · have : y = (a, b, v) := by simpa using hy
      subst this; exact hm
  · exact h
theorem goodL_putAll (l : ItL) : goodL (putAll l) := by
  have key : ∀ (l o : ItL), goodL o → goodL (l.foldl (fun o x => putL o x.1 x.2.1 x.2.2) o) := by
    intro l
    induction l with
    | nil => intro o h; exact h
    | cons y r ih => intro o h; exact ih _ (goodL_putL h _ _ _)
  exact key l [] (fun y hy => by cases hy)
end Corr
namespace Go.Proofs.YtonfjjmgjgmanaaGreat
set_option maxRecDepth 8000
open Go.RowKit Corr
set_option linter.unusedVariables false
set_option linter.unusedSimpArgs false
/-- What package refine does with whole numbers. -/
structure RfK (Rep : RepL) : Prop extends TlK0 Rep where
  parts : ∀ (w : World) (E : Option Addr) (N c : Nat) (ts : List (Value × Nat × (Int → Int))) (a b : Int), Lies w 1 E N c (ts.map (·.1)) → (∀ x ∈ ts, ∃ F, Rep w x.1 F x.2.1 x.2.2 ∧ x.2.1 ≤ 300) → N ≤ 100 → Calls Tryz.prog 15 #[.agg #[.int .i64 a, .int .i64 b], .slice E N c] w (RetPartsF 62 w (ts.map (·.2.2)) a b)
  cut : ∀ (w : World) (E : Option Addr) (N c : Nat) (es : List Int) (a b : Int), Nums w E N c es → N ≤ 100000 → Calls Tryz.prog 34 #[.agg #[.int .i64 a, .int .i64 b], .slice E N c] w (RetCut 24 w es a b)
  differ : ∀ (w : World) (p q : Value) (F G : Nat → Prop) (N M : Nat) (f g : Int → Int) (a b : Int), Rep w p F N f → Rep w q G M g → N ≤ 300 → M ≤ 300 → Calls Tryz.prog 8 #[p, q, .agg #[.int .i64 a, .int .i64 b]] w (RetDif 24 w f g a b)
  moved : ∀ (w : World) (p : Value) (F : Nat → Prop) (N : Nat) (f : Int → Int) (k : Int), Rep w p F N f → N ≤ 149 → -9223372036854775808 ≤ k → k ≤ 9223372036854775807 → Calls Tryz.prog 10 #[p, .int .i64 k] w fun e w' => ∃ (q : Addr) (F' : Nat → Prop), e = .returned (.pointer (some q)) ∧ Rep w' (.pointer (some q)) F' (2 * N + 1) (mvF f k) ∧ Below w.heap.size w w' ∧ ∀ k, F' k → w.heap.size ≤ k
section
variable {Rep : RepL} {w0 w : World} {ts : List Thing}
set_option maxHeartbeats 2000000 in
/-- A timeline and the document's, of puts. -/
theorem made12_any (K : TlK0 Rep) (h : Sep w0 ts w) (A : Option Addr) (N c : Nat) (l : ItL) (Rl : ∀ (us : List Thing) (wx : World), Sep w0 (ts ++ us) wx → Itm wx A N c l) (hN : N ≤ 300) : Calls Tryz.prog 6 #[.slice A N c] w fun e w' => ∃ (q : Addr) (g : Nat), e = .returned (.tuple #[.pointer (some q), .pointer (some ⟨g, 0, none⟩)]) ∧ Sep w0 (ts ++ [tlT K.toTlOk (.pointer (some q)) N (atL (putAll l)), dT g (putAll l)]) w' := by
  have HK := Lib.hid K
  have HR := Lib.hid Rl
  have HL := Lib.hid (Itm.count (Rl [] w (by rw [List.append_nil]; exact h)))
  have HS0 := Lib.hid h
  clear Rl h
  go_enter Tryz.func6, Tryz.ntmps6
  go_wp2_with fail
  refine (sep0_tmake K HS0.out).mono ?_
  rintro e w1 ⟨q, rfl, s1⟩
  have HS1 := Lib.hid (show Sep w0 (ts ++ [tlT K.toTlOk (.pointer (some q)) 0 (atL []), dT w1.heap.size []]) (w1.alloc (.cells #[.slice none 0 0] 38)) from by
    have := s1.addDoc 46 38
    rwa [List.append_assoc] at this)
  obtain ⟨g, hg⟩ : ∃ g, w1.heap.size = g := ⟨_, rfl⟩
  clear s1
  go_wp2_with fail
  try rw [hg] at HS1
  generalize w1.alloc (.cells #[.slice none 0 0] 38) = w2 at *
  clear hg
  go_loopw [13] (fun u wr => ∃ k : Nat, u = .int .i64 (k : Int) ∧ k ≤ N ∧ Hid (Sep w0 (ts ++ [tlT K.toTlOk (.pointer (some q)) k (atL (putAll (l.take k))), dT g (putAll (l.take k))]) wr)) (fun u _ => (N - intOf u).toNat)
  case atStart => exact ⟨0, rfl, by omega, HS1⟩
  case round =>
    obtain ⟨k, rfl, hk, HS⟩ := hrel
    clear HS1
    by_cases hlt : k < N
    · obtain ⟨ga, off, s, rfl, hs, hga, c0, c1, c2⟩ := Itm.get (HR.out _ _ HS.out) hlt
      obtain ⟨x1, x2, x3⟩ := s
      have HX := Lib.hid hs
      have HP := Lib.hid (show Sep w0 (ts ++ [tlT K.toTlOk (.pointer (some q)) k (atL (putAll (l.take k))), dT g (putAll (l.take k)), blkT wr.heap.size #[.int .i64 x1, .int .i64 x2, .int .i64 x3]]) (wr.alloc (.cells #[.int .i64 x1, .int .i64 x2, .int .i64 x3] 50)) from by
        have := HS.out.push #[.int .i64 x1, .int .i64 x2, .int .i64 x3] 50
        rwa [List.append_assoc] at this)
      have hb := Sep.b HP.out (ts.length + 2) (k := wr.heap.size) (vs := #[.int .i64 x1, .int .i64 x2, .int .i64 x3]) (by simp)
      have y0 := hb.get 0 rfl
      have y1 := hb.get 1 rfl
      have y2 := hb.get 2 rfl
      clear hs hb
      go_wp2_with fail
      refine (sep0_tputL K HP.out (i := ts.length) (p := .pointer (some q)) (N := k) (l := putAll (l.take k)) (by simp) (by omega) x1 x2 x3).mono ?_
      rintro e w4 ⟨rfl, hs4⟩
      have HP4 := Lib.hid (show Sep w0 (ts ++ [tlT K.toTlOk (.pointer (some q)) (k + 1) (atL (putAll (l.take (k + 1)))), dT g (putAll (l.take k)), blkT wr.heap.size #[.int .i64 x1, .int .i64 x2, .int .i64 x3]]) w4 from by
        rw [putAll_more HX.out]
        simpa using hs4)
      have hb := Sep.b HP4.out (ts.length + 2) (k := wr.heap.size) (vs := #[.int .i64 x1, .int .i64 x2, .int .i64 x3]) (by simp)
      clear y0 y1 y2 hs4
      have y0 := hb.get 0 rfl
      have y1 := hb.get 1 rfl
      have y2 := hb.get 2 rfl
      clear hb
      go_wp2_with fail
      refine (sep_dput HP4.out (i := ts.length + 1) (g := g) (l := putAll (l.take k)) (by simp) (by have := putAll_len l k; omega) x1 x2 x3).mono ?_
      rintro e w5 ⟨rfl, hs5⟩
      have HP5 := Lib.hid (show Sep w0 (ts ++ [tlT K.toTlOk (.pointer (some q)) (k + 1) (atL (putAll (l.take (k + 1)))), dT g (putAll (l.take (k + 1)))]) w5 from by
        have := hs5.take (ts.length + 2)
        rw [set_two, take_two] at this
        rw [putAll_more HX.out] at this ⊢
        exact this)
      clear hs5 y0 y1 y2
      go_wp2_with fail
      go_roundw
      case rel => exact ⟨k + 1, by go_num, by omega, HP5⟩
      case measure => simp [intOf]; omega
    · have hkN : k = N := by omega
      subst hkN
      have HTK := Lib.hid (show l.take k = l from List.take_of_length_le (by rw [HL.out]; exact Nat.le_refl _))
      go_wp2_with fail
      refine bodyPost_ret (results_tmp2 rfl _ _ _) rfl ?_
      exact ⟨q, g, rfl, by have := HS.out; rwa [HTK.out] at this⟩
end
end Go.Proofs.YtonfjjmgjgmanaaGreat
