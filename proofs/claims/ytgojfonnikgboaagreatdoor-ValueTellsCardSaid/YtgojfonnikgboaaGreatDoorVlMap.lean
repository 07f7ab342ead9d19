/- The words of package value: a map of six entries, keyed by values: how it lies, what is looked up in it, what is gone through. -/
import Derived.Test.YtgojfonnikgboaaGreatDoorMem
import Derived.Maps.RangeWalk
import Derived.Laws.StructEq
namespace Corr
open Go
/-- A value as it lies. -/
abbrev vl4 (K C S E : Int) : Value := .agg #[.int .u8 K, .int .i64 C, .int .i64 S, .int .i64 E]
/-- The words: a kind, an error, a text. -/
def wordsL : List (Int × Int × List UInt8) :=
  [(0, 0, [97, 98, 115, 101, 110, 116]), (2, 0, [116, 114, 117, 101]), (3, 0, [102, 97, 108, 115, 101]), (4, 11, [111, 118, 101, 114]), (4, 12, [100, 105, 118]), (4, 13, [109, 105, 115, 115, 105, 110, 103])]
/-- An entry. -/
def mkE (p : Int × Int × List UInt8) (n : Nat) : MapEntry := { key := vl4 p.1 0 0 p.2.1, val := .agg #[.string ⟨p.2.2.toArray⟩], born := n }
def entsF : List (Int × Int × List UInt8) → Nat → List MapEntry
  | [], _ => []
  | p :: l, n => mkE p n :: entsF l (n + 1)
theorem entsF_app (p : Int × Int × List UInt8) : ∀ (l : List (Int × Int × List UInt8)) (n : Nat), entsF (l ++ [p]) n = entsF l n ++ [mkE p (n + l.length)]
  | [], n => rfl
  | q :: l, n => by
    show mkE q n :: entsF (l ++ [p]) (n + 1) = mkE q n :: (entsF l (n + 1) ++ [mkE p (n + (l.length + 1))])
    rw [entsF_app p l (n + 1), show n + 1 + l.length = n + (l.length + 1) by omega]
theorem entsF_mem {e : MapEntry} : ∀ {l : List (Int × Int × List UInt8)} {n : Nat}, e ∈ entsF l n → ∃ p ∈ l, ∃ k, e = mkE p k ∧ n ≤ k ∧ k < n + l.length
  | [], _, h => by cases h
  | q :: l, n, h => by
    rcases List.mem_cons.1 h with rfl | h
    · exact ⟨q, by simp, n, rfl, Nat.le_refl _, by simp⟩
    · obtain ⟨p, hp, k, e, h1, h2⟩ := entsF_mem h
      exact ⟨p, by simp [hp], k, e, by omega, by simp; omega⟩
theorem entsF_has {p : Int × Int × List UInt8} : ∀ {l : List (Int × Int × List UInt8)} (n : Nat), p ∈ l → ∃ k, mkE p k ∈ entsF l n
  | [], _, h => by cases h
  | q :: l, n, h => by
    rcases List.mem_cons.1 h with rfl | h
    · exact ⟨n, by simp [entsF]⟩
    · obtain ⟨k, hk⟩ := entsF_has (n + 1) h
      exact ⟨k, by simp [entsF, hk]⟩
theorem entsF_nodup : ∀ (l : List (Int × Int × List UInt8)) (n : Nat), ((entsF l n).map (·.born)).Nodup
  | [], _ => by simp [entsF]
  | q :: l, n => by
    simp only [entsF, List.map_cons, List.nodup_cons]
    refine ⟨fun h => ?_, entsF_nodup l (n + 1)⟩
    obtain ⟨e, he, hb⟩ := List.mem_map.1 h
    obtain ⟨p, _, k, rfl, h1, _⟩ := entsF_mem he
    have : k = n := hb
    omega
/-- Is this key the one that is asked? -/
def sameW (K C S E : Int) (p : Int × Int × List UInt8) : Bool := (K == p.1) && (((C == 0) && (S == 0)) && (E == p.2.1))
def pickW (K C S E : Int) : List (Int × Int × List UInt8) → Nat → Option (Nat × Value)
  | [], _ => none
  | p :: l, i => if sameW K C S E p = true then some (i, .agg #[.string ⟨p.2.2.toArray⟩]) else pickW K C S E l (i + 1)
theorem sameW_iff {K C S E : Int} {p : Int × Int × List UInt8} : sameW K C S E p = true ↔ K = p.1 ∧ C = 0 ∧ S = 0 ∧ E = p.2.1 := by
  unfold sameW; simp only [Bool.and_eq_true, beq_iff_eq]; constructor
  · rintro ⟨a, ⟨b, c⟩, d⟩; exact ⟨a, b, c, d⟩
  · rintro ⟨a, b, c, d⟩; exact ⟨a, ⟨b, c⟩, d⟩
theorem pickW_some {K C S E : Int} {v : Value} {j : Nat} : ∀ {l : List (Int × Int × List UInt8)} {i : Nat}, pickW K C S E l i = some (j, v) → ∃ p ∈ l, K = p.1 ∧ C = 0 ∧ S = 0 ∧ E = p.2.1 ∧ v = .agg #[.string ⟨p.2.2.toArray⟩]
  | [], _, h => by cases h
  | p :: l, i, h => by
    unfold pickW at h
    split at h
    · rename_i hs
      obtain ⟨a, b, c, d⟩ := sameW_iff.1 hs
      simp only [Option.some.injEq, Prod.mk.injEq] at h
      exact ⟨p, by simp, a, b, c, d, h.2.symm⟩
    · obtain ⟨q, hq, r⟩ := pickW_some h
      exact ⟨q, by simp [hq], r⟩
theorem pickW_none {K C S E : Int} : ∀ {l : List (Int × Int × List UInt8)} {i : Nat}, pickW K C S E l i = none → ∀ p ∈ l, ¬ (K = p.1 ∧ C = 0 ∧ S = 0 ∧ E = p.2.1)
  | [], _, _ => by simp
  | p :: l, i, h => by
    unfold pickW at h
    split at h
    · cases h
    · rename_i hs
      intro q hq
      rcases List.mem_cons.1 hq with rfl | hq
      · exact fun hh => hs (sameW_iff.2 hh)
      · exact pickW_none h q hq
/-- Nothing is left. -/
def AllSeen (seen : Array Nat) (l : List (Int × Int × List UInt8)) : Prop := ∀ p ∈ l, ∀ k, mkE p k ∈ entsF l 0 → seen.contains k = true
/-- What a look-up finds. -/
def lookT (K C S E : Int) (l : List (Int × Int × List UInt8)) : Value := match pickW K C S E l 0 with | some (_, v) => v | none => .agg #[.string ⟨#[]⟩]
def lookB (K C S E : Int) (l : List (Int × Int × List UInt8)) : Bool := match pickW K C S E l 0 with | some _ => true | none => false
end Corr
namespace Go.Proofs.YtgojfonnikgboaaGreatDoor
open Go.RowKit Corr
set_option linter.unusedVariables false
set_option linter.unusedSimpArgs false
theorem eq_val (K C S E K' C' S' E' : Int) (w : World) : (Op.equal 26 (vl4 K C S E) (vl4 K' C' S' E')).run Tryz.prog w = .ok ((K == K') && (((C == C') && (S == S')) && (E == E'))) w := by
  unfold Op.equal
  rw [show Op.maxDepth = 10000 from rfl]
  go_simp
  by_cases h1 : K = K' <;> by_cases h2 : C = C' <;> by_cases h3 : S = S' <;> by_cases h4 : E = E' <;> simp [h1, h2, h3, h4]
theorem check_val (em : Bool) (K C S E : Int) (w : World) : (Instr.checkKey em 10000 26 (vl4 K C S E)).run Tryz.prog w = .ok () w := by
  kernel_rfl
theorem find_asking (K C S E : Int) (w : World) : ∀ (l : List (Int × Int × List UInt8)) (n i : Nat), (Instr.findAsking 26 (vl4 K C S E) (entsF l n) i).run Tryz.prog w = .ok (pickW K C S E l i) w
  | [], n, i => rfl
  | p :: l, n, i => by
    show (Instr.findAsking 26 (vl4 K C S E) (mkE p n :: entsF l (n + 1)) i).run Tryz.prog w = _
    unfold Instr.findAsking pickW
    have h := eq_val K C S E p.1 0 0 p.2.1 w
    simp only [Sem.run_bind, show (mkE p n).key = vl4 p.1 0 0 p.2.1 from rfl, h, Result.andThen_ok]
    show (if sameW K C S E p = true then _ else _ : Sem _).run Tryz.prog w = _
    by_cases hs : sameW K C S E p = true
    · rw [if_pos hs, if_pos hs]; rfl
    · rw [if_neg hs, if_neg hs]; exact find_asking K C S E w l (n + 1) (i + 1)
theorem find_key (K C S E : Int) (w : World) (l : List (Int × Int × List UInt8)) (n : Nat) : (Instr.findKey 26 (vl4 K C S E) (entsF l n)).run Tryz.prog w = .ok (pickW K C S E l 0) w := by
  unfold Instr.findKey
  simp only [Sem.run_bind, run_underlying Tryz.underlying26, Result.andThen_ok]
  cases l with
  | nil => rfl
  | cons p l => exact find_asking K C S E w (p :: l) n 0
theorem upd_val {w : World} {b : Nat} {l : List (Int × Int × List UInt8)} (p : Int × Int × List UInt8) (hb : w.heap[b]? = some (.map (entsF l 0).toArray l.length)) (hn : pickW p.1 0 0 p.2.1 l 0 = none) :
    (Instr.mapUpdate 43 (.map (some b)) (vl4 p.1 0 0 p.2.1) (.agg #[.string ⟨p.2.2.toArray⟩])).run Tryz.prog w = .ok () (ChangeMaps.setBlock w b (.map (entsF (l ++ [p]) 0).toArray (l ++ [p]).length)) := by
  have hc := check_val false p.1 0 0 p.2.1 w
  have hf := find_key p.1 0 0 p.2.1 w l 0
  rw [hn] at hf
  unfold Instr.mapUpdate
  simp only [Sem.run_bind, run_underlying Tryz.underlying43, Result.andThen_ok, MapKept.run_getObj_map hb, hc, hf, MapKept.run_setObj_map _ hb, ChangeMaps.setBlock]
  simp [entsF_app, mkE]
theorem look_val {w : World} {b k : Nat} {l : List (Int × Int × List UInt8)} (K C S E : Int) (ok : Bool) (hb : w.heap[b]? = some (.map (entsF l 0).toArray k)) :
    (Instr.lookup 43 (.map (some b)) (vl4 K C S E) ok).run Tryz.prog w = .ok (if ok = true then .tuple #[lookT K C S E l, .bool (lookB K C S E l)] else lookT K C S E l) w := by
  have hc := check_val (entsF l 0).toArray.isEmpty K C S E w
  have hf := find_key K C S E w l 0
  have hz : (zeroValue 42).run Tryz.prog w = .ok (.agg #[.string ⟨#[]⟩]) w := by kernel_rfl
  unfold Instr.lookup
  simp only [Sem.run_bind, run_underlying Tryz.underlying43, Result.andThen_ok, MapKept.run_getObj_map hb, hc, Sem.run_pure]
  rw [hf]
  unfold lookT lookB
  cases pickW K C S E l 0 with
  | none => simp [hz]
  | some x => simp
theorem born_all (l : List (Int × Int × List UInt8)) : ∀ x ∈ (entsF l 0).toArray.toList, x.born < l.length := fun x hx => by
  obtain ⟨p, _, k, rfl, _, h⟩ := entsF_mem (by simpa using hx)
  show k < l.length
  omega
/-- A store of a word more. -/
theorem wpl_upd {w : World} {ops : Array Oper} {rest : List Oper} {o : Oper} {a : Act} {Q : Exit → Act → World → Prop} (hg : o.guard = none) (m x v : Operand) (hop : o.op = Op.insert 43 m x v) (b : Nat) (l : List (Int × Int × List UInt8)) (p : Int × Int × List UInt8)
    (hm : a.eval m = .map (some b)) (hb : w.heap[b]? = some (.map (entsF l 0).toArray l.length)) (hn : pickW p.1 0 0 p.2.1 l 0 = none) (hx : a.eval x = vl4 p.1 0 0 p.2.1) (hv : a.eval v = .agg #[.string ⟨p.2.2.toArray⟩])
    (hK : ∀ w', w'.heap[b]? = some (.map (entsF (l ++ [p]) 0).toArray (l ++ [p]).length) → w.grownBy w' (some b) → w'.heap.size = w.heap.size → wpList Tryz.prog ops Q rest (a.put o.dst undef) w') :
    wpList Tryz.prog ops Q (o :: rest) a w := by
  refine wpList_plain hg fun K' hK' => ?_
  have hrun := upd_val p hb hn
  unfold Oper.wp
  simp only [execOp, hop, hm, hx, hv, Sem.run_bind, hrun, Result.andThen]
  exact hK' _ _ (hK _ (ChangeMaps.heap_setBlock_same hb _) ⟨rfl, rfl, rfl, by simp [ChangeMaps.setBlock], fun i _ hi => ChangeMaps.heap_setBlock_other hb _ (fun e => hi (by rw [e]))⟩ (by simp [ChangeMaps.setBlock]))
/-- The step of a loop over the words. -/
theorem wpl_next {w : World} {ops : Array Oper} {rest : List Oper} {o : Oper} {a : Act} {Q : Exit → Act → World → Prop} (hg : o.guard = none) (it : Operand) (hop : o.op = Op.next it false) (l : List (Int × Int × List UInt8)) (b r : Nat) (seen : Array Nat) (hit : a.eval it = .pointer (some ⟨r, 0, none⟩))
    (hb : w.heap[b]? = some (.map (entsF l 0).toArray l.length)) (hr : w.heap[r]? = some (.mapIter (some b) l.length seen l.length))
    (hDone : AllSeen seen l → wpList Tryz.prog ops Q rest (a.put o.dst (.tuple #[.bool false])) w)
    (hMore : ∀ (kk ee : Int) (tt : List UInt8) (k : Nat) (w' : World), (kk, ee, tt) ∈ l → mkE (kk, ee, tt) k ∈ entsF l 0 → w'.heap[b]? = some (.map (entsF l 0).toArray l.length) → w'.heap[r]? = some (.mapIter (some b) l.length (seen.push k) l.length) →
      w'.rangeLeft b r < w.rangeLeft b r → w.grownBy w' (some r) → w'.heap.size = w.heap.size → (Instr.entry (.pointer (some ⟨r, 0, none⟩))).run Tryz.prog w' = .ok (.tuple #[vl4 kk 0 0 ee, .agg #[.string ⟨tt.toArray⟩]]) w' →
      wpList Tryz.prog ops Q rest (a.put o.dst (.tuple #[.bool true, vl4 kk 0 0 ee, .agg #[.string ⟨tt.toArray⟩]])) w') :
    wpList Tryz.prog ops Q (o :: rest) a w := by
  refine wpList_plain hg fun K' hK' => ?_
  have hne : b ≠ r := fun e => by rw [e, hr] at hb; cases hb
  unfold Oper.wp
  rcases run_next_at (P := Tryz.prog) w o.type r b l.length l.length seen _ l.length hr hb (born_all l) (Nat.le_refl _) with ⟨h0, hrun⟩ | ⟨e, he, w1, hal, hrun⟩
  · simp [execOp, hop, hit, hrun, Result.andThen]
    exact hK' _ _ (hDone fun p hp k hk => all_seen _ _ h0 (mkE p k) (by simpa using hk))
  · simp [execOp, hop, hit, hrun, Result.andThen]
    obtain ⟨hem, hes⟩ := mem_left he
    have hem' : e ∈ entsF l 0 := by simpa using hem
    have hsh := left_shrinks _ seen e he
    obtain ⟨⟨kk, ee, tt⟩, hp, k, rfl, _, _⟩ := entsF_mem hem'
    have hr1 : w1.heap[r]? = some (.mapIter (some b) l.length seen l.length) := by rcases hal with rfl | rfl <;> exact hr
    have hb1 : w1.heap[b]? = some (.map (entsF l 0).toArray l.length) := by rcases hal with rfl | rfl <;> exact hb
    have hset := MapKept.heap_set (o' := .mapIter (some b) l.length (seen.push k) l.length) hr1
    have hb' : (ChangeMaps.setBlock w1 r (.mapIter (some b) l.length (seen.push k) l.length)).heap[b]? = some (.map (entsF l 0).toArray l.length) := (hset.2 b hne).trans hb1
    have hr' : (ChangeMaps.setBlock w1 r (.mapIter (some b) l.length (seen.push k) l.length)).heap[r]? = some (.mapIter (some b) l.length (seen.push k) l.length) := hset.1
    refine hK' _ _ (hMore kk ee tt k (ChangeMaps.setBlock w1 r (.mapIter (some b) l.length (seen.push k) l.length)) hp hem' hb' hr' ?_ ?_ ?_ (run_entry_at _ r b l.length seen _ l.length _ hr' hb' hem (by simpa using entsF_nodup l 0)))
    · simp only [World.rangeLeft, hb', hr', hb, hr]
      exact hsh
    · rcases hal with rfl | rfl <;> exact ⟨rfl, rfl, rfl, by simp [ChangeMaps.setBlock], fun i _ hi => hset.2 i (fun e1 => hi (by rw [e1]))⟩
    · rcases hal with rfl | rfl <;> simp [ChangeMaps.setBlock]
end Go.Proofs.YtgojfonnikgboaaGreatDoor
