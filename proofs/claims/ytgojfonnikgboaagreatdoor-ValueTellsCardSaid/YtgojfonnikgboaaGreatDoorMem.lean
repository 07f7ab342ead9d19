/- A block that is known whole, of any number of cells, and may be written: what stays of it over calls and stores. The memory of a call: the blocks that it made and knows whole, the rows that it reads, and that nothing of what was there has changed. One fact in place of many: kept over calls by one lemma. -/
import Derived.Test.YtgojfonnikgboaaGreatDoorRef5
namespace Corr
open Go Go.RowKit
/-- A block that is just these cells, and may be written. -/
structure Blk (w : World) (k : Nat) (vs : Array Value) : Prop where
  blk : ∃ T, w.heap[k]? = some (.cells vs T (0, 0))
section
variable {w w' : World} {k g : Nat} {vs : Array Value}
theorem Blk.get (h : Blk w k vs) (i : Nat) {v : Value} (hv : vs.toList[i]? = some v) : w.cell? ⟨k, i, none⟩ = some v := by
  obtain ⟨T, h⟩ := h.blk; rw [Joins.cell_of_block h, ← Array.getElem?_toList]; exact hv
theorem Blk.f (h : Blk w k vs) (i : Nat) : w.frozen? ⟨k, i, none⟩ = false := by
  obtain ⟨T, h⟩ := h.blk; exact Joins.unfrozen_of_block h _
theorem Blk.sz (h : Blk w k vs) : k < w.heap.size := by
  obtain ⟨T, h⟩ := h.blk; exact (Array.getElem?_eq_some_iff.1 h).1
theorem Blk.keep (h : Blk w k vs) (hb : Below w.heap.size w w') : Blk w' k vs := by
  have hk := h.sz
  obtain ⟨T, h⟩ := h.blk
  exact ⟨T, by rw [hb.block k hk]; exact h⟩
theorem Blk.new (w : World) (vs : Array Value) (T : TypeId) : Blk (w.alloc (.cells vs T)) w.heap.size vs := ⟨T, heapNew w _⟩
theorem Blk.alloc (h : Blk w k vs) (o : Obj) : Blk (w.alloc o) k vs := h.keep ((Below.refl _ _).alloc (Nat.le_refl _) _)
theorem Blk.drew (h : Blk w k vs) : Blk w.drew k vs := h.keep ((Below.refl _ _).drew)
theorem Blk.far (h : Blk w k vs) (hg : k ≠ g) (i : Nat) (v : Value) : Blk (w.setCell ⟨g, i, none⟩ v) k vs := by
  obtain ⟨T, h⟩ := h.blk
  exact ⟨T, by rw [Below.heap_setCell _ _ _ _ hg]; exact h⟩
theorem Blk.set (h : Blk w k vs) (i : Nat) (v : Value) : Blk (w.setCell ⟨k, i, none⟩ v) k (vs.setIfInBounds i v) := by
  obtain ⟨T, h⟩ := h.blk
  exact ⟨T, Joins.block_setCell h v⟩
/-- Such a block without an int among its cells is no row's. -/
theorem Blk.ne_row {n c : Nat} {A : Option Addr} {xs : List Nat} (h : Blk w g vs) (hv : ∀ v ∈ vs, ∀ z, v ≠ .int .i64 z) (r : Row w A n c xs) : 0 < n → ∀ k off, A = some ⟨k, off, none⟩ → k ≠ g := by
  intro hn k off hA e
  subst e
  obtain ⟨k', off', hA', _, hc⟩ := r.at_ hn
  rw [hA] at hA'
  injection hA' with hA'
  injection hA' with e1 e2 _
  subst e1 e2
  have hl : 0 < xs.length := by rw [r.len]; exact hn
  have h0 := hc 0 _ (List.getElem?_eq_getElem hl)
  obtain ⟨T, hb⟩ := h.blk
  rw [Joins.cell_of_block hb, Nat.add_zero] at h0
  exact hv _ (Array.mem_of_getElem? h0) _ rfl
end
theorem Blk.of2 {w : World} {k : Nat} {a b : Value} (h : Box2 w k a b) : Blk w k #[a, b] := ⟨h.blk⟩
theorem Blk.to2 {w : World} {k : Nat} {a b : Value} (h : Blk w k #[a, b]) : Box2 w k a b := ⟨h.blk⟩
section
variable {w : World} {k g : Nat} {a b c a' b' c' : Value}
theorem Blk.c30 (h : Blk w k #[a, b, c]) : w.cell? ⟨k, 0, none⟩ = some a := h.get 0 rfl
theorem Blk.c31 (h : Blk w k #[a, b, c]) : w.cell? ⟨k, 1, none⟩ = some b := h.get 1 rfl
theorem Blk.c32 (h : Blk w k #[a, b, c]) : w.cell? ⟨k, 2, none⟩ = some c := h.get 2 rfl
theorem Blk.put3 (h : Blk w k #[a, b, c]) (u v x : Value) : Blk (((w.setCell ⟨k, 0, none⟩ u).setCell ⟨k, 1, none⟩ v).setCell ⟨k, 2, none⟩ x) k #[u, v, x] := ((h.set 0 u).set 1 v).set 2 x
theorem Blk.far3 {vs : Array Value} (h : Blk w k vs) (hg : k ≠ g) (u v x : Value) : Blk (((w.setCell ⟨g, 0, none⟩ u).setCell ⟨g, 1, none⟩ v).setCell ⟨g, 2, none⟩ x) k vs := ((h.far hg 0 u).far hg 1 v).far hg 2 x
theorem Blk.far2 {vs : Array Value} (h : Blk w k vs) (hg : k ≠ g) (u v : Value) : Blk ((w.setCell ⟨g, 0, none⟩ u).setCell ⟨g, 1, none⟩ v) k vs := (h.far hg 0 u).far hg 1 v
end
/-- A Wide's block is no row's. -/
theorem Blk.wide_ne {w : World} {g n c : Nat} {s : Bool} {h l : Int} {A : Option Addr} {xs : List Nat} (hb : Blk w g #[.bool s, .int .u64 h, .int .u64 l]) (r : Row w A n c xs) : 0 < n → ∀ k off, A = some ⟨k, off, none⟩ → k ≠ g :=
  hb.ne_row (by
    intro v hv z e
    simp at hv
    rcases hv with rfl | rfl | rfl <;> cases e) r
end Corr
namespace Corr
open Go Go.RowKit
/-- No int among these cells: the block is no row's. -/
def noI (vs : Array Value) : Bool := vs.toList.all fun v => match v with
  | .int .i64 _ => false
  | _ => true
theorem noI_ne {vs : Array Value} (h : noI vs = true) : ∀ v ∈ vs, ∀ z, v ≠ .int .i64 z := by
  intro v hv z e
  subst e
  have := List.all_eq_true.1 h _ (Array.mem_toList_iff.2 hv)
  simp at this
/-- A row as data: its address, its length, its room, its numbers. -/
abbrev RowD := Option Addr × Nat × Nat × List Nat
structure Mem (w wr : World) (bs : List (Nat × Array Value)) (rs : List RowD) : Prop where
  blk : ∀ p ∈ bs, Blk wr p.1 p.2
  row : ∀ r ∈ rs, Row wr r.1 r.2.1 r.2.2.1 r.2.2.2
  nd : bs.Pairwise fun p q => p.1 ≠ q.1
  lo : ∀ p ∈ bs, w.heap.size ≤ p.1
  bl : Below w.heap.size w wr
section
variable {w wr w' : World} {bs : List (Nat × Array Value)} {rs : List RowD}
theorem Mem.start (w : World) : Mem w w [] [] := ⟨(fun _ h => by cases h), (fun _ h => by cases h), List.Pairwise.nil, (fun _ h => by cases h), Below.refl _ _⟩
theorem Mem.b (S : Mem w wr bs rs) (i : Nat) {k : Nat} {vs : Array Value} (h : bs[i]? = some (k, vs)) : Blk wr k vs := S.blk _ (List.mem_of_getElem? h)
theorem Mem.c (S : Mem w wr bs rs) (i j : Nat) {k : Nat} {vs : Array Value} {v : Value} (h : bs[i]? = some (k, vs)) (hv : vs.toList[j]? = some v) : wr.cell? ⟨k, j, none⟩ = some v := (S.b i h).get j hv
theorem Mem.f (S : Mem w wr bs rs) (i j : Nat) {k : Nat} {vs : Array Value} (h : bs[i]? = some (k, vs)) : wr.frozen? ⟨k, j, none⟩ = false := (S.b i h).f j
theorem Mem.sz (S : Mem w wr bs rs) (i : Nat) {k : Nat} {vs : Array Value} (h : bs[i]? = some (k, vs)) : k < wr.heap.size := (S.b i h).sz
theorem Mem.r (S : Mem w wr bs rs) (i : Nat) {A : Option Addr} {n c : Nat} {xs : List Nat} (h : rs[i]? = some (A, n, c, xs)) : Row wr A n c xs := S.row _ (List.mem_of_getElem? h)
theorem Mem.keep (S : Mem w wr bs rs) (hb : Below wr.heap.size wr w') : Mem w w' bs rs :=
  ⟨fun p hp => (S.blk p hp).keep hb, fun r hr => (S.row r hr).keep hb, S.nd, S.lo, S.bl.trans (hb.mono S.bl.size)⟩
theorem Mem.drew (S : Mem w wr bs rs) : Mem w wr.drew bs rs := S.keep ((Below.refl _ _).drew)
theorem Mem.alloc (S : Mem w wr bs rs) (o : Obj) : Mem w (wr.alloc o) bs rs := S.keep ((Below.refl _ _).alloc (Nat.le_refl _) _)
theorem Mem.push (S : Mem w wr bs rs) (vs : Array Value) (T : TypeId) : Mem w (wr.alloc (.cells vs T)) (bs ++ [(wr.heap.size, vs)]) rs := by
  refine ⟨fun p hp => ?_, (S.alloc _).row, List.pairwise_append.2 ⟨S.nd, List.pairwise_singleton _ _, fun p hp q hq e => ?_⟩, fun p hp => ?_, (S.alloc _).bl⟩
  · rcases List.mem_append.1 hp with hp | hp
    · exact (S.blk p hp).alloc _
    · obtain rfl := List.mem_singleton.1 hp
      exact Blk.new wr vs T
  · have := (S.blk p hp).sz
    obtain rfl := List.mem_singleton.1 hq
    have e : p.1 = wr.heap.size := e
    omega
  · rcases List.mem_append.1 hp with hp | hp
    · exact S.lo p hp
    · obtain rfl := List.mem_singleton.1 hp
      exact S.bl.size
theorem Mem.add (S : Mem w wr bs rs) {A : Option Addr} {n c : Nat} {xs : List Nat} (h : Row wr A n c xs) : Mem w wr bs (rs ++ [(A, n, c, xs)]) :=
  ⟨S.blk, fun r hr => by
    rcases List.mem_append.1 hr with hr | hr
    · exact S.row r hr
    · obtain rfl := List.mem_singleton.1 hr
      exact h, S.nd, S.lo, S.bl⟩
/-- Two blocks change places in the list. -/
theorem Mem.perm (S : Mem w wr bs rs) {bs' : List (Nat × Array Value)} (h : bs.Perm bs') : Mem w wr bs' rs :=
  ⟨fun p hp => S.blk p (h.mem_iff.2 hp), S.row, h.pairwise S.nd fun e => Ne.symm e, fun p hp => S.lo p (h.mem_iff.2 hp), S.bl⟩
theorem Mem.rows (S : Mem w wr bs rs) {rs' : List RowD} (h : ∀ r ∈ rs', r ∈ rs) : Mem w wr bs rs' := ⟨S.blk, fun r hr => S.row r (h r hr), S.nd, S.lo, S.bl⟩
theorem Mem.only (S : Mem w wr bs rs) : Mem w wr bs [] := S.rows (fun _ h => by cases h)
theorem Mem.take (S : Mem w wr bs rs) (i : Nat) : Mem w wr (bs.take i) rs := ⟨fun p hp => S.blk p (List.mem_of_mem_take hp), S.row, S.nd.sublist (List.take_sublist _ _), fun p hp => S.lo p (List.mem_of_mem_take hp), S.bl⟩
theorem Mem.rtake (S : Mem w wr bs rs) (i : Nat) : Mem w wr bs (rs.take i) := S.rows (fun _ h => List.mem_of_mem_take h)
theorem Row.off {A : Option Addr} {n c k : Nat} {vs : Array Value} {xs : List Nat} (h : Row wr A n c xs) (B : Blk wr k vs) (hv : noI vs = true) (j : Nat) (v : Value) : Row (wr.setCell ⟨k, j, none⟩ v) A n c xs :=
  ⟨h.len, h.cap, fun hn => by
    obtain ⟨g, off, hA, hk, hc⟩ := h.at_ hn
    have hne := B.ne_row (noI_ne hv) h hn g off hA
    refine ⟨g, off, hA, by simp [go_sem]; omega, fun i x hx => ?_⟩
    have := hc i x hx
    simp [go_sem, this]⟩
theorem Mem.set (S : Mem w wr bs rs) (i : Nat) {k : Nat} {vs : Array Value} (h : bs[i]? = some (k, vs)) (hv : noI vs = true) (j : Nat) (v : Value) :
    Mem w (wr.setCell ⟨k, j, none⟩ v) (bs.set i (k, vs.setIfInBounds j v)) rs := by
  have hil : i < bs.length := (List.getElem?_eq_some_iff.1 h).1
  have hik : bs[i] = (k, vs) := (List.getElem?_eq_some_iff.1 h).2
  have hne : ∀ (p : Nat × Array Value) (q : Nat), bs[q]? = some p → q ≠ i → p.1 ≠ k := by
    intro p q hq hqi e
    have hql : q < bs.length := (List.getElem?_eq_some_iff.1 hq).1
    have hqe : bs[q] = p := (List.getElem?_eq_some_iff.1 hq).2
    rcases Nat.lt_or_gt_of_ne hqi with h1 | h1
    · exact List.pairwise_iff_getElem.1 S.nd q i hql hil h1 (by rw [hqe, hik]; exact e)
    · exact List.pairwise_iff_getElem.1 S.nd i q hil hql h1 (by rw [hqe, hik]; exact e.symm)
  have hmem : ∀ p ∈ bs.set i (k, vs.setIfInBounds j v), p = (k, vs.setIfInBounds j v) ∨ ∃ q, bs[q]? = some p ∧ q ≠ i := by
    intro p hp
    obtain ⟨q, hq⟩ := List.mem_iff_getElem?.1 hp
    by_cases e : q = i
    · subst e
      rw [List.getElem?_set_self hil] at hq
      exact .inl (by simpa using hq.symm)
    · rw [List.getElem?_set_ne (by omega)] at hq
      exact .inr ⟨q, hq, e⟩
  have hB : Blk wr k vs := S.b i h
  refine ⟨fun p hp => ?_, fun r hr => (S.row r hr).off hB hv j v, ?_, fun p hp => ?_, S.bl.setCell (p := ⟨k, j, none⟩) (S.lo _ (List.mem_of_getElem? h)) v⟩
  · rcases hmem p hp with rfl | ⟨q, hq, hqi⟩
    · exact hB.set j v
    · exact (S.blk p (List.mem_of_getElem? hq)).far (hne p q hq hqi) j v
  · have e : (bs.set i (k, vs.setIfInBounds j v)).map (·.1) = bs.map (·.1) := by
      rw [List.map_set]
      refine List.ext_getElem? fun q => ?_
      by_cases e : q = i
      · subst e
        rw [List.getElem?_set_self (by simpa using hil), List.getElem?_map, h]; rfl
      · rw [List.getElem?_set_ne (by omega)]
    have h1 : (bs.map (·.1)).Pairwise (· ≠ ·) := List.pairwise_map.2 S.nd
    rw [← e] at h1
    exact List.pairwise_map.1 h1
  · rcases hmem p hp with rfl | ⟨q, hq, _⟩
    · exact S.lo (k, vs) (List.mem_of_getElem? h)
    · exact S.lo p (List.mem_of_getElem? hq)
/-- .. whatever the block holds, where no row is known. -/
theorem Mem.set0 (S : Mem w wr bs []) (i : Nat) {k : Nat} {vs : Array Value} (h : bs[i]? = some (k, vs)) (j : Nat) (v : Value) :
    Mem w (wr.setCell ⟨k, j, none⟩ v) (bs.set i (k, vs.setIfInBounds j v)) [] := by
  have hil : i < bs.length := (List.getElem?_eq_some_iff.1 h).1
  have hik : bs[i] = (k, vs) := (List.getElem?_eq_some_iff.1 h).2
  have hne : ∀ (p : Nat × Array Value) (q : Nat), bs[q]? = some p → q ≠ i → p.1 ≠ k := by
    intro p q hq hqi e
    have hql : q < bs.length := (List.getElem?_eq_some_iff.1 hq).1
    have hqe : bs[q] = p := (List.getElem?_eq_some_iff.1 hq).2
    rcases Nat.lt_or_gt_of_ne hqi with h1 | h1
    · exact List.pairwise_iff_getElem.1 S.nd q i hql hil h1 (by rw [hqe, hik]; exact e)
    · exact List.pairwise_iff_getElem.1 S.nd i q hil hql h1 (by rw [hqe, hik]; exact e.symm)
  have hmem : ∀ p ∈ bs.set i (k, vs.setIfInBounds j v), p = (k, vs.setIfInBounds j v) ∨ ∃ q, bs[q]? = some p ∧ q ≠ i := by
    intro p hp
    obtain ⟨q, hq⟩ := List.mem_iff_getElem?.1 hp
    by_cases e : q = i
    · subst e
      rw [List.getElem?_set_self hil] at hq
      exact .inl (by simpa using hq.symm)
    · rw [List.getElem?_set_ne (by omega)] at hq
      exact .inr ⟨q, hq, e⟩
  have hB : Blk wr k vs := S.b i h
  refine ⟨fun p hp => ?_, (fun r hr => by cases hr), ?_, fun p hp => ?_, S.bl.setCell (p := ⟨k, j, none⟩) (S.lo _ (List.mem_of_getElem? h)) v⟩
  · rcases hmem p hp with rfl | ⟨q, hq, hqi⟩
    · exact hB.set j v
    · exact (S.blk p (List.mem_of_getElem? hq)).far (hne p q hq hqi) j v
  · have e : (bs.set i (k, vs.setIfInBounds j v)).map (·.1) = bs.map (·.1) := by
      rw [List.map_set]
      refine List.ext_getElem? fun q => ?_
      by_cases e : q = i
      · subst e
        rw [List.getElem?_set_self (by simpa using hil), List.getElem?_map, h]; rfl
      · rw [List.getElem?_set_ne (by omega)]
    have h1 : (bs.map (·.1)).Pairwise (· ≠ ·) := List.pairwise_map.2 S.nd
    rw [← e] at h1
    exact List.pairwise_map.1 h1
  · rcases hmem p hp with rfl | ⟨q, hq, _⟩
    · exact S.lo (k, vs) (List.mem_of_getElem? h)
    · exact S.lo p (List.mem_of_getElem? hq)
theorem noI_set {vs : Array Value} {j : Nat} {v : Value} (h : noI vs = true) (hv : noI #[v] = true) : noI (vs.setIfInBounds j v) = true := by
  refine List.all_eq_true.2 fun x hx => ?_
  rw [Array.toList_setIfInBounds] at hx
  rcases List.mem_or_eq_of_mem_set hx with hx | rfl
  · exact List.all_eq_true.1 h x hx
  · exact List.all_eq_true.1 hv x (List.mem_singleton.2 rfl)
theorem Mem.put2 (S : Mem w wr bs rs) (i : Nat) {k : Nat} {a b : Value} (h : bs[i]? = some (k, #[a, b])) (hv : noI #[a, b] = true) (u v : Value) (hu : noI #[u] = true) :
    Mem w ((wr.setCell ⟨k, 0, none⟩ u).setCell ⟨k, 1, none⟩ v) (bs.set i (k, #[u, v])) rs := by
  have hil : i < bs.length := (List.getElem?_eq_some_iff.1 h).1
  have S1 := (S.set i h hv 0 u).set i (k := k) (vs := #[u, b]) (List.getElem?_set_self hil) (noI_set (j := 0) hv hu) 1 v
  rw [List.set_set] at S1
  exact S1
theorem Mem.put3 (S : Mem w wr bs rs) (i : Nat) {k : Nat} {a b c : Value} (h : bs[i]? = some (k, #[a, b, c])) (hv : noI #[a, b, c] = true) (u v x : Value) (hu : noI #[u] = true) (hv' : noI #[v] = true) :
    Mem w (((wr.setCell ⟨k, 0, none⟩ u).setCell ⟨k, 1, none⟩ v).setCell ⟨k, 2, none⟩ x) (bs.set i (k, #[u, v, x])) rs := by
  have hil : i < bs.length := (List.getElem?_eq_some_iff.1 h).1
  have S1 := (S.set i h hv 0 u).set i (k := k) (vs := #[u, b, c]) (List.getElem?_set_self hil) (noI_set (j := 0) hv hu) 1 v
  rw [List.set_set] at S1
  have S2 := S1.set i (k := k) (vs := #[u, v, c]) (List.getElem?_set_self hil) (noI_set (j := 1) (noI_set (j := 0) hv hu) hv') 2 x
  rw [List.set_set] at S2
  exact S2
theorem Mem.put20 (S : Mem w wr bs []) (i : Nat) {k : Nat} {a b : Value} (h : bs[i]? = some (k, #[a, b])) (u v : Value) : Mem w ((wr.setCell ⟨k, 0, none⟩ u).setCell ⟨k, 1, none⟩ v) (bs.set i (k, #[u, v])) [] := by
  have hil : i < bs.length := (List.getElem?_eq_some_iff.1 h).1
  have S1 := (S.set0 i h 0 u).set0 i (k := k) (vs := #[u, b]) (List.getElem?_set_self hil) 1 v
  rw [List.set_set] at S1
  exact S1
end
end Corr
