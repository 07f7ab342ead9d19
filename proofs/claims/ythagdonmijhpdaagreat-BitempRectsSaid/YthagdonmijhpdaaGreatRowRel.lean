/- Plain arithmetic of package wide -/
import Derived.Test.YthagdonmijhpdaaGreatRow4
import Derived.Lib.Hide
import Derived.Lib.SmallJoins
import Derived.OwnWalk
import Derived.Deep.QuietTactic
import Derived.BigQuiet
import Derived.Deep.RegionHeld3
import Derived.Deep.DeepCutAuto
import Derived.Deep.CutBlock
import Derived.Deep.LoopGhost
import Derived.Deep.Quiet
import Derived.StillTail
import Derived.Below
set_option linter.unusedVariables false
namespace Corr
open Go
def digs (n:Nat):List Nat:=if h:n=0 then []else n % 1000 :: digs (n / 1000)
termination_by n
decreasing_by omega
open Go.RowKit
theorem heapNew (w:World)(o:Obj):(w.alloc o).heap[w.heap.size]? =some o:=by
 show (w.heap.push o)[w.heap.size]? =some o
 simp
structure Row (w:World)(A:Option Addr)(n c:Nat)(xs:List Nat):Prop where
 len:xs.length=n
 cap:n≤c
 at_:0<n→∃g off,A=some ⟨g,off,none⟩∧g<w.heap.size∧∀(i x:Nat),xs[i]? =some x→w.cell? ⟨g,off+i,none⟩=some (.int .i64 (x:Int))
theorem Row.keep {w w':World} {A:Option Addr} {n c:Nat} {xs:List Nat}(h:Row w A n c xs)(hb:Below w.heap.size w w'):Row w' A n c xs:=
 ⟨h.len,h.cap,fun hn=>by
  obtain⟨g,off,hA,hg,hc⟩:=h.at_ hn
  exact⟨g,off,hA,Nat.lt_of_lt_of_le hg hb.size,fun i x hx=>(hb.cell (p:=⟨g,off+i,none⟩) hg).trans (hc i x hx)⟩⟩
theorem Row.nil_ (w:World):Row w none 0 0 []:=⟨rfl,Nat.le_refl _,fun h=>absurd h (by omega)⟩
def encN (x:Nat):Value:= .int .i64 (x:Int)
theorem Row.of_own {w:World} {base:Nat} {e:TypeId} {v:Value} {xs:List Nat}(h:w.ownsRow base e 1 v xs.length (xs.map encN)): ∃A c,v= .slice A xs.length c∧Row w A xs.length c xs:=by
 rcases Joins.ownsRow_forms h with⟨rfl,hn⟩ | ⟨g,cap,rfl⟩
 ·have:xs= []:=List.length_eq_zero_iff.1 hn
  subst this
  exact⟨none,0,rfl,Row.nil_ w⟩
 ·refine⟨some ⟨g,0,none⟩,cap,rfl,rfl,?_,fun hn=>⟨g,0,rfl,?_,fun i x hx=> ?_⟩⟩
  ·obtain⟨_,h' | ⟨g',cap',cur,hv,_,_,hc,_⟩⟩:=h
   ·cases h'.1
   ·injection hv with _ _ e2;rw [e2];exact hc
  ·obtain⟨_,h' | ⟨g',cap',cur,hv,_,hh,_⟩⟩:=h
   ·cases h'.1
   ·injection hv with e1 _ _
    injection e1 with e1
    injection e1 with e1 _ _
    subst e1
    exact(Array.getElem?_eq_some_iff.1 hh).1
  ·have hi:i<xs.length:=(List.getElem?_eq_some_iff.1 hx).1
   rw [Nat.zero_add,h.cellAt i (by omega),List.getElem?_map,hx]
   rfl
end Corr
namespace Go.Proofs.YthagdonmijhpdaaGreat
open Go.RowKit Corr
end Go.Proofs.YthagdonmijhpdaaGreat
namespace Corr
open Go Go.RowKit
theorem Row.get {w:World} {A:Option Addr} {n c:Nat} {xs:List Nat}(h:Row w A n c xs)(hd: ∀x∈xs,x<1000) {k:Nat}(hk:k<n):
  ∃g off x,A=some ⟨g,off,none⟩∧xs[k]? =some x∧x<1000∧∀w',Below w.heap.size w w'→w'.cell? ⟨g,off+k,none⟩=some (.int .i64 (x:Int)):=by
 obtain⟨g,off,hA,hg,hc⟩:=h.at_ (by omega)
 have hl:k<xs.length:=by rw [h.len];exact hk
 refine⟨g,off,xs[k],hA,List.getElem?_eq_getElem hl,hd _ (List.getElem_mem hl),fun w' hb=> ?_⟩
 rw [hb.cell (p:=⟨g,off+k,none⟩) hg]
 exact hc k _ (List.getElem?_eq_getElem hl)
end Corr
namespace Go.Proofs.YthagdonmijhpdaaGreat
open Go.RowKit Corr
end Go.Proofs.YthagdonmijhpdaaGreat
namespace Corr
open Go Go.RowKit
end Corr
namespace Go.Proofs.YthagdonmijhpdaaGreat
open Go.RowKit Corr
end Go.Proofs.YthagdonmijhpdaaGreat
namespace Corr
open Go Go.RowKit
end Corr
namespace Go.Proofs.YthagdonmijhpdaaGreat
open Go.RowKit Corr
end Go.Proofs.YthagdonmijhpdaaGreat
namespace Corr
open Go Go.RowKit
structure Box2 (w:World)(k:Nat)(a b:Value):Prop where
 blk: ∃T,w.heap[k]? =some (.cells #[a,b] T (0,0))
theorem Box2.c0 {w:World} {k:Nat} {a b:Value}(h:Box2 w k a b):w.cell? ⟨k,0,none⟩=some a:=by
 obtain⟨T,h⟩:=h.blk;rw [Joins.cell_of_block h];rfl
theorem Box2.c1 {w:World} {k:Nat} {a b:Value}(h:Box2 w k a b):w.cell? ⟨k,1,none⟩=some b:=by
 obtain⟨T,h⟩:=h.blk;rw [Joins.cell_of_block h];rfl
theorem Box2.f {w:World} {k:Nat} {a b:Value}(h:Box2 w k a b)(i:Nat):w.frozen? ⟨k,i,none⟩=false:=by
 obtain⟨T,h⟩:=h.blk;exact Joins.unfrozen_of_block h _
theorem Box2.sz {w:World} {k:Nat} {a b:Value}(h:Box2 w k a b):k<w.heap.size:=by
 obtain⟨T,h⟩:=h.blk;exact(Array.getElem?_eq_some_iff.1 h).1
theorem Box2.keep {W w1:World} {k:Nat} {a b:Value}(h:Box2 W k a b)(hb:Below W.heap.size W w1):Box2 w1 k a b:=by
 have hk:=h.sz
 obtain⟨T,h⟩:=h.blk
 exact⟨T,by rw [hb.block k hk];exact h⟩
theorem Box2.new (w:World)(a b:Value)(T:TypeId):Box2 (w.alloc (.cells #[a,b] T)) w.heap.size a b:=⟨T,heapNew w _⟩
theorem Box2.alloc {w:World} {k:Nat} {a b:Value}(h:Box2 w k a b)(o:Obj):Box2 (w.alloc o) k a b:=
 h.keep ((Below.refl _ _).alloc (Nat.le_refl _) _)
theorem Box2.drew {w:World} {k:Nat} {a b:Value}(h:Box2 w k a b):Box2 w.drew k a b:=h.keep ((Below.refl _ _).drew)
theorem Box2.far {w:World} {k g:Nat} {a b:Value}(h:Box2 w k a b)(hg:k≠g)(u v:Value):Box2 ((w.setCell ⟨g,0,none⟩ u).setCell ⟨g,1,none⟩ v) k a b:=by
 obtain⟨T,h⟩:=h.blk
 exact⟨T,by rw [Below.heap_setCell _ _ _ _ hg,Below.heap_setCell _ _ _ _ hg];exact h⟩
theorem Box2.stored {w:World} {k:Nat} {a b:Value}(h:Box2 w k a b)(u v:Value):Box2 ((w.setCell ⟨k,0,none⟩ u).setCell ⟨k,1,none⟩ v) k u v:=by
 obtain⟨T,h⟩:=h.blk
 exact⟨T,by rw [Joins.block_setCell (Joins.block_setCell h u) v];rfl⟩
theorem Box2.ne_row {w:World} {g n c:Nat} {s:Bool} {v:Value} {A:Option Addr} {xs:List Nat}(h:Box2 w g (.bool s) v)(hv: ∀k z,v≠ .int k z)(r:Row w A n c xs):0<n→∀k off,A=some ⟨k,off,none⟩→k≠g:=by
 intro hn k off hA e
 subst e
 obtain⟨k',off',hA',_,hc⟩:=r.at_ hn
 rw [hA]at hA'
 injection hA' with hA'
 injection hA' with e1 e2 _
 subst e1 e2
 have hl:0<xs.length:=by rw [r.len];exact hn
 have h0:=hc 0 _ (List.getElem?_eq_getElem hl)
 obtain⟨T,hb⟩:=h.blk
 rw [Joins.cell_of_block hb,Nat.add_zero]at h0
 match off,h0 with
 | 0,h0=>simp at h0
 | 1,h0=>simp at h0;exact hv _ _ h0
 | off+2,h0=>simp at h0
theorem Row.alloc {w:World} {A:Option Addr} {n c:Nat} {xs:List Nat}(h:Row w A n c xs)(o:Obj):Row (w.alloc o) A n c xs:=h.keep ((Below.refl _ _).alloc (Nat.le_refl _) _)
theorem Row.drew {w:World} {A:Option Addr} {n c:Nat} {xs:List Nat}(h:Row w A n c xs):Row w.drew A n c xs:=h.keep ((Below.refl _ _).drew)
theorem Row.far {w:World} {A:Option Addr} {n c g:Nat} {xs:List Nat}(h:Row w A n c xs)(hg:0<n→∀k off,A=some ⟨k,off,none⟩→k≠g)(a b:Value):Row ((w.setCell ⟨g,0,none⟩ a).setCell ⟨g,1,none⟩ b) A n c xs:=
 ⟨h.len,h.cap,fun hn=>by
  obtain⟨k,off,hA,hk,hc⟩:=h.at_ hn
  have hne:=hg hn k off hA
  refine⟨k,off,hA,by simp [go_sem];omega,fun i x hx=> ?_⟩
  have:=hc i x hx
  simp [go_sem,this]⟩
end Corr
namespace Go.Proofs.YthagdonmijhpdaaGreat
open Go.RowKit Corr
end Go.Proofs.YthagdonmijhpdaaGreat
namespace Corr
open Go Go.RowKit
structure Blk (w:World)(k:Nat)(vs:Array Value):Prop where
 blk: ∃T,w.heap[k]? =some (.cells vs T (0,0))
section
variable {w w':World} {k g:Nat} {vs:Array Value}
theorem Blk.get (h:Blk w k vs)(i:Nat) {v:Value}(hv:vs.toList[i]? =some v):w.cell? ⟨k,i,none⟩=some v:=by
 obtain⟨T,h⟩:=h.blk;rw [Joins.cell_of_block h,←Array.getElem?_toList];exact hv
theorem Blk.f (h:Blk w k vs)(i:Nat):w.frozen? ⟨k,i,none⟩=false:=by
 obtain⟨T,h⟩:=h.blk;exact Joins.unfrozen_of_block h _
theorem Blk.sz (h:Blk w k vs):k<w.heap.size:=by
 obtain⟨T,h⟩:=h.blk;exact(Array.getElem?_eq_some_iff.1 h).1
theorem Blk.keep (h:Blk w k vs)(hb:Below w.heap.size w w'):Blk w' k vs:=by
 have hk:=h.sz
 obtain⟨T,h⟩:=h.blk
 exact⟨T,by rw [hb.block k hk];exact h⟩
theorem Blk.new (w:World)(vs:Array Value)(T:TypeId):Blk (w.alloc (.cells vs T)) w.heap.size vs:=⟨T,heapNew w _⟩
theorem Blk.alloc (h:Blk w k vs)(o:Obj):Blk (w.alloc o) k vs:=h.keep ((Below.refl _ _).alloc (Nat.le_refl _) _)
theorem Blk.drew (h:Blk w k vs):Blk w.drew k vs:=h.keep ((Below.refl _ _).drew)
theorem Blk.far (h:Blk w k vs)(hg:k≠g)(i:Nat)(v:Value):Blk (w.setCell ⟨g,i,none⟩ v) k vs:=by
 obtain⟨T,h⟩:=h.blk
 exact⟨T,by rw [Below.heap_setCell _ _ _ _ hg];exact h⟩
theorem Blk.set (h:Blk w k vs)(i:Nat)(v:Value):Blk (w.setCell ⟨k,i,none⟩ v) k (vs.setIfInBounds i v):=by
 obtain⟨T,h⟩:=h.blk
 exact⟨T,Joins.block_setCell h v⟩
theorem Blk.ne_row {n c:Nat} {A:Option Addr} {xs:List Nat}(h:Blk w g vs)(hv: ∀v∈vs,∀z,v≠ .int .i64 z)(r:Row w A n c xs):0<n→∀k off,A=some ⟨k,off,none⟩→k≠g:=by
 intro hn k off hA e
 subst e
 obtain⟨k',off',hA',_,hc⟩:=r.at_ hn
 rw [hA]at hA'
 injection hA' with hA'
 injection hA' with e1 e2 _
 subst e1 e2
 have hl:0<xs.length:=by rw [r.len];exact hn
 have h0:=hc 0 _ (List.getElem?_eq_getElem hl)
 obtain⟨T,hb⟩:=h.blk
 rw [Joins.cell_of_block hb,Nat.add_zero]at h0
 exact hv _ (Array.mem_of_getElem? h0) _ rfl
end
section
variable {w:World} {k g:Nat} {a b c a' b' c':Value}
end
def noI (vs:Array Value):Bool:=vs.toList.all fun v=>match v with
 | .int .i64 _=>false
 | _=>true
theorem noI_ne {vs:Array Value}(h:noI vs=true): ∀v∈vs,∀z,v≠ .int .i64 z:=by
 intro v hv z e
 subst e
 have:=List.all_eq_true.1 h _ (Array.mem_toList_iff.2 hv)
 simp at this
abbrev RowD:=Option Addr × Nat × Nat × List Nat
structure Mem (w wr:World)(bs:List (Nat × Array Value))(rs:List RowD):Prop where
 blk: ∀p∈bs,Blk wr p.1 p.2
 row: ∀r∈rs,Row wr r.1 r.2.1 r.2.2.1 r.2.2.2
 nd:bs.Pairwise fun p q=>p.1≠q.1
 lo: ∀p∈bs,w.heap.size≤p.1
 bl:Below w.heap.size w wr
section
variable {w wr w':World} {bs:List (Nat × Array Value)} {rs:List RowD}
theorem Mem.start (w:World):Mem w w [] []:=⟨(fun _ h=>by cases h),(fun _ h=>by cases h),List.Pairwise.nil,(fun _ h=>by cases h),Below.refl _ _⟩
theorem Mem.b (S:Mem w wr bs rs)(i:Nat) {k:Nat} {vs:Array Value}(h:bs[i]? =some (k,vs)):Blk wr k vs:=S.blk _ (List.mem_of_getElem? h)
theorem Mem.c (S:Mem w wr bs rs)(i j:Nat) {k:Nat} {vs:Array Value} {v:Value}(h:bs[i]? =some (k,vs))(hv:vs.toList[j]? =some v):wr.cell? ⟨k,j,none⟩=some v:=(S.b i h).get j hv
theorem Mem.f (S:Mem w wr bs rs)(i j:Nat) {k:Nat} {vs:Array Value}(h:bs[i]? =some (k,vs)):wr.frozen? ⟨k,j,none⟩=false:=(S.b i h).f j
theorem Mem.sz (S:Mem w wr bs rs)(i:Nat) {k:Nat} {vs:Array Value}(h:bs[i]? =some (k,vs)):k<wr.heap.size:=(S.b i h).sz
theorem Mem.r (S:Mem w wr bs rs)(i:Nat) {A:Option Addr} {n c:Nat} {xs:List Nat}(h:rs[i]? =some (A,n,c,xs)):Row wr A n c xs:=S.row _ (List.mem_of_getElem? h)
theorem Mem.keep (S:Mem w wr bs rs)(hb:Below wr.heap.size wr w'):Mem w w' bs rs:=
 ⟨fun p hp=>(S.blk p hp).keep hb,fun r hr=>(S.row r hr).keep hb,S.nd,S.lo,S.bl.trans (hb.mono S.bl.size)⟩
theorem Mem.drew (S:Mem w wr bs rs):Mem w wr.drew bs rs:=S.keep ((Below.refl _ _).drew)
theorem Mem.alloc (S:Mem w wr bs rs)(o:Obj):Mem w (wr.alloc o) bs rs:=S.keep ((Below.refl _ _).alloc (Nat.le_refl _) _)
theorem Mem.push (S:Mem w wr bs rs)(vs:Array Value)(T:TypeId):Mem w (wr.alloc (.cells vs T)) (bs++ [(wr.heap.size,vs)]) rs:=by
 refine⟨fun p hp=> ?_,(S.alloc _).row,List.pairwise_append.2 ⟨S.nd,List.pairwise_singleton _ _,fun p hp q hq e=> ?_⟩,fun p hp=> ?_,(S.alloc _).bl⟩
 ·rcases List.mem_append.1 hp with hp | hp
  ·exact(S.blk p hp).alloc _
  ·obtain rfl:=List.mem_singleton.1 hp
   exact Blk.new wr vs T
 ·have:=(S.blk p hp).sz
  obtain rfl:=List.mem_singleton.1 hq
  have e:p.1=wr.heap.size:=e
  omega
 ·rcases List.mem_append.1 hp with hp | hp
  ·exact S.lo p hp
  ·obtain rfl:=List.mem_singleton.1 hp
   exact S.bl.size
theorem Mem.add (S:Mem w wr bs rs) {A:Option Addr} {n c:Nat} {xs:List Nat}(h:Row wr A n c xs):Mem w wr bs (rs++ [(A,n,c,xs)]):=
 ⟨S.blk,fun r hr=>by
  rcases List.mem_append.1 hr with hr | hr
  ·exact S.row r hr
  ·obtain rfl:=List.mem_singleton.1 hr
   exact h,S.nd,S.lo,S.bl⟩
theorem Mem.perm (S:Mem w wr bs rs) {bs':List (Nat × Array Value)}(h:bs.Perm bs'):Mem w wr bs' rs:=
 ⟨fun p hp=>S.blk p (h.mem_iff.2 hp),S.row,h.pairwise S.nd fun e=>Ne.symm e,fun p hp=>S.lo p (h.mem_iff.2 hp),S.bl⟩
theorem Mem.rows (S:Mem w wr bs rs) {rs':List RowD}(h: ∀r∈rs',r∈rs):Mem w wr bs rs':=⟨S.blk,fun r hr=>S.row r (h r hr),S.nd,S.lo,S.bl⟩
theorem Mem.only (S:Mem w wr bs rs):Mem w wr bs []:=S.rows (fun _ h=>by cases h)
theorem Mem.take (S:Mem w wr bs rs)(i:Nat):Mem w wr (bs.take i) rs:=⟨fun p hp=>S.blk p (List.mem_of_mem_take hp),S.row,S.nd.sublist (List.take_sublist _ _),fun p hp=>S.lo p (List.mem_of_mem_take hp),S.bl⟩
theorem Row.off {A:Option Addr} {n c k:Nat} {vs:Array Value} {xs:List Nat}(h:Row wr A n c xs)(B:Blk wr k vs)(hv:noI vs=true)(j:Nat)(v:Value):Row (wr.setCell ⟨k,j,none⟩ v) A n c xs:=
 ⟨h.len,h.cap,fun hn=>by
  obtain⟨g,off,hA,hk,hc⟩:=h.at_ hn
  have hne:=B.ne_row (noI_ne hv) h hn g off hA
  refine⟨g,off,hA,by simp [go_sem];omega,fun i x hx=> ?_⟩
  have:=hc i x hx
  simp [go_sem,this]⟩
theorem Mem.set (S:Mem w wr bs rs)(i:Nat) {k:Nat} {vs:Array Value}(h:bs[i]? =some (k,vs))(hv:noI vs=true)(j:Nat)(v:Value):
  Mem w (wr.setCell ⟨k,j,none⟩ v) (bs.set i (k,vs.setIfInBounds j v)) rs:=by
 have hil:i<bs.length:=(List.getElem?_eq_some_iff.1 h).1
 have hik:bs[i]=(k,vs):=(List.getElem?_eq_some_iff.1 h).2
 have hne: ∀(p:Nat × Array Value) (q:Nat),bs[q]? =some p→q≠i→p.1≠k:=by
  intro p q hq hqi e
  have hql:q<bs.length:=(List.getElem?_eq_some_iff.1 hq).1
  have hqe:bs[q]=p:=(List.getElem?_eq_some_iff.1 hq).2
  rcases Nat.lt_or_gt_of_ne hqi with h1 | h1
  ·exact List.pairwise_iff_getElem.1 S.nd q i hql hil h1 (by rw [hqe,hik];exact e)
  ·exact List.pairwise_iff_getElem.1 S.nd i q hil hql h1 (by rw [hqe,hik];exact e.symm)
 have hmem: ∀p∈bs.set i (k,vs.setIfInBounds j v),p=(k,vs.setIfInBounds j v)∨∃q,bs[q]? =some p∧q≠i:=by
  intro p hp
  obtain⟨q,hq⟩:=List.mem_iff_getElem?.1 hp
  by_cases e:q=i
  ·subst e
   rw [List.getElem?_set_self hil]at hq
   exact .inl (by simpa using hq.symm)
  ·rw [List.getElem?_set_ne (by omega)]at hq
   exact .inr ⟨q,hq,e⟩
 have hB:Blk wr k vs:=S.b i h
 refine⟨fun p hp=> ?_,fun r hr=>(S.row r hr).off hB hv j v,?_,fun p hp=> ?_,S.bl.setCell (p:=⟨k,j,none⟩) (S.lo _ (List.mem_of_getElem? h)) v⟩
 ·rcases hmem p hp with rfl | ⟨q,hq,hqi⟩
  ·exact hB.set j v
  ·exact(S.blk p (List.mem_of_getElem? hq)).far (hne p q hq hqi) j v
 ·have e:(bs.set i (k,vs.setIfInBounds j v)).map (·.1)=bs.map (·.1):=by
   rw [List.map_set]
   refine List.ext_getElem? fun q=> ?_
   by_cases e:q=i
   ·subst e
    rw [List.getElem?_set_self (by simpa using hil),List.getElem?_map,h];rfl
   ·rw [List.getElem?_set_ne (by omega)]
  have h1:(bs.map (·.1)).Pairwise (· ≠ ·):=List.pairwise_map.2 S.nd
  rw [←e]at h1
  exact List.pairwise_map.1 h1
 ·rcases hmem p hp with rfl | ⟨q,hq,_⟩
  ·exact S.lo (k,vs) (List.mem_of_getElem? h)
  ·exact S.lo p (List.mem_of_getElem? hq)
end
theorem countP_lt {α:Type} {p q:α→Bool} : ∀(l:List α),(∀x∈l,q x=true→p x=true)→(∃x∈l,p x=true∧q x=false)→l.countP q<l.countP p
 | [],_,h=>by obtain⟨_,h,_⟩:=h;cases h
 | x :: l,h1,h2=>by
  have hle:l.countP q≤l.countP p:=List.countP_mono_left fun y hy hq=>h1 y (List.mem_cons_of_mem _ hy) hq
  by_cases hx:p x=true∧q x=false
  ·rw [List.countP_cons_of_neg (by simp [hx.2]),List.countP_cons_of_pos hx.1];omega
  ·have hl:l.countP q<l.countP p:=countP_lt l (fun y hy=>h1 y (List.mem_cons_of_mem _ hy)) (by
    obtain⟨y,hy,h3⟩:=h2
    rcases List.mem_cons.1 hy with rfl | hy
    ·exact absurd h3 hx
    ·exact⟨y,hy,h3⟩)
   by_cases hq:q x=true
   ·rw [List.countP_cons_of_pos hq,List.countP_cons_of_pos (h1 x List.mem_cons_self hq)];omega
   ·rw [List.countP_cons_of_neg hq]
    by_cases hp:p x=true
    ·rw [List.countP_cons_of_pos hp];omega
    ·rw [List.countP_cons_of_neg hp];exact hl
def dstAt (l:List Oper)(j:Nat):Nat:=((l[j]?).bind (·.dst)).getD 0
def ζu (l:List Oper)(n:Nat):List Nat:=(l.take n).filterMap (·.dst)
def depsL (o:Oper):List Nat:=(o.after.toList.filter fun e=>Region.binds .any e).map (·.on)
def yv:Value→Option Bool
 | .bool b=>some b
 | _=>none
def wantE (l:List Oper)(ev:Operand→Value)(o:Oper):Bool:=
 match o.guard with
 | none=>true
 | some (g,want)=>yv (ev (.tmp (dstAt l g))) == some want
structure Ev (a0:Act)(ds:List Nat)(ev:Operand→Value):Prop where
 const: ∀v,ev (.const v)=v
 glob: ∀g,ev (.global g)= .pointer (some ⟨g,0,none⟩)
 func: ∀f,ev (.func f)= .func (.func f) #[] #[]
 tmp: ∀s,ds.contains s=false→ev (.tmp s)=a0.eval (.tmp s)
def relUpon (P:Program)(w:World)(R:Value→World→Prop):Result Next→Prop
 | .ok (.value u) w'=>Below w.heap.size w w'∧R u w'
 | .ok .skip w'=>Below w.heap.size w w'∧R undef w'
 | .ok (.enter f args) w'=>Calls P f args w' fun e w''=>∃u,e= .returned u∧Below w.heap.size w w''∧R u w''
 | _=>False
def OpRel (P:Program)(o:Oper)(ev:Operand→Value)(w:World)(R:Value→World→Prop):Prop:=relUpon P w R ((execOp ev o).run P w)
def calm (Q:Exit→Act→World→Prop)(e:Exit)(a:Act)(w:World):Prop:=(∀c,e≠ .panic c)∧Q e a w
theorem ζ2 {Q:Exit→Act→World→Prop} {a:Act} {w:World}(h:Q .normal a w):calm Q .normal a w:=⟨(fun _ h=>by cases h),h⟩
def waitsT (ops:Array Oper):Nat→Nat→Nat→Bool
 | 0,_,_=>false
 | f+1,t,i=>Region.waitsFor .any ops t i || (List.range ops.size).any fun k=>Region.waitsFor .any ops t k && waitsT ops f k i
def Fresh (w:World)(u:Value)(w':World):Prop:=∃g,u= .pointer (some ⟨g,0,none⟩)∧w.heap.size≤g∧g<w'.heap.size
section
variable (P:Program) (l:List Oper) (n:Nat) (C:World→Prop) (V:Nat→Value→World→Prop) (al eg:List Nat) (a0:Act)
def stepR (o:Oper)(i:Nat):Prop:=∀(ev:Operand→Value) (w:World),Ev a0 (ζu l n) ev→C w→(∀j∈depsL o,V j (ev (.tmp (dstAt l j))) w)→
 if wantE l ev o=true then(if eg.contains i=true then ∃u,(∀w,(execOp ev o).run P w= .ok (.value u) w)∧V i u w else OpRel P o ev w (fun u w'=>V i u w'∧(al.contains i=true→Fresh w u w')))else V i undef w
def stepsR:List Oper→Nat→Prop
 | [],_=>True
 | o :: r,i=>stepR P l n C V al eg a0 o i∧stepsR r (i+1)
def finR (w:World)(Fin:Act→Prop):List Oper→Nat→Act→List Value→Prop
 | [],_,a,_=>Fin a
 | o :: r,i,a,acc=>∀v,V i v w→((al.contains i=true→∀u∈acc,v≠u)→finR w Fin r (i+1) (a.put o.dst v) (if al.contains i=true then v :: acc else acc))
def relB (size:Nat):Bool:=
 decide (n≤l.length) && Region.noSelect l.toArray &&
 ((List.range n).all fun i=>match l[i]? with
  | some o=>(match o.dst with | some d=>decide (d<size) | none=>false) && o.after.all (fun e=> !Region.binds .any e || decide (e.on<i)) &&
    (match o.guard with | some (g,_)=> !al.contains i && (match (l[g]?).bind (·.dst)with | some d=>decide (d<size) | none=>false) | none=>true)
  | none=>false) &&
 ((List.range n).all fun i=>(List.range n).all fun j=>i == j || dstAt l i != dstAt l j) &&
 ((List.range l.length).all fun t=>decide (t<n) || (List.range n).all fun i=>waitsT l.toArray 3 t i || (eg.contains i && ((l[i]?).map fun o=>(depsL o).all fun d=>waitsT l.toArray 3 t d).getD false)) &&
 ((List.range n).all fun i=> !eg.contains i || !al.contains i && match l[i]? with
  | some oi=>(List.range l.length).all fun j=>j == i || (depsL oi).contains j || Region.waitsFor .any l.toArray j i || ((l[j]?).map fun oj=>oi.apart l.toArray oj).getD false
  | none=>false) &&
 Region.seqB .any l.toArray (l.length-n) n ((List.replicate n true++List.replicate (l.length-n) false).toArray)
end
section
variable {P:Program} {l:List Oper} {n:Nat} {C:World→Prop} {V:Nat→Value→World→Prop} {al eg:List Nat} {a0:Act}
def vOf (l:List Oper)(a:Act)(j:Nat):Value:=a.eval (.tmp (dstAt l j))
structure RInv (l:List Oper)(n:Nat)(C:World→Prop)(V:Nat→Value→World→Prop)(al:List Nat)(a0:Act)(listed:Array Bool)(a:Act)(w:World):Prop where
 c:C w
 size:a.tmps.size=a0.tmps.size
 defers:a.defers=a0.defers
 off: ∀s,(∀j,j<n→listed.getD j false=true→dstAt l j≠s)→a.tmps[s]? =a0.tmps[s]?
 v: ∀j,j<n→listed.getD j false=true→V j (vOf l a j) w
 lt: ∀j,al.contains j=true→j<n→listed.getD j false=true→∃g,vOf l a j= .pointer (some ⟨g,0,none⟩)∧g<w.heap.size
 ne: ∀i j,al.contains i=true→al.contains j=true→i<n→j<n→i≠j→listed.getD i false=true→listed.getD j false=true→vOf l a i≠vOf l a j
 inv:HeadInv .any l.toArray n listed
structure FormOf (l:List Oper)(n size:Nat)(al eg:List Nat):Prop where
 le:n≤l.length
 sel:Region.noSelect l.toArray=true
 dst: ∀i o,i<n→l[i]? =some o→∃d,o.dst=some d∧d<size
 edge: ∀i o,i<n→l[i]? =some o→∀e∈o.after,Region.binds .any e=true→e.on<i
 guard: ∀i o g b,i<n→l[i]? =some o→o.guard=some (g,b)→al.contains i=false∧∃d,(l[g]?).bind (·.dst)=some d∧d<size
 apart: ∀i j,i<n→j<n→i≠j→dstAt l i≠dstAt l j
 tail: ∀t,n≤t→t<l.length→∀i o,i<n→l[i]? =some o→waitsT l.toArray 3 t i=true∨(eg.contains i=true∧∀d∈depsL o,waitsT l.toArray 3 t d=true)
 eager: ∀i o,i<n→l[i]? =some o→eg.contains i=true→al.contains i=false∧∀j oj,l[j]? =some oj→j≠i→j∈depsL o∨Region.waitsFor .any l.toArray j i=true∨o.apart l.toArray oj=true
 seq:Region.seqB .any l.toArray (l.length-n) n ((List.replicate n true++List.replicate (l.length-n) false).toArray)=true
theorem form_of {size:Nat}(h:relB l n al eg size=true):FormOf l n size al eg:=by
 simp only [relB,Bool.and_eq_true,decide_eq_true_eq]at h
 obtain⟨⟨⟨⟨⟨⟨h1,h2⟩,h3⟩,h4⟩,h5⟩,h7⟩,h6⟩:=h
 have key: ∀i o,i<n→l[i]? =some o→(∃d,o.dst=some d∧d<size)∧(∀e∈o.after,Region.binds .any e=true→e.on<i)∧∀g b,o.guard=some (g,b)→al.contains i=false∧∃d,(l[g]?).bind (·.dst)=some d∧d<size:=by
  intro i o hi ho
  have h:=List.all_eq_true.1 h3 i (List.mem_range.2 hi)
  simp only [ho,Bool.and_eq_true]at h
  obtain⟨⟨ha,hb⟩,hc⟩:=h
  refine⟨?_,?_,?_⟩
  ·cases hd:o.dst with
   | none=>rw [hd]at ha;cases ha
   | some d=>rw [hd]at ha;exact⟨d,rfl,of_decide_eq_true ha⟩
  ·intro e he hbd
   have:=Array.all_eq_true_iff_forall_mem.1 hb e he
   simpa [hbd]using this
  ·intro g b hg
   rw [hg]at hc
   simp only [Bool.and_eq_true,Bool.not_eq_true']at hc
   refine⟨hc.1,?_⟩
   cases hd:(l[g]?).bind (·.dst)with
   | none=>rw [hd]at hc;cases hc.2
   | some d=>rw [hd]at hc;exact⟨d,rfl,of_decide_eq_true hc.2⟩
 refine⟨h1,h2,fun i o hi ho=>(key i o hi ho).1,fun i o hi ho=>(key i o hi ho).2.1,fun i o g b hi ho=>(key i o hi ho).2.2 g b,fun i j hi hj hne=> ?_,fun t ht htl i o hi ho=> ?_,fun i o hi ho heg=> ?_,h6⟩
 ·have h:=List.all_eq_true.1 (List.all_eq_true.1 h4 i (List.mem_range.2 hi)) j (List.mem_range.2 hj)
  simpa [hne]using h
 ·have h:=List.all_eq_true.1 h5 t (List.mem_range.2 htl)
  rw [decide_eq_false (by omega),Bool.false_or]at h
  have h:=List.all_eq_true.1 h i (List.mem_range.2 hi)
  simp only [ho,Option.map_some,Option.getD_some,Bool.or_eq_true,Bool.and_eq_true]at h
  rcases h with h | ⟨h,h'⟩
  ·exact .inl h
  ·exact .inr ⟨h,fun d hd=>List.all_eq_true.1 h' d hd⟩
 ·have h:=List.all_eq_true.1 h7 i (List.mem_range.2 hi)
  simp only [heg,ho,Bool.not_true,Bool.false_or,Bool.and_eq_true,Bool.not_eq_true']at h
  refine⟨h.1,fun j oj hj hji=> ?_⟩
  have hjl:j<l.length:=(List.getElem?_eq_some_iff.1 hj).1
  have h:=List.all_eq_true.1 h.2 j (List.mem_range.2 hjl)
  simp only [hj,Option.map_some,Option.getD_some,Bool.or_eq_true,beq_iff_eq,hji,false_or,List.contains_iff_mem]at h
  rcases h with(h | h) | h
  ·exact .inl h
  ·exact .inr (.inl h)
  ·exact .inr (.inr h)
theorem ζ18 {listed:Array Bool}(inv:HeadInv .any l.toArray n listed): ∀(f t i:Nat),waitsT l.toArray f t i=true→(∀o,l[t]? =some o→∀e∈o.after,Region.binds .any e=true→listed.getD e.on false=true)→listed.getD i false=true
 | 0,_,_,h,_=>by cases h
 | f+1,t,i,h,hd=>by
  simp only [waitsT,Bool.or_eq_true]at h
  rcases h with h | h
  ·obtain⟨o,ho,e,he,hb,hon⟩:=Region.waitsFor_spec h
   have:=hd o (by simpa using ho) e he hb
   rwa [hon]at this
  ·obtain⟨k,_,h⟩:=List.any_eq_true.1 h
   simp only [Bool.and_eq_true]at h
   obtain⟨o,ho,e,he,hb,hon⟩:=Region.waitsFor_spec h.1
   have hk:=hd o (by simpa using ho) e he hb
   rw [hon]at hk
   exact ζ18 inv f k i h.2 (fun ok hok e' he' hb'=>inv.closed k ok (by simpa using hok) hk e' he' hb')
theorem ζ4i {o:Oper} {i d:Nat}(ho:l[i]? =some o)(hd:o.dst=some d):dstAt l i=d:=by simp [dstAt,ho,hd]
theorem ζ50 {a b:Act} {s:Nat}(h:a.tmps[s]? =b.tmps[s]?):a.eval (.tmp s)=b.eval (.tmp s):=by
 show a.tmps.getD s undef=b.tmps.getD s undef
 rw [Array.getD_eq_getD_getElem?,Array.getD_eq_getD_getElem?,h]
theorem ζ3q {a:Act} {d:Nat} {u:Value}(h:d<a.tmps.size):(a.put (some d) u).eval (.tmp d)=u:=by
 show (a.tmps.setIfInBounds d u).getD d undef=u
 rw [Array.getD_eq_getD_getElem?,Array.getElem?_setIfInBounds_self_of_lt h];rfl
theorem ζ4z {a:Act} {d s:Nat} {u:Value}(h:d≠s):(a.put (some d) u).eval (.tmp s)=a.eval (.tmp s):=
 Act.eval_put fun _ he hx=>h ((Option.some.inj he).trans (Operand.tmp.inj hx).symm)
theorem wp_of_rel {o:Oper} {a:Act} {w:World} {R:Value→World→Prop} {K:Act→World→Prop} {Q:Exit→Act→World→Prop}(h:OpRel P o a.eval w R)
  (hK: ∀u w',Below w.heap.size w w'→R u w'→K (a.put o.dst u) w'):o.wp P a w K Q:=by
 unfold OpRel at h
 unfold Oper.wp
 generalize (execOp a.eval o).run P w=r at*
 cases r with
 | ok x w'=>
  cases x <;> simp only [relUpon]at h <;> simp only [Oper.upon]
  case value u=>exact hK _ _ h.1 h.2
  case skip=>exact hK _ _ h.1 h.2
  case enter f args=>exact h.mono fun e w'' ⟨u,he,hb,hr⟩=>by subst he;exact hK _ _ hb hr
 | halt x w'=>simp only [relUpon]at h
theorem steps_get (hs:stepsR P l n C V al eg a0 (l.take n) 0): ∀i o,i<n→l[i]? =some o→stepR P l n C V al eg a0 o i:=by
 have key: ∀(r:List Oper) (k:Nat),stepsR P l n C V al eg a0 r k→∀i o,r[i]? =some o→stepR P l n C V al eg a0 o (k+i):=by
  intro r
  induction r with
  | nil=>intro k _ i o h;cases i <;> cases h
  | cons x r ih=>
   intro k h i o ho
   cases i with
   | zero=>
    have:x=o:=by simpa using ho
    subst this
    exact h.1
   | succ i=>
    have:=ih (k+1) h.2 i o (by simpa using ho)
    rw [show k+(i+1)=k+1+i by omega];exact this
 intro i o hi ho
 have:=key _ 0 hs i o (by rw [List.getElem?_take];simp [hi,ho])
 rwa [Nat.zero_add]at this
theorem fin_get {w:World} {Fin:Act→Prop} {listed:Array Bool} {a:Act}(F:FormOf l n a0.tmps.size al eg)(I:RInv l n C V al a0 listed a w)(hall: ∀i,i<n→listed.getD i false=true)
  (h:finR V al w Fin (l.take n) 0 a0 []):Fin a:=by
 have key: ∀(r:List Oper) (k:Nat) (b:Act) (acc:List Value),(∀j,r[j]? =(l.take n)[k+j]?)→k+r.length=n→b.defers=a0.defers→b.tmps.size=a0.tmps.size→
   (∀s,(∃j,j<k∧dstAt l j=s)→b.tmps[s]? =a.tmps[s]?)→(∀s,(∀j,j<k→dstAt l j≠s)→b.tmps[s]? =a0.tmps[s]?)→
   (∀u∈acc,∃j,j<k∧al.contains j=true∧u=vOf l a j)→finR V al w Fin r k b acc→Fin a:=by
  intro r
  induction r with
  | nil=>
   intro k b acc _ hk hd hsz h1 h2 _ hfi
   have hk:k=n:=by simpa using hk
   subst hk
   have:b=a:=by
    cases b with
    | mk bt bd=>
    cases a with
    | mk at_ ad=>
    have e1:bd=ad:=hd.trans I.defers.symm
    have e2:bt=at_:=by
     apply Array.ext_getElem?
     intro s
     by_cases hs: ∃j,j<k∧dstAt l j=s
     ·exact h1 s hs
     ·have h3: ∀j,j<k→dstAt l j≠s:=fun j hj e=>hs ⟨j,hj,e⟩
      exact(h2 s h3).trans (I.off s fun j hj _=>h3 j hj).symm
    rw [e1,e2]
   rw [←this];exact hfi
  | cons o r ih=>
   intro k b acc hr hk hd hsz h1 h2 hacc h
   have hkn:k<n:=by simp at hk;omega
   have ho:l[k]? =some o:=by
    have:=hr 0
    rw [List.getElem?_take]at this
    simpa [hkn]using this.symm
   obtain⟨d,hdo,hdl⟩:=F.dst k o hkn ho
   have hdk:=ζ4i ho hdo
   have hda:d<a.tmps.size:=by rw [I.size];exact hdl
   have hval:a.tmps[d]? =some (vOf l a k):=by
    unfold vOf;rw [hdk]
    show a.tmps[d]? =some (a.tmps.getD d undef)
    simp [hda]
   have h':=h (vOf l a k) (I.v k hkn (hall k hkn)) (fun hc u hu=>by
    obtain⟨j,hj,hja,rfl⟩:=hacc u hu
    exact I.ne k j hc hja hkn (by omega) (by omega) (hall k hkn) (hall j (by omega)))
   refine ih (k+1) (b.put o.dst (vOf l a k)) _ (fun j=>by have:=hr (j+1);simpa [Nat.add_assoc,Nat.add_comm 1 j]using this) (by simp at hk;omega) ?_ ?_ ?_ ?_ ?_ h'
   ·rw [hdo];exact hd
   ·rw [hdo];simpa [Act.put]using hsz
   ·intro s hs
    rw [hdo]
    show (b.tmps.setIfInBounds d (vOf l a k))[s]? =a.tmps[s]?
    by_cases e:d=s
    ·subst e
     rw [Array.getElem?_setIfInBounds_self_of_lt (by rw [hsz];exact hdl),hval]
    ·rw [Array.getElem?_setIfInBounds_ne e]
     obtain⟨j,hj,hjs⟩:=hs
     exact h1 s ⟨j,by
      rcases Nat.lt_or_ge j k with h | h
      ·exact h
      ·have:j=k:=by omega
       subst this;rw [hdk]at hjs;exact absurd hjs e,hjs⟩
   ·intro s hs
    rw [hdo]
    show (b.tmps.setIfInBounds d (vOf l a k))[s]? =a0.tmps[s]?
    rw [Array.getElem?_setIfInBounds_ne (by rw [←hdk];exact hs k (by omega))]
    exact h2 s fun j hj=>hs j (by omega)
   ·intro u hu
    by_cases hc:al.contains k=true
    ·rw [if_pos hc]at hu
     rcases List.mem_cons.1 hu with rfl | hu
     ·exact⟨k,by omega,hc,rfl⟩
     ·obtain⟨j,hj,h3⟩:=hacc u hu
      exact⟨j,by omega,h3⟩
    ·rw [if_neg hc]at hu
     obtain⟨j,hj,h3⟩:=hacc u hu
     exact⟨j,by omega,h3⟩
 refine key (l.take n) 0 a0 [] (by simp) (by have:=F.le;simp;omega) rfl rfl ?_ (fun _ _=>rfl) (fun u hu=>by cases hu) h
 intro s hs
 obtain⟨j,hj,_⟩:=hs
 omega
theorem rel_any {Q:Exit→Act→World→Prop} {g:Nat}(F:FormOf l n a0.tmps.size al eg)(hQ: ∀c a w,¬Q (.panic c) a w)(hCg: ∀w w':World,C w→Below w.heap.size w w'→C w')
  (hVg: ∀i,i<n→∀v (w w':World),V i v w→Below w.heap.size w w'→V i v w') (hs: ∀i o,i<n→l[i]? =some o→stepR P l n C V al eg a0 o i)
  (hT: ∀listed a w,RInv l n C V al a0 listed a w→(∀i,i<n→listed.getD i false=true)→wpAny P .any l.toArray Q g listed a w):
  ∀(f:Nat) (listed:Array Bool) (a:Act) (w:World),(List.range n).countP (fun i=> !listed.getD i false)≤f→RInv l n C V al a0 listed a w→wpAny P .any l.toArray Q (f+g) listed a w:=by
 have addM: ∀(g:Nat) (listed:Array Bool) (a:Act) (w:World),wpAny P .any l.toArray Q g listed a w→wpAny P .any l.toArray Q (g+1) listed a w:=by
  intro g
  induction g with
  | zero=>intro listed a w h;exact⟨fun _=>h.2,fun i hi=>by rw [h.1]at hi;cases hi⟩
  | succ g ih=>intro listed a w h;exact⟨h.1,fun i hi=>wpOp_mono (fun a' w' h'=>ih _ a' w' h') (h.2 i hi)⟩
 have addN: ∀(f:Nat) (listed:Array Bool) (a:Act) (w:World),wpAny P .any l.toArray Q g listed a w→wpAny P .any l.toArray Q (f+g) listed a w:=by
  intro f
  induction f with
  | zero=>intro listed a w h;rw [Nat.zero_add];exact h
  | succ f ih=>intro listed a w h;rw [show f+1+g=f+g+1 by omega];exact addM _ _ _ _ (ih _ _ _ h)
 intro f
 induction f with
 | zero=>
  intro listed a w hc I
  refine addN 0 _ _ _ (hT listed a w I fun i hi=> ?_)
  have h0:(List.range n).countP (fun i=> !listed.getD i false)=0:=by omega
  have:=List.countP_eq_zero.1 h0 i (List.mem_range.2 hi)
  simpa using this
 | succ f ih=>
  intro listed a w hc I
  by_cases hall: ∀i,i<n→listed.getD i false=true
  ·exact addN _ _ _ _ (hT listed a w I hall)
  ·have hex: ∃i,i<n∧listed.getD i false=false:=by
    rcases Classical.em (∃i,i<n∧listed.getD i false=false)with h | h
    ·exact h
    ·exact absurd (fun i hi=>by
      cases e:listed.getD i false with
      | true=>rfl
      | false=>exact absurd ⟨i,hi,e⟩ h) hall
   have hlsz:listed.size=l.length:=by simpa using I.inv.size
   have hmin: ∀k,k<n→listed.getD k false=false→∃i,i∈Region.ready .any l.toArray listed:=by
    intro k
    induction k using Nat.strongRecOn with
    | _ k ihk=>
     intro hk hkl
     have hkl':k<l.length:=Nat.lt_of_lt_of_le hk F.le
     by_cases hb: ∀e∈(l[k]'hkl').after,Region.binds .any e=true→listed.getD e.on false=true
     ·exact⟨k,mem_ready.2 ⟨getD_in (by omega) hkl,l[k]'hkl',by simp [hkl'],hb⟩⟩
     ·have: ∃e∈(l[k]'hkl').after,Region.binds .any e=true∧listed.getD e.on false=false:=by
       rcases Classical.em (∃e∈(l[k]'hkl').after,Region.binds .any e=true∧listed.getD e.on false=false)with h | h
       ·exact h
       ·exact absurd (fun e he hbe=>by
         cases e':listed.getD e.on false with
         | true=>rfl
         | false=>exact absurd ⟨e,he,hbe,e'⟩ h) hb
      obtain⟨e,he,hbe,hel⟩:=this
      have hlt:=F.edge k _ hk (List.getElem?_eq_getElem hkl') e he hbe
      exact ihk e.on hlt (by omega) hel
   obtain⟨k0,hk0,hk0l⟩:=hex
   obtain⟨i0,hi0⟩:=hmin k0 hk0 hk0l
   rw [show f+1+g=f+g+1 by omega]
   have step: ∀i,i<n→i∈Region.ready .any l.toArray listed→∃o d,l[i]? =some o∧o.dst=some d∧Region.wanted o (yielded l.toArray a.tmps)=wantE l a.eval o∧
     (if wantE l a.eval o=true then(if eg.contains i=true then ∃u,(∀w,(execOp a.eval o).run P w= .ok (.value u) w)∧V i u w else OpRel P o a.eval w (fun u w'=>V i u w'∧(al.contains i=true→Fresh w u w')))else V i undef w)∧
     ∀u w',Below w.heap.size w w'→V i u w'→(al.contains i=true→Fresh w u w')→wpAny P .any l.toArray Q (f+g) (listed.setIfInBounds i true) (a.put o.dst u) w':=by
    intro i hin hi
    obtain⟨hiu,o,ho,hdeps⟩:=mem_ready.1 hi
    have hol:l[i]? =some o:=by simpa using ho
    obtain⟨d,hdo,hdl⟩:=F.dst i o hin hol
    have hdi:=ζ4i hol hdo
    have hil:i<listed.size:=by rw [hlsz];exact Nat.lt_of_lt_of_le hin F.le
    have hiu':listed.getD i false=false:=getD_both hiu
    have hEv:Ev a0 (ζu l n) a.eval:=⟨fun _=>rfl,fun _=>rfl,fun _=>rfl,fun s hsd=>ζ50 (I.off s fun j hj _ hjs=>by
     have hjl:j<l.length:=Nat.lt_of_lt_of_le hj F.le
     obtain⟨dj,hdj,_⟩:=F.dst j _ hj (List.getElem?_eq_getElem hjl)
     have hjd:=ζ4i (List.getElem?_eq_getElem hjl) hdj
     have hmem:s∈ζu l n:=List.mem_filterMap.2 ⟨l[j],by
      rw [List.mem_take_iff_getElem];exact⟨j,by omega,rfl⟩,by rw [hdj,←hjs,hjd]⟩
     rw [List.contains_iff_mem.2 hmem]at hsd
     cases hsd)⟩
    have hst:=hs i o hin hol a.eval w hEv I.c (fun j hj=>by
     obtain⟨e,he,rfl⟩:=List.mem_map.1 hj
     obtain⟨he1,he2⟩:=List.mem_filter.1 he
     have heo:e∈o.after:=by simpa using he1
     have:=hdeps e heo he2
     have hlt:=F.edge i o hin hol e heo he2
     exact I.v e.on (by omega) this)
    have hw:Region.wanted o (yielded l.toArray a.tmps)=wantE l a.eval o:=by
     unfold Region.wanted wantE
     cases hg:o.guard with
     | none=>rfl
     | some gb=>
      obtain⟨gi,b⟩:=gb
      obtain⟨_,dg,hdg,hdgl⟩:=F.guard i o gi b hin hol hg
      have h1:dstAt l gi=dg:=by simp [dstAt,hdg]
      have h2:dg<a.tmps.size:=by rw [I.size];exact hdgl
      have h3:((l.toArray[gi]?).bind (·.dst))=some dg:=by simpa using hdg
      simp only [yielded,h3,h1,Option.bind_some]
      have h4:a.eval (.tmp dg)=a.tmps[dg]:=by
       show a.tmps.getD dg undef=_
       simp [h2]
      rw [h4,Array.getElem?_eq_getElem h2]
      cases a.tmps[dg] <;> rfl
    have hnext: ∀u w',Below w.heap.size w w'→V i u w'→(al.contains i=true→Fresh w u w')→wpAny P .any l.toArray Q (f+g) (listed.setIfInBounds i true) (a.put o.dst u) w':=by
     intro u w' hb hv hfr
     have hsetne: ∀j,j≠i→(listed.setIfInBounds i true).getD j false=listed.getD j false:=fun j hj=>getD_set_ne false (Ne.symm hj)
     refine ih _ _ _ ?_ ?_
     ·have:=countP_lt (p:=fun j=> !listed.getD j false) (q:=fun j=> !(listed.setIfInBounds i true).getD j false) (List.range n)
       (fun j _ h=>by
        by_cases e:j=i
        ·subst e;simp [hiu']
        ·rw [hsetne j e]at h;exact h)
       ⟨i,List.mem_range.2 hin,by simp [hiu'],by simp [hil]⟩
      omega
     ·have hput:a.put o.dst u=a.put (some d) u:=by rw [hdo]
      have vself:vOf l (a.put o.dst u) i=u:=by unfold vOf;rw [hput,hdi];exact ζ3q (by rw [I.size];exact hdl)
      have vne: ∀j,j<n→j≠i→vOf l (a.put o.dst u) j=vOf l a j:=fun j hj hji=>by
       unfold vOf;rw [hput];exact ζ4z (by rw [←hdi];exact F.apart i j hin hj (Ne.symm hji))
      refine⟨hCg _ _ I.c hb,by rw [hput];simpa [Act.put]using I.size,by rw [hput];exact I.defers,fun s hsn=> ?_,fun j hj hjl=> ?_,fun j hja hj hjl=> ?_,fun j k hja hka hj hk hjk hjl hkl=> ?_,I.inv.set hi hin⟩
      ·rw [hput]
       show (a.tmps.setIfInBounds d u)[s]? =a0.tmps[s]?
       have h1:d≠s:=by rw [←hdi];exact hsn i hin (by simp [hil])
       rw [Array.getElem?_setIfInBounds_ne h1]
       exact I.off s fun j hj hjl=>by
        by_cases e:j=i
        ·subst e;rw [hdi];exact h1
        ·exact hsn j hj (by rw [hsetne j e];exact hjl)
      ·by_cases e:j=i
       ·subst e;rw [vself];exact hv
       ·rw [vne j hj e];rw [hsetne j e]at hjl;exact hVg j hj _ _ _ (I.v j hj hjl) hb
      ·by_cases e:j=i
       ·subst e
        obtain⟨gg,h1,_,h3⟩:=hfr hja
        exact⟨gg,by rw [vself];exact h1,h3⟩
       ·rw [hsetne j e]at hjl
        obtain⟨gg,h1,h2⟩:=I.lt j hja hj hjl
        exact⟨gg,by rw [vne j hj e];exact h1,Nat.lt_of_lt_of_le h2 hb.size⟩
      ·have new: ∀k,al.contains k=true→k<n→k≠i→listed.getD k false=true→al.contains i=true→u≠vOf l a k:=by
        intro k hka hk hki hkl hia heq
        obtain⟨g1,h1,h2,_⟩:=hfr hia
        obtain⟨g2,h3,h4⟩:=I.lt k hka hk hkl
        rw [h1,h3]at heq
        injection heq with heq
        injection heq with heq
        injection heq with e1 _ _
        omega
       by_cases e:j=i
       ·subst e
        rw [hsetne k (Ne.symm hjk)]at hkl
        rw [vself,vne k hk (Ne.symm hjk)]
        exact new k hka hk (Ne.symm hjk) hkl hja
       ·rw [hsetne j e]at hjl
        by_cases e2:k=i
        ·subst e2
         rw [vself,vne j hj hjk]
         exact Ne.symm (new j hja hj hjk hjl hka)
        ·rw [hsetne k e2]at hkl
         rw [vne j hj e,vne k hk e2]
         exact I.ne j k hja hka hj hk hjk hjl hkl
    exact⟨o,d,hol,hdo,hw,hst,hnext⟩
   have noal: ∀i o,i<n→l[i]? =some o→wantE l a.eval o=false→al.contains i=true→False:=by
    intro i o hin hol hwt hia
    cases hg:o.guard with
    | none=>unfold wantE at hwt;rw [hg]at hwt;cases hwt
    | some gb=>
     obtain⟨gi,b⟩:=gb
     rw [(F.guard i o gi b hin hol hg).1]at hia
     cases hia
   by_cases hegr: ∃i,i<n∧eg.contains i=true∧i∈Region.ready .any l.toArray listed
   ·obtain⟨i,hin,hieg,hi⟩:=hegr
    obtain⟨o,d,hol,hdo,hw,hst,hnext⟩:=step i hin hi
    have hoa:l.toArray[i]? =some o:=by simpa using hol
    obtain⟨hial,hfree⟩:=F.eager i o hin hol hieg
    obtain⟨_,o',ho',hdeps⟩:=mem_ready.1 hi
    have:o'=o:=Option.some.inj (ho'.symm.trans hoa)
    subst this
    obtain⟨v,hy,hv⟩: ∃v,Yields P l.toArray o' v a∧V i v w:=by
     by_cases hwt:wantE l a.eval o'=true
     ·rw [if_pos hwt,if_pos hieg]at hst
      obtain⟨u,h1,h2⟩:=hst
      exact⟨u,.inl ⟨hw.trans hwt,h1⟩,h2⟩
     ·rw [if_neg hwt]at hst
      exact⟨undef,.inr ⟨hw.trans (by simpa using hwt),rfl⟩,hst⟩
    refine wpAny_first hoa (Region.noSelect_spec F.sel) (fun c a w h=>absurd h (hQ c _ w)) (f+g) listed a w ?_ hi hy (hnext v w (Below.refl _ _) hv (fun h=>by rw [hial]at h;cases h))
    intro j oj hoj hji hjl hjw
    rcases hfree j oj (by simpa using hoj) hji with h | h | h
    ·obtain⟨e,he,rfl⟩:=List.mem_map.1 h
     obtain⟨he1,he2⟩:=List.mem_filter.1 he
     have h1:=hdeps e (by simpa using he1) he2
     rw [getD_both hjl]at h1
     cases h1
    ·obtain⟨oj',hoj',e,he,hb,hon⟩:=Region.waitsFor_spec h
     have:oj'=oj:=Option.some.inj (hoj'.symm.trans hoj)
     subst this
     exact absurd hon (hjw e he hb)
    ·exact h
   ·have hhead: ∀t,t∈Region.ready .any l.toArray listed→t<n:=by
     intro t ht
     rcases Nat.lt_or_ge t n with h | h
     ·exact h
     ·exfalso
      obtain⟨_,ot,hot,htd⟩:=mem_ready.1 ht
      have htl:t<l.length:=by simpa using(Array.getElem?_eq_some_iff.1 hot).1
      have htd': ∀o,l[t]? =some o→∀e∈o.after,Region.binds .any e=true→listed.getD e.on false=true:=fun o ho e he hb=>by
       have:o=ot:=Option.some.inj ((show l.toArray[t]? =some o by simpa using ho).symm.trans hot)
       subst this;exact htd e he hb
      have hk0l':k0<l.length:=Nat.lt_of_lt_of_le hk0 F.le
      rcases F.tail t h htl k0 _ hk0 (List.getElem?_eq_getElem hk0l')with h1 | ⟨h1,h2⟩
      ·rw [ζ18 I.inv 3 t k0 h1 htd']at hk0l;cases hk0l
      ·refine hegr ⟨k0,hk0,h1,mem_ready.2 ⟨getD_in (by omega) hk0l,l[k0],by simp [hk0l'],fun e he hb=> ?_⟩⟩
       exact ζ18 I.inv 3 t e.on (h2 e.on (List.mem_map.2 ⟨e,List.mem_filter.2 ⟨by simpa using he,hb⟩,rfl⟩)) htd'
    refine⟨(fun h0=>by rw [h0]at hi0;cases hi0),fun i hi=> ?_⟩
    have hin:=hhead i hi
    obtain⟨o,d,hol,hdo,hw,hst,hnext⟩:=step i hin hi
    have ho:l.toArray[i]? =some o:=by simpa using hol
    have hne:eg.contains i=false:=by
     cases h:eg.contains i with
     | false=>rfl
     | true=>exact absurd ⟨i,hin,h,hi⟩ hegr
    unfold wpOp
    simp only [ho]
    rw [hw]
    by_cases hwt:wantE l a.eval o=true
    ·rw [if_pos hwt]
     rw [if_pos hwt,if_neg (by rw [hne];decide)]at hst
     exact .inl (wp_of_rel hst fun u w' hb h=>hnext u w' hb h.1 h.2)
    ·rw [if_neg hwt]
     rw [if_neg hwt]at hst
     exact hnext undef w (Below.refl _ _) hst (fun hia=>(noal i o hin hol (by simpa using hwt) hia).elim)
theorem ζ4 {id:Nat} {Q:Exit→Act→World→Prop} {w:World}(n:Nat)(C:World→Prop)(V:Nat→Value→World→Prop)(al eg:List Nat)(hm:P.follows .mixedOrders=true)
  (hB:relB l n al eg a0.tmps.size=true) (hC:C w.drew) (hCg: ∀w w':World,C w→Below w.heap.size w w'→C w') (hVg: ∀i,i<n→∀v (w w':World),V i v w→Below w.heap.size w w'→V i v w')
  (hs:stepsR P l n C V al eg a0 (l.take n) 0)
  (hf: ∀w',C w'→finR V al w' (fun a'=>wpList P l.toArray (calm Q) (l.drop n) a' w') (l.take n) 0 a0 []):(Code.region id l.toArray true).wp P Q a0 w:=by
 have F:=form_of hB
 refine Code.wp_mono (Q:=calm Q) (fun _ _ _ h=>h.2) (wp_region_any hm ?_)
 have inv0:HeadInv .any l.toArray n (Array.replicate l.toArray.size false):=
  ⟨by simp,fun j oj _ hl=>(by rw [getD_replicate_false]at hl;cases hl),fun t _ ht=>getD_in (by simpa using ht) (getD_replicate_false _ _)⟩
 have none0: ∀j,(Array.replicate l.toArray.size false).getD j false=true→False:=fun j h=>by rw [getD_replicate_false]at h;cases h
 have I0:RInv l n C V al a0 (Array.replicate l.toArray.size false) a0 w.drew:=
  ⟨hC,rfl,rfl,fun _ _=>rfl,fun j _ h=>(none0 j h).elim,fun j _ _ h=>(none0 j h).elim,fun i _ _ _ _ _ _ h _=>(none0 i h).elim,inv0⟩
 have hfin:=rel_any (P:=P) (Q:=calm Q) (g:=l.length-n) F (fun c _ _ h=>h.1 c rfl) hCg hVg (steps_get hs)
  (fun listed a' w' I hall=>by
   have hQ:=fin_get F I hall (hf w' I.c)
   have hl:listed=(List.replicate n true++List.replicate (l.length-n) false).toArray:=by
    have hsz2:listed.size=l.length:=by simpa using I.inv.size
    have hle:=F.le
    apply Array.ext
    ·simp [hsz2];omega
    ·intro i h1 h2
     by_cases hi:i<n
     ·have:=hall i hi
      simp [h1]at this
      rw [this]
      simp only [List.getElem_toArray]
      rw [List.getElem_append_left (by simpa using hi)]
      simp
     ·have:=I.inv.tail i (by omega) (by simpa [hsz2]using h1)
      simp [h1]at this
      rw [this]
      simp only [List.getElem_toArray]
      rw [List.getElem_append_right (by simp;omega)]
      simp
   have:=wpAny_of_seq (P:=P) (md:= .any) (ops:=l.toArray) (Q':=calm Q) (l.drop n) n listed a' w' (fun j=>by simp [List.getElem?_drop]) (by rw [hl];simpa using F.seq) hQ
   simpa using this)
  n (Array.replicate l.toArray.size false) a0 w.drew (by
   have:=List.countP_le_length (p:=fun i=> !(Array.replicate l.toArray.size false).getD i false) (l:=List.range n)
   simpa using this) I0
 have hle:=F.le
 rw [show n+(l.length-n)=l.toArray.size by simp;omega]at hfin
 exact hfin
end
structure MemAt (w:World)(H:Nat)(bs:List (Nat × Array Value))(rs:List RowD)(wr:World):Prop where
 m:Mem w wr bs rs
 h:H≤wr.heap.size
section
variable {w w' wr:World} {H:Nat} {bs:List (Nat × Array Value)} {rs:List RowD}
theorem MemAt.grow (h:MemAt w H bs rs wr)(hb:Below wr.heap.size wr w'):MemAt w H bs rs w':=⟨h.m.keep hb,Nat.le_trans h.h hb.size⟩
theorem Mem.at (S:Mem w wr bs rs):MemAt w wr.heap.size bs rs wr.drew:=⟨S.drew,Nat.le_refl _⟩
end
def VE (x:Value)(v:Value)(_:World):Prop:=v=x
def VN (s:Bool)(a:Nat)(v:Value)(w:World):Prop:=∃A k c,v= .agg #[.bool s,.slice A k c]∧Row w A k c (digs a)
def VNN (s:Bool)(a:Nat)(s':Bool)(a':Nat)(v:Value)(w:World):Prop:=
 ∃A k c A' k' c',v= .tuple #[.agg #[.bool s,.slice A k c],.agg #[.bool s',.slice A' k' c']]∧Row w A k c (digs a)∧Row w A' k' c' (digs a')
def VA (H:Nat)(zs:Array Value)(v:Value)(w:World):Prop:=∃g,v= .pointer (some ⟨g,0,none⟩)∧Blk w g zs∧H≤g
section
variable {w w':World} {v x:Value}
theorem VE.grow (h:VE x v w)(_:Below w.heap.size w w'):VE x v w':=h
theorem VN.grow {s:Bool} {a:Nat}(h:VN s a v w)(hb:Below w.heap.size w w'):VN s a v w':=by
 obtain⟨A,k,c,h1,h2⟩:=h;exact⟨A,k,c,h1,h2.keep hb⟩
theorem VNN.grow {s s':Bool} {a a':Nat}(h:VNN s a s' a' v w)(hb:Below w.heap.size w w'):VNN s a s' a' v w':=by
 obtain⟨A,k,c,A',k',c',h1,h2,h3⟩:=h;exact⟨A,k,c,A',k',c',h1,h2.keep hb,h3.keep hb⟩
theorem VA.grow {H:Nat} {zs:Array Value}(h:VA H zs v w)(hb:Below w.heap.size w w'):VA H zs v w':=by
 obtain⟨g,h1,h2,h3⟩:=h;exact⟨g,h1,h2.keep hb,h3⟩
end
theorem Mem.join {w w0 wr:World} {bs:List (Nat × Array Value)} {rs rs0:List RowD}(S:Mem w wr bs rs)(S0:Mem w w0 bs rs0) {g:Nat} {vs:Array Value}(B:Blk wr g vs)(hg:w0.heap.size≤g):Mem w wr (bs++ [(g,vs)]) rs:=by
 refine⟨fun p hp=> ?_,S.row,List.pairwise_append.2 ⟨S.nd,List.pairwise_singleton _ _,fun p hp q hq e=> ?_⟩,fun p hp=> ?_,S.bl⟩
 ·rcases List.mem_append.1 hp with hp | hp
  ·exact S.blk p hp
  ·obtain rfl:=List.mem_singleton.1 hp
   exact B
 ·have:=(S0.blk p hp).sz
  obtain rfl:=List.mem_singleton.1 hq
  have e:p.1=g:=e
  omega
 ·rcases List.mem_append.1 hp with hp | hp
  ·exact S.lo p hp
  ·obtain rfl:=List.mem_singleton.1 hp
   exact Nat.le_trans S0.bl.size hg
def stays (V:Value→World→Prop):Prop:=∀v (w w':World),V v w→Below w.heap.size w w'→V v w'
theorem ζ1 (x:Value):stays (VE x):=fun _ _ _ h hb=>h.grow hb
theorem stays_VN (s:Bool)(a:Nat):stays (VN s a):=fun _ _ _ h hb=>h.grow hb
theorem stays_VNN (s:Bool)(a:Nat)(s':Bool)(a':Nat):stays (VNN s a s' a'):=fun _ _ _ h hb=>h.grow hb
theorem ζ45 (H:Nat)(zs:Array Value):stays (VA H zs):=fun _ _ _ h hb=>h.grow hb
theorem ζb {Vs:List (Value→World→Prop)}(h: ∀V∈Vs,stays V): ∀i,i<Vs.length→∀v (w w':World),(Vs.getD i (fun _ _=>False)) v w→Below w.heap.size w w'→(Vs.getD i (fun _ _=>False)) v w':=by
 intro i hi v w w' h1 hb
 rw [List.getD_eq_getElem?_getD,List.getElem?_eq_getElem hi]at h1 ⊢
 exact h _ (List.getElem_mem hi) v w w' h1 hb
theorem ζ5e {n:Nat} {Vs:List (Value→World→Prop)}(h: ∀V∈Vs,stays V)(hn:Vs.length=n): ∀i,i<n→∀v (w w':World),(Vs.getD i (fun _ _=>False)) v w→Below w.heap.size w w'→(Vs.getD i (fun _ _=>False)) v w':=by
 subst hn;exact ζb h
theorem ζa: ∀V∈([]:List (Value→World→Prop)),stays V:=fun _ h=>by cases h
theorem ζ0 {V0:Value→World→Prop} {Vs:List (Value→World→Prop)}(h0:stays V0)(h: ∀V∈Vs,stays V): ∀V∈V0 :: Vs,stays V:=by
 intro V hV
 rcases List.mem_cons.1 hV with rfl | hV
 ·exact h0
 ·exact h V hV
theorem ifw {c:Bool} {X Y:Prop}(hc:c=true)(h:X):if c=true then X else Y:=by rw [if_pos hc];exact h
theorem ifn {c:Bool} {X Y:Prop}(hc:c=false)(h:Y):if c=true then X else Y:=by rw [if_neg (by rw [hc];decide)];exact h
theorem ζ4a {P:Program} {o:Oper} {ev:Operand→Value} {w w':World} {R:Value→World→Prop} {u:Value}(hr:(execOp ev o).run P w= .ok (.value u) w')(hb:Below w.heap.size w w')(hR:R u w'):OpRel P o ev w R:=by
 unfold OpRel;rw [hr];exact⟨hb,hR⟩
theorem rel_call {P:Program} {o:Oper} {ev:Operand→Value} {w:World} {R:Value→World→Prop} {f:FuncId} {args:Array Value} {Q:Ending→World→Prop}(hr:(execOp ev o).run P w= .ok (.enter f args) w)(hc:Calls P f args w Q)
  (hQ: ∀e w',Q e w'→∃u,e= .returned u∧Below w.heap.size w w'∧R u w'):OpRel P o ev w R:=by
 unfold OpRel;rw [hr];exact hc.mono hQ
def Ext (w0 w:World):Prop:=Below w0.heap.size w0 w
theorem Ext.grow {w0 w w':World}(h:Ext w0 w)(hb:Below w.heap.size w w'):Ext w0 w':=Below.trans h (hb.mono (Below.size h))
theorem Ext.start (w:World):Ext w w.drew:=(Below.refl _ _).drew
def VSl (sz:Nat)(xs:List Value)(v:Value)(w:World):Prop:=∃A n c,v= .slice A n c∧Lies w sz A n c xs
theorem stays_VSl (sz:Nat)(xs:List Value):stays (VSl sz xs):=fun _ _ _ h hb=>by
 obtain⟨A,n,c,h1,h2⟩:=h;exact⟨A,n,c,h1,h2.keep hb⟩
theorem zA:(∀(a:Act) (d:Tmp) (v:Value),a.put (some d) v= { a with tmps:=a.tmps.setIfInBounds d v })∧(∀(l:List Value) (i:Nat) (v:Value),l.toArray.setIfInBounds i v=(l.set i v).toArray)∧(∀(a v:Value) (l:List Value),(a :: l).set 0 v=v :: l)∧(∀(a v:Value) (l:List Value) (n:Nat),(a :: l).set (n+1) v=a :: l.set n v)∧(∀(o:Oper) (l:List Oper) (n:Nat),(o :: l).drop (n+1)=l.drop n)∧(∀l:List Oper,l.drop 0=l):=
 ⟨fun _ _ _=>rfl,fun l i v=>List.setIfInBounds_toArray ..,fun _ _ _=>rfl,fun _ _ _ _=>rfl,fun _ _ _=>rfl,fun _=>rfl⟩
theorem stA {Vs:List (Value→World→Prop)} {n:Nat}(hn:Vs.length=n:=by rfl)(h: ∀V∈Vs,stays V:=by(repeat (first | exact ζa | refine ζ0 (by(first | exact ζ1 _ | exact stays_VN _ _ | exact stays_VNN _ _ _ _ | exact ζ45 _ _ | exact stays_VSl _ _)) ?_))): ∀i,i<n→∀v (w w':World),(Vs.getD i (fun _ _=>False)) v w→Below w.heap.size w w'→(Vs.getD i (fun _ _=>False)) v w':=ζ5e h hn
def AllQ {α:Type}(p:α→Prop):List α→Prop
 | []=>True
 | a :: l=>p a∧AllQ p l
theorem AllQ.hd {α:Type} {p:α→Prop} {a:α} {l:List α}(h:AllQ p (a :: l)):p a:=h.1
theorem AllQ.tl {α:Type} {p:α→Prop} {a:α} {l:List α}(h:AllQ p (a :: l)):AllQ p l:=h.2
theorem AllQ.of {α:Type} {p:α→Prop} : ∀ {l:List α},(∀a∈l,p a)→AllQ p l
 | [],_=>trivial
 | a :: l,h=>⟨h a List.mem_cons_self,AllQ.of fun b hb=>h b (List.mem_cons_of_mem _ hb)⟩
structure EvK (P:Program)(a0:Act)(ss:List Nat)(ds:List Nat)(V:Nat→Value→Prop)(l:List Oper)(ev:Operand→Value):Prop where
 const: ∀v,ev (.const v)=v
 func: ∀f,ev (.func f)= .func (.func f) #[] #[]
 slot:AllQ (fun s=>ev (.tmp s)=a0.eval (.tmp s)) ss
 dep:AllQ (fun j=>V j (ev (.tmp (dstAt l j)))) ds
theorem ζ12 {l:List Oper} {ev:Operand→Value} {o:Oper}(h:o.guard=none):wantE l ev o=true:=by unfold wantE;rw [h]
theorem ζ1s {l:List Oper} {ev:Operand→Value} {o:Oper} {g:Nat} {b c:Bool}(h:o.guard=some (g,b))(hv:ev (.tmp (dstAt l g))= .bool c):wantE l ev o=(c == b):=by unfold wantE;rw [h];dsimp only;rw [hv];cases b <;> cases c <;> rfl
theorem want_is {l:List Oper} {ev:Operand→Value} {o:Oper} {g:Nat} {b:Bool}(h:o.guard=some (g,b))(hv:ev (.tmp (dstAt l g))= .bool b):wantE l ev o=true:=(ζ1s h hv).trans (by cases b <;> rfl)
section
variable {P:Program} {l:List Oper} {n:Nat} {C:World→Prop} {V:Nat→Value→World→Prop} {al eg:List Nat} {a0:Act} {o:Oper} {i:Nat}
theorem evk_of {ev:Operand→Value} {w:World} {ss:List Nat}(hE:Ev a0 (ζu l n) ev)(hs:(ss.all fun s=> !(ζu l n).contains s)=true)(hd: ∀j∈depsL o,V j (ev (.tmp (dstAt l j))) w):EvK P a0 ss (depsL o) (fun j v=>V j v w) l ev:=
 ⟨hE.const,hE.func,AllQ.of fun s h=>hE.tmp s (by simpa using List.all_eq_true.1 hs s h),AllQ.of hd⟩
theorem rU (ss:List Nat)(hg:o.guard=none:=by rfl)(he:eg.contains i=true:=by rfl)(hs:(ss.all fun s=> !(ζu l n).contains s)=true:=by rfl)
  (hrun: ∀(ev:Operand→Value) (w:World),EvK P a0 ss (depsL o) (fun j v=>V j v w) l ev→∃u,V i u w∧∀w,(execOp ev o).run P w= .ok (.value u) w:=by
   (intro ev w hK;obtain⟨e1,e2,hs,hq⟩:=hK;refine⟨_,rfl,fun w9=> ?_⟩;(repeat (have q:=AllQ.hd hq;replace hq:=AllQ.tl hq;(conv at q=>whnf);try (conv at q=>lhs;arg 1;arg 1;whnf)));(repeat (have q:=AllQ.hd hs;replace hs:=AllQ.tl hs;(conv at q=>rhs;whnf)));clear hq hs;go_simp)):stepR P l n C V al eg a0 o i:=by
 intro ev w hE hw hd
 obtain⟨u,hu,hr⟩:=hrun ev w (evk_of hE hs hd)
 exact ifw (ζ12 hg) (ifw he ⟨u,hr,hu⟩)
theorem rG {g:Nat} {b:Bool}(ss:List Nat)(hg:o.guard=some (g,b):=by rfl)(hv: ∀v w,V g v w→v= .bool b:=by(intro v w h;exact h))(hm:(depsL o).contains g=true:=by rfl)(he:eg.contains i=true:=by rfl)(hs:(ss.all fun s=> !(ζu l n).contains s)=true:=by rfl)
  (hrun: ∀(ev:Operand→Value) (w:World),EvK P a0 ss (depsL o) (fun j v=>V j v w) l ev→∃u,V i u w∧∀w,(execOp ev o).run P w= .ok (.value u) w:=by
   (intro ev w hK;obtain⟨e1,e2,hs,hq⟩:=hK;refine⟨_,rfl,fun w9=> ?_⟩;(repeat (have q:=AllQ.hd hq;replace hq:=AllQ.tl hq;(conv at q=>whnf);try (conv at q=>lhs;arg 1;arg 1;whnf)));(repeat (have q:=AllQ.hd hs;replace hs:=AllQ.tl hs;(conv at q=>rhs;whnf)));clear hq hs;go_simp)):stepR P l n C V al eg a0 o i:=by
 intro ev w hE hw hd
 obtain⟨u,hu,hr⟩:=hrun ev w (evk_of hE hs hd)
 exact ifw ((ζ1s hg (hv _ _ (hd g (by simpa using hm)))).trans (by cases b <;> rfl)) (ifw he ⟨u,hr,hu⟩)
theorem rS {g:Nat} {b:Bool}(hg:o.guard=some (g,b):=by rfl)(hv: ∀v w,V g v w→v= .bool (!b):=by(intro v w h;exact h))(hm:(depsL o).contains g=true:=by rfl)(hu: ∀w,V i undef w:=by(intro w;exact rfl)):stepR P l n C V al eg a0 o i:=by
 intro ev w hE hw hd
 exact ifn ((ζ1s hg (hv _ _ (hd g (by simpa using hm)))).trans (by cases b <;> rfl)) (hu w)
theorem rL {F:World→Prop}(ss:List Nat)(k: ∀ {w},C w→F w)(hg:o.guard=none:=by rfl)(he:eg.contains i=false:=by rfl)(ha:al.contains i=false:=by rfl)(hs:(ss.all fun s=> !(ζu l n).contains s)=true:=by rfl)
  (hrun: ∀(ev:Operand→Value) (w:World),F w→EvK P a0 ss (depsL o) (fun j v=>V j v w) l ev→∃u,V i u w∧(execOp ev o).run P w= .ok (.value u) w:=by
   (intro ev w kx hK;obtain⟨e1,e2,hs,hq⟩:=hK;refine⟨_,rfl,?_⟩;(repeat (have q:=AllQ.hd hq;replace hq:=AllQ.tl hq;(conv at q=>whnf);try (conv at q=>lhs;arg 1;arg 1;whnf)));(repeat (have q:=AllQ.hd hs;replace hs:=AllQ.tl hs;(conv at q=>rhs;whnf)));clear hq hs;(repeat (have ky:=And.left kx;replace kx:=And.right kx));go_simp)):stepR P l n C V al eg a0 o i:=by
 intro ev w hE hw hd
 obtain⟨u,hu,hr⟩:=hrun ev w (k hw) (evk_of hE hs hd)
 exact ifw (ζ12 hg) (ifn he (ζ4a hr (Below.refl _ _) ⟨hu,fun h=>by rw [ha]at h;cases h⟩))
end
section
variable {P:Program} {l:List Oper} {n:Nat} {C:World→Prop} {V:Nat→Value→World→Prop} {al eg:List Nat} {a0:Act} {o:Oper} {i:Nat} {ev:Operand→Value} {w:World}
theorem rM (ss:List Nat)(hE:Ev a0 (ζu l n) ev)(hd: ∀j∈depsL o,V j (ev (.tmp (dstAt l j))) w)(he:eg.contains i=false:=by rfl)(ha:al.contains i=false:=by rfl)(hs:(ss.all fun s=> !(ζu l n).contains s)=true:=by rfl)
  (hwant:EvK P a0 ss (depsL o) (fun j v=>V j v w) l ev→wantE l ev o=true:=by
   (intro hk;first | exact ζ12 rfl | (obtain⟨e1,e2,hs,hq⟩:=hk;refine want_is rfl ?_;(repeat (have q:=AllQ.hd hq;replace hq:=AllQ.tl hq;(conv at q=>whnf);try (conv at q=>lhs;arg 1;arg 1;whnf)));(conv=>lhs;arg 1;arg 1;whnf);assumption)))
  (hrun:EvK P a0 ss (depsL o) (fun j v=>V j v w) l ev→∃u,V i u w∧(execOp ev o).run P w= .ok (.value u) w:=by
   (intro hk;obtain⟨e1,e2,hs,hq⟩:=hk;refine⟨_,rfl,?_⟩;(repeat (have q:=AllQ.hd hq;replace hq:=AllQ.tl hq;(conv at q=>whnf);try (conv at q=>lhs;arg 1;arg 1;whnf)));(repeat (have q:=AllQ.hd hs;replace hs:=AllQ.tl hs;(conv at q=>rhs;whnf)));clear hq hs;(try clear hE);(try clear hd);(try clear hw);go_simp)):if wantE l ev o=true then(if eg.contains i=true then ∃u,(∀w,(execOp ev o).run P w= .ok (.value u) w)∧V i u w else OpRel P o ev w (fun u w'=>V i u w'∧(al.contains i=true→Fresh w u w')))else V i undef w:=by
 have hk:=evk_of (P:=P) hE hs hd
 obtain⟨u,hu,hr⟩:=hrun hk
 exact ifw (hwant hk) (ifn he (ζ4a hr (Below.refl _ _) ⟨hu,fun h=>by rw [ha]at h;cases h⟩))
theorem rC {f:FuncId} {args:Array Value} {Q:Ending→World→Prop}(ss:List Nat)(hE:Ev a0 (ζu l n) ev)(hd: ∀j∈depsL o,V j (ev (.tmp (dstAt l j))) w)(hc:Calls P f args w Q)
  (h: ∀e w',Q e w'→∃u,e= .returned u∧Below w.heap.size w w'∧V i u w'∧(al.contains i=true→Fresh w u w')) (he:eg.contains i=false:=by rfl) (hs:(ss.all fun s=> !(ζu l n).contains s)=true:=by rfl)
  (hwant:EvK P a0 ss (depsL o) (fun j v=>V j v w) l ev→wantE l ev o=true:=by
   (intro hk;first | exact ζ12 rfl | (obtain⟨e1,e2,hs,hq⟩:=hk;refine want_is rfl ?_;(repeat (have q:=AllQ.hd hq;replace hq:=AllQ.tl hq;(conv at q=>whnf);try (conv at q=>lhs;arg 1;arg 1;whnf)));(conv=>lhs;arg 1;arg 1;whnf);assumption)))
  (hrun:EvK P a0 ss (depsL o) (fun j v=>V j v w) l ev→(execOp ev o).run P w= .ok (.enter f args) w:=by
   (intro hk;obtain⟨e1,e2,hs,hq⟩:=hk;(repeat (have q:=AllQ.hd hq;replace hq:=AllQ.tl hq;(conv at q=>whnf);try (conv at q=>lhs;arg 1;arg 1;whnf)));(repeat (have q:=AllQ.hd hs;replace hs:=AllQ.tl hs;(conv at q=>rhs;whnf)));clear hq hs;(try clear hE);(try clear hd);(try clear hw);go_simp)):if wantE l ev o=true then(if eg.contains i=true then ∃u,(∀w,(execOp ev o).run P w= .ok (.value u) w)∧V i u w else OpRel P o ev w (fun u w'=>V i u w'∧(al.contains i=true→Fresh w u w')))else V i undef w:=by
 have hk:=evk_of (P:=P) hE hs hd
 exact ifw (hwant hk) (ifn he (rel_call (hrun hk) hc h))
end
end Corr
