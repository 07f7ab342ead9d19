/- corrodyref08 -/
import Derived.Test.YthagdonmijhpdaaGreatChecked
import Derived.Test.YthagdonmijhpdaaGreatRow4
import Derived.Test.YthagdonmijhpdaaGreatRowRel
import Derived.BigQuiet
import Derived.Deep.RegionLaw
import Derived.Deep.CutRange
import Derived.Deep.AppendLies
import Derived.Laws.IdiomStrings
import Derived.Deep.DeepCutAuto
import Derived.Deep.CutBlock
import Derived.Deep.RegionHeld3
import Derived.Test.YthagdonmijhpdaaGreatTlKnown
set_option linter.unusedSimpArgs false
set_option linter.unusedVariables false
namespace Corr
def lessB (a b:It):Bool:=if a.1=b.1 then(if a.2.1=b.2.1 then decide (a.2.2<b.2.2)else decide (a.2.1<b.2.1))else decide (a.1<b.1)
def cntI (x:It)(l:ItL):Nat:=(l.takeWhile fun y=>lessB y x).length
end Corr
namespace Go.Proofs.YthagdonmijhpdaaGreat
open Go.RowKit Corr
end Go.Proofs.YthagdonmijhpdaaGreat
namespace Corr
open Go Go.RowKit
theorem cntI_at {x:It} {l:ItL} {k:Nat}(hk:k≤l.length)(h1: ∀y∈l.take k,lessB y x=true)(h2: ∀y,l[k]? =some y→lessB y x=false):cntI x l=k:=by
 unfold cntI
 have e:l=l.take k++l.drop k:=(List.take_append_drop k l).symm
 have hd:(l.drop k).takeWhile (fun y=>lessB y x)= []:=by
  cases hd:l.drop k with
  | nil=>rfl
  | cons y r=>
   have:l[k]? =some y:=by
    have:=congrArg (·[0]?) hd
    simpa using this
   rw [List.takeWhile_cons,h2 y this];rfl
 rw [e,List.takeWhile_append_of_pos h1,hd,List.append_nil,List.length_take]
 omega
def hasI (x:It)(l:ItL):Bool:=decide (l[cntI x l]? =some x)
structure RTree (w:World)(g:Nat)(A:Option Addr)(n c:Nat)(l:ItL):Prop where
 s:w.cell? ⟨g,1,none⟩=some (.slice A n c)
 i:Itm w A n c l
theorem RTree.lt {w:World} {g n c:Nat} {A:Option Addr} {l:ItL}(h:RTree w g A n c l):g<w.heap.size:=World.block_lt_of_cell? _ _ h.s
theorem RTree.keep {w w':World} {g n c:Nat} {A:Option Addr} {l:ItL}(h:RTree w g A n c l)(hb:Below w.heap.size w w'):RTree w' g A n c l:=
 ⟨(hb.cell (p:=⟨g,1,none⟩) h.lt).trans h.s,h.i.keep hb⟩
end Corr
namespace Go.Proofs.YthagdonmijhpdaaGreat
open Go.RowKit Corr
end Go.Proofs.YthagdonmijhpdaaGreat
namespace Corr
open Go Go.RowKit
def insI (x:It)(l:ItL):ItL:=l.take (cntI x l)++x :: l.drop (cntI x l)
theorem cntI_le (x:It)(l:ItL):cntI x l≤l.length:=by unfold cntI;exact(List.takeWhile_sublist _).length_le
structure RTreeW (T:TypeId)(w:World)(g:Nat)(M:Int)(A:Option Addr)(n c:Nat)(l:ItL):Prop where
 b:Blk w g #[.int .i64 M,.slice A n c]
 o:w.ownsRow 0 T 3 (.slice A n c) n (ζ5 l)
section
variable {T:TypeId} {w w':World} {g n c:Nat} {M:Int} {A:Option Addr} {l:ItL}
theorem RTreeW.r (h:RTreeW T w g M A n c l):RTree w g A n c l:=⟨h.b.get 1 rfl,ζv h.o⟩
theorem RTreeW.keep (h:RTreeW T w g M A n c l)(hb:Below w.heap.size w w'):RTreeW T w' g M A n c l:=⟨h.b.keep hb,ζg h.o hb⟩
theorem RTreeW.sz (h:RTreeW T w g M A n c l):g<w.heap.size:=h.b.sz
theorem RTreeW.len (h:RTreeW T w g M A n c l):l.length=n:=Itm.count h.r.i
end
def RetTree (T:TypeId)(g:Nat)(w:World)(l:ItL)(e:Ending)(w':World):Prop:=
 ∃A n c w1,e= .returned (.int .i64 0)∧Below w.heap.size w w1∧w1.ownsRow w.heap.size T 3 (.slice A n c) n (ζ5 l)∧w'=w1.setCell ⟨g,1,none⟩ (.slice A n c)
end Corr
namespace Go.Proofs.YthagdonmijhpdaaGreat
open Go.RowKit Corr
end Go.Proofs.YthagdonmijhpdaaGreat
namespace Corr
open Go Go.RowKit
def delI (x:It)(l:ItL):ItL:=l.take (cntI x l)++l.drop (cntI x l+1)
end Corr
namespace Go.Proofs.YthagdonmijhpdaaGreat
open Go.RowKit Corr
end Go.Proofs.YthagdonmijhpdaaGreat
namespace Corr
open Go Go.RowKit
def insR (M:Int)(x:It)(l:ItL):Int:=if x.2.1≤x.1 then 2 else if hasI x l=true then 6 else if(l.length:Int)=M then 7 else 0
def insL (M:Int)(x:It)(l:ItL):ItL:=if insR M x l=0 then insI x l else l
def delR (x:It)(l:ItL):Int:=if hasI x l=true then 0 else 5
def delL (x:It)(l:ItL):ItL:=if hasI x l=true then delI x l else l
theorem insI_len (x:It)(l:ItL):(insI x l).length=l.length+1:=by
 unfold insI;have:=cntI_le x l;simp;omega
theorem insL_len (M:Int)(x:It)(l:ItL):(insL M x l).length≤l.length+1:=by
 unfold insL;split
 ·rw [insI_len];omega
 ·omega
theorem delI_len (x:It)(l:ItL):(delI x l).length≤l.length:=by
 unfold delI;have:=cntI_le x l;simp;omega
theorem delL_len (x:It)(l:ItL):(delL x l).length≤l.length:=by
 unfold delL;split
 ·exact delI_len x l
 ·omega
abbrev inRow (A:Option Addr)(n c k:Nat):Prop:=(Value.slice A n c).ownBlock=some k
abbrev RepT:=World→Value→(Nat→Prop)→Int→ItL→Prop
section
variable {T:TypeId} {w w':World} {g n c:Nat} {M:Int} {A:Option Addr} {l:ItL} {G:Nat→Prop}
theorem RTreeW.off (h:RTreeW T w g M A n c l)(ho:Off G w w')(hg: ¬G g)(ha: ∀k,inRow A n c k→¬G k):RTreeW T w' g M A n c l:=⟨ho.blk h.b hg,ho.own h.o ha⟩
theorem RetTree.state {e:Ending}(h:RTreeW T w g M A n c l) {l':ItL}(r:RetTree T g w l' e w'):e= .returned (.int .i64 0)∧∃A' n' c',RTreeW T w' g M A' n' c' l'∧Off (· =g) w w'∧∀k,inRow A' n' c' k→w.heap.size≤k:=by
 obtain⟨A',n',c',w1,rfl,hb,ho,rfl⟩:=r
 have hg:=h.sz
 have hge:=ζ1c ho
 refine⟨rfl,A',n',c',⟨?_,?_⟩,(Off.of hb).trans (Off.set (F:=(· =g)) (a:=⟨g,1,none⟩) rfl _),hge⟩
 ·have:=(h.b.keep hb).set 1 (.slice A' n' c')
  simpa using this
 ·refine(Off.set (F:=(· =g)) (a:=⟨g,1,none⟩) rfl _).own (ζ1m ho (Nat.zero_le _)) fun k hk e=> ?_
  have:=hge k hk
  omega
end
structure Pair (Rep:RepT)(T:TypeId)(B:Nat)(w0:World)(p:Value)(g:Nat)(M:Int)(F:Nat→Prop)(A:Option Addr)(n c:Nat)(lp lr:ItL)(os:List (Nat × Array Value))(w:World):Prop where
 rep:Rep w p F M lp
 tree:RTreeW T w g M A n c lr
 fg: ¬F g
 fa: ∀k,inRow A n c k→¬F k
 fb: ∀k,F k→B≤k
 gb:B≤g
 ab: ∀k,inRow A n c k→B≤k
 oth: ∀q∈os,Blk w q.1 q.2∧¬F q.1∧q.1≠g∧∀k,inRow A n c k→q.1≠k
 bl:Below B w0 w
 bs:B≤w.heap.size
structure RepOk (Rep:RepT):Prop where
 lt: ∀ {w p F M l},Rep w p F M l→∀k,F k→k<w.heap.size
 keep: ∀ {w w' p F G M l},Rep w p F M l→Off G w w'→(∀k,F k→¬G k)→Rep w' p F M l
section
variable {Rep:RepT} {T:TypeId} {B:Nat} {w0 w w':World} {p:Value} {g n c:Nat} {M:Int} {F F':Nat→Prop} {A:Option Addr} {lp lp' lr lr':ItL} {os:List (Nat × Array Value)}
theorem Pair.oth_lt (h:Pair Rep T B w0 p g M F A n c lp lr os w) {q:Nat × Array Value}(hq:q∈os):q.1<w.heap.size:=(h.oth q hq).1.sz
theorem Pair.off (R:RepOk Rep)(h:Pair Rep T B w0 p g M F A n c lp lr os w) {G:Nat→Prop}(ho:Off G w w')(hF: ∀k,F k→¬G k)(hg: ¬G g)(ha: ∀k,inRow A n c k→¬G k)(hos: ∀q∈os,¬G q.1)(hB: ∀k,G k→B≤k):Pair Rep T B w0 p g M F A n c lp lr os w':=
 ⟨R.keep h.rep ho hF,h.tree.off ho hg ha,h.fg,h.fa,h.fb,h.gb,h.ab,fun q hq=>⟨ho.blk (h.oth q hq).1 (hos q hq),(h.oth q hq).2⟩,h.bl.trans (ho.below h.bs hB),Nat.le_trans h.bs ho.size⟩
theorem Pair.keep (R:RepOk Rep)(h:Pair Rep T B w0 p g M F A n c lp lr os w)(hb:Below w.heap.size w w'):Pair Rep T B w0 p g M F A n c lp lr os w':=
 h.off R (Off.of (F:=fun _=>False) hb) (fun _ _ e=>e) (fun e=>e) (fun _ _ e=>e) (fun _ _ e=>e) (fun _ e=>e.elim)
theorem Pair.prog (R:RepOk Rep)(h:Pair Rep T B w0 p g M F A n c lp lr os w)(ho:Off F w w')(hr:Rep w' p F' M lp')(hF: ∀k,F' k→F k∨w.heap.size≤k):Pair Rep T B w0 p g M F' A n c lp' lr os w':=by
 have new: ∀k,k<w.heap.size→¬F k→¬F' k:=fun k hk hn e=>by
  rcases hF k e with h1 | h1
  ·exact hn h1
  ·omega
 exact⟨hr,h.tree.off ho h.fg h.fa,new g h.tree.sz h.fg,fun k hk=>new k (ζk h.tree.o hk) (h.fa k hk),fun k hk=>by
  rcases hF k hk with h1 | h1
  ·exact h.fb k h1
  ·exact Nat.le_trans h.bs h1,h.gb,h.ab,fun q hq=>⟨ho.blk (h.oth q hq).1 (h.oth q hq).2.1,new _ (h.oth_lt hq) (h.oth q hq).2.1,(h.oth q hq).2.2⟩,h.bl.trans (ho.below h.bs h.fb),Nat.le_trans h.bs ho.size⟩
theorem Pair.push (R:RepOk Rep)(h:Pair Rep T B w0 p g M F A n c lp lr os w)(vs:Array Value)(U:TypeId):Pair Rep T B w0 p g M F A n c lp lr ((w.heap.size,vs) :: os) (w.alloc (.cells vs U)):=by
 have k:=h.keep R ((Below.refl _ _).alloc (Nat.le_refl _) (.cells vs U))
 refine⟨k.rep,k.tree,k.fg,k.fa,k.fb,k.gb,k.ab,fun q hq=> ?_,k.bl,k.bs⟩
 rcases List.mem_cons.1 hq with rfl | hq
 ·refine⟨Blk.new w vs U,fun e=> ?_,fun e=> ?_,fun j hj e=> ?_⟩
  ·have:=R.lt h.rep _ e
   exact absurd this (Nat.lt_irrefl _)
  ·have:=h.tree.sz
   have e:w.heap.size=g:=e
   omega
  ·have:=ζk h.tree.o hj
   have e:w.heap.size=j:=e
   omega
 ·exact k.oth q hq
theorem Pair.less (h:Pair Rep T B w0 p g M F A n c lp lr os w) {os':List (Nat × Array Value)}(hs: ∀q∈os',q∈os):Pair Rep T B w0 p g M F A n c lp lr os' w:=
 ⟨h.rep,h.tree,h.fg,h.fa,h.fb,h.gb,h.ab,fun q hq=>h.oth q (hs q hq),h.bl,h.bs⟩
end
end Corr
namespace Go.Proofs.YthagdonmijhpdaaGreat
open Go.RowKit Corr
end Go.Proofs.YthagdonmijhpdaaGreat
namespace Corr
open Go Go.RowKit
inductive AT
 | nil
 | node (l:AT) (x:It) (r:AT)
def AT.items:AT→ItL
 | .nil=> []
 | .node l x r=>l.items++x :: r.items
def AT.height:AT→Nat
 | .nil=>0
 | .node l _ r=>max l.height r.height+1
def AT.bal:AT→Prop
 | .nil=>True
 | .node l _ r=>l.bal∧r.bal∧l.height≤r.height+1∧r.height≤l.height+1
def topL:ItL→Int
 | []=>0
 | [x]=>x.2.1
 | x :: r=>max x.2.1 (topL r)
theorem AT.height0 {t:AT}(h:t.items.length=0):t= .nil:=by
 cases t with
 | nil=>rfl
 | node l x r=>simp [AT.items]at h
theorem AT.one {t:AT}(h:t.items.length=1): ∃x,t= .node .nil x .nil:=by
 cases t with
 | nil=>cases h
 | node l x r=>
  simp [AT.items]at h
  have h1:=AT.height0 (t:=l) (by omega)
  have h2:=AT.height0 (t:=r) (by omega)
  subst h1 h2
  exact⟨x,rfl⟩
theorem AT.two {t:AT}(h:t.items.length=2):t.height=2:=by
 cases t with
 | nil=>cases h
 | node l x r=>
  simp [AT.items]at h
  by_cases hl:l.items.length=0
  ·have h1:=AT.height0 hl
   obtain⟨y,h2⟩:=AT.one (t:=r) (by omega)
   subst h1 h2;rfl
  ·have h1:=AT.height0 (t:=r) (by omega)
   obtain⟨y,h2⟩:=AT.one (t:=l) (by omega)
   subst h1 h2;rfl
abbrev knotV (x:It)(a b h t:Int):Value:= .agg #[.int .i64 x.1,.int .i64 x.2.1,.int .i64 x.2.2,.int .i64 a,.int .i64 b,.int .i64 h,.int .i64 t]
def RetItems (T:TypeId)(w:World)(l:ItL)(e:Ending)(w':World):Prop:=∃A n c,e= .returned (.slice A n c)∧w'.ownsRow w.heap.size T 3 (.slice A n c) n (ζ5 l)∧Below w.heap.size w w'
end Corr
namespace Go.Proofs.YthagdonmijhpdaaGreat
open Go.RowKit Corr
structure AvlK0 (Rep:RepT):Prop extends RepOk Rep where
 make: ∀(M:Int) (w:World),1≤M→M≤1000000→Calls Tryz.prog 62 #[.int .i64 M] w fun e w'=>∃(q:Addr) (F:Nat→Prop),e= .returned (.tuple #[.pointer (some q),.int .i64 0])∧Rep w' (.pointer (some q)) F M []∧Below w.heap.size w w'∧∀k,F k→w.heap.size≤k
 insert: ∀(w:World) (p:Value) (F:Nat→Prop) (M:Int) (l:ItL) (x:It),Rep w p F M l→l.length≤1000→Calls Tryz.prog 100 #[p,itV x] w fun e w'=>∃F':Nat→Prop,e= .returned (.int .i64 (insR M x l))∧Rep w' p F' M (insL M x l)∧Off F w w'∧∀k,F' k→F k∨w.heap.size≤k
end Go.Proofs.YthagdonmijhpdaaGreat
namespace Corr
open Go Go.RowKit
def Solo (Rep:RepT)(w0:World)(p:Value)(M:Int)(l:ItL)(os:List (Nat × Array Value))(w:World):Prop:=∃F,Rep w p F M l∧(∀k,F k→w0.heap.size≤k)∧Below w0.heap.size w0 w∧∀q∈os,Blk w q.1 q.2∧¬F q.1
section
variable {Rep:RepT} {w0 w w':World} {p:Value} {M:Int} {l l':ItL} {os:List (Nat × Array Value)}
theorem Solo.bl (h:Solo Rep w0 p M l os w):Below w0.heap.size w0 w:=by obtain⟨_,_,_,h,_⟩:=h;exact h
theorem Solo.b (h:Solo Rep w0 p M l os w)(i:Nat) {k:Nat} {vs:Array Value}(hi:os[i]? =some (k,vs)):Blk w k vs:=by
 obtain⟨_,_,_,_,h⟩:=h;exact(h _ (List.mem_of_getElem? hi)).1
theorem Solo.keep (R:RepOk Rep)(h:Solo Rep w0 p M l os w)(hb:Below w.heap.size w w'):Solo Rep w0 p M l os w':=by
 obtain⟨F,h1,h2,h3,h4⟩:=h
 exact⟨F,R.keep h1 (Off.of (F:=fun _=>False) hb) (fun _ _ e=>e),h2,h3.trans (hb.mono h3.size),fun q hq=>⟨(h4 q hq).1.keep hb,(h4 q hq).2⟩⟩
theorem Solo.turn {F F':Nat→Prop}(h2: ∀k,F k→w0.heap.size≤k)(h3:Below w0.heap.size w0 w)(h4: ∀q∈os,Blk w q.1 q.2∧¬F q.1)(hr:Rep w' p F' M l')(ho:Off F w w')(hF: ∀k,F' k→F k∨w.heap.size≤k):Solo Rep w0 p M l' os w':=
 ⟨F',hr,fun k hk=>by
  rcases hF k hk with h | h
  ·exact h2 k h
  ·exact Nat.le_trans h3.size h,h3.trans (ho.below h3.size h2),fun q hq=>⟨ho.blk (h4 q hq).1 (h4 q hq).2,fun e=>by
  rcases hF _ e with h | h
  ·exact(h4 q hq).2 h
  ·have:=(h4 q hq).1.sz;omega⟩⟩
theorem Solo.push (R:RepOk Rep)(h:Solo Rep w0 p M l os w)(vs:Array Value)(U:TypeId):Solo Rep w0 p M l (os++ [(w.heap.size,vs)]) (w.alloc (.cells vs U)):=by
 have hb:=(Below.refl w.heap.size w).alloc (Nat.le_refl _) (.cells vs U)
 obtain⟨F,h1,h2,h3,h4⟩:=h
 refine⟨F,R.keep h1 (Off.of (F:=fun _=>False) hb) (fun _ _ e=>e),h2,h3.trans (hb.mono h3.size),fun q hq=> ?_⟩
 rcases List.mem_append.1 hq with hq | hq
 ·exact⟨(h4 q hq).1.keep hb,(h4 q hq).2⟩
 ·rcases List.mem_singleton.1 hq with rfl
  exact⟨Blk.new w vs U,fun e=>by have h5:=R.lt h1 _ e;exact absurd h5 (Nat.lt_irrefl _)⟩
theorem Solo.less (h:Solo Rep w0 p M l os w) {os':List (Nat × Array Value)}(hs: ∀q∈os',q∈os):Solo Rep w0 p M l os' w:=by
 obtain⟨F,h1,h2,h3,h4⟩:=h
 exact⟨F,h1,h2,h3,fun q hq=>h4 q (hs q hq)⟩
end
end Corr
namespace Go.Proofs.YthagdonmijhpdaaGreat
open Go.RowKit Corr
end Go.Proofs.YthagdonmijhpdaaGreat
