/- Contracts of corrodyref11 -/
import Derived.Test.YthagdonmijhpdaaGreatChecked
import Derived.Test.YthagdonmijhpdaaGreatRow4
import Derived.Test.YthagdonmijhpdaaGreatRowRel
import Derived.BigQuiet
import Derived.Deep.RegionHeld3
import Derived.Deep.RegionLaw
import Derived.Deep.CutRange
import Derived.Deep.AppendLies
import Derived.Laws.IdiomStrings
import Derived.Deep.DeepCutAuto
import Derived.Deep.CutBlock
set_option linter.unusedSimpArgs false
set_option linter.unusedVariables false
namespace Corr
open Go Go.RowKit
def mayB (a b:Int):Bool:=decide (1≤a) && (decide (a<b) && decide (b≤3652060))
theorem mayB_iff {a b:Int} :mayB a b=true↔1≤a∧a<b∧b≤3652060:=by
 unfold mayB;rw [Bool.and_eq_true,Bool.and_eq_true,decide_eq_true_iff,decide_eq_true_iff,decide_eq_true_iff]
def onB (d:Int)(y:It):Bool:=decide (y.1≤d) && decide (d<y.2.1)
def atL (l:ItL)(d:Int):Int:=match l.reverse.find? (onB d)with
 | some y=>y.2.2
 | none=>0
structure RTl (w:World)(g:Nat)(A:Option Addr)(n c:Nat)(l:ItL):Prop where
 s:w.cell? ⟨g,0,none⟩=some (.slice A n c)
 i:Itm w A n c l
theorem RTl.lt {w:World} {g n c:Nat} {A:Option Addr} {l:ItL}(h:RTl w g A n c l):g<w.heap.size:=World.block_lt_of_cell? _ _ h.s
theorem RTl.keep {w w':World} {g n c:Nat} {A:Option Addr} {l:ItL}(h:RTl w g A n c l)(hb:Below w.heap.size w w'):RTl w' g A n c l:=
 ⟨(hb.cell (p:=⟨g,0,none⟩) h.lt).trans h.s,h.i.keep hb⟩
theorem ret_b {a b:Bool}(h:a=b):Ending.returned (.bool a)= .returned (.bool b):=by rw [h]
end Corr
namespace Go.Proofs.YthagdonmijhpdaaGreat
open Go.RowKit Corr
end Go.Proofs.YthagdonmijhpdaaGreat
namespace Corr
def covP (f:Int→Int):Int→Int→ItL→Prop
 | a,b,[]=>a=b
 | a,b,s :: r=>s.1=a∧s.1<s.2.1∧(∀d,s.1≤d→d<s.2.1→f d=s.2.2)∧(∀t,r.head? =some t→¬t.2.2=s.2.2)∧covP f s.2.1 b r
theorem ζ32 {f:Int→Int} : ∀ {l:ItL} {a b:Int},covP f a b l→a+(l.length:Int)≤b
 | [],a,b,h=>by have:a=b:=h;simp;omega
 | s :: r,a,b,h=>by
  obtain⟨h1,h2,_,_,h5⟩:=h
  have:=ζ32 h5
  simp at this ⊢;omega
theorem cov_one {f:Int→Int} : ∀ {l m:ItL} {a b:Int},covP f a b l→covP f a b m→l=m
 | [],[],_,_,_,_=>rfl
 | [],t :: q,a,b,h,k=>by
  have e:a=b:=h
  obtain⟨h1,h2,_,_,h5⟩:=k
  have:=ζ32 h5
  omega
 | s :: r,[],a,b,h,k=>by
  have e:a=b:=k
  obtain⟨h1,h2,_,_,h5⟩:=h
  have:=ζ32 h5
  omega
 | s :: r,t :: q,a,b,h,k=>by
  obtain⟨h1,h2,h3,h4,h5⟩:=h
  obtain⟨k1,k2,k3,k4,k5⟩:=k
  have hv:s.2.2=t.2.2:=by rw [←h3 a (by omega) (by omega),←k3 a (by omega) (by omega)]
  have step: ∀ {s t:It} {r q:ItL},s.1=a→t.1=a→s.2.2=t.2.2→s.1<s.2.1→(∀d,t.1≤d→d<t.2.1→f d=t.2.2)→(∀u,r.head? =some u→¬u.2.2=s.2.2)→covP f s.2.1 b r→covP f t.2.1 b q→¬s.2.1<t.2.1:=by
   intro s t r q h1 k1 hv h2 k3 h4 h5 k5 hlt
   have hb:=ζ32 k5
   cases r with
   | nil=>have:s.2.1=b:=h5;omega
   | cons u r=>
    obtain⟨u1,u2,u3,_,_⟩:=h5
    refine h4 u rfl ?_
    rw [←u3 s.2.1 (by omega) (by omega),k3 s.2.1 (by omega) hlt,hv]
  have h21:s.2.1=t.2.1:=by
   have:=step h1 k1 hv h2 k3 h4 h5 k5
   have:=step k1 h1 hv.symm k2 h3 k4 k5 h5
   omega
  have e:s=t:=Prod.ext (h1.trans k1.symm) (Prod.ext h21 hv)
  subst e
  rw [cov_one h5 k5]
theorem ζ2o {f:Int→Int} {m b v:Int}(hmb:m<b)(hf: ∀d,m≤d→d<b→f d=v): ∀ {l:ItL} {a:Int},covP f a m l→(∀s,l.getLast? =some s→¬s.2.2=v)→covP f a b (l++ [(m,b,v)])
 | [],a,h,_=>by
  have e:a=m:=h
  subst e
  exact⟨rfl,hmb,hf,fun t h=>(by cases h),rfl⟩
 | s :: r,a,h,hl=>by
  obtain⟨h1,h2,h3,h4,h5⟩:=h
  refine⟨h1,h2,h3,fun t ht=> ?_,ζ2o hmb hf h5 fun s' hs'=>hl s' ?_⟩
  ·cases r with
   | nil=>
    have e:t=(m,b,v):=by simpa using ht.symm
    subst e
    exact fun e=>hl s rfl e.symm
   | cons u r=>exact h4 t ht
  ·rw [List.getLast?_cons,hs'];rfl
theorem covP_ext {f:Int→Int} {m b v x:Int}(hmb:m≤b)(hf: ∀d,m≤d→d<b→f d=v): ∀ {l:ItL} {a:Int},covP f a m (l++ [(x,m,v)])→covP f a b (l++ [(x,b,v)])
 | [],a,h=>by
  obtain⟨h1,h2,h3,_,_⟩:=h
  have h2:x<m:=h2
  refine⟨h1,?_,fun d d1 d2=> ?_,fun t h=>(by cases h),rfl⟩
  ·show x<b;omega
  ·by_cases hd:d<m
   ·exact h3 d d1 hd
   ·exact hf d (by omega) d2
 | s :: r,a,h=>by
  obtain⟨h1,h2,h3,h4,h5⟩:=h
  refine⟨h1,h2,h3,fun t ht=> ?_,covP_ext hmb hf h5⟩
  cases r with
  | nil=>
   have e:t=(x,b,v):=by simpa using ht.symm
   subst e
   exact h4 (x,m,v) rfl
  | cons u r=>exact h4 t ht
theorem cov_last {f:Int→Int} {m x y v:Int} : ∀ {l:ItL} {a:Int},covP f a m (l++ [(x,y,v)])→y=m
 | [],_,h=>h.2.2.2.2
 | _ :: r,_,h=>cov_last (l:=r) h.2.2.2.2
theorem lastI {out:ItL} {j:Nat}(h:out.length=j+1): ∃s,out[j]? =some s∧out.getLast? =some s∧out=out.take j++ [s]:=by
 have hj:j<out.length:=by omega
 refine⟨out[j],List.getElem?_eq_getElem hj,?_,?_⟩
 ·rw [List.getLast?_eq_getElem?,h,Nat.add_sub_cancel,List.getElem?_eq_getElem hj]
 ·have e:out.drop j= [out[j]]:=by
   rw [List.drop_eq_getElem_cons hj,List.drop_of_length_le (by omega)]
  rw [←e,List.take_append_drop]
theorem cells3_set {l:ItL} {j:Nat} {x y v y':Int}(hl:l.length=j+1)(h:l[j]? =some (x,y,v)):(ζ5 l).set (j*3+1) (.int .i64 y')=ζ5 (l.take j++ [(x,y',v)]):=by
 obtain⟨s,h1,_,h3⟩:=lastI hl
 obtain rfl:=Option.some.inj (h.symm.trans h1)
 have hlen:(ζ5 (l.take j)).length=j*3:=by rw [ζq,List.length_take];omega
 calc (ζ5 l).set (j*3+1) (.int .i64 y')=(ζ5 (l.take j)++ζ5 [(x,y,v)]).set (j*3+1) (.int .i64 y'):=by rw [←ζp,←h3]
  _=ζ5 (l.take j++ [(x,y',v)]):=by
   rw [List.set_append_right _ _ (by omega),hlen,Nat.add_sub_cancel_left,ζp];rfl
open Go Go.RowKit
end Corr
namespace Go.Proofs.YthagdonmijhpdaaGreat
open Go.RowKit Corr
end Go.Proofs.YthagdonmijhpdaaGreat
namespace Corr
open Go Go.RowKit
def cntV (l:ItL):Nat:=(l.filter fun y=>decide (¬y.2.2=0)).length
structure RTlW (T:TypeId)(w:World)(g:Nat)(A:Option Addr)(n c:Nat)(l:ItL):Prop where
 b:Blk w g #[.slice A n c]
 o:w.ownsRow 0 T 3 (.slice A n c) n (ζ5 l)
section
variable {T:TypeId} {w w':World} {g n c:Nat} {A:Option Addr} {l:ItL}
theorem RTlW.r (h:RTlW T w g A n c l):RTl w g A n c l:=⟨h.b.get 0 rfl,ζv h.o⟩
theorem RTlW.keep (h:RTlW T w g A n c l)(hb:Below w.heap.size w w'):RTlW T w' g A n c l:=⟨h.b.keep hb,ζg h.o hb⟩
theorem RTlW.sz (h:RTlW T w g A n c l):g<w.heap.size:=h.b.sz
theorem RTlW.len (h:RTlW T w g A n c l):l.length=n:=Itm.count h.r.i
end
def RetPut (T:TypeId)(g:Nat)(w:World)(l:ItL)(e:Ending)(w':World):Prop:=
 ∃A n c w1,e= .returned (.int .i64 0)∧Below w.heap.size w w1∧w1.ownsRow w.heap.size T 3 (.slice A n c) n (ζ5 l)∧w'=w1.setCell ⟨g,0,none⟩ (.slice A n c)
end Corr
namespace Go.Proofs.YthagdonmijhpdaaGreat
open Go.RowKit Corr
end Go.Proofs.YthagdonmijhpdaaGreat
namespace Corr
open Go Go.RowKit
end Corr
namespace Go.Proofs.YthagdonmijhpdaaGreat
open Go.RowKit Corr
end Go.Proofs.YthagdonmijhpdaaGreat
