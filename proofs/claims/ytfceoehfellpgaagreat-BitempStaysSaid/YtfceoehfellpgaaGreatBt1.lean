/- Contracts of corrodyref13: Last. -/
import Derived.Test.YtfceoehfellpgaaGreatChecked
import Derived.Test.YtfceoehfellpgaaGreatRow4
import Derived.Test.YtfceoehfellpgaaGreatRowRel
import Derived.BigQuiet
import Derived.Deep.RegionHeld3
import Derived.Deep.RegionLaw
import Derived.Deep.CutRange
import Derived.Deep.AppendLies
import Derived.Laws.IdiomStrings
import Derived.Deep.DeepCutAuto
import Derived.Deep.CutBlock
set_option linter.unusedSimpArgs false
set_option linter.unusedVariables false
namespace Corr
open Go Go.RowKit
def mayB (a b:Int):Bool:=decide (1≤a) && (decide (a<b) && decide (b≤3652060))
theorem mayB_iff {a b:Int} :mayB a b=true↔1≤a∧a<b∧b≤3652060:=by
 unfold mayB;rw [Bool.and_eq_true,Bool.and_eq_true,decide_eq_true_iff,decide_eq_true_iff,decide_eq_true_iff]
def onB (d:Int)(y:It):Bool:=decide (y.1≤d) && decide (d<y.2.1)
def atL (l:ItL)(d:Int):Int:=match l.reverse.find? (onB d)with
 | some y=>y.2.2
 | none=>0
structure RTl (w:World)(g:Nat)(A:Option Addr)(n c:Nat)(l:ItL):Prop where
 s:w.cell? ⟨g,0,none⟩=some (.slice A n c)
 i:Itm w A n c l
theorem RTl.lt {w:World} {g n c:Nat} {A:Option Addr} {l:ItL}(h:RTl w g A n c l):g<w.heap.size:=World.block_lt_of_cell? _ _ h.s
theorem RTl.keep {w w':World} {g n c:Nat} {A:Option Addr} {l:ItL}(h:RTl w g A n c l)(hb:Below w.heap.size w w'):RTl w' g A n c l:=
 ⟨(hb.cell (p:=⟨g,0,none⟩) h.lt).trans h.s,h.i.keep hb⟩
theorem ret_b {a b:Bool}(h:a=b):Ending.returned (.bool a)= .returned (.bool b):=by rw [h]
end Corr
namespace Go.Proofs.YtfceoehfellpgaaGreat
open Go.RowKit Corr
end Go.Proofs.YtfceoehfellpgaaGreat
namespace Corr
def covP (f:Int→Int):Int→Int→ItL→Prop
 | a,b,[]=>a=b
 | a,b,s :: r=>s.1=a∧s.1<s.2.1∧(∀d,s.1≤d→d<s.2.1→f d=s.2.2)∧(∀t,r.head? =some t→¬t.2.2=s.2.2)∧covP f s.2.1 b r
theorem ζ3j {f:Int→Int} : ∀ {l:ItL} {a b:Int},covP f a b l→a+(l.length:Int)≤b
 | [],a,b,h=>by have:a=b:=h;simp;omega
 | s :: r,a,b,h=>by
  obtain⟨h1,h2,_,_,h5⟩:=h
  have:=ζ3j h5
  simp at this ⊢;omega
theorem cov_one {f:Int→Int} : ∀ {l m:ItL} {a b:Int},covP f a b l→covP f a b m→l=m
 | [],[],_,_,_,_=>rfl
 | [],t :: q,a,b,h,k=>by
  have e:a=b:=h
  obtain⟨h1,h2,_,_,h5⟩:=k
  have:=ζ3j h5
  omega
 | s :: r,[],a,b,h,k=>by
  have e:a=b:=k
  obtain⟨h1,h2,_,_,h5⟩:=h
  have:=ζ3j h5
  omega
 | s :: r,t :: q,a,b,h,k=>by
  obtain⟨h1,h2,h3,h4,h5⟩:=h
  obtain⟨k1,k2,k3,k4,k5⟩:=k
  have hv:s.2.2=t.2.2:=by rw [←h3 a (by omega) (by omega),←k3 a (by omega) (by omega)]
  have step: ∀ {s t:It} {r q:ItL},s.1=a→t.1=a→s.2.2=t.2.2→s.1<s.2.1→(∀d,t.1≤d→d<t.2.1→f d=t.2.2)→(∀u,r.head? =some u→¬u.2.2=s.2.2)→covP f s.2.1 b r→covP f t.2.1 b q→¬s.2.1<t.2.1:=by
   intro s t r q h1 k1 hv h2 k3 h4 h5 k5 hlt
   have hb:=ζ3j k5
   cases r with
   | nil=>have:s.2.1=b:=h5;omega
   | cons u r=>
    obtain⟨u1,u2,u3,_,_⟩:=h5
    refine h4 u rfl ?_
    rw [←u3 s.2.1 (by omega) (by omega),k3 s.2.1 (by omega) hlt,hv]
  have h21:s.2.1=t.2.1:=by
   have:=step h1 k1 hv h2 k3 h4 h5 k5
   have:=step k1 h1 hv.symm k2 h3 k4 k5 h5
   omega
  have e:s=t:=Prod.ext (h1.trans k1.symm) (Prod.ext h21 hv)
  subst e
  rw [cov_one h5 k5]
theorem ζ3t {f:Int→Int} {m b v:Int}(hmb:m<b)(hf: ∀d,m≤d→d<b→f d=v): ∀ {l:ItL} {a:Int},covP f a m l→(∀s,l.getLast? =some s→¬s.2.2=v)→covP f a b (l++ [(m,b,v)])
 | [],a,h,_=>by
  have e:a=m:=h
  subst e
  exact⟨rfl,hmb,hf,fun t h=>(by cases h),rfl⟩
 | s :: r,a,h,hl=>by
  obtain⟨h1,h2,h3,h4,h5⟩:=h
  refine⟨h1,h2,h3,fun t ht=> ?_,ζ3t hmb hf h5 fun s' hs'=>hl s' ?_⟩
  ·cases r with
   | nil=>
    have e:t=(m,b,v):=by simpa using ht.symm
    subst e
    exact fun e=>hl s rfl e.symm
   | cons u r=>exact h4 t ht
  ·rw [List.getLast?_cons,hs'];rfl
theorem covP_ext {f:Int→Int} {m b v x:Int}(hmb:m≤b)(hf: ∀d,m≤d→d<b→f d=v): ∀ {l:ItL} {a:Int},covP f a m (l++ [(x,m,v)])→covP f a b (l++ [(x,b,v)])
 | [],a,h=>by
  obtain⟨h1,h2,h3,_,_⟩:=h
  have h2:x<m:=h2
  refine⟨h1,?_,fun d d1 d2=> ?_,fun t h=>(by cases h),rfl⟩
  ·show x<b;omega
  ·by_cases hd:d<m
   ·exact h3 d d1 hd
   ·exact hf d (by omega) d2
 | s :: r,a,h=>by
  obtain⟨h1,h2,h3,h4,h5⟩:=h
  refine⟨h1,h2,h3,fun t ht=> ?_,covP_ext hmb hf h5⟩
  cases r with
  | nil=>
   have e:t=(x,b,v):=by simpa using ht.symm
   subst e
   exact h4 (x,m,v) rfl
  | cons u r=>exact h4 t ht
theorem cov_last {f:Int→Int} {m x y v:Int} : ∀ {l:ItL} {a:Int},covP f a m (l++ [(x,y,v)])→y=m
 | [],_,h=>h.2.2.2.2
 | _ :: r,_,h=>cov_last (l:=r) h.2.2.2.2
theorem lastI {out:ItL} {j:Nat}(h:out.length=j+1): ∃s,out[j]? =some s∧out.getLast? =some s∧out=out.take j++ [s]:=by
 have hj:j<out.length:=by omega
 refine⟨out[j],List.getElem?_eq_getElem hj,?_,?_⟩
 ·rw [List.getLast?_eq_getElem?,h,Nat.add_sub_cancel,List.getElem?_eq_getElem hj]
 ·have e:out.drop j= [out[j]]:=by
   rw [List.drop_eq_getElem_cons hj,List.drop_of_length_le (by omega)]
  rw [←e,List.take_append_drop]
theorem cells3_set {l:ItL} {j:Nat} {x y v y':Int}(hl:l.length=j+1)(h:l[j]? =some (x,y,v)):(ζ8 l).set (j*3+1) (.int .i64 y')=ζ8 (l.take j++ [(x,y',v)]):=by
 obtain⟨s,h1,_,h3⟩:=lastI hl
 obtain rfl:=Option.some.inj (h.symm.trans h1)
 have hlen:(ζ8 (l.take j)).length=j*3:=by rw [ζ16,List.length_take];omega
 calc (ζ8 l).set (j*3+1) (.int .i64 y')=(ζ8 (l.take j)++ζ8 [(x,y,v)]).set (j*3+1) (.int .i64 y'):=by rw [←ζ19,←h3]
  _=ζ8 (l.take j++ [(x,y',v)]):=by
   rw [List.set_append_right _ _ (by omega),hlen,Nat.add_sub_cancel_left,ζ19];rfl
end Corr
namespace Corr
open Go Go.RowKit
end Corr
namespace Go.Proofs.YtfceoehfellpgaaGreat
open Go.RowKit Corr
end Go.Proofs.YtfceoehfellpgaaGreat
namespace Corr
open Go Go.RowKit
def cntV (l:ItL):Nat:=(l.filter fun y=>decide (¬y.2.2=0)).length
structure RTlW (T:TypeId)(w:World)(g:Nat)(A:Option Addr)(n c:Nat)(l:ItL):Prop where
 b:Blk w g #[.slice A n c]
 o:w.ownsRow 0 T 3 (.slice A n c) n (ζ8 l)
section
variable {T:TypeId} {w w':World} {g n c:Nat} {A:Option Addr} {l:ItL}
theorem RTlW.r (h:RTlW T w g A n c l):RTl w g A n c l:=⟨h.b.get 0 rfl,ζ48 h.o⟩
theorem RTlW.keep (h:RTlW T w g A n c l)(hb:Below w.heap.size w w'):RTlW T w' g A n c l:=⟨h.b.keep hb,ζj h.o hb⟩
theorem RTlW.sz (h:RTlW T w g A n c l):g<w.heap.size:=h.b.sz
theorem RTlW.len (h:RTlW T w g A n c l):l.length=n:=Itm.count h.r.i
end
def RetPut (T:TypeId)(g:Nat)(w:World)(l:ItL)(e:Ending)(w':World):Prop:=
 ∃A n c w1,e= .returned (.int .i64 0)∧Below w.heap.size w w1∧w1.ownsRow w.heap.size T 3 (.slice A n c) n (ζ8 l)∧w'=w1.setCell ⟨g,0,none⟩ (.slice A n c)
end Corr
namespace Go.Proofs.YtfceoehfellpgaaGreat
open Go.RowKit Corr
end Go.Proofs.YtfceoehfellpgaaGreat
namespace Corr
open Go Go.RowKit
end Corr
namespace Go.Proofs.YtfceoehfellpgaaGreat
open Go.RowKit Corr
end Go.Proofs.YtfceoehfellpgaaGreat
namespace Corr
open Go Go.RowKit
def lineL (L:ClL)(t:Int):ItL:=(L.filter fun c=>decide (c.1≤t)).map (·.2)
theorem lineL_yes {L:ClL} {k:Nat} {c:Cl} {t:Int}(h:L[k]? =some c)(hc:c.1≤t):lineL (L.take (k+1)) t=lineL (L.take k) t++ [c.2]:=by
 unfold lineL;rw [List.take_add_one,h,List.filter_append,List.map_append];simp [hc]
theorem lineL_no {L:ClL} {k:Nat} {c:Cl} {t:Int}(h:L[k]? =some c)(hc: ¬c.1≤t):lineL (L.take (k+1)) t=lineL (L.take k) t:=by
 unfold lineL;rw [List.take_add_one,h,List.filter_append,List.map_append];simp [hc]
theorem lineL_len (L:ClL)(t:Int):(lineL L t).length≤L.length:=by
 unfold lineL;rw [List.length_map];exact List.length_filter_le _ _
theorem lineL_app (L M:ClL)(t:Int):lineL (L++M) t=lineL L t++lineL M t:=by unfold lineL;rw [List.filter_append,List.map_append]
theorem lineL_later {L:ClL} {c:Cl} {t:Int}(hc:t<c.1):lineL (L++ [c]) t=lineL L t:=by
 unfold lineL;rw [List.filter_append,List.map_append];simp;omega
def lastL (L:ClL):Int:=match L.getLast? with | some c=>c.1 | none=>0
theorem lastL_nil:lastL []=0:=rfl
theorem ζ23 (L:ClL)(c:Cl):lastL (L++ [c])=c.1:=by unfold lastL;simp
theorem lastL_at {L:ClL} {k:Nat} {c:Cl}(h:L[k]? =some c)(hk:L.length=k+1):lastL L=c.1:=by
 unfold lastL
 rw [List.getLast?_eq_getElem?,hk,Nat.add_sub_cancel,h]
def bputR (L:ClL)(t a b:Int):Int:=if t<1∨t<lastL L then 2 else if mayB a b=true then 0 else 15
def bputL (L:ClL)(t a b v:Int):ClL:=if t<1∨t<lastL L then L else if mayB a b=true then L++ [(t,a,b,v)]else L
theorem ζ3w (L:ClL)(t a b v:Int):(bputL L t a b v).length≤L.length+1:=by
 unfold bputL;split
 ·omega
 ·split
  ·simp
  ·omega
structure goodS (L:ClL):Prop where
 may: ∀c∈L,mayB c.2.1 c.2.2.1=true
 one: ∀c∈L,1≤c.1
 rise:L.Pairwise (fun x y=>x.1≤y.1)
theorem goodS_nil:goodS []:=⟨by simp,by simp,by simp⟩
theorem lastL_ge {L:ClL}(h:goodS L): ∀c∈L,c.1≤lastL L:=by
 intro c hc
 rcases List.eq_nil_or_concat L with e | ⟨r,x,e⟩
 ·subst e;cases hc
 ·rw [List.concat_eq_append]at e
  subst e
  rw [ζ23]
  rcases List.mem_append.1 hc with hc | hc
  ·exact(List.pairwise_append.1 h.rise).2.2 c hc x (by simp)
  ·rw [List.mem_singleton.1 hc];exact Int.le_refl _
theorem lastL_zero {L:ClL}(h:goodS L):0≤lastL L:=by
 rcases List.eq_nil_or_concat L with e | ⟨r,x,e⟩
 ·subst e;exact Int.le_refl _
 ·rw [List.concat_eq_append]at e
  subst e
  rw [ζ23]
  have:=h.one x (by simp)
  omega
theorem ζ3r {L:ClL}(h:goodS L)(t a b v:Int):goodS (bputL L t a b v):=by
 unfold bputL
 split
 ·exact h
 ·rename_i ht
  split
  ·rename_i hm
   refine⟨fun c hc=> ?_,fun c hc=> ?_,List.pairwise_append.2 ⟨h.rise,by simp,fun x hx y hy=> ?_⟩⟩
   ·rcases List.mem_append.1 hc with hc | hc
    ·exact h.may c hc
    ·rw [List.mem_singleton.1 hc];exact hm
   ·rcases List.mem_append.1 hc with hc | hc
    ·exact h.one c hc
    ·rw [List.mem_singleton.1 hc];show 1≤t;omega
   ·rw [List.mem_singleton.1 hy]
    have:=lastL_ge h x hx
    show x.1≤t
    omega
  ·exact h
def valS (L:ClL)(t:Int):Int→Int:=atL (lineL L t)
theorem valS_nil (t:Int):valS [] t=fun _=>0:=rfl
theorem ζ1w {L:ClL}(h:goodS L) {t:Int}(ht:t<1):valS L t=fun _=>0:=by
 have:lineL L t= []:=by
  unfold lineL
  rw [List.map_eq_nil_iff,List.filter_eq_nil_iff]
  intro c hc
  have:=h.one c hc
  simp;omega
 unfold valS;rw [this];rfl
theorem valS_high {L:ClL}(h:goodS L) {t:Int}(ht:lastL L≤t):valS L t=valS L (lastL L):=by
 have e: ∀u,lastL L≤u→lineL L u=L.map (·.2):=fun u hu=>by
  unfold lineL
  rw [List.filter_eq_self.2]
  intro c hc
  have:=lastL_ge h c hc
  simp;omega
 unfold valS;rw [e t ht,e _ (Int.le_refl _)]
theorem ζ3y (L:ClL) {t t' a b v:Int}(h:t'<t):valS (bputL L t a b v) t'=valS L t':=by
 unfold bputL
 split
 ·rfl
 ·split
  ·unfold valS;rw [lineL_later (show t'<((t,a,b,v):Cl).1 from h)]
  ·rfl
def histS (L:ClL)(d:Int):Nat→List (Int × Int) × Int
 | 0=>([],0)
 | i+1=>
  let s:=histS L d i
  match L[i]? with
  | none=>s
  | some c=>if(L[i+1]?).map (·.1)=some c.1 then s else(if valS L c.1 d≠s.2 then s.1++ [(c.1,valS L c.1 d)]else s.1,valS L c.1 d)
def histL (L:ClL)(d:Int):List (Int × Int):=(histS L d L.length).1
theorem histS_len (L:ClL)(d:Int): ∀i,(histS L d i).1.length≤i
 | 0=>Nat.le_refl _
 | i+1=>by
  have:=histS_len L d i
  unfold histS
  cases L[i]? with
  | none=>simp only;omega
  | some c=>
   simp only
   split
   ·omega
   ·simp only
    split
    ·simp;omega
    ·omega
theorem histS_skip {L:ClL} {d:Int} {i:Nat} {c e:Cl}(h:L[i]? =some c)(he:L[i+1]? =some e)(hq:e.1=c.1):histS L d (i+1)=histS L d i:=by
 show (match L[i]? with | none=>_ | some c=>_)=_
 rw [h];simp only;rw [he];simp [hq]
theorem histS_look {L:ClL} {d:Int} {i:Nat} {c:Cl}(h:L[i]? =some c)(he: ∀e,L[i+1]? =some e→¬e.1=c.1):histS L d (i+1)=(if valS L c.1 d≠(histS L d i).2 then(histS L d i).1++ [(c.1,valS L c.1 d)]else(histS L d i).1,valS L c.1 d):=by
 show (match L[i]? with | none=>_ | some c=>_)=_
 rw [h];simp only
 rw [if_neg]
 intro hh
 cases h2:L[i+1]? with
 | none=>rw [h2]at hh;cases hh
 | some e=>rw [h2]at hh;exact he e h2 (by simpa using hh)
abbrev Rc:=Int × Int × Int × Int × Int
def inRc (r:Rc)(t d:Int):Prop:=r.1≤d∧d<r.2.1∧r.2.2.1≤t∧(r.2.2.2.1=0∨t<r.2.2.2.1)
def apartRc (x r:Rc):Prop:=¬(x.1<r.2.1∧r.1<x.2.1∧(r.2.2.2.1=0∨x.2.2.1<r.2.2.2.1)∧(x.2.2.2.1=0∨r.2.2.1<x.2.2.2.1))
structure rectsS (L:ClL)(R:List Rc):Prop where
 form: ∀r∈R,r.2.2.2.2≠0∧r.1<r.2.1∧1≤r.2.2.1∧(r.2.2.2.1=0∨r.2.2.1<r.2.2.2.1)∧r.2.2.1≤lastL L
 order:R.Pairwise (fun x r=>x.1≤r.1)
 apart:R.Pairwise apartRc
 has: ∀r∈R,∀t d,t≤lastL L→inRc r t d→valS L t d=r.2.2.2.2
 none: ∀t d,0≤t→t≤lastL L→(∀r∈R,¬inRc r t d)→valS L t d=0
def ζ4j:List Rc→List Value
 | []=> []
 | s :: r=> .int .i64 s.1 :: .int .i64 s.2.1 :: .int .i64 s.2.2.1 :: .int .i64 s.2.2.2.1 :: .int .i64 s.2.2.2.2 :: ζ4j r
theorem cells5_len: ∀l:List Rc,(ζ4j l).length=l.length*5
 | []=>rfl
 | s :: r=>by simp only [ζ4j,List.length_cons];rw [cells5_len r];omega
theorem cells5_at: ∀ {l:List Rc} {i:Nat} {s:Rc},l[i]? =some s→(ζ4j l)[i*5]? =some (.int .i64 s.1)∧(ζ4j l)[i*5+1]? =some (.int .i64 s.2.1)∧(ζ4j l)[i*5+2]? =some (.int .i64 s.2.2.1)∧(ζ4j l)[i*5+3]? =some (.int .i64 s.2.2.2.1)∧(ζ4j l)[i*5+4]? =some (.int .i64 s.2.2.2.2)
 | [],_,_,h=>by simp at h
 | x :: r,0,s,h=>by simp at h;subst h;exact⟨rfl,rfl,rfl,rfl,rfl⟩
 | x :: r,i+1,s,h=>by
  have:=cells5_at (l:=r) (i:=i) (by simpa using h)
  rw [show (i+1)*5=i*5+1+1+1+1+1 by omega,show i*5+1+1+1+1+1+1=(i*5+1)+1+1+1+1+1 by omega,show i*5+1+1+1+1+1+2=(i*5+2)+1+1+1+1+1 by omega,show i*5+1+1+1+1+1+3=(i*5+3)+1+1+1+1+1 by omega,show i*5+1+1+1+1+1+4=(i*5+4)+1+1+1+1+1 by omega]
  simpa [ζ4j]using this
abbrev Rcs (w:World)(A:Option Addr)(n c:Nat)(l:List Rc):Prop:=Lies w 5 A n c (ζ4j l)
theorem Rcs.count {w:World} {A:Option Addr} {n c:Nat} {l:List Rc}(h:Rcs w A n c l):l.length=n:=by
 have:=h.len;rw [cells5_len]at this;omega
theorem Rcs.get {w:World} {A:Option Addr} {n c:Nat} {l:List Rc}(h:Rcs w A n c l) {k:Nat}(hk:k<n):
  ∃g off s,A=some ⟨g,off,none⟩∧l[k]? =some s∧g<w.heap.size∧w.cell? ⟨g,off+k*5,none⟩=some (.int .i64 s.1)∧w.cell? ⟨g,off+k*5+1,none⟩=some (.int .i64 s.2.1)∧w.cell? ⟨g,off+k*5+2,none⟩=some (.int .i64 s.2.2.1)∧w.cell? ⟨g,off+k*5+3,none⟩=some (.int .i64 s.2.2.2.1)∧w.cell? ⟨g,off+k*5+4,none⟩=some (.int .i64 s.2.2.2.2):=by
 obtain⟨g,off,hA,hg,hc⟩:=h.at_ (by omega)
 have hl:=h.count
 have hs:l[k]? =some (l[k]'(by omega)):=List.getElem?_eq_getElem (by omega)
 have h3:=cells5_at hs
 refine⟨g,off,_,hA,hs,hg,hc _ _ h3.1,?_,?_,?_,?_⟩
 ·have:=hc _ _ h3.2.1;rw [←Nat.add_assoc]at this;exact this
 ·have:=hc _ _ h3.2.2.1;rw [←Nat.add_assoc]at this;exact this
 ·have:=hc _ _ h3.2.2.2.1;rw [←Nat.add_assoc]at this;exact this
 ·have:=hc _ _ h3.2.2.2.2;rw [←Nat.add_assoc]at this;exact this
end Corr
namespace Corr
open Go Go.RowKit
structure RSt (w:World)(g:Nat)(A:Option Addr)(n c:Nat)(L:ClL):Prop where
 s:w.cell? ⟨g,0,none⟩=some (.slice A n c)
 i:Cls w A n c L
theorem RSt.lt {w:World} {g n c:Nat} {A:Option Addr} {L:ClL}(h:RSt w g A n c L):g<w.heap.size:=World.block_lt_of_cell? _ _ h.s
theorem RSt.keep {w w':World} {g n c:Nat} {A:Option Addr} {L:ClL}(h:RSt w g A n c L)(hb:Below w.heap.size w w'):RSt w' g A n c L:=
 ⟨(hb.cell (p:=⟨g,0,none⟩) h.lt).trans h.s,h.i.keep hb⟩
end Corr
namespace Go.Proofs.YtfceoehfellpgaaGreat
open Go.RowKit Corr
end Go.Proofs.YtfceoehfellpgaaGreat
