/- Contracts of corrodyref13: Last. -/
import Derived.Test.YthagdonmijhpdaaGreatTl4
import Derived.Test.YthagdonmijhpdaaGreatRow4
import Derived.BigQuiet
set_option linter.unusedSimpArgs false
set_option linter.unusedVariables false
namespace Corr
open Go Go.RowKit
def lineL (L:ClL)(t:Int):ItL:=(L.filter fun c=>decide (c.1≤t)).map (·.2)
theorem lineL_yes {L:ClL} {k:Nat} {c:Cl} {t:Int}(h:L[k]? =some c)(hc:c.1≤t):lineL (L.take (k+1)) t=lineL (L.take k) t++ [c.2]:=by
 unfold lineL;rw [List.take_add_one,h,List.filter_append,List.map_append];simp [hc]
theorem lineL_no {L:ClL} {k:Nat} {c:Cl} {t:Int}(h:L[k]? =some c)(hc: ¬c.1≤t):lineL (L.take (k+1)) t=lineL (L.take k) t:=by
 unfold lineL;rw [List.take_add_one,h,List.filter_append,List.map_append];simp [hc]
theorem ζ3x (L:ClL)(t:Int):(lineL L t).length≤L.length:=by
 unfold lineL;rw [List.length_map];exact List.length_filter_le _ _
theorem lineL_app (L M:ClL)(t:Int):lineL (L++M) t=lineL L t++lineL M t:=by unfold lineL;rw [List.filter_append,List.map_append]
theorem lineL_later {L:ClL} {c:Cl} {t:Int}(hc:t<c.1):lineL (L++ [c]) t=lineL L t:=by
 unfold lineL;rw [List.filter_append,List.map_append];simp;omega
def lastL (L:ClL):Int:=match L.getLast? with | some c=>c.1 | none=>0
theorem lastL_nil:lastL []=0:=rfl
theorem ζ2d (L:ClL)(c:Cl):lastL (L++ [c])=c.1:=by unfold lastL;simp
theorem lastL_at {L:ClL} {k:Nat} {c:Cl}(h:L[k]? =some c)(hk:L.length=k+1):lastL L=c.1:=by
 unfold lastL
 rw [List.getLast?_eq_getElem?,hk,Nat.add_sub_cancel,h]
def bputR (L:ClL)(t a b:Int):Int:=if t<1∨t<lastL L then 2 else if mayB a b=true then 0 else 15
def bputL (L:ClL)(t a b v:Int):ClL:=if t<1∨t<lastL L then L else if mayB a b=true then L++ [(t,a,b,v)]else L
theorem bputL_len (L:ClL)(t a b v:Int):(bputL L t a b v).length≤L.length+1:=by
 unfold bputL;split
 ·omega
 ·split
  ·simp
  ·omega
structure goodS (L:ClL):Prop where
 may: ∀c∈L,mayB c.2.1 c.2.2.1=true
 one: ∀c∈L,1≤c.1
 rise:L.Pairwise (fun x y=>x.1≤y.1)
theorem goodS_nil:goodS []:=⟨by simp,by simp,by simp⟩
theorem lastL_ge {L:ClL}(h:goodS L): ∀c∈L,c.1≤lastL L:=by
 intro c hc
 rcases List.eq_nil_or_concat L with e | ⟨r,x,e⟩
 ·subst e;cases hc
 ·rw [List.concat_eq_append]at e
  subst e
  rw [ζ2d]
  rcases List.mem_append.1 hc with hc | hc
  ·exact(List.pairwise_append.1 h.rise).2.2 c hc x (by simp)
  ·rw [List.mem_singleton.1 hc];exact Int.le_refl _
theorem lastL_zero {L:ClL}(h:goodS L):0≤lastL L:=by
 rcases List.eq_nil_or_concat L with e | ⟨r,x,e⟩
 ·subst e;exact Int.le_refl _
 ·rw [List.concat_eq_append]at e
  subst e
  rw [ζ2d]
  have:=h.one x (by simp)
  omega
theorem goodS_put {L:ClL}(h:goodS L)(t a b v:Int):goodS (bputL L t a b v):=by
 unfold bputL
 split
 ·exact h
 ·rename_i ht
  split
  ·rename_i hm
   refine⟨fun c hc=> ?_,fun c hc=> ?_,List.pairwise_append.2 ⟨h.rise,by simp,fun x hx y hy=> ?_⟩⟩
   ·rcases List.mem_append.1 hc with hc | hc
    ·exact h.may c hc
    ·rw [List.mem_singleton.1 hc];exact hm
   ·rcases List.mem_append.1 hc with hc | hc
    ·exact h.one c hc
    ·rw [List.mem_singleton.1 hc];show 1≤t;omega
   ·rw [List.mem_singleton.1 hy]
    have:=lastL_ge h x hx
    show x.1≤t
    omega
  ·exact h
def valS (L:ClL)(t:Int):Int→Int:=atL (lineL L t)
theorem valS_nil (t:Int):valS [] t=fun _=>0:=rfl
theorem ζ26 {L:ClL}(h:goodS L) {t:Int}(ht:t<1):valS L t=fun _=>0:=by
 have:lineL L t= []:=by
  unfold lineL
  rw [List.map_eq_nil_iff,List.filter_eq_nil_iff]
  intro c hc
  have:=h.one c hc
  simp;omega
 unfold valS;rw [this];rfl
theorem valS_high {L:ClL}(h:goodS L) {t:Int}(ht:lastL L≤t):valS L t=valS L (lastL L):=by
 have e: ∀u,lastL L≤u→lineL L u=L.map (·.2):=fun u hu=>by
  unfold lineL
  rw [List.filter_eq_self.2]
  intro c hc
  have:=lastL_ge h c hc
  simp;omega
 unfold valS;rw [e t ht,e _ (Int.le_refl _)]
theorem valS_stays (L:ClL) {t t' a b v:Int}(h:t'<t):valS (bputL L t a b v) t'=valS L t':=by
 unfold bputL
 split
 ·rfl
 ·split
  ·unfold valS;rw [lineL_later (show t'<((t,a,b,v):Cl).1 from h)]
  ·rfl
def histS (L:ClL)(d:Int):Nat→List (Int × Int) × Int
 | 0=>([],0)
 | i+1=>
  let s:=histS L d i
  match L[i]? with
  | none=>s
  | some c=>if(L[i+1]?).map (·.1)=some c.1 then s else(if valS L c.1 d≠s.2 then s.1++ [(c.1,valS L c.1 d)]else s.1,valS L c.1 d)
def histL (L:ClL)(d:Int):List (Int × Int):=(histS L d L.length).1
theorem histS_len (L:ClL)(d:Int): ∀i,(histS L d i).1.length≤i
 | 0=>Nat.le_refl _
 | i+1=>by
  have:=histS_len L d i
  unfold histS
  cases L[i]? with
  | none=>simp only;omega
  | some c=>
   simp only
   split
   ·omega
   ·simp only
    split
    ·simp;omega
    ·omega
theorem histS_skip {L:ClL} {d:Int} {i:Nat} {c e:Cl}(h:L[i]? =some c)(he:L[i+1]? =some e)(hq:e.1=c.1):histS L d (i+1)=histS L d i:=by
 show (match L[i]? with | none=>_ | some c=>_)=_
 rw [h];simp only;rw [he];simp [hq]
theorem histS_look {L:ClL} {d:Int} {i:Nat} {c:Cl}(h:L[i]? =some c)(he: ∀e,L[i+1]? =some e→¬e.1=c.1):histS L d (i+1)=(if valS L c.1 d≠(histS L d i).2 then(histS L d i).1++ [(c.1,valS L c.1 d)]else(histS L d i).1,valS L c.1 d):=by
 show (match L[i]? with | none=>_ | some c=>_)=_
 rw [h];simp only
 rw [if_neg]
 intro hh
 cases h2:L[i+1]? with
 | none=>rw [h2]at hh;cases hh
 | some e=>rw [h2]at hh;exact he e h2 (by simpa using hh)
abbrev Rc:=Int × Int × Int × Int × Int
def inRc (r:Rc)(t d:Int):Prop:=r.1≤d∧d<r.2.1∧r.2.2.1≤t∧(r.2.2.2.1=0∨t<r.2.2.2.1)
def apartRc (x r:Rc):Prop:=¬(x.1<r.2.1∧r.1<x.2.1∧(r.2.2.2.1=0∨x.2.2.1<r.2.2.2.1)∧(x.2.2.2.1=0∨r.2.2.1<x.2.2.2.1))
structure rectsS (L:ClL)(R:List Rc):Prop where
 form: ∀r∈R,r.2.2.2.2≠0∧r.1<r.2.1∧1≤r.2.2.1∧(r.2.2.2.1=0∨r.2.2.1<r.2.2.2.1)∧r.2.2.1≤lastL L
 order:R.Pairwise (fun x r=>x.1≤r.1)
 apart:R.Pairwise apartRc
 has: ∀r∈R,∀t d,t≤lastL L→inRc r t d→valS L t d=r.2.2.2.2
 none: ∀t d,0≤t→t≤lastL L→(∀r∈R,¬inRc r t d)→valS L t d=0
def ζ4q:List Rc→List Value
 | []=> []
 | s :: r=> .int .i64 s.1 :: .int .i64 s.2.1 :: .int .i64 s.2.2.1 :: .int .i64 s.2.2.2.1 :: .int .i64 s.2.2.2.2 :: ζ4q r
theorem ζ5c: ∀l:List Rc,(ζ4q l).length=l.length*5
 | []=>rfl
 | s :: r=>by simp only [ζ4q,List.length_cons];rw [ζ5c r];omega
theorem cells5_at: ∀ {l:List Rc} {i:Nat} {s:Rc},l[i]? =some s→(ζ4q l)[i*5]? =some (.int .i64 s.1)∧(ζ4q l)[i*5+1]? =some (.int .i64 s.2.1)∧(ζ4q l)[i*5+2]? =some (.int .i64 s.2.2.1)∧(ζ4q l)[i*5+3]? =some (.int .i64 s.2.2.2.1)∧(ζ4q l)[i*5+4]? =some (.int .i64 s.2.2.2.2)
 | [],_,_,h=>by simp at h
 | x :: r,0,s,h=>by simp at h;subst h;exact⟨rfl,rfl,rfl,rfl,rfl⟩
 | x :: r,i+1,s,h=>by
  have:=cells5_at (l:=r) (i:=i) (by simpa using h)
  rw [show (i+1)*5=i*5+1+1+1+1+1 by omega,show i*5+1+1+1+1+1+1=(i*5+1)+1+1+1+1+1 by omega,show i*5+1+1+1+1+1+2=(i*5+2)+1+1+1+1+1 by omega,show i*5+1+1+1+1+1+3=(i*5+3)+1+1+1+1+1 by omega,show i*5+1+1+1+1+1+4=(i*5+4)+1+1+1+1+1 by omega]
  simpa [ζ4q]using this
abbrev Rcs (w:World)(A:Option Addr)(n c:Nat)(l:List Rc):Prop:=Lies w 5 A n c (ζ4q l)
theorem Rcs.count {w:World} {A:Option Addr} {n c:Nat} {l:List Rc}(h:Rcs w A n c l):l.length=n:=by
 have:=h.len;rw [ζ5c]at this;omega
theorem Rcs.get {w:World} {A:Option Addr} {n c:Nat} {l:List Rc}(h:Rcs w A n c l) {k:Nat}(hk:k<n):
  ∃g off s,A=some ⟨g,off,none⟩∧l[k]? =some s∧g<w.heap.size∧w.cell? ⟨g,off+k*5,none⟩=some (.int .i64 s.1)∧w.cell? ⟨g,off+k*5+1,none⟩=some (.int .i64 s.2.1)∧w.cell? ⟨g,off+k*5+2,none⟩=some (.int .i64 s.2.2.1)∧w.cell? ⟨g,off+k*5+3,none⟩=some (.int .i64 s.2.2.2.1)∧w.cell? ⟨g,off+k*5+4,none⟩=some (.int .i64 s.2.2.2.2):=by
 obtain⟨g,off,hA,hg,hc⟩:=h.at_ (by omega)
 have hl:=h.count
 have hs:l[k]? =some (l[k]'(by omega)):=List.getElem?_eq_getElem (by omega)
 have h3:=cells5_at hs
 refine⟨g,off,_,hA,hs,hg,hc _ _ h3.1,?_,?_,?_,?_⟩
 ·have:=hc _ _ h3.2.1;rw [←Nat.add_assoc]at this;exact this
 ·have:=hc _ _ h3.2.2.1;rw [←Nat.add_assoc]at this;exact this
 ·have:=hc _ _ h3.2.2.2.1;rw [←Nat.add_assoc]at this;exact this
 ·have:=hc _ _ h3.2.2.2.2;rw [←Nat.add_assoc]at this;exact this
structure RSt (w:World)(g:Nat)(A:Option Addr)(n c:Nat)(L:ClL):Prop where
 s:w.cell? ⟨g,0,none⟩=some (.slice A n c)
 i:Cls w A n c L
theorem RSt.lt {w:World} {g n c:Nat} {A:Option Addr} {L:ClL}(h:RSt w g A n c L):g<w.heap.size:=World.block_lt_of_cell? _ _ h.s
theorem RSt.keep {w w':World} {g n c:Nat} {A:Option Addr} {L:ClL}(h:RSt w g A n c L)(hb:Below w.heap.size w w'):RSt w' g A n c L:=
 ⟨(hb.cell (p:=⟨g,0,none⟩) h.lt).trans h.s,h.i.keep hb⟩
end Corr
namespace Go.Proofs.YthagdonmijhpdaaGreat
open Go.RowKit Corr
end Go.Proofs.YthagdonmijhpdaaGreat
