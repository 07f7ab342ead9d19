/- Contracts of corrodyref11 -/
import Derived.Test.YthagdonmijhpdaaGreatChecked
import Derived.Test.YthagdonmijhpdaaGreatRow4
import Derived.Test.YthagdonmijhpdaaGreatRowRel
import Derived.BigQuiet
import Derived.Deep.RegionHeld3
import Derived.Deep.RegionLaw
import Derived.Deep.CutRange
import Derived.Deep.AppendLies
import Derived.Laws.IdiomStrings
import Derived.Deep.DeepCutAuto
import Derived.Deep.CutBlock
open Go.Lib (hid)
set_option linter.unusedSimpArgs false
set_option linter.unusedVariables false
set_option maxHeartbeats 8000000
set_option maxRecDepth 8000
namespace Corr
open Go Go.RowKit
def mayB (a b:Int):Bool:=decide (1≤a) && (decide (a<b) && decide (b≤3652060))
theorem mayB_iff {a b:Int} :mayB a b=true↔1≤a∧a<b∧b≤3652060:=by
 unfold mayB;rw [Bool.and_eq_true,Bool.and_eq_true,decide_eq_true_iff,decide_eq_true_iff,decide_eq_true_iff]
def onB (d:Int)(y:It):Bool:=decide (y.1≤d) && decide (d<y.2.1)
def atL (l:ItL)(d:Int):Int:=match l.reverse.find? (onB d)with
 | some y=>y.2.2
 | none=>0
def less1 (d x o:Int):Int:=if d<x∧x<o then x else o
def nextL (l:ItL)(d o:Int):Int:=l.foldl (fun o y=>less1 d y.2.1 (less1 d y.1 o)) o
theorem nextL_more {l:ItL} {k:Nat} {y:It} {d o:Int}(h:l[k]? =some y):nextL (l.take (k+1)) d o=less1 d y.2.1 (less1 d y.1 (nextL (l.take k) d o)):=by
 unfold nextL
 rw [List.take_add_one,h,List.foldl_append];rfl
theorem at_hit {l:ItL} {k:Nat} {y:It} {d:Int}(h: ∀z∈l.drop (k+1),onB d z=false)(hy:l[k]? =some y)(hp:onB d y=true):atL l d=y.2.2:=by
 have hk:=(List.getElem?_eq_some_iff.1 hy).1
 have e:l=l.take k++y :: l.drop (k+1):=by
  rw [←(List.getElem?_eq_some_iff.1 hy).2,←List.drop_eq_getElem_cons hk,List.take_append_drop]
 have hf:l.reverse.find? (onB d)=some y:=by
  rw [e,List.reverse_append,List.reverse_cons,List.append_assoc,List.find?_append,List.find?_eq_none.2 (fun z hz=>by rw [h z (List.mem_reverse.1 hz)];decide)]
  simp [hp]
 unfold atL;rw [hf]
theorem at_more {l:ItL} {k:Nat} {y:It} {d:Int}(h: ∀z∈l.drop (k+1),onB d z=false)(hy:l[k]? =some y)(hp:onB d y=false): ∀z∈l.drop k,onB d z=false:=by
 have hk:=(List.getElem?_eq_some_iff.1 hy).1
 rw [List.drop_eq_getElem_cons hk,(List.getElem?_eq_some_iff.1 hy).2]
 intro z hz
 rcases List.mem_cons.1 hz with rfl | hz
 ·exact hp
 ·exact h z hz
theorem at_none {l:ItL} {d:Int}(h: ∀z∈l,onB d z=false):atL l d=0:=by
 unfold atL;rw [List.find?_eq_none.2 (fun z hz=>by rw [h z (List.mem_reverse.1 hz)];decide)]
structure RTl (w:World)(g:Nat)(A:Option Addr)(n c:Nat)(l:ItL):Prop where
 s:w.cell? ⟨g,0,none⟩=some (.slice A n c)
 i:Itm w A n c l
theorem RTl.lt {w:World} {g n c:Nat} {A:Option Addr} {l:ItL}(h:RTl w g A n c l):g<w.heap.size:=World.block_lt_of_cell? _ _ h.s
theorem RTl.keep {w w':World} {g n c:Nat} {A:Option Addr} {l:ItL}(h:RTl w g A n c l)(hb:Below w.heap.size w w'):RTl w' g A n c l:=
 ⟨(hb.cell (p:=⟨g,0,none⟩) h.lt).trans h.s,h.i.keep hb⟩
theorem ret_i {a b:Int}(h:a=b):Ending.returned (.int .i64 a)= .returned (.int .i64 b):=by rw [h]
theorem ret_b {a b:Bool}(h:a=b):Ending.returned (.bool a)= .returned (.bool b):=by rw [h]
end Corr
namespace Go.Proofs.YthagdonmijhpdaaGreat
open Go.RowKit Corr
theorem ζ2k (a b:Int)(w:World):Calls Tryz.prog 34 #[.agg #[.int .i64 a,.int .i64 b]] w fun e w'=>e= .returned (.bool (mayB a b))∧Below w.heap.size w w':=by
 have HB:=hid ((Below.refl w.heap.size w).alloc (Nat.le_refl _) (.cells #[.int .i64 a,.int .i64 b] 24))
 by_cases p0:1≤a
 ·have d0:decide (a≥1)=true:=decide_eq_true p0
  by_cases p1:a<b
  ·have HF:=hid (show decide (b≤3652060)=mayB a b by unfold mayB;rw [decide_eq_true p0,decide_eq_true p1];rfl)
   clear p0
   go_enter Tryz.func34,Tryz.ntmps34
   go_wp2_with fail
   go_ret
   exact⟨ret_b HF.out,HB.out⟩
  ·have HF:=hid (show false=mayB a b by unfold mayB;rw [decide_eq_false p1];simp)
   have d1:decide (a<b)=false:=decide_eq_false p1
   clear p0 p1
   go_enter Tryz.func34,Tryz.ntmps34
   go_wp2_with fail
   go_ret
   exact⟨ret_b HF.out,HB.out⟩
 ·have HF:=hid (show false=mayB a b by unfold mayB;rw [decide_eq_false p0];rfl)
  have d0:decide (a≥1)=false:=decide_eq_false p0
  clear p0
  go_enter Tryz.func34,Tryz.ntmps34
  go_wp2_with fail
  go_ret
  exact⟨ret_b HF.out,HB.out⟩
theorem at11_any (g n c:Nat)(A:Option Addr)(l:ItL)(d:Int)(w:World)(T:RTl w g A n c l)(hn:n≤100000):Calls Tryz.prog 38 #[.pointer (some ⟨g,0,none⟩),.int .i64 d] w fun e w'=>e= .returned (.int .i64 (atL l d))∧w=w':=by
 have HT:=hid T
 have HC:=hid (Itm.count T.i)
 have cT:=T.s
 clear T
 go_enter Tryz.func38,Tryz.ntmps38
 go_wp2_with fail
 go_loop [5] (fun t=>∃k:Nat,t= .int .i64 ((k:Int)-1)∧k≤n∧Hid (∀z∈l.drop k,onB d z=false)) (fun t=>(intOf t+1).toNat)
 case atStart=>exact⟨n,rfl,by omega,hid (by rw [List.drop_of_length_le (by rw [HC.out];omega)];intro z hz;cases hz)⟩
 case round=>
  obtain⟨k,rfl,hk,HX⟩:=hrel
  rcases Nat.eq_zero_or_pos k with hk0 | hk0
  ·subst hk0
   have HF:=hid (show 0=atL l d from(at_none (fun z hz=>HX.out z (by rw [List.drop_zero];exact hz))).symm)
   go_wp2_with fail
   go_ret
   exact⟨ret_i HF.out,rfl⟩
  ·obtain⟨j,rfl⟩: ∃j,k=j+1:=⟨k-1,by omega⟩
   have hj:(((j+1:Nat):Int)-1)=(j:Int):=by omega
   obtain⟨g1,off,y,rfl,hy,hg,c0,c1,c2⟩:=Itm.get HT.out.i (k:=j) (by omega)
   obtain⟨y1,y2,y3⟩:=y
   have hjn:(j:Int)<(n:Int):=by omega
   by_cases p1:y1≤d
   ·by_cases p2:d<y2
    ·have HF:=hid (show y3=atL l d from(at_hit HX.out hy (by unfold onB;rw [decide_eq_true p1,decide_eq_true p2];rfl)).symm)
     clear hy
     go_wp2_with fail
     go_ret
     exact⟨ret_i HF.out,rfl⟩
    ·have HX2:=hid (at_more HX.out hy (by unfold onB;rw [decide_eq_false p2,Bool.and_false]))
     have q2:decide (d<y2)=false:=decide_eq_false p2
     clear hy p2
     go_wp2_with fail
     go_round
     case rel=>exact⟨j,rfl,by omega,HX2⟩
     case measure=>first | (simp [intOf];done) | (simp [intOf];omega)
   ·have HX2:=hid (at_more HX.out hy (by unfold onB;rw [decide_eq_false p1];rfl))
    have q1:decide (y1≤d)=false:=decide_eq_false p1
    clear hy p1
    go_wp2_with fail
    go_round
    case rel=>exact⟨j,rfl,by omega,HX2⟩
    case measure=>first | (simp [intOf];done) | (simp [intOf];omega)
theorem next11_any (g n c:Nat)(A:Option Addr)(l:ItL)(d o:Int)(w:World)(T:RTl w g A n c l)(hn:n≤100000):Calls Tryz.prog 41 #[.pointer (some ⟨g,0,none⟩),.int .i64 d,.int .i64 o] w fun e w'=>e= .returned (.int .i64 (nextL l d o))∧w=w':=by
 have HT:=hid T
 have HC:=hid (Itm.count T.i)
 have cT:=T.s
 clear T
 go_enter Tryz.func41,Tryz.ntmps41
 go_wp2_with fail
 go_loop [7,8] (fun v t=>∃(k:Nat) (O:Int),v= .int .i64 O∧t= .int .i64 (k:Int)∧k≤n∧Hid (nextL (l.take k) d o=O)) (fun _ t=>(n-intOf t).toNat)
 case atStart=>exact⟨0,o,rfl,rfl,by omega,hid rfl⟩
 case round=>
  obtain⟨k,O,rfl,rfl,hk,HO⟩:=hrel
  by_cases hlt:k<n
  ·obtain⟨g1,off,y,rfl,hy,hg,c0,c1,c2⟩:=Itm.get HT.out.i hlt
   obtain⟨y1,y2,y3⟩:=y
   have HN:=hid (nextL_more (d:=d) (o:=o) hy)
   rw [HO.out]at HN
   clear hy HO
   by_cases p1:d<y1
   ·have q1:decide (y1 > d)=true:=decide_eq_true p1
    by_cases p2:y1<O
    ·have r1:less1 d y1 O=y1:=by unfold less1;rw [if_pos ⟨p1,p2⟩]
     change Hid (_=less1 d y2 (less1 d y1 O))at HN
     rw [r1]at HN
     clear r1
     by_cases u1:d<y2
     ·have e1:decide (y2 > d)=true:=decide_eq_true u1
      by_cases u2:y2<y1
      ·have r2:less1 d y2 y1=y2:=by unfold less1;rw [if_pos ⟨u1,u2⟩]
       rw [r2]at HN
       clear r2
       go_wp2_with fail
       go_round
       case rel=>exact⟨k+1,_,rfl,by go_num,by omega,HN⟩
       case measure=>simp [intOf];omega
      ·have r2:less1 d y2 y1=y1:=by unfold less1;rw [if_neg (fun h=>u2 h.2)]
       have e2:decide (y2<y1)=false:=decide_eq_false u2
       rw [r2]at HN
       clear r2 u2
       go_wp2_with fail
       go_round
       case rel=>exact⟨k+1,_,rfl,by go_num,by omega,HN⟩
       case measure=>simp [intOf];omega
     ·have r2:less1 d y2 y1=y1:=by unfold less1;rw [if_neg (fun h=>u1 h.1)]
      have e1:decide (y2 > d)=false:=decide_eq_false u1
      rw [r2]at HN
      clear r2 u1
      go_wp2_with fail
      go_round
      case rel=>exact⟨k+1,_,rfl,by go_num,by omega,HN⟩
      case measure=>simp [intOf];omega
    ·have r1:less1 d y1 O=O:=by unfold less1;rw [if_neg (fun h=>p2 h.2)]
     change Hid (_=less1 d y2 (less1 d y1 O))at HN
     have q2:decide (y1<O)=false:=decide_eq_false p2
     rw [r1]at HN
     clear r1 p2
     by_cases u1:d<y2
     ·have e1:decide (y2 > d)=true:=decide_eq_true u1
      by_cases u2:y2<O
      ·have r2:less1 d y2 O=y2:=by unfold less1;rw [if_pos ⟨u1,u2⟩]
       rw [r2]at HN
       clear r2
       go_wp2_with fail
       go_round
       case rel=>exact⟨k+1,_,rfl,by go_num,by omega,HN⟩
       case measure=>simp [intOf];omega
      ·have r2:less1 d y2 O=O:=by unfold less1;rw [if_neg (fun h=>u2 h.2)]
       have e2:decide (y2<O)=false:=decide_eq_false u2
       rw [r2]at HN
       clear r2 u2
       go_wp2_with fail
       go_round
       case rel=>exact⟨k+1,_,rfl,by go_num,by omega,HN⟩
       case measure=>simp [intOf];omega
     ·have r2:less1 d y2 O=O:=by unfold less1;rw [if_neg (fun h=>u1 h.1)]
      have e1:decide (y2 > d)=false:=decide_eq_false u1
      rw [r2]at HN
      clear r2 u1
      go_wp2_with fail
      go_round
      case rel=>exact⟨k+1,_,rfl,by go_num,by omega,HN⟩
      case measure=>simp [intOf];omega
   ·have r1:less1 d y1 O=O:=by unfold less1;rw [if_neg (fun h=>p1 h.1)]
    change Hid (_=less1 d y2 (less1 d y1 O))at HN
    have q1:decide (y1 > d)=false:=decide_eq_false p1
    rw [r1]at HN
    clear r1 p1
    by_cases u1:d<y2
    ·have e1:decide (y2 > d)=true:=decide_eq_true u1
     by_cases u2:y2<O
     ·have r2:less1 d y2 O=y2:=by unfold less1;rw [if_pos ⟨u1,u2⟩]
      rw [r2]at HN
      clear r2
      go_wp2_with fail
      go_round
      case rel=>exact⟨k+1,_,rfl,by go_num,by omega,HN⟩
      case measure=>simp [intOf];omega
     ·have r2:less1 d y2 O=O:=by unfold less1;rw [if_neg (fun h=>u2 h.2)]
      have e2:decide (y2<O)=false:=decide_eq_false u2
      rw [r2]at HN
      clear r2 u2
      go_wp2_with fail
      go_round
      case rel=>exact⟨k+1,_,rfl,by go_num,by omega,HN⟩
      case measure=>simp [intOf];omega
    ·have r2:less1 d y2 O=O:=by unfold less1;rw [if_neg (fun h=>u1 h.1)]
     have e1:decide (y2 > d)=false:=decide_eq_false u1
     rw [r2]at HN
     clear r2 u1
     go_wp2_with fail
     go_round
     case rel=>exact⟨k+1,_,rfl,by go_num,by omega,HN⟩
     case measure=>simp [intOf];omega
  ·have HF:=hid (show O=nextL l d o by rw [←HO.out,List.take_of_length_le (by rw [HC.out];omega)])
   clear HO
   go_wp2_with fail
   go_ret
   exact⟨ret_i HF.out,rfl⟩
end Go.Proofs.YthagdonmijhpdaaGreat
namespace Corr
def covP (f:Int→Int):Int→Int→ItL→Prop
 | a,b,[]=>a=b
 | a,b,s :: r=>s.1=a∧s.1<s.2.1∧(∀d,s.1≤d→d<s.2.1→f d=s.2.2)∧(∀t,r.head? =some t→¬t.2.2=s.2.2)∧covP f s.2.1 b r
theorem ζ32 {f:Int→Int} : ∀ {l:ItL} {a b:Int},covP f a b l→a+(l.length:Int)≤b
 | [],a,b,h=>by have:a=b:=h;simp;omega
 | s :: r,a,b,h=>by
  obtain⟨h1,h2,_,_,h5⟩:=h
  have:=ζ32 h5
  simp at this ⊢;omega
theorem cov_one {f:Int→Int} : ∀ {l m:ItL} {a b:Int},covP f a b l→covP f a b m→l=m
 | [],[],_,_,_,_=>rfl
 | [],t :: q,a,b,h,k=>by
  have e:a=b:=h
  obtain⟨h1,h2,_,_,h5⟩:=k
  have:=ζ32 h5
  omega
 | s :: r,[],a,b,h,k=>by
  have e:a=b:=k
  obtain⟨h1,h2,_,_,h5⟩:=h
  have:=ζ32 h5
  omega
 | s :: r,t :: q,a,b,h,k=>by
  obtain⟨h1,h2,h3,h4,h5⟩:=h
  obtain⟨k1,k2,k3,k4,k5⟩:=k
  have hv:s.2.2=t.2.2:=by rw [←h3 a (by omega) (by omega),←k3 a (by omega) (by omega)]
  have step: ∀ {s t:It} {r q:ItL},s.1=a→t.1=a→s.2.2=t.2.2→s.1<s.2.1→(∀d,t.1≤d→d<t.2.1→f d=t.2.2)→(∀u,r.head? =some u→¬u.2.2=s.2.2)→covP f s.2.1 b r→covP f t.2.1 b q→¬s.2.1<t.2.1:=by
   intro s t r q h1 k1 hv h2 k3 h4 h5 k5 hlt
   have hb:=ζ32 k5
   cases r with
   | nil=>have:s.2.1=b:=h5;omega
   | cons u r=>
    obtain⟨u1,u2,u3,_,_⟩:=h5
    refine h4 u rfl ?_
    rw [←u3 s.2.1 (by omega) (by omega),k3 s.2.1 (by omega) hlt,hv]
  have h21:s.2.1=t.2.1:=by
   have:=step h1 k1 hv h2 k3 h4 h5 k5
   have:=step k1 h1 hv.symm k2 h3 k4 k5 h5
   omega
  have e:s=t:=Prod.ext (h1.trans k1.symm) (Prod.ext h21 hv)
  subst e
  rw [cov_one h5 k5]
theorem ζ2o {f:Int→Int} {m b v:Int}(hmb:m<b)(hf: ∀d,m≤d→d<b→f d=v): ∀ {l:ItL} {a:Int},covP f a m l→(∀s,l.getLast? =some s→¬s.2.2=v)→covP f a b (l++ [(m,b,v)])
 | [],a,h,_=>by
  have e:a=m:=h
  subst e
  exact⟨rfl,hmb,hf,fun t h=>(by cases h),rfl⟩
 | s :: r,a,h,hl=>by
  obtain⟨h1,h2,h3,h4,h5⟩:=h
  refine⟨h1,h2,h3,fun t ht=> ?_,ζ2o hmb hf h5 fun s' hs'=>hl s' ?_⟩
  ·cases r with
   | nil=>
    have e:t=(m,b,v):=by simpa using ht.symm
    subst e
    exact fun e=>hl s rfl e.symm
   | cons u r=>exact h4 t ht
  ·rw [List.getLast?_cons,hs'];rfl
theorem covP_ext {f:Int→Int} {m b v x:Int}(hmb:m≤b)(hf: ∀d,m≤d→d<b→f d=v): ∀ {l:ItL} {a:Int},covP f a m (l++ [(x,m,v)])→covP f a b (l++ [(x,b,v)])
 | [],a,h=>by
  obtain⟨h1,h2,h3,_,_⟩:=h
  have h2:x<m:=h2
  refine⟨h1,?_,fun d d1 d2=> ?_,fun t h=>(by cases h),rfl⟩
  ·show x<b;omega
  ·by_cases hd:d<m
   ·exact h3 d d1 hd
   ·exact hf d (by omega) d2
 | s :: r,a,h=>by
  obtain⟨h1,h2,h3,h4,h5⟩:=h
  refine⟨h1,h2,h3,fun t ht=> ?_,covP_ext hmb hf h5⟩
  cases r with
  | nil=>
   have e:t=(x,b,v):=by simpa using ht.symm
   subst e
   exact h4 (x,m,v) rfl
  | cons u r=>exact h4 t ht
theorem cov_last {f:Int→Int} {m x y v:Int} : ∀ {l:ItL} {a:Int},covP f a m (l++ [(x,y,v)])→y=m
 | [],_,h=>h.2.2.2.2
 | _ :: r,_,h=>cov_last (l:=r) h.2.2.2.2
theorem less1_in {d x o:Int}(h:d<o):d<less1 d x o∧less1 d x o≤o∧¬(d<x∧x<less1 d x o):=by
 unfold less1
 split <;> omega
theorem ζ4e: ∀ {l:ItL} {d o:Int},d<o→d<nextL l d o∧nextL l d o≤o∧∀y∈l,¬(d<y.1∧y.1<nextL l d o)∧¬(d<y.2.1∧y.2.1<nextL l d o)
 | [],d,o,h=>⟨h,Int.le_refl _,fun y hy=>by cases hy⟩
 | s :: r,d,o,h=>by
  have h1:=less1_in (x:=s.1) h
  have h2:=less1_in (x:=s.2.1) h1.1
  have ih:=ζ4e (l:=r) h2.1
  have e:nextL (s :: r) d o=nextL r d (less1 d s.2.1 (less1 d s.1 o)):=rfl
  rw [e]
  generalize less1 d s.1 o=o1 at*
  generalize less1 d s.2.1 o1=o2 at*
  generalize nextL r d o2=o3 at*
  refine⟨ih.1,by omega,fun y hy=> ?_⟩
  rcases List.mem_cons.1 hy with rfl | hy
  ·constructor <;> omega
  ·exact ih.2.2 y hy
theorem at_const {l:ItL} {e d:Int}(h:e≤d)(hn: ∀y∈l,¬(e<y.1∧y.1≤d)∧¬(e<y.2.1∧y.2.1≤d)):atL l d=atL l e:=by
 have key: ∀y∈l.reverse,onB d y=onB e y:=by
  intro y hy
  have:=hn y (List.mem_reverse.1 hy)
  unfold onB
  rw [Bool.eq_iff_iff,Bool.and_eq_true,Bool.and_eq_true,decide_eq_true_iff,decide_eq_true_iff,decide_eq_true_iff,decide_eq_true_iff]
  omega
 have fe: ∀ {m:ItL},(∀y∈m,onB d y=onB e y)→m.find? (onB d)=m.find? (onB e):=by
  intro m
  induction m with
  | nil=>intro _;rfl
  | cons y r ih=>
   intro h
   rw [List.find?_cons,List.find?_cons,h y List.mem_cons_self,ih (fun z hz=>h z (List.mem_cons_of_mem _ hz))]
 unfold atL
 rw [fe key]
theorem at_next {l:ItL} {e o d:Int}(h:e<o)(h1:e≤d)(h2:d<nextL l e o):atL l d=atL l e:=by
 have hs:=ζ4e (l:=l) h
 exact at_const h1 fun y hy=>by have:=hs.2.2 y hy;omega
def segsP (l:ItL)(a b:Int)(out:ItL):Prop:=if mayB a b=true then covP (atL l) a b out else out= []
theorem lastI {out:ItL} {j:Nat}(h:out.length=j+1): ∃s,out[j]? =some s∧out.getLast? =some s∧out=out.take j++ [s]:=by
 have hj:j<out.length:=by omega
 refine⟨out[j],List.getElem?_eq_getElem hj,?_,?_⟩
 ·rw [List.getLast?_eq_getElem?,h,Nat.add_sub_cancel,List.getElem?_eq_getElem hj]
 ·have e:out.drop j= [out[j]]:=by
   rw [List.drop_eq_getElem_cons hj,List.drop_of_length_le (by omega)]
  rw [←e,List.take_append_drop]
theorem cells3_set {l:ItL} {j:Nat} {x y v y':Int}(hl:l.length=j+1)(h:l[j]? =some (x,y,v)):(ζ5 l).set (j*3+1) (.int .i64 y')=ζ5 (l.take j++ [(x,y',v)]):=by
 obtain⟨s,h1,_,h3⟩:=lastI hl
 obtain rfl:=Option.some.inj (h.symm.trans h1)
 have hlen:(ζ5 (l.take j)).length=j*3:=by rw [ζq,List.length_take];omega
 calc (ζ5 l).set (j*3+1) (.int .i64 y')=(ζ5 (l.take j)++ζ5 [(x,y,v)]).set (j*3+1) (.int .i64 y'):=by rw [←ζp,←h3]
  _=ζ5 (l.take j++ [(x,y',v)]):=by
   rw [List.set_append_right _ _ (by omega),hlen,Nat.add_sub_cancel_left,ζp];rfl
open Go Go.RowKit
def RetSegs (T:TypeId)(w:World)(l:ItL)(a b:Int)(e:Ending)(w':World):Prop:=∃out A n c,e= .returned (.slice A n c)∧segsP l a b out∧w'.ownsRow w.heap.size T 3 (.slice A n c) n (ζ5 out)∧Below w.heap.size w w'
end Corr
namespace Go.Proofs.YthagdonmijhpdaaGreat
open Go.RowKit Corr
theorem ζ2x:Elem Tryz.prog 40 90 (.agg #[.int .i64 0,.int .i64 0,.int .i64 0]) 3 24:=by
 obtain⟨i,h0,h1,h2,h3⟩:=info_parts (show (Tryz.prog.info? 90).map (fun i=>(i.zero,i.size,i.bytes))=some (some (.agg #[.int .i64 0,.int .i64 0,.int .i64 0]),3,24) by kernel_rfl)
 exact⟨Tryz.underlying40,⟨i,h0,h1,h2,h3⟩,rfl,by decide⟩
theorem segs_no (p:Value)(l:ItL)(a b:Int)(w:World)(h:mayB a b=false):Calls Tryz.prog 19 #[p,.agg #[.int .i64 a,.int .i64 b]] w (RetSegs 90 w l a b):=by
 have HM:=hid (ζ2k a b (w.alloc (.cells #[.int .i64 a,.int .i64 b] 24)))
 rw [h]at HM
 have HP:=hid (show segsP l a b [] by unfold segsP;rw [if_neg (by rw [h];decide)])
 have HB0:=hid ((Below.refl w.heap.size w).alloc (Nat.le_refl _) (.cells #[.int .i64 a,.int .i64 b] 24))
 clear h
 go_enter Tryz.func19,Tryz.ntmps19
 go_wp2_with fail
 refine HM.out.mono ?_
 rintro e w1 ⟨rfl,hb⟩
 have HB:=hid (HB0.out.trans (hb.mono HB0.out.size))
 clear hb
 go_wp2_with fail
 go_ret
 exact⟨[],none,0,0,rfl,HP.out,World.ownsRow_nil _ _ _ _,HB.out⟩
theorem segs_yes (g n c:Nat)(A:Option Addr)(l:ItL)(a b:Int)(w:World)(T:RTl w g A n c l)(hn:n≤100000)(h:mayB a b=true):Calls Tryz.prog 19 #[.pointer (some ⟨g,0,none⟩),.agg #[.int .i64 a,.int .i64 b]] w (RetSegs 90 w l a b):=by
 have HM:=hid (ζ2k a b (w.alloc (.cells #[.int .i64 a,.int .i64 b] 24)))
 rw [h]at HM
 obtain⟨ha,hab,hb6⟩:=mayB_iff.1 h
 have HP:=hid (show ∀out,covP (atL l) a b out→segsP l a b out by intro out ho;unfold segsP;rw [if_pos h];exact ho)
 have HB0:=hid ((Below.refl w.heap.size w).alloc (Nat.le_refl _) (.cells #[.int .i64 a,.int .i64 b] 24))
 have HX0:=hid (Blk.new w #[.int .i64 a,.int .i64 b] 24)
 have HT0:=hid (T.keep HB0.out)
 clear h T
 go_enter Tryz.func19,Tryz.ntmps19
 go_wp2_with fail
 refine HM.out.mono ?_
 rintro e w1 ⟨rfl,hb⟩
 have HB1:=hid (hb.mono (show w.heap.size+1≤(w.alloc (.cells #[.int .i64 a,.int .i64 b] 24)).heap.size by simp))
 have HX1:=HX0.out.keep hb
 have b0:=HX1.get 0 rfl
 have b1:=HX1.get 1 rfl
 clear hb HM HX1
 go_wp2_with fail
 go_loopw [5,6] (fun v t wr=>∃(x:Int) (q:Nat) (out:ItL),t= .int .i64 x∧a≤x∧x≤b∧Hid (covP (atL l) a x out)∧Hid (out.length=q)∧q≤4000000∧wr.ownsRow (w.heap.size+1) 90 3 v q (ζ5 out)∧Below (w.heap.size+1) (w.alloc (.cells #[.int .i64 a,.int .i64 b] 24)) wr) (fun _ t _=>(b-intOf t).toNat)
 case atStart=>exact⟨a,0,[],rfl,by omega,by omega,hid rfl,hid rfl,by omega,World.ownsRow_nil _ _ _ _,HB1.out⟩
 case round=>
  obtain⟨x,q,out,rfl,hx1,hx2,HC,HL,hq,hown,hb⟩:=hrel
  have HB:=hid hb
  have hsz:w.heap.size+1≤wr.heap.size:=by have:=hb.size;simpa using this
  have HX:=HX0.out.keep (hb.mono (by simp))
  have b0:=HX.get 0 rfl
  have b1:=HX.get 1 rfl
  have HT:=hid (HT0.out.keep (hb.mono (by simp)))
  have HOB:=hid (ζ1c hown)
  have hq2:(q:Int)≤3652060:=by have h1:=ζ32 HC.out;have h2:=HL.out;omega
  clear hb HX
  by_cases hlt:x<b
  ·have HNX:=hid (next11_any g n c A l x b wr HT.out hn)
   have HAT:=hid (at11_any g n c A l x wr HT.out hn)
   have hspec:=ζ4e (l:=l) hlt
   have HCV:=hid (show ∀d,x≤d→d<nextL l x b→atL l d=atL l x from fun d h1 h2=>at_next hlt h1 h2)
   obtain⟨y,hy⟩: ∃y,nextL l x b=y:=⟨_,rfl⟩
   obtain⟨v,hv⟩: ∃v,atL l x=v:=⟨_,rfl⟩
   rw [hy]at HNX HCV hspec
   rw [hv]at HAT HCV
   have hy1:x<y:=hspec.1
   have hy2:y≤b:=hspec.2.1
   clear hspec hy hv
   obtain⟨A2,d2,rfl,L2⟩:=Lies.of_own hown (by have:=hown.1;exact this)
   clear L2
   rcases Nat.eq_zero_or_pos q with hq0 | hq0
   ·subst hq0
    have HE:=hid (show out= []from List.length_eq_zero_iff.1 HL.out)
    have HC2:=hid (show covP (atL l) a y (out++ [(x,y,v)])from ζ2o hy1 HCV.out HC.out (fun s hs=>by rw [HE.out]at hs;cases hs))
    go_wp2_with fail
    refine HNX.out.mono ?_
    rintro e wy ⟨rfl,rfl⟩
    go_wp2_with fail
    refine HAT.out.mono ?_
    rintro e wy ⟨rfl,rfl⟩
    go_wp2_with (at_builtin;refine wpList_app rfl _ _ 40 rfl (ζ5 [(x,y,v)]) ζ2x rfl (hown.alloc _) rfl rfl (fun _=>⟨_,rfl,ζ2j wr (ζ5 [(x,y,v)]) 90⟩) (ζo _) (by omega) (by unfold maxLen;omega) (by simp;omega) ?_)
    intro v1 w3 hown1 hgrow
    have HB3:=hid ((HB.out.alloc hsz (.cells #[encZ x,encZ y,encZ v] 90)).grown hgrow (by simp;omega) HOB.out)
    have HO3:=hid (show w3.ownsRow (w.heap.size+1) 90 3 v1 (0+1) (ζ5 (out++ [(x,y,v)])) by rw [ζp];exact hown1)
    have HL3:=hid (show (out++ [(x,y,v)]).length=0+1 by rw [List.length_append,HL.out];rfl)
    clear hown1 hgrow hown
    go_wp2_with fail
    go_roundw
    case rel=>exact⟨y,0+1,_,rfl,by omega,by omega,HC2,HL3,by omega,HO3.out,HB3.out⟩
    case measure=>simp [intOf];omega
   ·obtain⟨j,rfl⟩: ∃j,q=j+1:=⟨q-1,by omega⟩
    rcases Joins.ownsRow_forms hown with⟨_,h0⟩ | ⟨g3,d3,hv3⟩
    ·cases h0
    ·injection hv3 with e1 _ e3
     subst e1 e3
     obtain⟨s,hs0,hs1,hs2⟩:=lastI HL.out
     obtain⟨z1,z2,z3⟩:=s
     have k0:wr.cell? ⟨g3,j*3+2,none⟩=some (.int .i64 z3):=by rw [hown.cellAt _ (by omega)];exact(ζ22 hs0).2.2
     have k1:wr.cell? ⟨g3,j*3+1,none⟩=some (.int .i64 z2):=by rw [hown.cellAt _ (by omega)];exact(ζ22 hs0).2.1
     have f1:wr.frozen? ⟨g3,j*3+1,none⟩=false:=hown.frozenAt _
     by_cases p1:z3=v
     ·have HST:=hown.stored (j*3+1) (.int .i64 y)
      have HZ:=hid (show z2=x by
       have hc:=HC.out
       rw [hs2]at hc
       exact cov_last hc)
      have HC2:=hid (show covP (atL l) a y (out.take j++ [(z1,y,z3)]) by
       have hc:=HC.out
       rw [hs2,HZ.out]at hc
       exact covP_ext (Int.le_of_lt hy1) (fun d h1 h2=>by rw [HCV.out d h1 h2];exact p1.symm) hc)
      have HO2:=hid (show (wr.setCell ⟨g3,j*3+1,none⟩ (.int .i64 y)).ownsRow (w.heap.size+1) 90 3 (.slice (some ⟨g3,0,none⟩) (j+1) d2) (j+1) (ζ5 (out.take j++ [(z1,y,z3)])) by rw [←cells3_set HL.out hs0];exact HST.1)
      have HB2:=hid (HB.out.setCell (p:=⟨g3,j*3+1,none⟩) (HOB.out g3 rfl) (.int .i64 y))
      have HL2:=hid (show (out.take j++ [(z1,y,z3)]).length=j+1 by have:=HL.out;simp;omega)
      have d1:(z3 == v)=true:=by simpa using p1
      clear HST hs0 hs1 hs2 p1 hown
      go_wp2_with fail
      refine HNX.out.mono ?_
      rintro e wy ⟨rfl,rfl⟩
      go_wp2_with fail
      refine HAT.out.mono ?_
      rintro e wy ⟨rfl,rfl⟩
      go_wp2_with fail
      go_roundw
      case rel=>exact⟨y,j+1,_,rfl,by omega,by omega,HC2,HL2,by omega,HO2.out,HB2.out⟩
      case measure=>simp [intOf];omega
     ·have HC2:=hid (show covP (atL l) a y (out++ [(x,y,v)])from ζ2o hy1 HCV.out HC.out (fun s hs=>by rw [hs1]at hs;rw [←Option.some.inj hs];exact p1))
      have d1:(z3 == v)=false:=by simpa using p1
      clear hs0 hs1 hs2 p1
      go_wp2_with fail
      refine HNX.out.mono ?_
      rintro e wy ⟨rfl,rfl⟩
      go_wp2_with fail
      refine HAT.out.mono ?_
      rintro e wy ⟨rfl,rfl⟩
      go_wp2_with (at_builtin;refine wpList_app rfl _ _ 40 rfl (ζ5 [(x,y,v)]) ζ2x rfl (hown.alloc _) rfl rfl (fun _=>⟨_,rfl,ζ2j wr (ζ5 [(x,y,v)]) 90⟩) (ζo _) (by omega) (by unfold maxLen;omega) (by simp;omega) ?_)
      intro v1 w3 hown1 hgrow
      have HB3:=hid ((HB.out.alloc hsz (.cells #[encZ x,encZ y,encZ v] 90)).grown hgrow (by simp;omega) HOB.out)
      have HO3:=hid (show w3.ownsRow (w.heap.size+1) 90 3 v1 ((j+1)+1) (ζ5 (out++ [(x,y,v)])) by rw [ζp];exact hown1)
      have HL3:=hid (show (out++ [(x,y,v)]).length=(j+1)+1 by rw [List.length_append,HL.out];rfl)
      clear hown1 hgrow hown
      go_wp2_with fail
      go_roundw
      case rel=>exact⟨y,(j+1)+1,_,rfl,by omega,by omega,HC2,HL3,by omega,HO3.out,HB3.out⟩
      case measure=>simp [intOf];omega
  ·have hxb:x=b:=by omega
   subst hxb
   obtain⟨A2,d2,rfl,L2⟩:=Lies.of_own hown (by have:=hown.1;exact this)
   clear L2
   have HO:=hid (ζ1m (base':=w.heap.size) hown (by omega))
   have HBF:=hid (show Below w.heap.size w wr from HB0.out.trans (HB.out.mono (by omega)))
   clear hown
   go_wp2_with fail
   go_ret
   exact⟨out,A2,_,d2,rfl,HP.out out HC.out,HO.out,HBF.out⟩
theorem segs_any (g n c:Nat)(A:Option Addr)(l:ItL)(a b:Int)(w:World)(T:RTl w g A n c l)(hn:n≤100000):Calls Tryz.prog 19 #[.pointer (some ⟨g,0,none⟩),.agg #[.int .i64 a,.int .i64 b]] w (RetSegs 90 w l a b):=by
 cases h:mayB a b with
 | false=>exact segs_no _ l a b w h
 | true=>exact segs_yes g n c A l a b w T hn h
end Go.Proofs.YthagdonmijhpdaaGreat
namespace Corr
open Go Go.RowKit
def cntV (l:ItL):Nat:=(l.filter fun y=>decide (¬y.2.2=0)).length
structure RTlW (T:TypeId)(w:World)(g:Nat)(A:Option Addr)(n c:Nat)(l:ItL):Prop where
 b:Blk w g #[.slice A n c]
 o:w.ownsRow 0 T 3 (.slice A n c) n (ζ5 l)
section
variable {T:TypeId} {w w':World} {g n c:Nat} {A:Option Addr} {l:ItL}
theorem RTlW.r (h:RTlW T w g A n c l):RTl w g A n c l:=⟨h.b.get 0 rfl,ζv h.o⟩
theorem RTlW.keep (h:RTlW T w g A n c l)(hb:Below w.heap.size w w'):RTlW T w' g A n c l:=⟨h.b.keep hb,ζg h.o hb⟩
theorem RTlW.sz (h:RTlW T w g A n c l):g<w.heap.size:=h.b.sz
theorem RTlW.len (h:RTlW T w g A n c l):l.length=n:=Itm.count h.r.i
end
def RetPut (T:TypeId)(g:Nat)(w:World)(l:ItL)(e:Ending)(w':World):Prop:=
 ∃A n c w1,e= .returned (.int .i64 0)∧Below w.heap.size w w1∧w1.ownsRow w.heap.size T 3 (.slice A n c) n (ζ5 l)∧w'=w1.setCell ⟨g,0,none⟩ (.slice A n c)
end Corr
namespace Go.Proofs.YthagdonmijhpdaaGreat
open Go.RowKit Corr
theorem all11_any (w:World):Calls Tryz.prog 22 #[] w fun e w'=>e= .returned (.agg #[.int .i64 1,.int .i64 3652060])∧Below w.heap.size w w':=by
 have HX0:=Blk.new w #[.int .i64 0,.int .i64 0] 24
 have b0:=HX0.get 0 rfl
 have b1:=HX0.get 1 rfl
 have f0:=HX0.f 0
 have f1:=HX0.f 1
 have HBF:=hid ((((Below.refl w.heap.size w).alloc (Nat.le_refl _) (.cells #[.int .i64 0,.int .i64 0] 24)).setCell (p:=⟨w.heap.size,0,none⟩) (Nat.le_refl _) (.int .i64 1)).setCell (p:=⟨w.heap.size,1,none⟩) (Nat.le_refl _) (.int .i64 3652060))
 clear HX0
 go_enter Tryz.func22,Tryz.ntmps22
 go_wp2_with fail
 exact bodyPost_ret (v:= .agg #[.int .i64 1,.int .i64 3652060]) (by simp [results,Tryz.results22,go_sem,b0,b1]) rfl ⟨rfl,by first | exact HBF.out | exact(Below.refl _ _).alloc (Nat.le_refl _) _⟩
theorem put_no (p:Value)(a b v:Int)(w:World)(h:mayB a b=false):Calls Tryz.prog 40 #[p,.agg #[.int .i64 a,.int .i64 b],.int .i64 v] w fun e w'=>e= .returned (.int .i64 15)∧Below w.heap.size w w':=by
 have HM:=hid (ζ2k a b (w.alloc (.cells #[.int .i64 a,.int .i64 b] 24)))
 rw [h]at HM
 have HB0:=hid ((Below.refl w.heap.size w).alloc (Nat.le_refl _) (.cells #[.int .i64 a,.int .i64 b] 24))
 clear h
 go_enter Tryz.func40,Tryz.ntmps40
 go_wp2_with fail
 refine HM.out.mono ?_
 rintro e w1 ⟨rfl,hb⟩
 have HB:=hid (HB0.out.trans (hb.mono HB0.out.size))
 clear hb
 go_wp2_with fail
 go_ret
 exact⟨rfl,HB.out⟩
theorem put_yes (g n c:Nat)(A:Option Addr)(l:ItL)(a b v:Int)(w:World)(T:RTlW 90 w g A n c l)(hn:n≤100000)(h:mayB a b=true):Calls Tryz.prog 40 #[.pointer (some ⟨g,0,none⟩),.agg #[.int .i64 a,.int .i64 b],.int .i64 v] w (RetPut 90 g w (l++ [(a,b,v)])):=by
 have HM:=hid (ζ2k a b (w.alloc (.cells #[.int .i64 a,.int .i64 b] 24)))
 rw [h]at HM
 have HB0:=hid ((Below.refl w.heap.size w).alloc (Nat.le_refl _) (.cells #[.int .i64 a,.int .i64 b] 24))
 have HX0:=hid (Blk.new w #[.int .i64 a,.int .i64 b] 24)
 have HLEN:=hid T.len
 have HTW:=hid T
 clear h T
 go_enter Tryz.func40,Tryz.ntmps40
 go_wp2_with fail
 refine HM.out.mono ?_
 rintro e w1 ⟨rfl,hb⟩
 have HB:=hid (HB0.out.trans (hb.mono HB0.out.size))
 have HT1:=hid (HTW.out.keep HB.out)
 have HX1:=hid (HX0.out.keep hb)
 have c1:=HT1.out.b.get 0 rfl
 have f1:=HT1.out.b.f 0
 have hgq:=HT1.out.sz
 have hq:=HB.out.size
 have q0:=HX1.out.get 0 rfl
 have q1:=HX1.out.get 1 rfl
 have hqx:=HX1.out.sz
 have hgx: ¬g=w.heap.size:=by have:=HTW.out.sz;omega
 have hgy: ¬w.heap.size=g:=by omega
 clear hb HB0 HX0 HM
 have hs1:(w1.alloc (.cells #[] 90)).heap.size=w1.heap.size+1:=by simp
 have hs2:(w1.alloc (.cells #[.int .i64 a,.int .i64 b,.int .i64 v] 90)).heap.size=w1.heap.size+1:=by simp
 have OA:=hid (show ((w1.alloc (.cells #[] 90)).drew).ownsRow w.heap.size 90 3 (.slice (some ⟨w1.heap.size,0,none⟩) 0 0) 0 []from(ζ2i w1 90 3 w.heap.size hq).drew)
 have OB:=hid (show (((w1.alloc (.cells #[] 90)).alloc (.cells #[.int .i64 a,.int .i64 b,.int .i64 v] 90)).drew).ownsRow w.heap.size 90 3 (.slice (some ⟨w1.heap.size,0,none⟩) 0 0) 0 []from((ζ2i w1 90 3 w.heap.size hq).alloc _).drew)
 have OC:=hid (show (((w1.alloc (.cells #[.int .i64 a,.int .i64 b,.int .i64 v] 90)).alloc (.cells #[] 90)).drew).ownsRow w.heap.size 90 3 (.slice (some ⟨w1.heap.size+1,0,none⟩) 0 0) 0 []from by have:=ζ2i (w1.alloc (.cells #[.int .i64 a,.int .i64 b,.int .i64 v] 90)) 90 3 w.heap.size (by rw [hs2];omega);rw [hs2]at this;exact this.drew)
 have QA:=hid (show Below w1.heap.size w1 ((w1.alloc (.cells #[] 90)).drew)from((Below.refl _ w1).alloc (Nat.le_refl _) _).drew)
 have QB:=hid (show Below w1.heap.size w1 (((w1.alloc (.cells #[] 90)).alloc (.cells #[.int .i64 a,.int .i64 b,.int .i64 v] 90)).drew)from(((Below.refl _ w1).alloc (Nat.le_refl _) (.cells #[] 90)).alloc (by rw [hs1];omega) _).drew)
 have QC:=hid (show Below w1.heap.size w1 (((w1.alloc (.cells #[.int .i64 a,.int .i64 b,.int .i64 v] 90)).alloc (.cells #[] 90)).drew)from(((Below.refl _ w1).alloc (Nat.le_refl _) (.cells #[.int .i64 a,.int .i64 b,.int .i64 v] 90)).alloc (by rw [hs2];omega) _).drew)
 have SB:=hid (show (((w1.alloc (.cells #[] 90)).alloc (.cells #[.int .i64 a,.int .i64 b,.int .i64 v] 90)).drew).heap[w1.heap.size+1]? =some (.cells (ζ5 [(a,b,v)]).toArray 90 (0,0)) by rw [←hs1];exact ζw _ _)
 have SC:=hid (show (((w1.alloc (.cells #[.int .i64 a,.int .i64 b,.int .i64 v] 90)).alloc (.cells #[] 90)).drew).heap[w1.heap.size]? =some (.cells (ζ5 [(a,b,v)]).toArray 90 (0,0))from((Below.block ((Below.refl _ (w1.alloc (.cells #[.int .i64 a,.int .i64 b,.int .i64 v] 90))).alloc (Nat.le_refl _) (.cells #[] 90)) w1.heap.size (by rw [hs2];omega)).trans (ζw w1 _)))
 have GA:=hid (show ∀k,(Value.slice (some ⟨w1.heap.size,0,none⟩) 0 0).ownBlock=some k→w1.heap.size≤k from new_ge w1 0 0)
 have GC:=hid (show ∀k,(Value.slice (some ⟨w1.heap.size+1,0,none⟩) 0 0).ownBlock=some k→w1.heap.size≤k from fun k h=>by have:=own_is h;omega)
 have NB:=hid (show ¬(Value.slice (some ⟨w1.heap.size,0,none⟩) 0 0).ownBlock=some (w1.heap.size+1) by intro h;have:=own_is h;omega)
 have NC:=hid (show ¬(Value.slice (some ⟨w1.heap.size+1,0,none⟩) 0 0).ownBlock=some w1.heap.size by intro h;have:=own_is h;omega)
 clear hs1 hs2
 go_upto_region 3 with fail
 go_region_law ((first
   |(refine ζ1h (by rfl) _ _ 40 (by rfl) (ζ5 l) ζ2x (by rfl) OA.out (by rfl) (by rw [ζq,HLEN.out]) (fun h=>((ζv HT1.out.o).keep QA.out).src h) (ζo _) (by omega) (by unfold maxLen;omega) (Nat.le_trans hq QA.out.size) ?_;intro v2 w2 hown2 hg2;have HQ2:=hid (Below.grown QA.out hg2 QA.out.size GA.out);have HB2:=hid (HB.out.trans (HQ2.out.mono hq));have c2:=(HTW.out.keep HB2.out).b.get 0 rfl;have f2:=(HTW.out.keep HB2.out).b.f 0;have HO2:=hid (ζ1c hown2);have r0:=(HX1.out.keep HQ2.out).get 0 rfl;have r1:=(HX1.out.keep HQ2.out).get 1 rfl;have hw2:=(HX1.out.keep HQ2.out).sz;have hg2s:=(HTW.out.keep HB2.out).sz)
   |(refine ζ1h (by rfl) _ _ 40 (by rfl) (ζ5 l) ζ2x (by rfl) OB.out (by rfl) (by rw [ζq,HLEN.out]) (fun h=>((ζv HT1.out.o).keep QB.out).src h) (ζo _) (by omega) (by unfold maxLen;omega) (Nat.le_trans hq QB.out.size) ?_;intro v2 w2 hown2 hg2;have HQ2:=hid (Below.grown QB.out hg2 QB.out.size GA.out);have HB2:=hid (HB.out.trans (HQ2.out.mono hq));have c2:=(HTW.out.keep HB2.out).b.get 0 rfl;have f2:=(HTW.out.keep HB2.out).b.f 0;have HO2:=hid (ζ1c hown2);have r0:=(HX1.out.keep HQ2.out).get 0 rfl;have r1:=(HX1.out.keep HQ2.out).get 1 rfl;have hw2:=(HX1.out.keep HQ2.out).sz;have hg2s:=(HTW.out.keep HB2.out).sz;have hsrc:=ζ40 (ys:=ζ5 [(a,b,v)]) SB.out hg2 NB.out)
   |(refine ζ1h (by rfl) _ _ 40 (by rfl) (ζ5 l) ζ2x (by rfl) OC.out (by rfl) (by rw [ζq,HLEN.out]) (fun h=>((ζv HT1.out.o).keep QC.out).src h) (ζo _) (by omega) (by unfold maxLen;omega) (Nat.le_trans hq QC.out.size) ?_;intro v2 w2 hown2 hg2;have HQ2:=hid (Below.grown QC.out hg2 QC.out.size GC.out);have HB2:=hid (HB.out.trans (HQ2.out.mono hq));have c2:=(HTW.out.keep HB2.out).b.get 0 rfl;have f2:=(HTW.out.keep HB2.out).b.f 0;have HO2:=hid (ζ1c hown2);have r0:=(HX1.out.keep HQ2.out).get 0 rfl;have r1:=(HX1.out.keep HQ2.out).get 1 rfl;have hw2:=(HX1.out.keep HQ2.out).sz;have hg2s:=(HTW.out.keep HB2.out).sz;have hsrc:=ζ40 (ys:=ζ5 [(a,b,v)]) SC.out hg2 NC.out)
   |(refine ζ1h (by rfl) _ _ 40 (by rfl) (ζ5 [(a,b,v)]) ζ2x (by rfl) hown2 (by rfl) rfl (fun _=>⟨_,rfl,hsrc⟩) (ζo _) (by omega) (by unfold maxLen;omega) HB2.out.size ?_;intro v3 w3 hown3 hg3;have HB3:=hid (Below.grown HB2.out hg3 HB2.out.size HO2.out);have c3:=(HTW.out.keep HB3.out).b.get 0 rfl;have f3:=(HTW.out.keep HB3.out).b.f 0;have HO3:=hid hown3;obtain⟨A4,d4,rfl,L4⟩:=Lies.of_own hown3 (by have:=hown3.1;exact this))
   |(refine ζ1h (by rfl) _ _ 40 (by rfl) (ζ5 [(a,b,v)]) ζ2x (by rfl) (hown2.alloc _) (by rfl) rfl (fun _=>⟨_,rfl,ζ2j w2 (ζ5 [(a,b,v)]) 90⟩) (ζo _) (by omega) (by unfold maxLen;omega) (HB2.out.alloc HB2.out.size (.cells #[.int .i64 a,.int .i64 b,.int .i64 v] 90)).size ?_;intro v3 w3 hown3 hg3;have HB3:=hid (Below.grown (HB2.out.alloc HB2.out.size (.cells #[.int .i64 a,.int .i64 b,.int .i64 v] 90)) hg3 (HB2.out.alloc HB2.out.size (.cells #[.int .i64 a,.int .i64 b,.int .i64 v] 90)).size HO2.out);have c3:=(HTW.out.keep HB3.out).b.get 0 rfl;have f3:=(HTW.out.keep HB3.out).b.f 0;have HO3:=hid hown3;obtain⟨A4,d4,rfl,L4⟩:=Lies.of_own hown3 (by have:=hown3.1;exact this))))
 all_goals
  clear L4 hg2 hg3 hown2 hown3
  go_wp2_with fail
  go_ret
  exact⟨A4,_,d4,w3,rfl,HB3.out,by
   have:=HO3.out
   rw [ζp]
   simpa using this,rfl⟩
end Go.Proofs.YthagdonmijhpdaaGreat
namespace Corr
open Go Go.RowKit
end Corr
namespace Go.Proofs.YthagdonmijhpdaaGreat
open Go.RowKit Corr
end Go.Proofs.YthagdonmijhpdaaGreat
