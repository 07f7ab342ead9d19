/- A day's history, where two transactions differ, and rectangles by days, out of what rects tells -/
import Derived.Test.YthagdonmijhpdaaGreatBpF
set_option linter.unusedVariables false
namespace Corr
open Go Go.RowKit
theorem lineL_flat {L:ClL} {t t':Int}(h: ∀c∈L,(c.1≤t↔c.1≤t')):lineL L t=lineL L t':=by
 unfold lineL
 congr 1
 exact List.filter_congr fun c hc=>by
  have:=h c hc
  exact decide_eq_decide.2 this
theorem valS_flat {L:ClL} {t t':Int}(h: ∀c∈L,(c.1≤t↔c.1≤t')):valS L t=valS L t':=by
 unfold valS;rw [lineL_flat h]
theorem valS_turn {L:ClL} {d t:Int}(h: ¬valS L t d=valS L (t-1) d): ∃c∈L,c.1=t:=by
 rcases Classical.em (∃c∈L,c.1=t)with h1 | h1
 ·exact h1
 ·exfalso
  refine h ?_
  rw [valS_flat (t:=t) (t':=t-1) fun c hc=> ?_]
  have: ¬c.1=t:=fun e=>h1 ⟨c,hc,e⟩
  omega
structure HistK (g:Int→Int)(l:List (Int × Int))(is T:Int):Prop where
 ord:l.Pairwise fun x y=>x.1<y.1
 mem: ∀p:Int × Int,p∈l↔p.1<T∧p.2=g p.1∧¬g p.1=g (p.1-1)
 is:is=g (T-1)
def layH (l:List (Int × Int))(is t v:Int):List (Int × Int):=if is=v then l else l++ [(t,v)]
theorem HistK.lay {g:Int→Int} {l:List (Int × Int)} {is T T' v:Int}(h:HistK g l is T)(hT:T<T')(hv: ∀t,T≤t→t<T'→g t=v):HistK g (layH l is T v) v T':=by
 have h0:=hv T (Int.le_refl _) hT
 have hflat: ∀t,T<t→t<T'→g t=g (t-1):=fun t t1 t2=>by rw [hv t (by omega) t2,hv (t-1) (by omega) (by omega)]
 unfold layH
 split
 ·rename_i e
  refine⟨h.ord,fun p=> ?_,by rw [hv _ (by omega) (by omega)]⟩
  rw [h.mem]
  refine⟨fun⟨h1,h2⟩=>⟨by omega,h2⟩,fun⟨h1,h2,h3⟩=>⟨?_,h2,h3⟩⟩
  by_cases hp:p.1<T
  ·exact hp
  ·exfalso
   by_cases hpT:p.1=T
   ·rw [hpT,h0,←h.is,e]at h3;exact h3 rfl
   ·exact h3 (hflat p.1 (by omega) h1)
 ·rename_i e
  refine⟨List.pairwise_append.2 ⟨h.ord,by simp,fun x hx y hy=> ?_⟩,fun p=> ?_,by rw [hv _ (by omega) (by omega)]⟩
  ·rw [List.mem_singleton.1 hy]
   exact((h.mem x).1 hx).1
  ·rw [List.mem_append,h.mem]
   constructor
   ·rintro(⟨h1,h2⟩ | hp)
    ·exact⟨by omega,h2⟩
    ·rw [List.mem_singleton.1 hp]
     refine⟨hT,h0.symm,?_⟩
     show ¬g T=g (T-1)
     rw [h0,←h.is];exact fun h=>e h.symm
   ·rintro⟨h1,h2,h3⟩
    by_cases hp:p.1<T
    ·exact .inl ⟨hp,h2,h3⟩
    ·by_cases hpT:p.1=T
     ·right
      rw [List.mem_singleton]
      have e1:p.2=v:=by rw [h2,hpT,h0]
      rw [←hpT,←e1]
     ·exact absurd (hflat p.1 (by omega) h1) h3
theorem HistK.on {g:Int→Int} {l:List (Int × Int)} {is T T':Int}(h:HistK g l is T)(hT:T≤T')(hv: ∀t,T≤t→t<T'→g t=g (t-1)):HistK g l is T':=by
 by_cases e:T=T'
 ·subst e;exact h
 ·have: ∀n:Nat,∀t,T≤t→t=T+(n:Int)→t<T'→g t=is:=by
   intro n
   induction n with
   | zero=>intro t h1 h2 h3;rw [hv t h1 h3,h.is];congr 1;omega
   | succ n ih=>intro t h1 h2 h3;rw [hv t h1 h3];exact ih (t-1) (by omega) (by omega) (by omega)
  have h2:=h.lay (T':=T') (v:=is) (by omega) fun t t1 t2=>this (t-T).toNat t t1 (by omega) t2
  unfold layH at h2
  rw [if_pos rfl]at h2
  exact h2
theorem HistK.one {g:Int→Int} {l m:List (Int × Int)} {i j T:Int}(h:HistK g l i T)(h':HistK g m j T):l=m:=by
 have key: ∀ {l m:List (Int × Int)},l.Pairwise (fun x y=>x.1<y.1)→m.Pairwise (fun x y=>x.1<y.1)→(∀p,p∈l↔p∈m)→l=m:=by
  intro l
  induction l with
  | nil=>
   intro m _ _ hm
   cases m with
   | nil=>rfl
   | cons y r=>exact absurd ((hm y).2 List.mem_cons_self) (by simp)
  | cons x l ih=>
   intro m hl hm he
   cases m with
   | nil=>exact absurd ((he x).1 List.mem_cons_self) (by simp)
   | cons y r=>
    obtain⟨l1,l2⟩:=List.pairwise_cons.1 hl
    obtain⟨m1,m2⟩:=List.pairwise_cons.1 hm
    have hxy:x=y:=by
     rcases List.mem_cons.1 ((he x).1 List.mem_cons_self)with e | e
     ·exact e
     ·rcases List.mem_cons.1 ((he y).2 List.mem_cons_self)with e' | e'
      ·exact e'.symm
      ·have:=m1 x e;have:=l1 y e';omega
    subst hxy
    rw [ih l2 m2 fun p=> ?_]
    have hp:=he p
    rw [List.mem_cons,List.mem_cons]at hp
    constructor
    ·intro hpl
     rcases hp.1 (.inr hpl)with e | e
     ·subst e;have:=l1 p hpl;omega
     ·exact e
    ·intro hpr
     rcases hp.2 (.inr hpr)with e | e
     ·subst e;have:=m1 p hpr;omega
     ·exact e
 exact key h.ord h'.ord fun p=>by rw [h.mem,h'.mem]
theorem histS_is {L:ClL}(hg:goodS L)(d:Int): ∀i,i≤L.length→∃T,HistK (fun t=>valS L t d) (histS L d i).1 (histS L d i).2 T∧(∀c∈L.drop i,T≤c.1)∧∀c∈L.take i,c.1<T∨∃e,L[i]? =some e∧e.1=c.1
 | 0,_=>⟨1,⟨List.Pairwise.nil,fun p=>by
   constructor
   ·intro h;exact absurd h (by simp [histS])
   ·rintro⟨h1,h2,h3⟩
    exfalso
    refine h3 ?_
    show valS L p.1 d=valS L (p.1-1) d
    rw [ζ26 hg h1,ζ26 hg (by omega)],by show (0:Int)=valS L (1-1) d;rw [ζ26 hg (by omega)]⟩,fun c hc=>hg.one c (List.mem_of_mem_drop hc),fun c hc=>by simp at hc⟩
 | i+1,hi=>by
  obtain⟨T,h1,h2,h3⟩:=histS_is hg d i (by omega)
  have hc:L[i]? =some (L[i]'(by omega)):=List.getElem?_eq_getElem (by omega)
  generalize L[i]'(by omega)=c at hc
  have hcd:c∈L.drop i:=List.mem_iff_getElem?.2 ⟨0,by rw [List.getElem?_drop];exact hc⟩
  have hdrop: ∀x∈L.drop (i+1),x∈L.drop i:=fun x hx=>by
   obtain⟨j,hj⟩:=List.mem_iff_getElem?.1 hx
   rw [List.getElem?_drop]at hj
   exact List.mem_iff_getElem?.2 ⟨1+j,by rw [List.getElem?_drop,←Nat.add_assoc];exact hj⟩
  have htake: ∀x∈L.take (i+1),x∈L.take i∨x=c:=fun x hx=>by
   rw [List.take_add_one,hc]at hx
   rcases List.mem_append.1 hx with h | h
   ·exact .inl h
   ·exact .inr (by simpa using h)
  have hup: ∀x∈L.drop (i+1),c.1≤x.1:=fun x hx=>by
   obtain⟨j,hj⟩:=List.mem_iff_getElem?.1 hx
   rw [List.getElem?_drop]at hj
   obtain⟨g1,g2⟩:=List.getElem?_eq_some_iff.1 hc
   obtain⟨g3,g4⟩:=List.getElem?_eq_some_iff.1 hj
   have:=(List.pairwise_iff_getElem.1 hg.rise) i (i+1+j) g1 g3 (by omega)
   rw [g2,g4]at this;exact this
  by_cases he: ∃e,L[i+1]? =some e∧e.1=c.1
  ·obtain⟨e,he1,he2⟩:=he
   refine⟨T,?_,fun x hx=>h2 x (hdrop x hx),fun x hx=> ?_⟩
   ·rw [histS_skip hc he1 he2];exact h1
   ·rcases htake x hx with hx | rfl
    ·rcases h3 x hx with h | ⟨e',h4,h5⟩
     ·exact .inl h
     ·rw [hc]at h4;injection h4 with h4;subst h4
      exact .inr ⟨e,he1,by omega⟩
    ·exact .inr ⟨e,he1,he2⟩
  ·have he': ∀e,L[i+1]? =some e→¬e.1=c.1:=fun e h1 h2=>he ⟨e,h1,h2⟩
   have hTc:=h2 c hcd
   have h4:HistK (fun t=>valS L t d) (histS L d i).1 (histS L d i).2 c.1:=h1.on hTc fun t t1 t2=>by
    show valS L t d=valS L (t-1) d
    rcases Classical.em (valS L t d=valS L (t-1) d)with h | h
    ·exact h
    ·exfalso
     obtain⟨x,hx,rfl⟩:=valS_turn h
     rw [←List.take_append_drop i L]at hx
     rcases List.mem_append.1 hx with hx | hx
     ·rcases h3 x hx with h | ⟨e',h4,h5⟩
      ·omega
      ·rw [hc]at h4;injection h4 with h4;subst h4;omega
     ·rw [List.drop_eq_getElem_cons (by omega)]at hx
      rcases List.mem_cons.1 hx with hx | hx
      ·obtain⟨_,g2⟩:=List.getElem?_eq_some_iff.1 hc
       rw [hx,g2]at t2;omega
      ·have:=hup x hx;omega
   have h5:=h4.lay (T':=c.1+1) (v:=valS L c.1 d) (by omega) fun t t1 t2=>by
    rw [show t=c.1 by omega]
   refine⟨c.1+1,?_,fun x hx=> ?_,fun x hx=> ?_⟩
   ·rw [histS_look hc he']
    have e1:(if valS L c.1 d≠(histS L d i).2 then(histS L d i).1++ [(c.1,valS L c.1 d)]else(histS L d i).1)=layH (histS L d i).1 (histS L d i).2 c.1 (valS L c.1 d):=by
     unfold layH
     by_cases e:(histS L d i).2=valS L c.1 d
     ·rw [if_pos e,if_neg (by rw [e];exact fun h=>h rfl)]
     ·rw [if_neg e,if_pos fun h=>e h.symm]
    rw [e1];exact h5
   ·have h6:=hup x hx
    obtain⟨j,hj⟩:=List.mem_iff_getElem?.1 hx
    rw [List.getElem?_drop]at hj
    have hl:=(List.getElem?_eq_some_iff.1 hj).1
    have hn:L[i+1]? =some (L[i+1]'(by omega)):=List.getElem?_eq_getElem (by omega)
    have h7:=he' _ hn
    have h8:c.1≤(L[i+1]'(by omega)).1:=hup _ (List.mem_iff_getElem?.2 ⟨0,by rw [List.getElem?_drop];exact hn⟩)
    by_cases hj0:j=0
    ·subst hj0
     rw [show i+1+0=i+1 from rfl,hn]at hj;injection hj with hj
     rw [hj]at h7 h8;omega
    ·obtain⟨g3,g4⟩:=List.getElem?_eq_some_iff.1 hj
     have:=(List.pairwise_iff_getElem.1 hg.rise) (i+1) (i+1+j) (by omega) g3 (by omega)
     rw [g4]at this;omega
   ·left
    rcases htake x hx with hx | rfl
    ·rcases h3 x hx with h | ⟨e',h8,h9⟩
     ·omega
     ·rw [hc]at h8;injection h8 with h8;subst h8;omega
    ·omega
theorem histL_is {L:ClL}(hg:goodS L)(d:Int) {T:Int}(hT:lastL L<T)(hT1:1≤T): ∃is,HistK (fun t=>valS L t d) (histL L d) is T:=by
 obtain⟨T0,h1,h2,h3⟩:=histS_is hg d L.length (Nat.le_refl _)
 have hin: ∀c∈L,c.1<T0:=fun c hc=>by
  rcases h3 c (by rw [List.take_length];exact hc)with h | ⟨e,h,_⟩
  ·exact h
  ·rw [List.getElem?_eq_none (Nat.le_refl _)]at h;cases h
 refine⟨valS L (T-1) d,⟨h1.ord,fun p=> ?_,rfl⟩⟩
 show p∈(histS L d L.length).1↔_
 rw [h1.mem]
 constructor
 ·rintro⟨_,h5,h6⟩
  obtain⟨c,hc,h7⟩:=valS_turn (show ¬valS L p.1 d=valS L (p.1-1) d from h6)
  have:=lastL_ge hg c hc
  exact⟨by omega,h5,h6⟩
 ·rintro⟨_,h5,h6⟩
  obtain⟨c,hc,h7⟩:=valS_turn (show ¬valS L p.1 d=valS L (p.1-1) d from h6)
  have:=hin c hc
  exact⟨by omega,h5,h6⟩
def stepH (s:List (Int × Int) × Int × Int)(x:Rn):List (Int × Int) × Int × Int:=
 if s.2.2<x.s then(layH (layH s.1 s.2.1 s.2.2 0) 0 x.s x.v,x.v,x.u)else(layH s.1 s.2.1 x.s x.v,x.v,x.u)
def lastH (s:List (Int × Int) × Int × Int):List (Int × Int):=if 0<s.2.2 then layH s.1 s.2.1 s.2.2 0 else s.1
structure DayL (L:ClL)(d:Int)(M:List Rn):Prop where
 rng: ∀r∈M,1≤r.s∧r.s≤lastL L∧(r.u=0∨(r.s<r.u∧r.u≤lastL L))
 val: ∀r∈M,∀t,r.s≤t→(r.u=0∨t<r.u)→valS L t d=r.v
 all: ∀t,¬valS L t d=0→t≤lastL L→∃r∈M,r.s≤t∧(r.u=0∨t<r.u)
 ord:M.Pairwise fun x y=>¬x.u=0∧x.u≤y.s
theorem fold_take {α β:Type}(f:β→α→β)(b:β) {l:List α} {k:Nat} {x:α}(h:l[k]? =some x):(l.take (k+1)).foldl f b=f ((l.take k).foldl f b) x:=by
 rw [List.take_add_one,h,List.foldl_append];rfl
theorem day_hist {L:ClL}(hg:goodS L) {d:Int} {M:List Rn}(H:DayL L d M):lastH (M.foldl stepH ([],0,0))=histL L d:=by
 have hl0:=lastL_zero hg
 have key: ∀k,k≤M.length→∃T,HistK (fun t=>valS L t d) ((M.take k).foldl stepH ([],0,0)).1 ((M.take k).foldl stepH ([],0,0)).2.1 T∧((((M.take k).foldl stepH ([],0,0)).2.2=T∧0≤T∧T≤lastL L∧(∀r∈M.drop k,T≤r.s)∧∀r∈M.take k,¬r.u=0∧r.u≤T)∨(((M.take k).foldl stepH ([],0,0)).2.2=0∧k=M.length∧T=lastL L+1)):=by
  intro k
  induction k with
  | zero=>
   intro _
   refine⟨0,⟨List.Pairwise.nil,fun p=> ?_,?_⟩,.inl ⟨rfl,Int.le_refl _,hl0,fun r hr=>by have:=(H.rng r (by simpa using hr)).1;omega,fun r hr=>by simp at hr⟩⟩
   ·constructor
    ·intro h;exact absurd h (by simp)
    ·rintro⟨h1,h2,h3⟩
     exfalso
     refine h3 ?_
     show valS L p.1 d=valS L (p.1-1) d
     rw [ζ26 hg (by omega),ζ26 hg (by omega)]
   ·show (0:Int)=valS L (0-1) d
    rw [ζ26 hg (by omega)]
  | succ k ih=>
   intro hk
   obtain⟨T,h1,h2⟩:=ih (by omega)
   have hx:M[k]? =some (M[k]'(by omega)):=List.getElem?_eq_getElem (by omega)
   generalize M[k]'(by omega)=x at hx
   have hxm:=List.mem_of_getElem? hx
   rw [fold_take _ _ hx]
   rcases h2 with⟨h3,h4,h5,h6,h7⟩ | ⟨_,h,_⟩
   ·generalize (M.take k).foldl stepH ([],0,0)=s at h1 h3
    have hTx:T≤x.s:=h6 x (List.mem_iff_getElem?.2 ⟨0,by rw [List.getElem?_drop];exact hx⟩)
    obtain⟨x1,x2,x3⟩:=H.rng x hxm
    have hlater: ∀r∈M.drop (k+1),¬x.u=0∧x.u≤r.s:=fun r hr=>by
     obtain⟨j,hj⟩:=List.mem_iff_getElem?.1 hr
     rw [List.getElem?_drop]at hj
     obtain⟨g1,g2⟩:=List.getElem?_eq_some_iff.1 hx
     obtain⟨g3,g4⟩:=List.getElem?_eq_some_iff.1 hj
     have:=(List.pairwise_iff_getElem.1 H.ord) k (k+1+j) g1 g3 (by omega)
     rw [g2,g4]at this;exact this
    have hz: ∀t,T≤t→t<x.s→valS L t d=0:=fun t t1 t2=>by
     rcases Classical.em (valS L t d=0)with h | h
     ·exact h
     ·exfalso
      obtain⟨r,hr,r1,r2⟩:=H.all t h (by omega)
      rw [←List.take_append_drop k M]at hr
      rcases List.mem_append.1 hr with hr | hr
      ·obtain⟨r3,r4⟩:=h7 r hr
       have:=r2.resolve_left r3;omega
      ·rw [List.drop_eq_getElem_cons (by omega)]at hr
       obtain⟨_,g2⟩:=List.getElem?_eq_some_iff.1 hx
       rcases List.mem_cons.1 hr with hr | hr
       ·rw [hr,g2]at r1;omega
       ·have h8:=hlater r hr
        rcases x3 with h9 | h9
        ·exact h8.1 h9
        ·omega
    have h8:HistK (fun t=>valS L t d) (if s.2.2<x.s then layH s.1 s.2.1 s.2.2 0 else s.1) (if s.2.2<x.s then 0 else s.2.1) x.s:=by
     by_cases e:s.2.2<x.s
     ·rw [if_pos e,if_pos e,h3]
      exact h1.lay (by omega) hz
     ·rw [if_neg e,if_neg e]
      have:T=x.s:=by omega
      rw [←this];exact h1
    have hst:stepH s x=(layH (if s.2.2<x.s then layH s.1 s.2.1 s.2.2 0 else s.1) (if s.2.2<x.s then 0 else s.2.1) x.s x.v,x.v,x.u):=by
     unfold stepH
     by_cases e:s.2.2<x.s
     ·rw [if_pos e,if_pos e,if_pos e]
     ·rw [if_neg e,if_neg e,if_neg e]
    rw [hst]
    rcases x3 with h9 | ⟨h9,h10⟩
    ·refine⟨lastL L+1,h8.lay (by omega) fun t t1 t2=>H.val x hxm t t1 (.inl h9),.inr ⟨h9,?_,rfl⟩⟩
     rcases Nat.lt_or_ge (k+1) M.length with h | h
     ·have:=hlater (M[k+1]'h) (List.mem_iff_getElem?.2 ⟨0,by rw [List.getElem?_drop];exact List.getElem?_eq_getElem h⟩)
      exact absurd h9 this.1
     ·omega
    ·refine⟨x.u,h8.lay h9 fun t t1 t2=>H.val x hxm t t1 (.inr t2),.inl ⟨rfl,by omega,h10,fun r hr=>(hlater r hr).2,fun r hr=> ?_⟩⟩
     rw [List.take_add_one,hx]at hr
     rcases List.mem_append.1 hr with hr | hr
     ·obtain⟨r3,r4⟩:=h7 r hr
      exact⟨r3,by omega⟩
     ·obtain rfl:r=x:=by simpa using hr
      exact⟨by omega,Int.le_refl _⟩
   ·omega
 obtain⟨T,h1,h2⟩:=key M.length (Nat.le_refl _)
 rw [List.take_length]at h1 h2
 obtain⟨is,h3⟩:=histL_is hg d (T:=lastL L+1) (by omega) (by omega)
 unfold lastH
 rcases h2 with⟨h4,h5,h6,h7,h8⟩ | ⟨h4,_,h5⟩
 ·have hz: ∀t,T≤t→t<lastL L+1→valS L t d=0:=fun t t1 t2=>by
   rcases Classical.em (valS L t d=0)with h | h
   ·exact h
   ·exfalso
    obtain⟨r,hr,r1,r2⟩:=H.all t h (by omega)
    obtain⟨r3,r4⟩:=h8 r hr
    have:=r2.resolve_left r3;omega
  have h9:=h1.lay (T':=lastL L+1) (by omega) hz
  split
  ·rw [h4];exact h9.one h3
  ·rename_i h
   have hT0:T=0:=by omega
   have e0:(M.foldl stepH ([],0,0)).2.1=0:=by
    rw [h1.is,hT0]
    show valS L (0-1) d=0
    rw [ζ26 hg (by omega)]
   rw [e0]at h9
   unfold layH at h9
   rw [if_pos rfl]at h9
   exact h9.one h3
 ·rw [if_neg (by omega)]
  subst h5
  exact h1.one h3
theorem allY_day {L:ClL} {Sk:Kp}(hk:KsOk L Sk) {d z:Int} {out:ItL}(ho:segF Sk.f d z out)(hz:z=d+1)(hab:mayB d z=true∨∀e,d≤e→e<z→Sk.f e=0) {M:List Rn}(hp:M.Perm (allY out Sk.cs d z 0 (lastL L)))(hM:M.Pairwise fun x y=>x.s≤y.s)(hg:goodS L):DayL L d M:=by
 have T:=ζ38 (frm:=0) (tq:=lastL L) hk ho hab
 have hu: ∀r∈M,r.u=0∨(r.s<r.u∧r.u≤lastL L):=fun r hr=>by
  have hr:=hp.mem_iff.1 hr
  rcases List.mem_append.1 hr with hr | hr
  ·obtain⟨y,hy,h1,h2,rfl⟩:=opnY_mem.1 hr
   exact .inl rfl
  ·obtain⟨c,hc,hrc⟩:=List.mem_flatMap.1 hr
   have:=(hk.ks.cls r (List.mem_flatMap.2 ⟨c,hc,((ζ3r (hk.ck c hc).tookCk0).1 hrc).1⟩)).2.1
   exact .inr ⟨this.2.1,this.2.2⟩
 have hd: ∀r∈M,r.a≤d∧d<r.b:=fun r hr=>by
  have:=(T.say r (hp.mem_iff.1 hr)).1;omega
 refine⟨fun r hr=> ?_,fun r hr t t1 t2=> ?_,fun t hv ht=> ?_,?_⟩
 ·obtain⟨_,_,h3,_⟩:=T.say r (hp.mem_iff.1 hr)
  exact⟨h3.1,h3.2.1,hu r hr⟩
 ·obtain⟨_,_,_,_,h5⟩:=T.say r (hp.mem_iff.1 hr)
  exact h5 t d (hd r hr).1 (hd r hr).2 t1 t2
 ·have h0:0≤t:=by
   rcases Int.lt_or_le t 1 with h | h
   ·rw [ζ26 hg h]at hv;exact absurd rfl hv
   ·omega
  obtain⟨r,hr,h1,h2,h3,h4⟩:=T.all t d hv (Int.le_refl _) (by omega) h0 ht
  exact⟨r,hp.mem_iff.2 hr,h3,h4⟩
 ·have ha:M.Pairwise apR:=hp.symm.pairwise (ζ39 (frm:=0) (tq:=lastL L) hk ho) apR_swap
  refine(ha.and hM).imp_of_mem ?_
  intro x y hx hy ⟨h1,h2⟩
  have dx:=hd x hx
  have dy:=hd y hy
  have ux:=hu x hx
  have uy:=hu y hy
  have: ¬((y.u=0∨x.s<y.u)∧(x.u=0∨y.s<x.u)):=fun h=>h1 ⟨by omega,by omega,h.1,h.2⟩
  omega
structure ChgK (L:ClL)(t:Int)(Y:List Rn)(k:Nat)(f g:Int→Int)(N M:Nat):Prop where
 fi: ∀d,f d=0∨f d=valS L (t-1) d
 gi: ∀d,g d=0∨g d=valS L t d
 fo: ∀r∈Y.take k,r.u=t→∀d,r.a≤d→d<r.b→f d=valS L (t-1) d
 go: ∀r∈Y.take k,r.s=t→∀d,r.a≤d→d<r.b→g d=valS L t d
 fc: ∀d,¬f d=0→∃r∈Y.take k,r.u=t∧r.a≤d∧d<r.b
 gc: ∀d,¬g d=0→∃r∈Y.take k,r.s=t∧r.a≤d∧d<r.b
 nf:N≤((Y.take k).filter fun r=>decide (r.u=t)).length
 ng:M≤((Y.take k).filter fun r=>decide (r.s=t)).length
theorem ChgK.nil {L:ClL} {t:Int} {Y:List Rn} :ChgK L t Y 0 (fun _=>0) (fun _=>0) 0 0:=
 ⟨fun _=> .inl rfl,fun _=> .inl rfl,fun r hr=>by simp at hr,fun r hr=>by simp at hr,fun _ h=>absurd rfl h,fun _ h=>absurd rfl h,Nat.zero_le _,Nat.zero_le _⟩
def updR (f:Int→Int)(x:Rn):Int→Int:=fun d=>if x.a≤d∧d<x.b then x.v else f d
section
variable {L:ClL} {t:Int} {Y:List Rn} {k:Nat} {f g:Int→Int} {N M:Nat} {a b:Int} {x:Rn}
theorem ζ29 (T:TellY L a b (t-1) t Y)(hx:x∈Y)(hu:x.u=t):x.s<t∧∀d,x.a≤d→d<x.b→x.v=valS L (t-1) d:=by
 obtain⟨_,_,h3,_,h5⟩:=T.say x hx
 have h6:x.s<t:=by
  rcases h3.2.2 with h | h <;> omega
 exact⟨h6,fun d d1 d2=>(h5 (t-1) d d1 d2 (by omega) (.inr (by omega))).symm⟩
theorem tell_begun (T:TellY L a b (t-1) t Y)(hx:x∈Y)(hs:x.s=t): ∀d,x.a≤d→d<x.b→x.v=valS L t d:=fun d d1 d2=>by
 obtain⟨_,_,h3,_,h5⟩:=T.say x hx
 exact(h5 t d d1 d2 (by omega) (h3.2.2.imp id fun h=>by omega)).symm
theorem ζ4u {r:Rn}(hx:Y[k]? =some x)(hr:r∈Y.take (k+1)):r∈Y.take k∨r=x:=by
 rw [List.take_add_one,hx]at hr
 rcases List.mem_append.1 hr with h | h
 ·exact .inl h
 ·exact .inr (by simpa using h)
theorem in_take (hx:Y[k]? =some x):(∀r,r∈Y.take k→r∈Y.take (k+1))∧x∈Y.take (k+1):=by
 rw [List.take_add_one,hx]
 exact⟨fun r h=>List.mem_append_left _ h,List.mem_append_right _ (by simp)⟩
theorem ζ2n {p:Rn→Bool}(hx:Y[k]? =some x):((Y.take (k+1)).filter p).length=((Y.take k).filter p).length+(if p x=true then 1 else 0):=by
 rw [List.take_add_one,hx,List.filter_append,List.length_append]
 by_cases h:p x=true
 ·rw [if_pos h];simp [h]
 ·rw [if_neg h];simp [h]
theorem ChgK.ended (T:TellY L a b (t-1) t Y)(h:ChgK L t Y k f g N M)(hx:Y[k]? =some x)(hu:x.u=t):ChgK L t Y (k+1) (updR f x) g (N+1) M:=by
 have hm:=List.mem_of_getElem? hx
 obtain⟨h1,h2⟩:=ζ29 T hm hu
 have hin:=in_take hx
 have ef:=ζ2n (p:=fun r=>decide (r.u=t)) hx
 have eg:=ζ2n (p:=fun r=>decide (r.s=t)) hx
 rw [if_pos (decide_eq_true hu)]at ef
 rw [if_neg (by simp;omega)]at eg
 refine⟨fun d=> ?_,h.gi,fun r hr hru d d1 d2=> ?_,fun r hr hrs d d1 d2=> ?_,fun d hd=> ?_,fun d hd=> ?_,by have:=h.nf;omega,by have:=h.ng;omega⟩
 ·unfold updR
  split
  ·rename_i hd;exact .inr (h2 d hd.1 hd.2)
  ·exact h.fi d
 ·unfold updR
  split
  ·rename_i hd;exact h2 d hd.1 hd.2
  ·rename_i hd
   rcases ζ4u hx hr with hr | rfl
   ·exact h.fo r hr hru d d1 d2
   ·exact absurd ⟨d1,d2⟩ hd
 ·rcases ζ4u hx hr with hr | rfl
  ·exact h.go r hr hrs d d1 d2
  ·omega
 ·unfold updR at hd
  split at hd
  ·rename_i hh;exact⟨x,hin.2,hu,hh.1,hh.2⟩
  ·obtain⟨r,hr,h3⟩:=h.fc d hd
   exact⟨r,hin.1 r hr,h3⟩
 ·obtain⟨r,hr,h3⟩:=h.gc d hd
  exact⟨r,hin.1 r hr,h3⟩
theorem ChgK.begun (T:TellY L a b (t-1) t Y)(h:ChgK L t Y k f g N M)(hx:Y[k]? =some x)(hs:x.s=t):ChgK L t Y (k+1) f (updR g x) N (M+1):=by
 have hm:=List.mem_of_getElem? hx
 have h2:=tell_begun T hm hs
 have hnu: ¬x.u=t:=fun e=>by have:=(ζ29 T hm e).1;omega
 have hin:=in_take hx
 have ef:=ζ2n (p:=fun r=>decide (r.u=t)) hx
 have eg:=ζ2n (p:=fun r=>decide (r.s=t)) hx
 rw [if_neg (by simpa using hnu)]at ef
 rw [if_pos (decide_eq_true hs)]at eg
 refine⟨h.fi,fun d=> ?_,fun r hr hru d d1 d2=> ?_,fun r hr hrs d d1 d2=> ?_,fun d hd=> ?_,fun d hd=> ?_,by have:=h.nf;omega,by have:=h.ng;omega⟩
 ·unfold updR
  split
  ·rename_i hd;exact .inr (h2 d hd.1 hd.2)
  ·exact h.gi d
 ·rcases ζ4u hx hr with hr | rfl
  ·exact h.fo r hr hru d d1 d2
  ·exact absurd hru hnu
 ·unfold updR
  split
  ·rename_i hd;exact h2 d hd.1 hd.2
  ·rename_i hd
   rcases ζ4u hx hr with hr | rfl
   ·exact h.go r hr hrs d d1 d2
   ·exact absurd ⟨d1,d2⟩ hd
 ·obtain⟨r,hr,h3⟩:=h.fc d hd
  exact⟨r,hin.1 r hr,h3⟩
 ·unfold updR at hd
  split at hd
  ·rename_i hh;exact⟨x,hin.2,hs,hh.1,hh.2⟩
  ·obtain⟨r,hr,h3⟩:=h.gc d hd
   exact⟨r,hin.1 r hr,h3⟩
theorem ChgK.other (h:ChgK L t Y k f g N M)(hx:Y[k]? =some x)(hu: ¬x.u=t)(hs: ¬x.s=t):ChgK L t Y (k+1) f g N M:=by
 have hin:=in_take hx
 have ef:=ζ2n (p:=fun r=>decide (r.u=t)) hx
 have eg:=ζ2n (p:=fun r=>decide (r.s=t)) hx
 rw [if_neg (by simpa using hu)]at ef
 rw [if_neg (by simpa using hs)]at eg
 refine⟨h.fi,h.gi,fun r hr hru d d1 d2=> ?_,fun r hr hrs d d1 d2=> ?_,fun d hd=> ?_,fun d hd=> ?_,by have:=h.nf;omega,by have:=h.ng;omega⟩
 ·rcases ζ4u hx hr with hr | rfl
  ·exact h.fo r hr hru d d1 d2
  ·exact absurd hru hu
 ·rcases ζ4u hx hr with hr | rfl
  ·exact h.go r hr hrs d d1 d2
  ·exact absurd hrs hs
 ·obtain⟨r,hr,h3⟩:=h.fc d hd
  exact⟨r,hin.1 r hr,h3⟩
 ·obtain⟨r,hr,h3⟩:=h.gc d hd
  exact⟨r,hin.1 r hr,h3⟩
end
theorem apart_in {Y:List Rn}(h:Y.Pairwise apR) {x y:Rn}(hx:x∈Y)(hy:y∈Y):x=y∨apR x y:=by
 obtain⟨i,hi⟩:=List.mem_iff_getElem?.1 hx
 obtain⟨j,hj⟩:=List.mem_iff_getElem?.1 hy
 by_cases e:i=j
 ·subst e;rw [hi]at hj;injection hj with hj;exact .inl hj
 ·exact .inr (pair_at (fun _ _=>apR_swap) h hi hj e)
theorem ChgK.diff {L:ClL} {t a b:Int} {Y:List Rn} {f g:Int→Int} {N M:Nat}(T:TellY L a b (t-1) t Y)(hap:Y.Pairwise apR)(h:ChgK L t Y Y.length f g N M): ∀d,a≤d→d<b→((¬f d=g d)↔¬valS L (t-1) d=valS L t d):=fun d d1 d2=>by
 have hfo:=h.fo;have hgo:=h.go;have hfc:=h.fc;have hgc:=h.gc
 rw [List.take_length]at hfo hgo hfc hgc
 have key:(f d=valS L (t-1) d∧g d=valS L t d)∨(f d=0∧g d=0∧valS L (t-1) d=valS L t d):=by
  by_cases hf:f d=0
  ·by_cases hg:g d=0
   ·right
    refine⟨hf,hg,?_⟩
    by_cases hv:valS L (t-1) d=0
    ·by_cases hw:valS L t d=0
     ·rw [hv,hw]
     ·obtain⟨r,hr,r1,r2,r3,r4⟩:=T.all t d hw d1 d2 (by omega) (by omega)
      have hs: ¬r.s=t:=fun e=>hw (by rw [←hgo r hr e d r1 r2];exact hg)
      obtain⟨_,_,_,q1,q2⟩:=T.say r hr
      rw [q2 t d r1 r2 r3 r4,q2 (t-1) d r1 r2 (by omega) (r4.imp id fun h=>by omega)]
    ·obtain⟨r,hr,r1,r2,r3,r4⟩:=T.all (t-1) d hv d1 d2 (by omega) (by omega)
     have hu: ¬r.u=t:=fun e=>hv (by rw [←hfo r hr e d r1 r2];exact hf)
     obtain⟨_,_,_,q1,q2⟩:=T.say r hr
     rw [q2 (t-1) d r1 r2 r3 r4,q2 t d r1 r2 (by omega) (r4.imp id fun h=>by omega)]
   ·left
    obtain⟨r,hr,hs,r1,r2⟩:=hgc d hg
    have hgv:=(h.gi d).resolve_left hg
    refine⟨?_,hgv⟩
    rw [hf]
    by_cases hv:valS L (t-1) d=0
    ·rw [hv]
    ·exfalso
     obtain⟨q,hq,q1,q2,q3,q4⟩:=T.all (t-1) d hv d1 d2 (by omega) (by omega)
     have hu: ¬q.u=t:=fun e=>hv (by rw [←hfo q hq e d q1 q2];exact hf)
     obtain⟨_,_,k3,_⟩:=T.say r hr
     rcases apart_in hap hq hr with e | e
     ·subst e;omega
     ·exact e ⟨by omega,by omega,by rcases k3.2.2 with h | h;exact .inl h;right;omega,by rcases q4 with h | h;exact .inl h;right;omega⟩
  ·left
   obtain⟨r,hr,hu,r1,r2⟩:=hfc d hf
   have hfv:=(h.fi d).resolve_left hf
   have hrs:=(ζ29 T hr hu).1
   obtain⟨_,_,k3,_⟩:=T.say r hr
   refine⟨hfv,?_⟩
   rcases h.gi d with hg | hg
   ·rw [hg]
    by_cases hw:valS L t d=0
    ·rw [hw]
    ·exfalso
     obtain⟨q,hq,q1,q2,q3,q4⟩:=T.all t d hw d1 d2 (by omega) (by omega)
     have hs: ¬q.s=t:=fun e=>hw (by rw [←hgo q hq e d q1 q2];exact hg)
     rcases apart_in hap hq hr with e | e
     ·subst e;omega
     ·exact e ⟨by omega,by omega,by right;omega,by rcases q4 with h | h;exact .inl h;right;omega⟩
   ·exact hg
 rcases key with⟨e1,e2⟩ | ⟨e1,e2,e3⟩
 ·rw [e1,e2]
 ·rw [e1,e2,e3];simp
theorem ChgK.few {L:ClL} {Sk:Kp}(hk:KsOk L Sk) {a b t:Int} {out:ItL}(ho:segF Sk.f a b out)(hab:mayB a b=true∨∀d,a≤d→d<b→Sk.f d=0) {k:Nat} {f g:Int→Int} {N M:Nat}(h:ChgK L t (allY out Sk.cs a b (t-1) t) k f g N M):N≤2*L.length+1∧M≤2*L.length+1:=by
 have T:=ζ38 (frm:=t-1) (tq:=t) hk ho hab
 have hap:=ζ39 (frm:=t-1) (tq:=t) hk ho
 have hb:=ζ56 (frm:=t-1) (tq:=t) hk ho
 generalize allY out Sk.cs a b (t-1) t=Y at*
 have key: ∀p:Rn→Bool,(∀x∈Y,∀y∈Y,p x=true→p y=true→¬x.a=y.a∨¬apR x y)→((Y.take k).filter p).length≤2*L.length+1:=fun p hp=>by
  have hsub:((Y.take k).filter p).Sublist Y:=List.filter_sublist.trans (List.take_sublist _ _)
  have h2:=pigeonI (((Y.take k).filter p).map Rn.a) (a :: endsS L) ?_ ?_
  ·rw [List.length_map,List.length_cons,ζ1z]at h2;exact h2
  ·rw [List.nodup_iff_pairwise_ne,List.pairwise_map]
   refine(hap.sublist hsub).imp_of_mem ?_
   intro x y hx hy h
   exact(hp x (hsub.mem hx) y (hsub.mem hy) (List.mem_filter.1 hx).2 (List.mem_filter.1 hy).2).resolve_right fun h'=>h' h
  ·intro y hy
   obtain⟨x,hx,rfl⟩:=List.mem_map.1 hy
   exact hb x (hsub.mem hx)
 refine⟨Nat.le_trans h.nf (key _ fun x hx y hy px py=> ?_),Nat.le_trans h.ng (key _ fun x hx y hy px py=> ?_)⟩
 ·have px:=of_decide_eq_true px
  have py:=of_decide_eq_true py
  by_cases e:x.a=y.a
  ·right
   intro hh
   have r1:=(T.say x hx).2.1
   have r2:=(T.say y hy).2.1
   have s1:=(ζ29 T hx px).1
   have s2:=(ζ29 T hy py).1
   exact hh ⟨by omega,by omega,by right;omega,by right;omega⟩
  ·exact .inl e
 ·have px:=of_decide_eq_true px
  have py:=of_decide_eq_true py
  by_cases e:x.a=y.a
  ·right
   intro hh
   have r1:=(T.say x hx).2
   have r2:=(T.say y hy).2
   refine hh ⟨by omega,by omega,?_,?_⟩
   ·rcases r2.2.1.2.2 with h | h
    ·exact .inl h
    ·right;omega
   ·rcases r1.2.1.2.2 with h | h
    ·exact .inl h
    ·right;omega
  ·exact .inl e
theorem covG_like {α:Type} {p q:Int→α} : ∀ {l:List (Int × Int × α)} {a b:Int},covG p a b l→(∀d,a≤d→d<b→p d=q d)→covG q a b l
 | [],_,_,h,_=>h
 | s :: r,a,b,h,he=>by
  have hle:=covG_le h
  obtain⟨h1,h2,h3,h4,h5⟩:=h
  have hl2:=covG_le h5
  exact⟨h1,h2,fun d d1 d2=>by rw [←he d (by omega) (by omega)];exact h3 d d1 d2,h4,covG_like h5 fun d d1 d2=>he d (by omega) d2⟩
theorem difS_like {f g f' g':Int→Int} {a b:Int} {out:SpL}(h:difS f g a b out)(he: ∀d,a≤d→d<b→((¬f d=g d)↔¬f' d=g' d)):difS f' g' a b out:=by
 unfold difS at h ⊢
 split
 ·rename_i hm
  rw [if_pos hm]at h
  obtain⟨bs,h1,h2⟩:=h
  exact⟨bs,covG_like h1 fun d d1 d2=>by
   have:=he d d1 d2
   show decide (f d≠g d)=decide (f' d≠g' d)
   exact decide_eq_decide.2 this,h2⟩
 ·rename_i hm
  rw [if_neg hm]at h;exact h
def rcR (x:Rn):Rc:=(x.a,x.b,x.s,x.u,x.v)
theorem allY_rects {L:ClL} {Sk:Kp}(hk:KsOk L Sk)(hg:goodS L) {out:ItL}(ho:segF Sk.f 1 3652060 out) {M:List Rc}(hp:M.Perm ((allY out Sk.cs 1 3652060 0 (lastL L)).map rcR))(hM:M.Pairwise fun x y=>x.1≤y.1):rectsS L M:=by
 have T:=ζ38 (frm:=0) (tq:=lastL L) hk ho (.inl (by decide))
 have hap:=ζ39 (frm:=0) (tq:=lastL L) hk ho
 have hin: ∀r∈M,∃x∈allY out Sk.cs 1 3652060 0 (lastL L),rcR x=r:=fun r hr=>List.mem_map.1 (hp.mem_iff.1 hr)
 refine⟨fun r hr=> ?_,hM,?_,fun r hr t d ht h=> ?_,fun t d h0 ht hn=> ?_⟩
 ·obtain⟨x,hx,rfl⟩:=hin r hr
  obtain⟨_,h2,h3,h4,_⟩:=T.say x hx
  exact⟨h4,h2.2.1,h3.1,h3.2.2.imp id fun h=>h.2,h3.2.1⟩
 ·refine hp.symm.pairwise ?_ fun {x y} h=> ?_
  ·rw [List.pairwise_map]
   exact hap
  ·exact fun⟨h1,h2,h3,h4⟩=>h ⟨h2,h1,h4,h3⟩
 ·obtain⟨x,hx,rfl⟩:=hin r hr
  obtain⟨_,_,_,_,h5⟩:=T.say x hx
  exact h5 t d h.1 h.2.1 h.2.2.1 h.2.2.2
 ·rcases Classical.em (valS L t d=0)with h | h
  ·exact h
  ·exfalso
   by_cases hd:1≤d∧d<3652060
   ·obtain⟨x,hx,h1,h2,h3,h4⟩:=T.all t d h hd.1 hd.2 h0 ht
    exact hn (rcR x) (hp.mem_iff.2 (List.mem_map.2 ⟨x,hx,rfl⟩)) ⟨h1,h2,h3,h4⟩
   ·rcases hk.ks.all t d h with⟨h1,_⟩ | ⟨r,hr,h1,h2,_⟩
    ·exact h1 (hk.ks.off d (by omega))
    ·have:=(hk.ks.cls r hr).1;omega
end Corr
