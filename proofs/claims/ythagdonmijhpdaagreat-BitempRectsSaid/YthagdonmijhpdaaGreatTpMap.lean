/- Pieces of a timeline -/
import Derived.Test.YthagdonmijhpdaaGreatTlKnown
import Derived.Test.YthagdonmijhpdaaGreatAvDuo
import Derived.Test.YthagdonmijhpdaaGreatItWay
import Derived.Maps.RangeWalk
set_option linter.unusedSimpArgs false
set_option linter.unusedVariables false
namespace Corr
open Go Go.RowKit
structure pcI (f:Int→Int)(x:It):Prop where
 lo:1≤x.1
 lt:x.1<x.2.1
 hi:x.2.1≤3652060
 nz: ¬x.2.2=0
 on: ∀d,x.1≤d→d<x.2.1→f d=x.2.2
 bef: ¬f (x.1-1)=x.2.2
 aft: ¬f x.2.1=x.2.2
section
variable {f g:Int→Int} {x y:It}
theorem pc_one (hx:pcI f x)(hy:pcI f y)(h1:x.1<y.2.1)(h2:y.1<x.2.1):x=y:=by
 have a:=hx.lt
 have b:=hy.lt
 have hv:x.2.2=y.2.2:=by
  by_cases h:x.1≤y.1
  ·rw [←hx.on y.1 h h2,hy.on y.1 (by omega) hy.lt]
  ·rw [←hy.on x.1 (by omega) h1,hx.on x.1 (by omega) hx.lt]
 have e1:x.1=y.1:=by
  rcases Int.lt_trichotomy x.1 y.1 with h | h | h
  ·exact absurd (by rw [hx.on (y.1-1) (by omega) (by omega),hv]) hy.bef
  ·exact h
  ·exact absurd (by rw [hy.on (x.1-1) (by omega) (by omega),hv]) hx.bef
 have e2:x.2.1=y.2.1:=by
  rcases Int.lt_trichotomy x.2.1 y.2.1 with h | h | h
  ·exact absurd (by rw [hy.on x.2.1 (by omega) h,hv]) hx.aft
  ·exact h
  ·exact absurd (by rw [hx.on y.2.1 (by omega) h,hv]) hy.aft
 exact Prod.ext e1 (Prod.ext e2 hv)
theorem pc_from (hx:pcI f x)(hy:pcI f y)(h:x.1=y.1):x=y:=
 pc_one hx hy (by have:=hy.lt;omega) (by have:=hx.lt;omega)
theorem pc_lt (hx:pcI f x)(hy:pcI f y)(h:x.1<y.1):x.2.1≤y.1:=by
 by_cases h2:y.1<x.2.1
 ·have:=pc_one hx hy (by have:=hy.lt;omega) h2
  subst this;omega
 ·omega
theorem run_down (v:Int): ∀(n:Nat) (d:Int),d=(n:Int)→f d=v→¬f 0=v→∃a,1≤a∧a≤d∧(∀e,a≤e→e≤d→f e=v)∧¬f (a-1)=v
 | 0,d,hd,h1,h0=>absurd (by rw [←h1,hd];rfl) h0
 | n+1,d,hd,h1,h0=>by
  by_cases h:f (d-1)=v
  ·obtain⟨a,p1,p2,p3,p4⟩:=run_down v n (d-1) (by omega) h h0
   exact⟨a,p1,by omega,fun e q1 q2=>by
    by_cases he:e=d
    ·rw [he,h1]
    ·exact p3 e q1 (by omega),p4⟩
  ·exact⟨d,by omega,Int.le_refl _,fun e q1 q2=>by rw [show e=d by omega,h1],h⟩
theorem run_up (v:Int): ∀(n:Nat) (d:Int),d+(n:Int)=3652060→f d=v→¬f 3652060=v→∃b,d<b∧b≤3652060∧(∀e,d≤e→e<b→f e=v)∧¬f b=v
 | 0,d,hd,h1,h0=>absurd (by rw [show (3652060:Int)=d by simpa using hd.symm];exact h1) h0
 | n+1,d,hd,h1,h0=>by
  by_cases h:f (d+1)=v
  ·obtain⟨b,p1,p2,p3,p4⟩:=run_up v n (d+1) (by omega) h h0
   exact⟨b,by omega,p2,fun e q1 q2=>by
    by_cases he:e=d
    ·rw [he,h1]
    ·exact p3 e (by omega) q2,p4⟩
  ·exact⟨d+1,by omega,by omega,fun e q1 q2=>by rw [show e=d by omega,h1],h⟩
theorem pc_has (ho:offF f) {d:Int}(h: ¬f d=0): ∃x,pcI f x∧x.1≤d∧d<x.2.1∧x.2.2=f d:=by
 have hd:1≤d∧d≤3652059:=by
  by_cases h1:d<1∨3652059<d
  ·exact absurd (ho d h1) h
  ·omega
 have f0: ¬f 0=f d:=by rw [ho 0 (by omega)];exact fun e=>h e.symm
 have fE: ¬f 3652060=f d:=by rw [ho 3652060 (by omega)];exact fun e=>h e.symm
 obtain⟨a,a1,a2,a3,a4⟩:=run_down (f d) d.toNat d (by omega) rfl f0
 obtain⟨b,b1,b2,b3,b4⟩:=run_up (f d) (3652060-d).toNat d (by omega) rfl fE
 exact⟨(a,b,f d),⟨a1,show a<b by omega,b2,h,fun e e1 e2=>by
  by_cases he:e≤d
  ·exact a3 e e1 he
  ·exact b3 e (by omega) e2,a4,b4⟩,a2,b1,rfl⟩
end
def rise (L:ItL):Prop:=L.Pairwise (fun a b=>a.1<b.1)
theorem rise_srt {L:ItL}(h:rise L):srt L:=h.imp fun hab=>lessB_iff.2 (.inl hab)
theorem rise_one {l m:ItL}(h:rise l)(k:rise m)(e: ∀y,y∈l↔y∈m):l=m:=srt_one (rise_srt h) (rise_srt k) e
def layL (l:ItL)(a b v:Int):ItL:=if b≤a then l else match l.getLast? with
 | some y=>if y.2.2=v then l.dropLast++ [(y.1,b,v)]else l++ [(a,b,v)]
 | none=>l++ [(a,b,v)]
theorem ζ4y {l:ItL} {a b v:Int}(h:b≤a):layL l a b v=l:=by unfold layL;rw [if_pos h]
theorem ζ1j (l:ItL)(a b v:Int):(layL l a b v).length≤l.length+1:=by
 unfold layL
 split
 ·omega
 ·split
  ·rename_i y hy
   split
   ·rw [List.length_append,List.length_dropLast];simp
   ·simp
  ·simp
theorem lay_cov {f:Int→Int} {l:ItL} {o a b v:Int}(h:covP f o a l)(hab:a≤b)(hf: ∀d,a≤d→d<b→f d=v):covP f o b (layL l a b v):=by
 unfold layL
 split
 ·rename_i hb
  obtain rfl:a=b:=by omega
  exact h
 ·rename_i hb
  cases hl:l.getLast? with
  | none=>
   dsimp only
   exact ζ2o (by omega) hf h fun s hs=>by rw [hl]at hs;cases hs
  | some y=>
   dsimp only
   split
   ·rename_i hv
    obtain⟨y1,y2,y3⟩:=y
    have hv:y3=v:=hv
    subst hv
    obtain⟨ys,rfl⟩:=List.getLast?_eq_some_iff.1 hl
    rw [List.dropLast_concat]
    have hy2:=cov_last h
    subst hy2
    exact covP_ext hab hf h
   ·rename_i hv
    exact ζ2o (by omega) hf h fun s hs=>by rw [hl]at hs;cases hs;exact hv
theorem cov_same {f g:Int→Int} : ∀ {l:ItL} {a b:Int},covP f a b l→(∀d,a≤d→d<b→f d=g d)→covP g a b l
 | [],a,b,h,_=>h
 | s :: r,a,b,h,he=>by
  obtain⟨h1,h2,h3,h4,h5⟩:=h
  have hb:=ζ32 h5
  exact⟨h1,h2,fun d d1 d2=>by rw [←he d (by omega) (by omega)];exact h3 d d1 d2,h4,cov_same h5 fun d d1 d2=>he d (by omega) d2⟩
theorem ζ10 {f:Int→Int} : ∀ {l:ItL} {a b:Int},covP f a b l→∀x∈l,a≤x.1∧x.1<x.2.1∧x.2.1≤b∧(∀d,x.1≤d→d<x.2.1→f d=x.2.2)∧(x.1=a∨¬f (x.1-1)=x.2.2)∧(x.2.1=b∨¬f x.2.1=x.2.2)
 | [],_,_,_,x,hx=>by cases hx
 | s :: r,a,b,h,x,hx=>by
  obtain⟨h1,h2,h3,h4,h5⟩:=h
  have hb:=ζ32 h5
  rcases List.mem_cons.1 hx with rfl | hx
  ·refine⟨by omega,h2,by omega,h3,.inl h1,?_⟩
   cases r with
   | nil=>exact .inl h5
   | cons t r=>
    obtain⟨t1,t2,t3,_,_⟩:=h5
    exact .inr fun e=>h4 t rfl (by rw [←t3 x.2.1 (by omega) (by omega),e])
  ·obtain⟨i1,i2,i3,i4,i5,i6⟩:=ζ10 h5 x hx
   refine⟨by omega,i2,i3,i4,.inr ?_,i6⟩
   rcases i5 with i5 | i5
   ·intro e
    cases r with
    | nil=>cases hx
    | cons t r=>
     obtain⟨t1,t2,t3,_,_⟩:=h5
     refine h4 t rfl ?_
     rw [←t3 x.1 (by omega) (by omega),i4 x.1 (by omega) i2,←e,h3 (x.1-1) (by omega) (by omega)]
   ·exact i5
theorem cov_day {f:Int→Int} {d:Int} : ∀ {l:ItL} {a b:Int},covP f a b l→a≤d→d<b→∃x∈l,x.1≤d∧d<x.2.1
 | [],a,b,h,h1,h2=>by have:a=b:=h;omega
 | s :: r,a,b,h,h1,h2=>by
  obtain⟨e1,e2,e3,e4,e5⟩:=h
  by_cases hd:d<s.2.1
  ·exact⟨s,List.mem_cons_self,by omega,hd⟩
  ·obtain⟨x,hx,h⟩:=cov_day e5 (by omega) h2
   exact⟨x,List.mem_cons_of_mem _ hx,h⟩
theorem cov_rise {f:Int→Int} : ∀ {l:ItL} {a b:Int},covP f a b l→rise l
 | [],_,_,_=>List.Pairwise.nil
 | s :: r,a,b,h=>by
  obtain⟨e1,e2,e3,e4,e5⟩:=h
  exact List.pairwise_cons.2 ⟨fun x hx=>by have:=(ζ10 e5 x hx).1;omega,cov_rise e5⟩
theorem cov_pc {g:Int→Int} {a b:Int} {l:ItL}(h:covP g a b l)(ha:1≤a)(hb:b≤3652060)(h1:g a=0∨¬g (a-1)=g a)(h2:g (b-1)=0∨¬g b=g (b-1))(x:It):(x∈l∧¬x.2.2=0)↔(pcI g x∧a≤x.1∧x.2.1≤b):=by
 have key: ∀x,x∈l→¬x.2.2=0→pcI g x∧a≤x.1∧x.2.1≤b:=by
  intro x hx hz
  obtain⟨i1,i2,i3,i4,i5,i6⟩:=ζ10 h x hx
  refine⟨⟨by omega,i2,by omega,hz,i4,?_,?_⟩,i1,i3⟩
  ·rcases i5 with i5 | i5
   ·have:=i4 x.1 (by omega) i2
    rw [i5]at this ⊢
    rcases h1 with h1 | h1
    ·exact absurd (by rw [←this,h1]) hz
    ·rw [this]at h1;exact h1
   ·exact i5
  ·rcases i6 with i6 | i6
   ·have:=i4 (x.2.1-1) (by omega) (by omega)
    rw [i6]at this ⊢
    rcases h2 with h2 | h2
    ·exact absurd (by rw [←this,h2]) hz
    ·rw [this]at h2;exact h2
   ·exact i6
 constructor
 ·rintro⟨hx,hz⟩
  exact key x hx hz
 ·rintro⟨hp,p1,p2⟩
  have:=hp.lt
  obtain⟨y,hy,y1,y2⟩:=cov_day h p1 (by omega)
  have hyv:=(ζ10 h y hy).2.2.2.1 x.1 y1 y2
  have hxv:=hp.on x.1 (by omega) hp.lt
  have hz: ¬y.2.2=0:=by rw [←hyv,hxv];exact hp.nz
  have e:=pc_one hp (key y hy hz).1 y2 (by omega)
  subst e
  exact⟨hy,hz⟩
def leftL (a:Int)(L:ItL):ItL:=L.foldl (fun l x=>layL l x.1 a x.2.2) []
def midL (a b v:Int)(L:ItL):ItL:=layL (leftL a L) a b v
def putO (a b v:Int)(L:ItL):ItL:=L.foldl (fun l x=>layL l b x.2.1 x.2.2) (midL a b v L)
theorem ζ1n {β:Type} {g:β→It→β} {z:β} {L:ItL} {k:Nat} {x:It}(h:L[k]? =some x):(L.take (k+1)).foldl g z=g ((L.take k).foldl g z) x:=by
 rw [List.take_add_one,h,List.foldl_append];rfl
theorem left_id {a:Int} : ∀ {r:ItL} {z:ItL},(∀x∈r,a≤x.1)→r.foldl (fun l x=>layL l x.1 a x.2.2) z=z
 | [],_,_=>rfl
 | x :: r,z,h=>by
  rw [List.foldl_cons,ζ4y (h x List.mem_cons_self)]
  exact left_id fun y hy=>h y (List.mem_cons_of_mem _ hy)
theorem left_cov {f g:Int→Int} {a:Int} {L:ItL}(hr:rise L)(hL: ∀x∈L,pcI f x∧a≤x.2.1)(hg: ∀d,d<a→g d=f d):
  (leftL a L).length≤1∧∃o,o≤a∧covP g o a (leftL a L)∧((o=a∧∀x∈L,a≤x.1)∨∃x∈L,x.1=o∧o<a):=by
 cases L with
 | nil=>exact⟨by simp [leftL],a,Int.le_refl _,rfl,.inl ⟨rfl,fun _ h=>by cases h⟩⟩
 | cons x r=>
  obtain⟨hx,hr'⟩:=List.pairwise_cons.1 hr
  obtain⟨px,tx⟩:=hL x List.mem_cons_self
  by_cases h:x.1<a
  ·have hrest: ∀y∈r,a≤y.1:=fun y hy=>by
    have:=pc_lt px (hL y (List.mem_cons_of_mem _ hy)).1 (hx y hy);omega
   have e:leftL a (x :: r)= [(x.1,a,x.2.2)]:=by
    unfold leftL
    rw [List.foldl_cons,left_id hrest]
    unfold layL
    rw [if_neg (by omega)];rfl
   rw [e]
   refine⟨by simp,x.1,by omega,⟨rfl,h,fun d d1 d2=> ?_,fun t ht=>(by cases ht),rfl⟩,.inr ⟨x,List.mem_cons_self,rfl,h⟩⟩
   rw [hg d d2]
   exact px.on d d1 (by have d2:d<a:=d2;omega)
  ·have hall: ∀y∈x :: r,a≤y.1:=fun y hy=>by
    rcases List.mem_cons.1 hy with rfl | hy
    ·omega
    ·have:=hx y hy;omega
   have e:leftL a (x :: r)= []:=left_id hall
   rw [e]
   exact⟨by simp,a,Int.le_refl _,rfl,.inl ⟨rfl,hall⟩⟩
theorem right_cov {f g:Int→Int} {b o:Int} : ∀ {L z:ItL},rise L→(∀x∈L,pcI f x∧x.1≤b)→covP g o b z→(∀d,b≤d→g d=f d)→
  (L.foldl (fun l x=>layL l b x.2.1 x.2.2) z).length≤z.length+1∧∃e,b≤e∧covP g o e (L.foldl (fun l x=>layL l b x.2.1 x.2.2) z)∧((e=b∧∀x∈L,x.2.1≤b)∨∃x∈L,x.2.1=e∧b<e)
 | [],z,_,_,hz,_=>⟨by simp,b,Int.le_refl _,hz,.inl ⟨rfl,fun _ h=>by cases h⟩⟩
 | x :: r,z,hr,hL,hz,hg=>by
  obtain⟨hx,hr'⟩:=List.pairwise_cons.1 hr
  obtain⟨px,tx⟩:=hL x List.mem_cons_self
  by_cases h:x.2.1≤b
  ·rw [List.foldl_cons,ζ4y h]
   obtain⟨q0,e,q1,q2,q3⟩:=right_cov hr' (fun y hy=>hL y (List.mem_cons_of_mem _ hy)) hz hg
   refine⟨q0,e,q1,q2,?_⟩
   rcases q3 with⟨q3,q4⟩ | ⟨y,hy,q3⟩
   ·exact .inl ⟨q3,fun y hy=>by
     rcases List.mem_cons.1 hy with rfl | hy
     ·exact h
     ·exact q4 y hy⟩
   ·exact .inr ⟨y,List.mem_cons_of_mem _ hy,q3⟩
  ·have hrest:r= []:=by
    cases r with
    | nil=>rfl
    | cons y r=>
     have h1:=hL y (List.mem_cons_of_mem _ List.mem_cons_self)
     have:=pc_lt px h1.1 (hx y List.mem_cons_self)
     omega
   subst hrest
   refine⟨?_,x.2.1,by omega,?_,.inr ⟨x,List.mem_cons_self,rfl,by omega⟩⟩
   ·rw [List.foldl_cons,List.foldl_nil];exact ζ1j _ _ _ _
   ·rw [List.foldl_cons,List.foldl_nil]
    exact lay_cov hz (by omega) fun d d1 d2=>by rw [hg d d1];exact px.on d (by omega) d2
theorem upd_in {f:Int→Int} {a b v d:Int}(h1:a≤d)(h2:d<b):updF f a b v d=v:=by unfold updF;rw [if_pos ⟨h1,h2⟩]
theorem ζ15 {f:Int→Int} {a b v d:Int}(h:d<a∨b≤d):updF f a b v d=f d:=by unfold updF;rw [if_neg (by omega)]
theorem off_upd {f:Int→Int} {a b v:Int}(h:offF f)(hm:mayB a b=true):offF (updF f a b v):=by
 have:=offF_put h a b v
 unfold putF at this
 rwa [if_pos hm]at this
abbrev tchI (a b:Int)(x:It):Prop:=a≤x.2.1∧x.1≤b
theorem put_pc {f:Int→Int} {a b v:Int} {L:ItL}(ho:offF f)(hm:mayB a b=true)(hr:rise L)(hL: ∀x,x∈L↔pcI f x∧tchI a b x):
  rise (putO a b v L)∧(putO a b v L).length≤3∧(∀x∈putO a b v L,1≤x.1∧x.1<x.2.1∧x.2.1≤3652060)∧(∀x∈putO a b v L,pcI f x→x∈L)∧(∀x,pcI (updF f a b v) x↔(pcI f x∧¬x∈L)∨(x∈putO a b v L∧¬x.2.2=0)):=by
 obtain⟨m1,m2,m3⟩:=mayB_iff.1 hm
 obtain⟨l0,o,o1,o2,o3⟩:=left_cov (g:=updF f a b v) hr (fun x hx=>⟨((hL x).1 hx).1,((hL x).1 hx).2.1⟩) (fun d hd=>ζ15 (.inl hd))
 have hmid:covP (updF f a b v) o b (midL a b v L):=lay_cov o2 (by omega) fun d d1 d2=>upd_in d1 d2
 have lmid:(midL a b v L).length≤2:=by have:=ζ1j (leftL a L) a b v;show (layL (leftL a L) a b v).length≤2;omega
 obtain⟨l1,e,e1,e2,e3⟩:=right_cov (f:=f) hr (fun x hx=>⟨((hL x).1 hx).1,((hL x).1 hx).2.2⟩) hmid (fun d hd=>ζ15 (.inr hd))
 have e2:covP (updF f a b v) o e (putO a b v L):=e2
 have o4:1≤o:=by
  rcases o3 with⟨o3,_⟩ | ⟨x,hx,o3,_⟩
  ·omega
  ·have:=((hL x).1 hx).1.lo;omega
 have e4:e≤3652060:=by
  rcases e3 with⟨e3,_⟩ | ⟨x,hx,e3,_⟩
  ·omega
  ·have:=((hL x).1 hx).1.hi;omega
 have k1:updF f a b v o=0∨¬updF f a b v (o-1)=updF f a b v o:=by
  rcases o3 with⟨o3,o5⟩ | ⟨x,hx,o3,o5⟩
  ·have h0:f (o-1)=0:=by
    by_cases h:f (o-1)=0
    ·exact h
    ·obtain⟨x,px,x1,x2,_⟩:=pc_has ho h
     have:=o5 x ((hL x).2 ⟨px,by omega,by omega⟩)
     omega
   rw [ζ15 (d:=o-1) (.inl (by omega)),h0]
   by_cases h:updF f a b v o=0
   ·exact .inl h
   ·exact .inr fun e=>h e.symm
  ·have px:=((hL x).1 hx).1
   have:=px.lt
   right
   rw [ζ15 (d:=o-1) (.inl (by omega)),ζ15 (d:=o) (.inl o5),←o3,px.on x.1 (by omega) px.lt]
   exact px.bef
 have k2:updF f a b v (e-1)=0∨¬updF f a b v e=updF f a b v (e-1):=by
  rcases e3 with⟨e3,e5⟩ | ⟨x,hx,e3,e5⟩
  ·have h0:f e=0:=by
    by_cases h:f e=0
    ·exact h
    ·obtain⟨x,px,x1,x2,_⟩:=pc_has ho h
     have:=e5 x ((hL x).2 ⟨px,by omega,by omega⟩)
     omega
   rw [ζ15 (d:=e) (.inr (by omega)),h0]
   by_cases h:updF f a b v (e-1)=0
   ·exact .inl h
   ·exact .inr fun e=>h e.symm
  ·have px:=((hL x).1 hx).1
   have:=px.lt
   right
   rw [ζ15 (d:=e) (.inr (by omega)),ζ15 (d:=e-1) (.inr (by omega)),←e3,px.on (x.2.1-1) (by omega) (by omega)]
   exact px.aft
 have hpc:=cov_pc e2 o4 e4 k1 k2
 refine⟨cov_rise e2,by have:(putO a b v L).length≤(midL a b v L).length+1:=l1;omega,fun x hx=>by have:=ζ10 e2 x hx;omega,fun x hx px=> ?_,fun x=> ?_⟩
 ·have hsub:=ζ10 e2 x hx
  rw [hL x]
  refine⟨px,?_,?_⟩
  ·by_cases h:a≤x.2.1
   ·exact h
   ·rcases o3 with⟨o3,_⟩ | ⟨z,hz,o3,o5⟩
    ·omega
    ·have pz:=(hL z).1 hz
     have e:=pc_one px pz.1 (by have:=pz.2.1;omega) (by have:=px.lt;omega)
     have:=pz.2.1
     rw [←e]at this
     exact this
  ·by_cases h:x.1≤b
   ·exact h
   ·rcases e3 with⟨e3,_⟩ | ⟨z,hz,e3,e5⟩
    ·have:=px.lt;omega
    ·have pz:=(hL z).1 hz
     have e:=pc_one px pz.1 (by have:=px.lt;omega) (by have:=pz.2.2;have:=px.lt;omega)
     have:=pz.2.2
     rw [←e]at this
     exact this
 rw [hpc x]
 have win: ∀x,pcI (updF f a b v) x→tchI a b x→o≤x.1∧x.2.1≤e:=by
  rintro x px ⟨t1,t2⟩
  have:=px.lt
  constructor
  ·by_cases h:o≤x.1
   ·exact h
   ·rcases o3 with⟨o3,o5⟩ | ⟨y,hy,o3,o5⟩
    ·
     have h1:f (o-1)=x.2.2:=by rw [←px.on (o-1) (by omega) (by omega),ζ15 (.inl (by omega))]
     have hz:=px.nz
     rw [←h1]at hz
     obtain⟨y,py,y1,y2,_⟩:=pc_has ho hz
     have:=o5 y ((hL y).2 ⟨py,by omega,by omega⟩)
     omega
    ·have py:=((hL y).1 hy).1
     have:=py.lt
     have ty:=((hL y).1 hy).2
     have h1:f (y.1-1)=x.2.2:=by rw [←px.on (y.1-1) (by omega) (by omega),ζ15 (.inl (by omega))]
     have h2:f y.1=x.2.2:=by rw [←px.on y.1 (by omega) (by omega),ζ15 (.inl (by omega))]
     have h3:=py.on y.1 (by omega) py.lt
     exact absurd (by rw [h1,←h2,h3]) py.bef
  ·by_cases h:x.2.1≤e
   ·exact h
   ·rcases e3 with⟨e3,e5⟩ | ⟨y,hy,e3,e5⟩
    ·have h1:f e=x.2.2:=by rw [←px.on e (by omega) (by omega),ζ15 (.inr (by omega))]
     have hz:=px.nz
     rw [←h1]at hz
     obtain⟨y,py,y1,y2,_⟩:=pc_has ho hz
     have:=e5 y ((hL y).2 ⟨py,by omega,by omega⟩)
     omega
    ·have py:=((hL y).1 hy).1
     have:=py.lt
     have h1:f y.2.1=x.2.2:=by rw [←px.on y.2.1 (by omega) (by omega),ζ15 (.inr (by omega))]
     have h2:f (y.2.1-1)=x.2.2:=by rw [←px.on (y.2.1-1) (by omega) (by omega),ζ15 (.inr (by omega))]
     have h3:=py.on (y.2.1-1) (by omega) (by omega)
     exact absurd (by rw [h1,←h2,h3]) py.aft
 have far: ∀ {g h:Int→Int},(∀d,d<a∨b≤d→g d=h d)→pcI g x→¬tchI a b x→pcI h x:=by
  intro g h e p t
  have:=p.lt
  refine⟨p.lo,p.lt,p.hi,p.nz,fun d d1 d2=> ?_,?_,?_⟩
  ·rw [←e d (by have: ¬(a≤x.2.1∧x.1≤b):=t;omega)];exact p.on d d1 d2
  ·rw [←e (x.1-1) (by have: ¬(a≤x.2.1∧x.1≤b):=t;omega)];exact p.bef
  ·rw [←e x.2.1 (by have: ¬(a≤x.2.1∧x.1≤b):=t;omega)];exact p.aft
 constructor
 ·intro p
  by_cases t:tchI a b x
  ·exact .inr ⟨p,win x p t⟩
  ·exact .inl ⟨far (fun d hd=>ζ15 hd) p t,fun hx=>t ((hL x).1 hx).2⟩
 ·rintro(⟨p,hx⟩ | ⟨p,_⟩)
  ·exact far (fun d hd=>(ζ15 hd).symm) p fun t=>hx ((hL x).2 ⟨p,t⟩)
  ·exact p
def ζ4v (a b:Int)(p:ItL × Int)(x:It):ItL × Int:=(layL (layL p.1 p.2 x.1 0) (max x.1 a) (min x.2.1 b) x.2.2,x.2.1)
def ζ2a (a b:Int)(L:ItL):ItL × Int:=L.foldl (ζ4v a b) ([],a)
def segO (a b:Int)(L:ItL):ItL:=layL (ζ2a a b L).1 (ζ2a a b L).2 b 0
theorem seg_step {f:Int→Int} {a b:Int}(ho:offF f)(hab:a<b): ∀ {L l:ItL} {day:Int},covP f a (min day b) l→a≤day→rise L→(∀x∈L,day≤x.1∨(x.1≤day∧day=a))→
  (∀x,x∈L↔pcI f x∧day<x.2.1∧x.1<b)→covP f a b (layL (L.foldl (ζ4v a b) (l,day)).1 (L.foldl (ζ4v a b) (l,day)).2 b 0)
 | [],l,day,hc,hd,_,_,hL=>by
  rw [List.foldl_nil]
  dsimp only
  by_cases h:b≤day
  ·rw [ζ4y h]
   rwa [show min day b=b by omega]at hc
  ·rw [show min day b=day by omega]at hc
   refine lay_cov hc (by omega) fun d d1 d2=> ?_
   by_cases hz:f d=0
   ·exact hz
   ·obtain⟨x,px,x1,x2,_⟩:=pc_has ho hz
    exact absurd ((hL x).2 ⟨px,by omega,by omega⟩) List.not_mem_nil
 | x :: r,l,day,hc,hd,hr,hs,hL=>by
  obtain⟨hx,hr'⟩:=List.pairwise_cons.1 hr
  obtain⟨px,x2,x3⟩:=(hL x).1 List.mem_cons_self
  have hlt:=px.lt
  rw [List.foldl_cons]
  refine seg_step ho hab (l:=layL (layL l day x.1 0) (max x.1 a) (min x.2.1 b) x.2.2) (day:=x.2.1) ?_ (by omega) hr' (fun y hy=> .inl (pc_lt px ((hL y).1 (List.mem_cons_of_mem _ hy)).1 (hx y hy))) fun y=> ?_
  ·
   have hpos:covP f a (max x.1 a) (layL l day x.1 0):=by
    by_cases h:day<x.1
    ·rw [show min day b=day by omega]at hc
     have:=lay_cov (v:=0) hc (Int.le_of_lt h) fun d d1 d2=>by
      by_cases hz:f d=0
      ·exact hz
      ·obtain⟨y,py,y1,y2,_⟩:=pc_has ho hz
       rcases List.mem_cons.1 ((hL y).2 ⟨py,by omega,by omega⟩)with rfl | hy
       ·omega
       ·have:=hx y hy;omega
     rwa [show max x.1 a=x.1 by omega]
    ·rw [ζ4y (by omega)]
     rcases hs x List.mem_cons_self with h1 | ⟨h1,h2⟩
     ·rw [show max x.1 a=min day b by omega];exact hc
     ·rw [show max x.1 a=min day b by omega];exact hc
   exact lay_cov hpos (by omega) fun d d1 d2=>px.on d (by omega) (by omega)
  ·constructor
   ·intro hy
    obtain⟨py,y2,y3⟩:=(hL y).1 (List.mem_cons_of_mem _ hy)
    have:=pc_lt px py (hx y hy)
    have:=py.lt
    exact⟨py,by omega,y3⟩
   ·rintro⟨py,y2,y3⟩
    rcases List.mem_cons.1 ((hL y).2 ⟨py,by omega,y3⟩)with rfl | hy
    ·omega
    ·exact hy
theorem seg_cov {f:Int→Int} {a b:Int} {L:ItL}(ho:offF f)(hab:a<b)(hr:rise L)(hL: ∀x,x∈L↔pcI f x∧a<x.2.1∧x.1<b):covP f a b (segO a b L):=by
 unfold segO ζ2a
 refine seg_step ho hab (by show covP f a (min a b) [];rw [show min a b=a by omega];exact rfl) (Int.le_refl _) hr (fun x hx=> ?_) hL
 by_cases h:a≤x.1
 ·exact .inl h
 ·exact .inr ⟨by omega,rfl⟩
def TrOk (Q:It→Prop)(l:Nat→ItL):Prop:=∀i,i<4→srt (l i)∧∀y,y∈l i↔y.2.2=0∧(i:Int)*1000000<y.1∧y.1≤((i:Int)+1)*1000000∧∃v,Q (y.1,y.2.1,v)
def MpOk (Q:It→Prop)(m:Int→Option Int):Prop:=∀a v,m a=some v↔∃b,Q (a,b,v)
def SubQ (Q:It→Prop):Prop:=∃g,∀x,Q x→pcI g x
def updL (l:Nat→ItL)(i:Nat)(z:ItL):Nat→ItL:=fun j=>if j=i then z else l j
def updM (m:Int→Option Int)(a:Int)(o:Option Int):Int→Option Int:=fun b=>if b=a then o else m b
theorem updL_self (l:Nat→ItL)(i:Nat)(z:ItL):updL l i z i=z:=by unfold updL;rw [if_pos rfl]
theorem updL_ne (l:Nat→ItL) {i j:Nat}(z:ItL)(h:j≠i):updL l i z j=l j:=by unfold updL;rw [if_neg h]
theorem SubQ.from {Q:It→Prop}(h:SubQ Q) {x y:It}(hx:Q x)(hy:Q y)(e:x.1=y.1):x=y:=by
 obtain⟨g,h⟩:=h;exact pc_from (h x hx) (h y hy) e
section
variable {Q:It→Prop} {l:Nat→ItL} {m:Int→Option Int} {x:It} {i:Nat}
abbrev inShr (i:Nat)(d:Int):Prop:=(i:Int)*1000000<d∧d≤((i:Int)+1)*1000000
theorem TrOk.keep (h:TrOk Q l)(hi:i<4)(hx:inShr i x.1)(hlt:x.1<x.2.1)(hn: ¬((l i).length:Int)=1000000):TrOk (fun y=>Q y∨y=x) (updL l i (insL 1000000 (x.1,x.2.1,0) (l i))):=by
 obtain⟨hs,hm⟩:=h i hi
 intro j hj
 by_cases e:j=i
 ·subst e
  rw [updL_self]
  refine⟨insL_srt hs,fun y=> ?_⟩
  rw [insL_mem hs hn,hm]
  constructor
  ·rintro(⟨h1,h2,h3,v,h4⟩ | ⟨rfl,_⟩)
   ·exact⟨h1,h2,h3,v,.inl h4⟩
   ·exact⟨rfl,hx.1,hx.2,x.2.2,.inr rfl⟩
  ·rintro⟨h1,h2,h3,v,h4 | h4⟩
   ·exact .inl ⟨h1,h2,h3,v,h4⟩
   ·obtain⟨y1,y2,y3⟩:=y
    have h1:y3=0:=h1
    subst h1;subst h4
    exact .inr ⟨rfl,hlt⟩
 ·rw [updL_ne _ _ e]
  refine⟨(h j hj).1,fun y=> ?_⟩
  rw [(h j hj).2]
  constructor
  ·rintro⟨h1,h2,h3,v,h4⟩;exact⟨h1,h2,h3,v,.inl h4⟩
  ·rintro⟨h1,h2,h3,v,h4 | h4⟩
   ·exact⟨h1,h2,h3,v,h4⟩
   ·have:y.1=x.1:=by rw [←h4]
    have:=hx.1;have:=hx.2
    omega
theorem MpOk.keep (h:MpOk Q m)(hf: ∀y,Q y→¬y.1=x.1):MpOk (fun y=>Q y∨y=x) (updM m x.1 (some x.2.2)):=by
 intro a v
 unfold updM
 split
 ·rename_i e
  subst e
  constructor
  ·intro hv
   obtain rfl:=Option.some.inj hv
   exact⟨x.2.1,.inr rfl⟩
  ·rintro⟨b,hb | hb⟩
   ·exact absurd rfl (hf (x.1,b,v) hb)
   ·rw [←hb]
 ·rename_i e
  rw [h a v]
  constructor
  ·rintro⟨b,hb⟩;exact⟨b,.inl hb⟩
  ·rintro⟨b,hb | hb⟩
   ·exact⟨b,hb⟩
   ·exact absurd (by rw [←hb]) e
theorem TrOk.drop (h:TrOk Q l)(hq:SubQ Q)(hi:i<4)(hx:inShr i x.1)(hQ:Q x):TrOk (fun y=>Q y∧¬y=x) (updL l i (delL (x.1,x.2.1,0) (l i))):=by
 obtain⟨hs,hm⟩:=h i hi
 intro j hj
 by_cases e:j=i
 ·subst e
  rw [updL_self]
  refine⟨delL_srt hs,fun y=> ?_⟩
  rw [delL_mem hs,hm]
  constructor
  ·rintro⟨⟨h1,h2,h3,v,h4⟩,h5⟩
   refine⟨h1,h2,h3,v,h4,fun e=>h5 ?_⟩
   obtain⟨y1,y2,y3⟩:=y
   have h1:y3=0:=h1
   subst h1;subst e;rfl
  ·rintro⟨h1,h2,h3,v,h4,h5⟩
   exact⟨⟨h1,h2,h3,v,h4⟩,fun e=>h5 (hq.from h4 hQ (by show y.1=x.1;rw [e]))⟩
 ·rw [updL_ne _ _ e]
  refine⟨(h j hj).1,fun y=> ?_⟩
  rw [(h j hj).2]
  constructor
  ·rintro⟨h1,h2,h3,v,h4⟩
   refine⟨h1,h2,h3,v,h4,fun h5=> ?_⟩
   have:y.1=x.1:=by rw [←h5]
   have:=hx.1;have:=hx.2
   omega
  ·rintro⟨h1,h2,h3,v,h4,_⟩;exact⟨h1,h2,h3,v,h4⟩
theorem MpOk.drop (h:MpOk Q m)(hq:SubQ Q)(hQ:Q x):MpOk (fun y=>Q y∧¬y=x) (updM m x.1 none):=by
 intro a v
 unfold updM
 split
 ·rename_i e
  subst e
  constructor
  ·intro h;cases h
  ·rintro⟨b,hb,hn⟩
   exact absurd (hq.from hb hQ rfl) hn
 ·rename_i e
  rw [h a v]
  constructor
  ·rintro⟨b,hb⟩;exact⟨b,hb,fun h=>e (by rw [←h])⟩
  ·rintro⟨b,hb,_⟩;exact⟨b,hb⟩
theorem TrOk.congr {Q':It→Prop}(h:TrOk Q l)(e: ∀x,Q x↔Q' x):TrOk Q' l:=by
 have:Q=Q':=funext fun x=>propext (e x)
 rwa [←this]
theorem MpOk.congr {Q':It→Prop}(h:MpOk Q m)(e: ∀x,Q x↔Q' x):MpOk Q' m:=by
 have:Q=Q':=funext fun x=>propext (e x)
 rwa [←this]
theorem tr_none:TrOk (pcI fun _=>0) (fun _=> []):=fun i hi=>⟨List.Pairwise.nil,fun y=>⟨fun h=>(by cases h),fun⟨_,_,_,v,h⟩=>absurd (h.on _ (Int.le_refl _) h.lt).symm h.nz⟩⟩
theorem mp_none:MpOk (pcI fun _=>0) (fun _=>none):=fun a v=>⟨fun h=>(by cases h),fun⟨_,h⟩=>absurd (h.on _ (Int.le_refl _) h.lt).symm h.nz⟩
theorem shr_lt {d:Int}(h1:1≤d)(h2:d≤3652059): ∃i,i<4∧inShr i d∧(d-1) / 1000000=(i:Int):=by
 refine⟨((d-1) / 1000000).toNat,by omega,⟨by omega,by omega⟩,by omega⟩
def valM (m:Int→Option Int)(a:Int):Int:=(m a).getD 0
def pcsT (m:Int→Option Int)(a b:Int)(z:ItL):ItL:=(z.filter (overB a b)).map fun y=>(y.1,y.2.1,valM m y.1)
def pcsK (m:Int→Option Int)(a b:Int)(l:Nat→ItL):Nat→ItL
 | 0=> []
 | k+1=>pcsK m a b l k++pcsT m a b (l k)
theorem pcsT_mem (h:TrOk Q l)(hm:MpOk Q m)(hi:i<4) {a b:Int} :x∈pcsT m a b (l i)↔Q x∧inShr i x.1∧overB a b x=true:=by
 unfold pcsT
 rw [List.mem_map]
 constructor
 ·rintro⟨y,hy,rfl⟩
  obtain⟨hy,ho⟩:=List.mem_filter.1 hy
  obtain⟨h1,h2,h3,v,h4⟩:=((h i hi).2 y).1 hy
  have hv:valM m y.1=v:=by unfold valM;rw [(hm y.1 v).2 ⟨_,h4⟩];rfl
  exact⟨by rw [hv];exact h4,⟨h2,h3⟩,ho⟩
 ·rintro⟨hq,hs,ho⟩
  refine⟨(x.1,x.2.1,0),List.mem_filter.2 ⟨((h i hi).2 _).2 ⟨rfl,hs.1,hs.2,x.2.2,hq⟩,ho⟩,?_⟩
  have hv:valM m x.1=x.2.2:=by unfold valM;rw [(hm x.1 x.2.2).2 ⟨_,hq⟩];rfl
  show (x.1,x.2.1,valM m x.1)=x
  rw [hv]
theorem pcsT_rise (h:TrOk Q l)(hq:SubQ Q)(hi:i<4) {a b:Int} :rise (pcsT m a b (l i)):=by
 unfold pcsT rise
 rw [List.pairwise_map]
 refine((h i hi).1.filter _).imp_of_mem fun {x y} hx hy hl=> ?_
 obtain⟨x1,_,_,v,x4⟩:=((h i hi).2 x).1 (List.mem_filter.1 hx).1
 obtain⟨y1,_,_,u,y4⟩:=((h i hi).2 y).1 (List.mem_filter.1 hy).1
 rcases Int.lt_trichotomy x.1 y.1 with e | e | e
 ·exact e
 ·have:=hq.from x4 y4 e
  have e2:x.2.1=y.2.1:=by injection this with _ h;injection h
  have:x=y:=Prod.ext e (Prod.ext e2 (by rw [x1,y1]))
  subst this
  rw [ζe]at hl;cases hl
 ·rw [lessB_iff]at hl
  show x.1<y.1
  omega
theorem pcsK_mem (h:TrOk Q l)(hm:MpOk Q m)(hq:SubQ Q) {a b:Int} : ∀k,k≤4→rise (pcsK m a b l k)∧∀x,x∈pcsK m a b l k↔Q x∧x.1≤(k:Int)*1000000∧overB a b x=true
 | 0,_=>⟨List.Pairwise.nil,fun x=>⟨fun h=>(by cases h),fun⟨h1,h2,_⟩=>(by
   obtain⟨g,hg⟩:=hq
   have:=(hg x h1).lo;omega)⟩⟩
 | k+1,hk=>by
  obtain⟨i1,i2⟩:=pcsK_mem h hm hq (a:=a) (b:=b) k (by omega)
  refine⟨List.pairwise_append.2 ⟨i1,pcsT_rise h hq (by omega),fun x hx y hy=> ?_⟩,fun x=> ?_⟩
  ·have:=((i2 x).1 hx).2.1
   have:=((pcsT_mem h hm (by omega)).1 hy).2.1.1
   omega
  ·show x∈pcsK m a b l k++pcsT m a b (l k)↔_
   rw [List.mem_append,i2,pcsT_mem h hm (by omega)]
   constructor
   ·rintro(⟨h1,h2,h3⟩ | ⟨h1,h2,h3⟩)
    ·exact⟨h1,by omega,h3⟩
    ·exact⟨h1,by have:=h2.2;omega,h3⟩
   ·rintro⟨h1,h2,h3⟩
    by_cases e:x.1≤(k:Int)*1000000
    ·exact .inl ⟨h1,e,h3⟩
    ·exact .inr ⟨h1,⟨by omega,by omega⟩,h3⟩
theorem over_iff {a b:Int} {x:It} :overB a b x=true↔a<b∧x.1<b∧a<x.2.1:=by
 unfold overB;rw [Bool.and_eq_true,Bool.and_eq_true,decide_eq_true_iff,decide_eq_true_iff,decide_eq_true_iff]
theorem pcs_all (h:TrOk Q l)(hm:MpOk Q m)(hq:SubQ Q)(a b:Int):rise (pcsK m a b l 4)∧∀x,x∈pcsK m a b l 4↔Q x∧a<b∧x.1<b∧a<x.2.1:=by
 obtain⟨h1,h2⟩:=pcsK_mem h hm hq (a:=a) (b:=b) 4 (Nat.le_refl _)
 refine⟨h1,fun x=> ?_⟩
 rw [h2,over_iff]
 constructor
 ·rintro⟨a1,_,a2⟩;exact⟨a1,a2⟩
 ·rintro⟨a1,a2⟩
  obtain⟨g,hg⟩:=hq
  have:=(hg x a1).hi;have:=(hg x a1).lt
  exact⟨a1,by omega,a2⟩
theorem ζ4c (m:Int→Option Int)(a b:Int)(l:Nat→ItL)(n:Nat)(h: ∀i,i<4→(l i).length≤n): ∀k,k≤4→(pcsK m a b l k).length≤k*n
 | 0,_=>by simp [pcsK]
 | k+1,hk=>by
  have h1:=ζ4c m a b l n h k (by omega)
  have h2:=h k (by omega)
  have h3:=List.length_filter_le (overB a b) (l k)
  show (pcsK m a b l k++pcsT m a b (l k)).length≤_
  rw [List.length_append,Nat.add_mul]
  unfold pcsT
  rw [List.length_map]
  omega
end
def cntK (l:Nat→ItL):Nat→Nat
 | 0=>0
 | k+1=>cntK l k+(l k).length
theorem off0 {f:Int→Int}(h:offF f):f 0=0∧f 3652060=0:=⟨h 0 (by omega),h 3652060 (by omega)⟩
theorem cnt_all {f:Int→Int} {l:Nat→ItL} {m:Int→Option Int} {out:ItL}(h:TrOk (pcI f) l)(hm:MpOk (pcI f) m)(ho:offF f)(hs:segF f 1 3652060 out):cntK l 4=cntV out:=by
 have hc:covP f 1 3652060 out:=by unfold segF at hs;rwa [if_pos (by decide)]at hs
 obtain⟨z0,zE⟩:=off0 ho
 have hq:SubQ (pcI f):=⟨f,fun _ h=>h⟩
 have key:=cov_pc hc (by omega) (by omega) (by
  by_cases e:f 1=0
  ·exact .inl e
  ·exact .inr (by rw [show (1:Int)-1=0 by omega,z0];exact fun h=>e h.symm)) (by
  by_cases e:f (3652060-1)=0
  ·exact .inl e
  ·exact .inr (by rw [zE];exact fun h=>e h.symm))
 obtain⟨r,hmem⟩:=pcs_all h hm hq 0 3652061
 have e:pcsK m 0 3652061 l 4=out.filter fun y=>decide (¬y.2.2=0):=by
  refine rise_one r ((cov_rise hc).filter _) fun x=> ?_
  rw [hmem,List.mem_filter,decide_eq_true_iff,key x]
  constructor
  ·rintro⟨p,_⟩;exact⟨p,p.lo,p.hi⟩
  ·rintro⟨p,_⟩
   have:=p.lo;have:=p.lt;have:=p.hi
   exact⟨p,by omega,by omega,by omega⟩
 have len: ∀k,k≤4→(pcsK m 0 3652061 l k).length=cntK l k:=by
  intro k
  induction k with
  | zero=>intro _;rfl
  | succ k ih=>
   intro hk
   show (pcsK m 0 3652061 l k++pcsT m 0 3652061 (l k)).length=cntK l k+(l k).length
   rw [List.length_append,ih (by omega)]
   unfold pcsT
   rw [List.length_map,List.filter_eq_self.2 fun y hy=> ?_]
   obtain⟨_,_,_,v,p⟩:=((h k (by omega)).2 y).1 hy
   have:=p.lo;have:=p.lt;have:=p.hi
   exact over_iff.2 ⟨by omega,by simp only at *;omega,by simp only at *;omega⟩
 unfold cntV
 rw [←e,len 4 (Nat.le_refl _)]
abbrev lastF (d:Int)(z:ItL):Option It:=z.reverse.find? (fun y=>decide (y.1≤d))
theorem last_some {d:Int} {z:ItL} {y:It}(hs:srt z)(h:lastF d z=some y):y∈z∧y.1≤d∧∀x∈z,x.1≤d→x.1≤y.1:=by
 obtain⟨hy,us,bs,e,hn⟩:=List.find?_eq_some_iff_append.1 h
 have e2:z=bs.reverse++y :: us.reverse:=by
  have:=congrArg List.reverse e
  simpa using this
 have hd:y.1≤d:=by simpa using hy
 refine⟨by rw [e2];simp,hd,fun x hx hxd=> ?_⟩
 rw [e2]at hx hs
 rcases List.mem_append.1 hx with hx | hx
 ·have:=(List.pairwise_append.1 hs).2.2 x hx y List.mem_cons_self
  rw [lessB_iff]at this
  omega
 ·rcases List.mem_cons.1 hx with rfl | hx
  ·omega
  ·have:=hn x (by simpa using hx)
   have: ¬x.1≤d:=by simpa using this
   omega
theorem last_none {d:Int} {z:ItL}(h:lastF d z=none): ∀x∈z,d<x.1:=by
 intro x hx
 have:=List.find?_eq_none.1 h x (by simpa using hx)
 have: ¬x.1≤d:=by simpa using this
 omega
section
variable {f:Int→Int} {l:Nat→ItL} {m:Int→Option Int}
theorem at_tree (h:TrOk (pcI f) l)(ho:offF f) {d:Int}(hz: ¬f d=0): ∃i x,i<4∧pcI f x∧x.1≤d∧d<x.2.1∧inShr i x.1∧(x.1,x.2.1,0)∈l i∧x.2.2=f d:=by
 obtain⟨x,p,x1,x2,x3⟩:=pc_has ho hz
 obtain⟨i,hi,hs,_⟩:=shr_lt p.lo (by have:=p.lt;have:=p.hi;omega)
 exact⟨i,x,hi,p,x1,x2,hs,((h i hi).2 _).2 ⟨rfl,hs.1,hs.2,_,p⟩,x3⟩
theorem at_zero (h:TrOk (pcI f) l)(ho:offF f) {d:Int}(hn: ∀j,j<4→lastF d (l j)=none):f d=0:=by
 by_cases hz:f d=0
 ·exact hz
 ·obtain⟨i,x,hi,p,x1,x2,hs,hx,_⟩:=at_tree h ho hz
  have:=last_none (hn i hi) _ hx
  have:d<x.1:=this
  omega
theorem at_last (h:TrOk (pcI f) l)(hm:MpOk (pcI f) m)(ho:offF f) {d:Int} {i:Nat} {y:It}(hi:i<4)(hy:lastF d (l i)=some y)(hn: ∀j,i<j→j<4→lastF d (l j)=none):
  ∃v,m y.1=some v∧f d=if y.2.1≤d then 0 else v:=by
 obtain⟨y1,y2,y3⟩:=last_some (h i hi).1 hy
 obtain⟨z1,z2,z3,v,py⟩:=((h i hi).2 y).1 y1
 refine⟨v,(hm _ _).2 ⟨_,py⟩,?_⟩
 split
 ·rename_i hd
  by_cases hz:f d=0
  ·exact hz
  ·obtain⟨j,x,hj,p,x1,x2,hs,hx,_⟩:=at_tree h ho hz
   have hle:x.1≤y.1:=by
    rcases Nat.lt_trichotomy i j with e | e | e
    ·have:=last_none (hn j e hj) _ hx
     have:d<x.1:=this
     omega
    ·subst e
     exact y3 (x.1,x.2.1,0) hx x1
    ·have:=hs.2;omega
   have:=py.lt
   have e:=pc_one p py (by simp only at *;omega) (by simp only at *;omega)
   rw [e]at x2
   simp only at x2
   omega
 ·exact py.on d y2 (by simp only at *;omega)
end
theorem ins_take {M:Int} {z:ItL}(hs:srt z)(ho: ∀x∈z,okI x) {k:Nat} {x:It}(hk:z[k]? =some x)(hM:(z.length:Int)≤M):insL M x (z.take k)=z.take (k+1):=by
 have hkl:=(List.getElem?_eq_some_iff.1 hk).1
 have hs1:srt (z.take k):=hs.sublist (List.take_sublist _ _)
 refine srt_one (insL_srt hs1) (hs.sublist (List.take_sublist _ _)) fun y=> ?_
 rw [insL_mem hs1 (by rw [List.length_take];omega),List.take_add_one,hk,List.mem_append]
 constructor
 ·rintro(h | ⟨rfl,_⟩)
  ·exact .inl h
  ·exact .inr (by simp)
 ·rintro(h | h)
  ·exact .inl h
  ·obtain rfl:y=x:=by simpa using h
   exact .inr ⟨rfl,ho y (List.mem_of_getElem? hk)⟩
abbrev HdL:=List (Int × Int × Nat)
def mkH (t:Int × Int × Nat):MapEntry:= { key:= .int .i64 t.1,val:= .agg #[.int .i64 t.2.1],born:=t.2.2 }
structure MpR (w:World)(b:Nat)(T:HdL)(c:Nat):Prop where
 at_:w.heap[b]? =some (.map (T.map mkH).toArray c)
 keys:(T.map (·.1)).Nodup
 born:(T.map (·.2.2)).Nodup
 low: ∀t∈T,t.2.2<c
def MapI (w:World)(b:Nat)(m:Int→Option Int):Prop:=∃T c,MpR w b T c∧∀a v,m a=some v↔∃n,(a,v,n)∈T
theorem MapI.lt {w:World} {b:Nat} {m:Int→Option Int}(h:MapI w b m):b<w.heap.size:=by
 obtain⟨T,c,h,_⟩:=h
 exact(Array.getElem?_eq_some_iff.1 h.at_).1
theorem MapI.of_eq {w w':World} {b:Nat} {m:Int→Option Int}(h:MapI w b m)(e:w'.heap[b]? =w.heap[b]?):MapI w' b m:=by
 obtain⟨T,c,h,k⟩:=h
 exact⟨T,c,⟨e.trans h.at_,h.keys,h.born,h.low⟩,k⟩
theorem MapI.off {w w':World} {b:Nat} {m:Int→Option Int} {F:Nat→Prop}(h:MapI w b m)(o:Off F w w')(hn: ¬F b):MapI w' b m:=h.of_eq (o.block b h.lt hn)
theorem MapI.made (w:World):MapI (w.alloc (.map #[] 0)) w.heap.size (fun _=>none):=
 ⟨[],0,⟨ζw w _,by simp,by simp,fun _ h=>by cases h⟩,fun a v=>⟨fun h=>(by cases h),fun⟨_,h⟩=>by cases h⟩⟩
def findT (a:Int):HdL→Nat→Option (Nat × Value)
 | [],_=>none
 | t :: r,i=>if a=t.1 then some (i,.agg #[.int .i64 t.2.1])else findT a r (i+1)
theorem find_now (a:Int): ∀(T:HdL) (i:Nat),Instr.findNow (.int .i64) (.int .i64 a) (T.map mkH) i=some (findT a T i)
 | [],_=>rfl
 | t :: r,i=>by
  rw [List.map_cons]
  unfold Instr.findNow findT
  have:Instr.sameNow (.int .i64) (.int .i64 a) (mkH t).key=some (a == t.1):=by
   show (if IntKind.i64=IntKind.i64 then some (a == t.1)else none)=_
   rw [if_pos rfl]
  rw [this]
  by_cases e:a=t.1
  ·rw [if_pos e,show (a == t.1)=true from beq_iff_eq.2 e];rfl
  ·rw [if_neg e,show (a == t.1)=false from beq_eq_false_iff_ne.2 e]
   exact find_now a r (i+1)
theorem ζ4g {a:Int} : ∀ {T:HdL} {i:Nat},findT a T i=none→∀t∈T,¬t.1=a
 | [],_,_=>fun _ h=>by cases h
 | t :: r,i,h=>by
  unfold findT at h
  split at h
  ·cases h
  ·rename_i e
   intro u hu
   rcases List.mem_cons.1 hu with rfl | hu
   ·exact fun h=>e h.symm
   ·exact ζ4g h u hu
theorem ζ31 {a:Int} {j:Nat} {v:Value} : ∀ {T:HdL} {i:Nat},findT a T i=some (j,v)→∃t,T[j-i]? =some t∧i≤j∧t.1=a∧v= .agg #[.int .i64 t.2.1]
 | [],_,h=>by cases h
 | t :: r,i,h=>by
  unfold findT at h
  split at h
  ·rename_i e
   simp only [Option.some.injEq,Prod.mk.injEq]at h
   obtain⟨rfl,rfl⟩:=h
   exact⟨t,by simp,Nat.le_refl _,e.symm,rfl⟩
  ·obtain⟨u,h1,h2,h3,h4⟩:=ζ31 h
   refine⟨u,?_,by omega,h3,h4⟩
   rw [show j-i=(j-(i+1))+1 by omega,List.getElem?_cons_succ]
   exact h1
theorem nodup_eq {T:HdL}(h:(T.map (·.1)).Nodup) {t u:Int × Int × Nat}(ht:t∈T)(hu:u∈T)(e:t.1=u.1):t=u:=by
 induction T with
 | nil=>cases ht
 | cons s r ih=>
  rw [List.map_cons,List.nodup_cons]at h
  rcases List.mem_cons.1 ht with h1 | ht
  ·rcases List.mem_cons.1 hu with h2 | hu
   ·rw [h1,h2]
   ·exact absurd (List.mem_map.2 ⟨u,hu,by rw [←e,h1]⟩) h.1
  ·rcases List.mem_cons.1 hu with h2 | hu
   ·exact absurd (List.mem_map.2 ⟨t,ht,by rw [e,h2]⟩) h.1
   ·exact ih h.2 ht hu
theorem born_one {T:HdL}(h:(T.map (·.2.2)).Nodup) {a v b u:Int} {n:Nat}(ht:(a,v,n)∈T)(hu:(b,u,n)∈T):a=b:=by
 induction T with
 | nil=>cases ht
 | cons s r ih=>
  rw [List.map_cons,List.nodup_cons]at h
  rcases List.mem_cons.1 ht with h1 | ht
  ·rcases List.mem_cons.1 hu with h2 | hu
   ·rw [←h1]at h2
    injection h2 with h2 _
    exact h2.symm
   ·exact absurd (List.mem_map.2 ⟨_,hu,by rw [←h1]⟩) h.1
  ·rcases List.mem_cons.1 hu with h2 | hu
   ·exact absurd (List.mem_map.2 ⟨_,ht,by rw [←h2]⟩) h.1
   ·exact ih h.2 ht hu
theorem off_set {w:World} {b:Nat} {es:Array MapEntry} {c:Nat} {o':Obj}(h:w.heap[b]? =some (.map es c)):Off (· =b) w (ChangeMaps.setBlock w b o'):=by
 refine⟨rfl,rfl,rfl,by simp [ChangeMaps.setBlock],fun k hk hn=> ?_⟩
 exact ChangeMaps.heap_setBlock_other h _ hn
end Corr
namespace Go.Proofs.YthagdonmijhpdaaGreat
open Go.RowKit Corr
section
variable {w:World} {b:Nat} {m:Int→Option Int}
theorem ζ2p (em:Bool)(a:Int)(w:World):(Instr.checkKey em 10000 3 (.int .i64 a)).run Tryz.prog w= .ok () w:=by
 kernel_rfl
theorem find_int (a:Int)(T:HdL)(w:World):(Instr.findKey 3 (.int .i64 a) (T.map mkH)).run Tryz.prog w= .ok (findT a T 0) w:=by
 unfold Instr.findKey
 simp only [Sem.run_bind,run_underlying Tryz.underlying3,Result.andThen_ok,find_now,Sem.run_pure]
theorem look_int (a:Int)(h:MapI w b m):(Instr.lookup 116 (.map (some b)) (.int .i64 a) false).run Tryz.prog w= .ok (.agg #[.int .i64 (valM m a)]) w:=by
 obtain⟨T,c,h,k⟩:=h
 have hc:=ζ2p (T.map mkH).toArray.isEmpty a w
 have hf:=find_int a T w
 have hz:(zeroValue 143).run Tryz.prog w= .ok (.agg #[.int .i64 0]) w:=by kernel_rfl
 unfold Instr.lookup
 simp only [Sem.run_bind,run_underlying Tryz.underlying116,Result.andThen_ok,MapKept.run_getObj_map h.at_,hc,Sem.run_pure]
 rw [hf]
 cases e:findT a T 0 with
 | none=>
  have:m a=none:=by
   cases e2:m a with
   | none=>rfl
   | some v=>
    obtain⟨n,hn⟩:=(k a v).1 e2
    exact absurd rfl (ζ4g e _ hn)
  unfold valM
  rw [this]
  simp [hz]
 | some x=>
  obtain⟨j,v⟩:=x
  obtain⟨t,h1,h2,h3,h4⟩:=ζ31 e
  have:m a=some t.2.1:=(k a _).2 ⟨t.2.2,by rw [←h3];exact List.mem_of_getElem? h1⟩
  unfold valM
  rw [this,h4]
  simp
theorem upd_int (a v:Int)(h:MapI w b m)(hn:m a=none): ∃o,(Instr.mapUpdate 116 (.map (some b)) (.int .i64 a) (.agg #[.int .i64 v])).run Tryz.prog w= .ok () (ChangeMaps.setBlock w b o)∧MapI (ChangeMaps.setBlock w b o) b (updM m a (some v))∧Off (· =b) w (ChangeMaps.setBlock w b o):=by
 obtain⟨T,c,h,k⟩:=h
 have hc:=ζ2p false a w
 have hf:=find_int a T w
 have ha: ∀t∈T,¬t.1=a:=fun t ht e=>by
  have:=(k t.1 t.2.1).2 ⟨t.2.2,ht⟩
  rw [e,hn]at this
  cases this
 have e:findT a T 0=none:=by
  cases e:findT a T 0 with
  | none=>rfl
  | some x=>
   obtain⟨j,v⟩:=x
   obtain⟨t,h1,h2,h3,h4⟩:=ζ31 e
   exact absurd h3 (ha t (List.mem_of_getElem? h1))
 rw [e]at hf
 refine⟨.map ((T++ [(a,v,c)]).map mkH).toArray (c+1),?_,⟨T++ [(a,v,c)],c+1,⟨ChangeMaps.heap_setBlock_same h.at_ _,?_,?_,?_⟩,?_⟩,off_set h.at_⟩
 ·unfold Instr.mapUpdate
  simp only [Sem.run_bind,run_underlying Tryz.underlying116,Result.andThen_ok,MapKept.run_getObj_map h.at_,hc,hf,MapKept.run_setObj_map _ h.at_,ChangeMaps.setBlock]
  simp [mkH]
 ·rw [List.map_append,List.nodup_append]
  refine⟨h.keys,by simp,fun x hx y hy=> ?_⟩
  obtain rfl:y=a:=by simpa using hy
  obtain⟨t,ht,rfl⟩:=List.mem_map.1 hx
  exact ha t ht
 ·rw [List.map_append,List.nodup_append]
  refine⟨h.born,by simp,fun x hx y hy=> ?_⟩
  obtain rfl:y=c:=by simpa using hy
  obtain⟨t,ht,rfl⟩:=List.mem_map.1 hx
  have:=h.low t ht
  show ¬t.2.2=y
  omega
 ·intro t ht
  rcases List.mem_append.1 ht with ht | ht
  ·have:=h.low t ht;omega
  ·obtain rfl:t=(a,v,c):=by simpa using ht
   exact Nat.lt_succ_self _
 ·intro x y
  unfold updM
  split
  ·rename_i e
   subst e
   constructor
   ·intro hv
    obtain rfl:=Option.some.inj hv
    exact⟨c,by simp⟩
   ·rintro⟨n,hn⟩
    rcases List.mem_append.1 hn with hn | hn
    ·exact absurd rfl (ha _ hn)
    ·have:y=v∧n=c:=by simpa using hn
     rw [this.1]
  ·rename_i e
   rw [k x y]
   constructor
   ·rintro⟨n,hn⟩;exact⟨n,List.mem_append_left _ hn⟩
   ·rintro⟨n,hn⟩
    rcases List.mem_append.1 hn with hn | hn
    ·exact⟨n,hn⟩
    ·have:x=a∧y=v∧n=c:=by simpa using hn
     exact absurd this.1 e
theorem del_int (a v:Int)(ty:TypeId)(h:MapI w b m)(hs:m a=some v): ∃o,(Builtin.delete_ #[116,3] ty #[.map (some b),.int .i64 a]).run Tryz.prog w= .ok (.tuple #[]) (ChangeMaps.setBlock w b o)∧MapI (ChangeMaps.setBlock w b o) b (updM m a none)∧Off (· =b) w (ChangeMaps.setBlock w b o):=by
 obtain⟨T,c,h,k⟩:=h
 have hc:=ζ2p (T.map mkH).toArray.isEmpty a w
 have hf:=find_int a T w
 obtain⟨n,hn⟩:=(k a v).1 hs
 obtain⟨j,t,e,h1,h3⟩: ∃j t,findT a T 0=some (j,.agg #[.int .i64 t.2.1])∧T[j]? =some t∧t.1=a:=by
  cases e:findT a T 0 with
  | none=>exact absurd rfl (ζ4g e _ hn)
  | some x=>
   obtain⟨j,v⟩:=x
   obtain⟨t,h1,h2,h3,h4⟩:=ζ31 e
   exact⟨j,t,by rw [h4],h1,h3⟩
 rw [e]at hf
 have hj:j<T.length:=(List.getElem?_eq_some_iff.1 h1).1
 have hmem: ∀u,u∈T.eraseIdx j↔u∈T∧¬u.1=a:=by
  intro u
  constructor
  ·intro hu
   obtain⟨i,hne,hi⟩:=List.mem_eraseIdx_iff_getElem?.1 hu
   refine⟨List.mem_of_getElem? hi,fun e=> ?_⟩
   have:=nodup_eq h.keys (List.mem_of_getElem? hi) (List.mem_of_getElem? h1) (by rw [e,h3])
   subst this
   have hk:=h.keys
   have hij:(T.map (·.1))[i]? =(T.map (·.1))[j]? :=by rw [List.getElem?_map,List.getElem?_map,hi,h1]
   have hil:i<(T.map (·.1)).length:=by rw [List.length_map];exact(List.getElem?_eq_some_iff.1 hi).1
   exact hne ((List.getElem?_inj hil hk).1 hij)
  ·rintro⟨hu,hne⟩
   obtain⟨i,hi⟩:=List.mem_iff_getElem?.1 hu
   refine List.mem_eraseIdx_iff_getElem?.2 ⟨i,fun e=> ?_,hi⟩
   subst e
   rw [h1]at hi
   obtain rfl:=Option.some.inj hi
   exact hne h3
 refine⟨.map ((T.eraseIdx j).map mkH).toArray c,?_,⟨T.eraseIdx j,c,⟨ChangeMaps.heap_setBlock_same h.at_ _,h.keys.sublist ((List.eraseIdx_sublist _ _).map _),h.born.sublist ((List.eraseIdx_sublist _ _).map _),fun t ht=>h.low t ((hmem t).1 ht).1⟩,?_⟩,off_set h.at_⟩
 ·have hsub:((T.map mkH).toArray.eraseIdxIfInBounds j)=((T.eraseIdx j).map mkH).toArray:=by
   unfold Array.eraseIdxIfInBounds
   rw [dif_pos (by simpa using hj)]
   apply Array.toList_inj.1
   show ((T.map mkH).toArray.eraseIdx j _).toList=(T.eraseIdx j).map mkH
   rw [ChangeMaps.map_eraseIdx]
   simp
  unfold Builtin.delete_
  simp only [Sem.run_bind,run_underlying Tryz.underlying116,Result.andThen_ok,MapKept.run_getObj_map h.at_,hc,hf,MapKept.run_setObj_map _ h.at_,ChangeMaps.setBlock,List.getElem?_toArray,List.getElem?_cons_zero,List.getElem?_cons_succ,hsub,Sem.run_pure]
 ·intro x y
  unfold updM
  split
  ·rename_i e
   subst e
   constructor
   ·intro h;cases h
   ·rintro⟨n,hn⟩
    exact absurd rfl ((hmem _).1 hn).2
  ·rename_i e
   rw [k x y]
   constructor
   ·rintro⟨n,hn⟩;exact⟨n,(hmem _).2 ⟨hn,e⟩⟩
   ·rintro⟨n,hn⟩;exact⟨n,((hmem _).1 hn).1⟩
end
theorem wpl_mapput {w:World} {b:Nat} {m:Int→Option Int} {ops:Array Oper} {rest:List Oper} {o:Oper} {a:Act} {Q:Exit→Act→World→Prop}(hg:o.guard=none)(mo x v:Operand)(hop:o.op=Op.mapUpdate 116 mo x v)(k z:Int)
  (hm:a.eval mo= .map (some b)) (h:MapI w b m) (hn:m k=none) (hx:a.eval x= .int .i64 k) (hv:a.eval v= .agg #[.int .i64 z])
  (hK: ∀w',MapI w' b (updM m k (some z))→Off (· =b) w w'→w'.heap.size=w.heap.size→wpList Tryz.prog ops Q rest (a.put o.dst undef) w'):wpList Tryz.prog ops Q (o :: rest) a w:=by
 refine wpList_plain hg fun K' hK'=> ?_
 obtain⟨ob,hrun,h1,h2⟩:=upd_int k z h hn
 unfold Oper.wp
 simp only [execOp,hop,hm,hx,hv,Sem.run_bind,hrun,Result.andThen]
 exact hK' _ _ (hK _ h1 h2 (by simp [ChangeMaps.setBlock]))
theorem wpl_mapdel {w:World} {b:Nat} {m:Int→Option Int} {ops:Array Oper} {rest:List Oper} {o:Oper} {a:Act} {Q:Exit→Act→World→Prop}(hg:o.guard=none)(mo x:Operand)
  (hop:o.op=Op.call { callee:=Callee.builtin Builtin.delete,args:= #[mo,x],argTypes:= #[116,3] }) (k z:Int)
  (hm:a.eval mo= .map (some b)) (h:MapI w b m) (hn:m k=some z) (hx:a.eval x= .int .i64 k)
  (hK: ∀w',MapI w' b (updM m k none)→Off (· =b) w w'→w'.heap.size=w.heap.size→wpList Tryz.prog ops Q rest (a.put o.dst (.tuple #[])) w'):wpList Tryz.prog ops Q (o :: rest) a w:=by
 refine wpList_plain hg fun K' hK'=> ?_
 obtain⟨ob,hrun,h1,h2⟩:=del_int k z o.type h hn
 unfold Oper.wp
 simp [execOp,hop,resolve,invoke,builtin,hm,hx,hrun,Result.andThen]
 exact hK' _ _ (hK _ h1 h2 (by simp [ChangeMaps.setBlock]))
structure RngI (w:World)(b r:Nat)(T:HdL)(c:Nat)(seen:Array Nat):Prop where
 mp:MpR w b T c
 it:w.heap[r]? =some (.mapIter (some b) c seen c)
def cameT (seen:Array Nat)(t:Int × Int × Nat):Prop:=seen.contains t.2.2=true
theorem wpl_maprange {w:World} {b:Nat} {T:HdL} {c:Nat} {ops:Array Oper} {rest:List Oper} {o:Oper} {a:Act} {Q:Exit→Act→World→Prop}(hg:o.guard=none)(mo:Operand)(hop:o.op=Op.range 116 mo)
  (hm:a.eval mo= .map (some b)) (h:MpR w b T c) (hK:RngI (w.alloc (.mapIter (some b) c #[] c)) b w.heap.size T c #[]→wpList Tryz.prog ops Q rest (a.put o.dst (.pointer (some ⟨w.heap.size,0,none⟩))) (w.alloc (.mapIter (some b) c #[] c))):wpList Tryz.prog ops Q (o :: rest) a w:=by
 refine wpList_plain hg fun K' hK'=> ?_
 have hrun:=run_range_map w 116 3 143 b _ c Tryz.underlying116 h.at_
 unfold Oper.wp
 simp [execOp,hop,hm,hrun,Result.andThen]
 exact hK' _ _ (hK ⟨⟨(Below.heap_alloc w _ b (Array.getElem?_eq_some_iff.1 h.at_).1).trans h.at_,h.keys,h.born,h.low⟩,ζw w _⟩)
theorem wpl_mapnext {w:World} {b r:Nat} {T:HdL} {c:Nat} {seen:Array Nat} {ops:Array Oper} {rest:List Oper} {o:Oper} {a:Act} {Q:Exit→Act→World→Prop}(hg:o.guard=none)(it:Operand)(hop:o.op=Op.next it false)(hit:a.eval it= .pointer (some ⟨r,0,none⟩))
  (h:RngI w b r T c seen)
  (hDone:(∀t∈T,seen.contains t.2.2=true)→wpList Tryz.prog ops Q rest (a.put o.dst (.tuple #[.bool false])) w)
  (hMore: ∀(x v:Int) (n:Nat) (w':World),(x,v,n)∈T→seen.contains n=false→RngI w' b r T c (seen.push n)→w'.rangeLeft b r<w.rangeLeft b r→Off (· =r) w w'→w'.heap.size=w.heap.size→
   (Instr.entry (.pointer (some ⟨r,0,none⟩))).run Tryz.prog w'= .ok (.tuple #[.int .i64 x,.agg #[.int .i64 v]]) w'→
   wpList Tryz.prog ops Q rest (a.put o.dst (.tuple #[.bool true,.int .i64 x,.agg #[.int .i64 v]])) w'):wpList Tryz.prog ops Q (o :: rest) a w:=by
 refine wpList_plain hg fun K' hK'=> ?_
 obtain⟨hm,hr⟩:=h
 have hb:=hm.at_
 have hne:b≠r:=fun e=>by rw [e,hr]at hb;cases hb
 unfold Oper.wp
 rcases run_next_at (P:=Tryz.prog) w o.type r b c c seen _ c hr hb (fun x hx=>by
   obtain⟨t,ht,rfl⟩:=List.mem_map.1 (show x∈T.map mkH by simpa using hx)
   exact hm.low t ht) (Nat.le_refl _)with⟨h0,hrun⟩ | ⟨e,he,w1,hal,hrun⟩
 ·simp [execOp,hop,hit,hrun,Result.andThen]
  exact hK' _ _ (hDone fun t ht=>all_seen _ _ h0 (mkH t) (by simpa using⟨t.1,t.2.1,t.2.2,ht,rfl⟩))
 ·simp [execOp,hop,hit,hrun,Result.andThen]
  obtain⟨hem,hes⟩:=mem_left he
  have hsh:=left_shrinks _ seen e he
  obtain⟨⟨x,v,n⟩,ht,rfl⟩:=List.mem_map.1 (show e∈T.map mkH by simpa using hem)
  have hr1:w1.heap[r]? =some (.mapIter (some b) c seen c):=by rcases hal with rfl | rfl <;> exact hr
  have hb1:w1.heap[b]? =some (.map (T.map mkH).toArray c):=by rcases hal with rfl | rfl <;> exact hb
  have hset:=MapKept.heap_set (o':= .mapIter (some b) c (seen.push n) c) hr1
  have hb':(ChangeMaps.setBlock w1 r (.mapIter (some b) c (seen.push n) c)).heap[b]? =some (.map (T.map mkH).toArray c):=(hset.2 b hne).trans hb1
  have hr':(ChangeMaps.setBlock w1 r (.mapIter (some b) c (seen.push n) c)).heap[r]? =some (.mapIter (some b) c (seen.push n) c):=hset.1
  have hbn:((T.map mkH).map (·.born)).Nodup:=by rw [List.map_map];exact hm.born
  refine hK' _ _ (hMore x v n (ChangeMaps.setBlock w1 r (.mapIter (some b) c (seen.push n) c)) ht (by simpa [mkH]using hes) ⟨⟨hb',hm.keys,hm.born,hm.low⟩,hr'⟩ ?_ ?_ ?_ (run_entry_at _ r b c seen _ c (mkH (x,v,n)) hr' hb' hem (by simpa using hbn)))
  ·simp only [World.rangeLeft,hb',hr',hb,hr]
   exact hsh
  ·rcases hal with rfl | rfl <;> exact⟨rfl,rfl,rfl,by simp [ChangeMaps.setBlock],fun i _ hi=>hset.2 i hi⟩
  ·rcases hal with rfl | rfl <;> simp [ChangeMaps.setBlock]
end Go.Proofs.YthagdonmijhpdaaGreat
