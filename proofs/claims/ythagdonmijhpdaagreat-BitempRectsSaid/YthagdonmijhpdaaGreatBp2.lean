/- Contracts of package bitemp: same, until, add. -/
import Derived.Test.YthagdonmijhpdaaGreatBpMath
import Derived.Test.YthagdonmijhpdaaGreatTqNew
import Derived.Test.YthagdonmijhpdaaGreatFramePuts
import Derived.Test.YthagdonmijhpdaaGreatRelVal
import Derived.BigQuiet
import Derived.Defers
import Derived.Recover
import Derived.Deep.RegionWith
open Go.Lib (hid)
set_option linter.unusedSimpArgs false
set_option linter.unusedVariables false
set_option maxHeartbeats 1000000
set_option maxRecDepth 8000
namespace Corr
open Go Go.RowKit
theorem SepF.nil' (w:World):SepF (fun _=>False) w [] w:=SepF.nil w
def packT (ts:List Thing):Thing where
 P w F:=(∀k,F k→k<w.heap.size)∧SepF F w ts w
 lt:=fun h=>h.1
 keep:=fun {w w' F G} h ho hn=>by
  obtain⟨h0,Fs,h1,h2,h3,h4⟩:=h
  have hF: ∀i,i<ts.length→∀k,Fs i k→F k:=fun i hi k hk=>by
   rcases h3 i hi k hk with h | h
   ·exact h
   ·have:=(ts[i]).lt (h1 i _ (List.getElem?_eq_getElem hi)) k hk;omega
  exact⟨fun k hk=>Nat.lt_of_lt_of_le (h0 k hk) ho.size,Fs,fun i t hi=>t.keep (h1 i t hi) ho fun k hk=>hn k (hF i (ζh hi) k hk),h2,fun i hi k hk=> .inl (hF i hi k hk),Off.refl _ _⟩
def exT {ι:Type}(T:ι→Thing):Thing where
 P w F:=∃i,(T i).P w F
 lt:=fun⟨i,h⟩=>(T i).lt h
 keep:=fun⟨i,h⟩ ho hn=>⟨i,(T i).keep h ho hn⟩
theorem SepF.pack {F0:Nat→Prop} {w0 w:World} {ts:List Thing}(h:SepF F0 w0 ts w): ∃F,(packT ts).P w F∧Off F0 w0 w∧∀k,F k→F0 k∨w0.heap.size≤k:=by
 obtain⟨Fs,h1,h2,h3,h4⟩:=h
 refine⟨fun k=>∃i,i<ts.length∧Fs i k,⟨fun k ⟨i,hi,hk⟩=>(ts[i]).lt (h1 i _ (List.getElem?_eq_getElem hi)) k hk,Fs,h1,h2,fun i hi k hk=> .inl ⟨i,hi,hk⟩,Off.refl _ _⟩,h4,fun k ⟨i,hi,hk⟩=>h3 i hi k hk⟩
theorem SepF.deep {F0:Nat→Prop} {w0 w:World} {ts us:List Thing}(h:SepF F0 w0 ts w) {i j:Nat} {t:Thing}(hi:ts[i]? =some (packT us))(hj:us[j]? =some t): ∃F,t.P w F∧(∀k,F k→F0 k∨w0.heap.size≤k)∧
  ∀(w':World) (F':Nat→Prop) (t':Thing),Off F w w'→t'.P w' F'→(∀k,F' k→F k∨w.heap.size≤k)→SepF F0 w0 (ts.set i (packT (us.set j t'))) w':=by
 have hsz:=h.off.size
 obtain⟨F,hp,hF,hu⟩:=h.get hi
 obtain⟨G,hg,hG,hv⟩:=hp.2.get hj
 refine⟨G,hg,fun k hk=> ?_,fun w' F' t' ho ht hF'=> ?_⟩
 ·rcases hG k hk with h | h
  ·exact hF k h
  ·exact .inr (Nat.le_trans hsz h)
 ·obtain⟨F2,h1,h2,h3⟩:=(hv w' F' t' ho ht hF').pack
  exact hu w' F2 _ h2 h1 h3
theorem SepF.swap {F0:Nat→Prop} {w0 w:World} {x y:Thing}(h:SepF F0 w0 [x,y] w):SepF F0 w0 [y,x] w:=by
 obtain⟨Fs,h1,h2,h3,h4⟩:=h
 refine⟨fun i=>if i=0 then Fs 1 else Fs 0,fun i t hi=> ?_,fun i j hi hj hij k=> ?_,fun i hi k=> ?_,h4⟩
 ·match i,hi with
  | 0,hi=>obtain rfl:=Option.some.inj hi;exact h1 1 y rfl
  | 1,hi=>obtain rfl:=Option.some.inj hi;exact h1 0 x rfl
  | i+2,hi=>simp at hi
 ·have hi:i<2:=hi
  have hj:j<2:=hj
  by_cases e:i=0
  ·have e2: ¬j=0:=fun e2=>hij (e.trans e2.symm)
   simp only [e,e2,if_true,if_false]
   exact h2 1 0 (by simp) (by simp) (by omega) k
  ·have e2:j=0:=by omega
   simp only [e,e2,if_true,if_false]
   exact h2 0 1 (by simp) (by simp) (by omega) k
 ·by_cases e:i=0
  ·simp only [e,if_true];exact h3 1 (by simp) k
  ·simp only [e,if_false];exact h3 0 (by simp) k
theorem ζ3v (w:World):(packT []).P w (fun _=>False):=⟨fun _ h=>h.elim,SepF.nil' w⟩
theorem SepF.join {F0:Nat→Prop} {w0 w:World} {ts us:List Thing}(h:SepF F0 w0 ts w) {i j:Nat} {t:Thing}(hi:ts[i]? =some (packT us))(hj:ts[j]? =some t)(hne:i≠j):SepF F0 w0 ((ts.set i (packT (us++ [t]))).set j (packT [])) w:=by
 obtain⟨Fs,h1,h2,h3,h4⟩:=h
 have hil:=ζh hi
 have hjl:=ζh hj
 have pi:=h1 i _ hi
 have pj:=h1 j _ hj
 have hlj:=fun k hk=>t.lt pj k hk
 refine⟨fun k=>if k=j then fun _=>False else if k=i then fun b=>Fs i b∨Fs j b else Fs k,fun k u hk=> ?_,fun a b ha hb hab c=> ?_,fun k hk c=> ?_,h4⟩
 ·by_cases e:k=j
  ·subst e
   rw [List.getElem?_set_self (by rw [List.length_set];exact hjl)]at hk
   obtain rfl:=Option.some.inj hk
   simpa using ζ3v w
  ·rw [List.getElem?_set_ne (fun e'=>e e'.symm)]at hk
   by_cases e2:k=i
   ·subst e2
    rw [List.getElem?_set_self hil]at hk
    obtain rfl:=Option.some.inj hk
    simp only [e,if_false,if_true]
    refine⟨fun c hc=>hc.elim (pi.1 c) (hlj c),?_⟩
    obtain⟨Gs,g1,g2,g3,g4⟩:=pi.2
    have gF: ∀m,m<us.length→∀c,Gs m c→Fs k c:=fun m hm c hc=>by
     rcases g3 m hm c hc with h | h
     ·exact h
     ·have:=(us[m]).lt (g1 m _ (List.getElem?_eq_getElem hm)) c hc;omega
    refine⟨fun m=>if m=us.length then Fs j else Gs m,fun m u hm=> ?_,fun a b ha hb hab c=> ?_,fun m hm c hc=> ?_,Off.refl _ _⟩
    ·by_cases em:m=us.length
     ·subst em
      rw [List.getElem?_append_right (Nat.le_refl _)]at hm
      obtain rfl:t=u:=by simpa using hm
      simpa using pj
     ·have hml:m<us.length:=by have:=ζh hm;simp at this;omega
      rw [List.getElem?_append_left hml]at hm
      simpa [em]using g1 m u hm
    ·rw [List.length_append,List.length_singleton]at ha hb
     by_cases ea:a=us.length
     ·have eb:b≠us.length:=fun e=>hab (ea.trans e.symm)
      simp only [ea,eb,if_true,if_false]
      exact fun x y=>h2 k j hil hjl hne c (gF b (by omega) c y) x
     ·by_cases eb:b=us.length
      ·simp only [ea,eb,if_true,if_false]
       exact fun x y=>h2 k j hil hjl hne c (gF a (by omega) c x) y
      ·simp only [ea,eb,if_false]
       exact g2 a b (by omega) (by omega) hab c
    ·left
     by_cases em:m=us.length
     ·simp only [em,if_true]at hc;exact .inr hc
     ·simp only [em,if_false]at hc
      rw [List.length_append,List.length_singleton]at hm
      exact .inl (gF m (by omega) c hc)
   ·rw [List.getElem?_set_ne (fun e'=>e2 e'.symm)]at hk
    simpa [e,e2]using h1 k u hk
 ·rw [List.length_set,List.length_set]at ha hb
  by_cases aj:a=j
  ·simp only [aj,if_true];exact fun h=>h.elim
  ·by_cases bj:b=j
   ·simp only [bj,if_true];exact fun _ h=>h
   ·by_cases ai:a=i
    ·have bi:b≠i:=fun e=>hab (ai.trans e.symm)
     subst ai
     simp only [aj,bj,bi,if_false,if_true]
     rintro(h | h)
     ·exact h2 a b ha hb hab c h
     ·exact h2 j b hjl hb (fun e=>bj e.symm) c h
    ·by_cases bi:b=i
     ·subst bi
      simp only [aj,bj,ai,if_false,if_true]
      rintro h (h' | h')
      ·exact h2 a b ha hb hab c h h'
      ·exact h2 a j ha hjl aj c h h'
     ·simp only [aj,bj,ai,bi,if_false]
      exact h2 a b ha hb hab c
 ·rw [List.length_set,List.length_set]at hk
  by_cases aj:k=j
  ·simp only [aj,if_true];exact fun h=>h.elim
  ·by_cases ai:k=i
   ·subst ai
    simp only [aj,if_false,if_true]
    rintro(h | h)
    ·exact h3 k hk c h
    ·exact h3 j hjl c h
   ·simp only [aj,ai,if_false]
    exact h3 k hk c
theorem packT.open_ {w:World} {F:Nat→Prop} {ts:List Thing}(h:(packT ts).P w F):SepF F w ts w:=h.2
def trT {Rep:RepT}(R:RepOk Rep)(q:Value)(M:Int)(l:ItL):Thing where
 P w F:=Rep w q F M l
 lt:=R.lt
 keep:=R.keep
def ζ8:List Rn→List Value
 | []=> []
 | r :: l=> .int .i64 r.a :: .int .i64 r.b :: .int .i64 r.s :: .int .i64 r.u :: .int .i64 r.v :: .int .i64 r.m :: ζ8 l
theorem ζ1o: ∀l:List Rn,(ζ8 l).length=l.length*6
 | []=>rfl
 | s :: r=>by simp only [ζ8,List.length_cons];rw [ζ1o r];omega
theorem ζ3s (a b:List Rn):ζ8 (a++b)=ζ8 a++ζ8 b:=by
 induction a with
 | nil=>rfl
 | cons s r ih=>simp [ζ8,ih]
theorem cells6_at: ∀ {l:List Rn} {i:Nat} {s:Rn},l[i]? =some s→(ζ8 l)[i*6]? =some (.int .i64 s.a)∧(ζ8 l)[i*6+1]? =some (.int .i64 s.b)∧(ζ8 l)[i*6+2]? =some (.int .i64 s.s)∧(ζ8 l)[i*6+3]? =some (.int .i64 s.u)∧(ζ8 l)[i*6+4]? =some (.int .i64 s.v)∧(ζ8 l)[i*6+5]? =some (.int .i64 s.m)
 | [],_,_,h=>by simp at h
 | x :: r,0,s,h=>by simp at h;subst h;exact⟨rfl,rfl,rfl,rfl,rfl,rfl⟩
 | x :: r,i+1,s,h=>by
  have:=cells6_at (l:=r) (i:=i) (by simpa using h)
  rw [show (i+1)*6=i*6+1+1+1+1+1+1 by omega,show i*6+1+1+1+1+1+1+1=(i*6+1)+1+1+1+1+1+1 by omega,show i*6+1+1+1+1+1+1+2=(i*6+2)+1+1+1+1+1+1 by omega,show i*6+1+1+1+1+1+1+3=(i*6+3)+1+1+1+1+1+1 by omega,show i*6+1+1+1+1+1+1+4=(i*6+4)+1+1+1+1+1+1 by omega,show i*6+1+1+1+1+1+1+5=(i*6+5)+1+1+1+1+1+1 by omega]
  simpa [ζ8]using this
theorem ζ4k: ∀(l:List Rn),∀u∈ζ8 l,u.oneCell'=true
 | [],u,hu=>by cases hu
 | s :: r,u,hu=>by
  simp only [ζ8,List.mem_cons]at hu
  rcases hu with rfl | rfl | rfl | rfl | rfl | rfl | hu
  all_goals first | rfl | exact ζ4k r u hu
abbrev rnV (r:Rn):Value:= .agg #[.int .i64 r.a,.int .i64 r.b,.int .i64 r.s,.int .i64 r.u,.int .i64 r.v,.int .i64 r.m]
structure Ck where
 g:Nat
 q:Value
 rs:List Rn
 s0:Int
 l:ItL
structure okCk0 (c:Ck):Prop where
 len:c.rs.length≤250
 ll:c.l.length≤c.rs.length
 srt_:srt c.l
 mem: ∀y,y∈c.l↔∃(i:Nat) (r:Rn),c.rs[i]? =some r∧y=(r.a,r.b,(i:Int))
 low: ∀r∈c.rs,c.s0≤r.s
structure okCk (c:Ck):Prop extends okCk0 c where
 ne: ¬c.rs= []
def addCk (c:Ck)(x:Rn):Ck:=⟨c.g,c.q,c.rs++ [x],min c.s0 x.s,insL 250 (x.a,x.b,(c.rs.length:Int)) c.l⟩
theorem okCk0.add {c:Ck}(h:okCk0 c) {x:Rn}(hl:c.rs.length<250)(hx:x.a<x.b):okCk (addCk c x) where
 len:=by show (c.rs++ [x]).length≤250;rw [List.length_append,List.length_singleton];omega
 ll:=by
  show (insL 250 (x.a,x.b,(c.rs.length:Int)) c.l).length≤(c.rs++ [x]).length
  have h1:=insL_len 250 (x.a,x.b,(c.rs.length:Int)) c.l
  have h2:=h.ll
  rw [List.length_append,List.length_singleton];omega
 srt_:=insL_srt h.srt_
 mem:=fun y=>by
  show y∈insL 250 (x.a,x.b,(c.rs.length:Int)) c.l↔∃(i:Nat) (r:Rn),(c.rs++ [x])[i]? =some r∧y=(r.a,r.b,(i:Int))
  rw [insL_mem h.srt_ (by have:=h.ll;omega),h.mem]
  constructor
  ·rintro(⟨i,r,h1,rfl⟩ | ⟨rfl,_⟩)
   ·exact⟨i,r,by rw [List.getElem?_append_left (List.getElem?_eq_some_iff.1 h1).1];exact h1,rfl⟩
   ·exact⟨c.rs.length,x,by simp,rfl⟩
  ·rintro⟨i,r,h1,rfl⟩
   rcases Nat.lt_or_ge i c.rs.length with hi | hi
   ·rw [List.getElem?_append_left hi]at h1
    exact .inl ⟨i,r,h1,rfl⟩
   ·rw [List.getElem?_append_right hi]at h1
    have h2:=(List.getElem?_eq_some_iff.1 h1).1
    simp at h2
    obtain rfl:i=c.rs.length:=by omega
    simp at h1
    subst h1
    exact .inr ⟨rfl,hx⟩
 low:=fun r hr=>by
  show min c.s0 x.s≤r.s
  rcases List.mem_append.1 hr with hr | hr
  ·have:=h.low r hr;omega
  ·rw [List.mem_singleton.1 hr];omega
 ne:=by show ¬c.rs++ [x]= [];simp
structure SlA where
 A:Option Addr
 n:Nat
 c:Nat
def ckT {Rep:RepT}(R:RepOk Rep)(T:TypeId)(c:Ck):Thing:=exT fun s:SlA=>packT [blkT c.g #[.slice s.A s.n s.c,c.q,.int .i64 c.s0],rowT 0 T 6 s.A s.n s.c (ζ8 c.rs),trT R c.q 250 c.l]
structure Kp where
 g:Nat
 la:Int
 n:Int
 q:Value
 nb:Nat
 f:Int→Int
 cs:List Ck
def ptrsC (cs:List Ck):List Value:=cs.map fun c=> .pointer (some ⟨c.g,0,none⟩)
abbrev kpTs {Rep:RepT}(R:RepOk Rep)(T U:TypeId)(K:Kp)(s:SlA):List Thing:=tpTq R K.q K.nb (pcI K.f) :: blkT K.g #[.int .i64 K.la,.int .i64 K.n,K.q,.slice s.A s.n s.c] :: rowT 0 U 1 s.A s.n s.c (ptrsC K.cs) :: packT (K.cs.map (ckT R T)) :: []
def kpT {Rep:RepT}(R:RepOk Rep)(T U:TypeId)(K:Kp):Thing:=exT fun s:SlA=>packT (kpTs R T U K s)
def boT {Rep:RepT}(R:RepOk Rep)(T U:TypeId)(g:Nat)(K:Kp):Thing:=packT [blkT g #[.pointer (some ⟨K.g,0,none⟩)],kpT R T U K]
structure KsOk (L:ClL)(K:Kp):Prop where
 ks:KS L K.f (K.cs.flatMap Ck.rs) K.n
 la:K.la=lastL L
 nb:K.nb≤2*L.length
 ck: ∀c∈K.cs,okCk c
def RepBt {Rep:RepT}(R:RepOk Rep)(T U:TypeId):RepB:=fun w p F L=>∃g K,p= .pointer (some ⟨g,0,none⟩)∧(boT R T U g K).P w F∧KsOk L K
theorem repBt_ok {Rep:RepT}(R:RepOk Rep)(T U:TypeId):BtOk (RepBt R T U) where
 lt:=fun⟨g,K,_,h,_⟩=>(boT R T U g K).lt h
 keep:=fun⟨g,K,hp,h,hk⟩ ho hn=>⟨g,K,hp,(boT R T U g K).keep h ho hn,hk⟩
theorem TpQq.few {Rep:RepT} {w:World} {p:Value} {F:Nat→Prop} {n:Nat} {f:Int→Int}(h:TpQq Rep w p F n (pcI f)) {E:List Int}(hE: ∀d,¬f d=f (d-1)→d∈E):TpQq Rep w p F E.length (pcI f):=by
 obtain⟨gT,gM,q,Fs,l,m,h1,h2,h3,h4,h5,h6⟩:=h
 refine⟨gT,gM,q,Fs,l,m,h1,h2,h3,h4,h5,fun i hi=> ?_⟩
 obtain⟨hs,hm⟩:=h4 i hi
 have key: ∀y∈l i,∃v,pcI f (y.1,y.2.1,v):=fun y hy=>((hm y).1 hy).2.2.2
 have:=pigeonI ((l i).map (·.1)) E ?_ ?_
 ·rwa [List.length_map]at this
 ·rw [List.nodup_iff_pairwise_ne,List.pairwise_map]
  refine List.Pairwise.imp_of_mem ?_ hs
  intro x y hx hy hxy e
  obtain⟨v,hv⟩:=key x hx
  obtain⟨u,hu⟩:=key y hy
  have hh:=pc_from hv hu e
  have e2:x.2.1=y.2.1:=by injection hh with _ hh;injection hh
  have z1:=((hm x).1 hx).1
  have z2:=((hm y).1 hy).1
  have e3:x=y:=Prod.ext e (Prod.ext e2 (z1.trans z2.symm))
  rw [e3]at hxy
  rcases lessB_iff.1 hxy with h | h
  ·omega
  ·rcases h with⟨_,h | h⟩
   ·omega
   ·omega
 ·intro x hx
  obtain⟨y,hy,rfl⟩:=List.mem_map.1 hx
  obtain⟨v,hv⟩:=key y hy
  refine hE y.1 fun e=>hv.bef ?_
  show f (y.1-1)=v
  rw [←e]
  exact hv.on y.1 (Int.le_refl _) hv.lt
def opnB (tq:Int)(x:It):Bool:=decide (0<numP x.2.2) && decide (sinP x.2.2≤tq)
def opnY (out:ItL)(tq:Int):List Rn:=(out.filter (opnB tq)).map fun x=>rectI x 0
theorem opnY_yes {out:ItL} {tq:Int} {k:Nat} {x:It}(hx:out[k]? =some x)(h:opnB tq x=true):opnY (out.take (k+1)) tq=opnY (out.take k) tq++ [rectI x 0]:=by
 unfold opnY;rw [List.take_add_one,hx,List.filter_append,List.map_append];simp [h]
theorem opnY_no {out:ItL} {tq:Int} {k:Nat} {x:It}(hx:out[k]? =some x)(h:opnB tq x=false):opnY (out.take (k+1)) tq=opnY (out.take k) tq:=by
 unfold opnY;rw [List.take_add_one,hx,List.filter_append,List.map_append];simp [h]
def inY (frm tq:Int)(r:Rn):Bool:=decide (r.s≤tq) && decide (frm<r.u)
def itY (c:Ck)(frm tq:Int)(y:It):List Rn:=match c.rs[y.2.2.toNat]? with
 | some r=>if inY frm tq r=true then [r]else []
 | none=> []
def ckY (c:Ck)(a b frm tq:Int):List Rn:=(c.l.filter (overB a b)).flatMap (itY c frm tq)
def allY (out:ItL)(cs:List Ck)(a b frm tq:Int):List Rn:=opnY out tq++cs.flatMap fun c=>ckY c a b frm tq
theorem okCk0.item {c:Ck}(h:okCk0 c) {y:It}(hy:y∈c.l): ∃i r,y.2.2=((i:Nat):Int)∧c.rs[i]? =some r∧y=(r.a,r.b,(i:Int)):=by
 obtain⟨i,r,h1,rfl⟩:=(h.mem y).1 hy
 exact⟨i,r,rfl,h1,rfl⟩
theorem itY_at {c:Ck} {frm tq:Int} {i:Nat} {r:Rn} {a b:Int}(h:c.rs[i]? =some r):itY c frm tq (a,b,(i:Int))=if inY frm tq r=true then [r]else []:=by
 unfold itY;simp only [Int.toNat_natCast];rw [h]
theorem ckY_skip {c:Ck}(h:okCk0 c) {a b frm tq:Int}(hs:tq<c.s0∨∀r∈c.rs,r.u≤frm):ckY c a b frm tq= []:=by
 unfold ckY
 rw [List.flatMap_eq_nil_iff]
 intro y hy
 obtain⟨i,r,_,h1,rfl⟩:=h.item (List.mem_filter.1 hy).1
 rw [itY_at h1,if_neg]
 have hr:=List.mem_of_getElem? h1
 unfold inY
 intro e
 simp at e
 rcases hs with hs | hs
 ·have:=h.low r hr;omega
 ·have:=hs r hr;omega
theorem ζ3r {c:Ck}(h:okCk0 c) {a b frm tq:Int} {r:Rn} :r∈ckY c a b frm tq↔r∈c.rs∧a<b∧r.a<b∧a<r.b∧r.s≤tq∧frm<r.u:=by
 unfold ckY
 rw [List.mem_flatMap]
 constructor
 ·rintro⟨y,hy,hr⟩
  obtain⟨h1,h2⟩:=List.mem_filter.1 hy
  obtain⟨i,q,_,h3,rfl⟩:=h.item h1
  rw [itY_at h3]at hr
  split at hr
  ·rename_i hin
   obtain rfl:r=q:=by simpa using hr
   unfold inY at hin
   simp at hin
   have h4:=over_iff.1 h2
   exact⟨List.mem_of_getElem? h3,h4.1,h4.2.1,h4.2.2,hin.1,hin.2⟩
  ·cases hr
 ·rintro⟨h1,h2,h3,h4,h5,h6⟩
  obtain⟨i,hi⟩:=List.mem_iff_getElem?.1 h1
  refine⟨(r.a,r.b,(i:Int)),List.mem_filter.2 ⟨(h.mem _).2 ⟨i,r,hi,rfl⟩,over_iff.2 ⟨h2,h3,h4⟩⟩,?_⟩
  rw [itY_at hi,if_pos (by unfold inY;simp;exact⟨h5,h6⟩)]
  exact List.mem_singleton.2 rfl
theorem opnY_mem {out:ItL} {tq:Int} {r:Rn} :r∈opnY out tq↔∃x∈out,0<numP x.2.2∧sinP x.2.2≤tq∧r=rectI x 0:=by
 unfold opnY
 rw [List.mem_map]
 constructor
 ·rintro⟨x,hx,rfl⟩
  obtain⟨h1,h2⟩:=List.mem_filter.1 hx
  unfold opnB at h2
  simp at h2
  exact⟨x,h1,h2.1,h2.2,rfl⟩
 ·rintro⟨x,h1,h2,h3,rfl⟩
  exact⟨x,List.mem_filter.2 ⟨h1,by unfold opnB;simp;exact⟨h2,h3⟩⟩,rfl⟩
theorem ζ1x {W:World} {B n c k:Nat} {T:TypeId} {A:Option Addr} {L:List Rn}(h:W.ownsRow B T 6 (.slice A n c) n (ζ8 L))(hk:k<n): ∃g x,A=some ⟨g,0,none⟩∧L[k]? =some x∧W.cell? ⟨g,k*6,none⟩=some (.int .i64 x.a)∧W.cell? ⟨g,k*6+1,none⟩=some (.int .i64 x.b)∧W.cell? ⟨g,k*6+2,none⟩=some (.int .i64 x.s)∧W.cell? ⟨g,k*6+3,none⟩=some (.int .i64 x.u)∧W.cell? ⟨g,k*6+4,none⟩=some (.int .i64 x.v)∧W.cell? ⟨g,k*6+5,none⟩=some (.int .i64 x.m):=by
 have hl:L.length=n:=by have:=h.1;rw [ζ1o]at this;omega
 rcases Joins.ownsRow_forms h with⟨_,h0⟩ | ⟨g,d,hv⟩
 ·omega
 ·injection hv with e1 _ e3
  subst e1 e3
  have hx:L[k]? =some (L[k]'(by omega)):=List.getElem?_eq_getElem (by omega)
  have h3:=cells6_at hx
  exact⟨g,_,rfl,hx,by rw [h.cellAt _ (by omega)];exact h3.1,by rw [h.cellAt _ (by omega)];exact h3.2.1,by rw [h.cellAt _ (by omega)];exact h3.2.2.1,by rw [h.cellAt _ (by omega)];exact h3.2.2.2.1,by rw [h.cellAt _ (by omega)];exact h3.2.2.2.2.1,by rw [h.cellAt _ (by omega)];exact h3.2.2.2.2.2⟩
theorem ζ1a {W:World} {B n c:Nat} {T:TypeId} {A:Option Addr} {L:List Rn}(h:W.ownsRow B T 6 (.slice A n c) n (ζ8 L)):L.length=n:=by have:=h.1;rw [ζ1o]at this;omega
end Corr
namespace Go.Proofs.YthagdonmijhpdaaGreat
open Go.RowKit Corr
theorem rectof_any (a b N s v u:Int)(w:World):Calls Tryz.prog 69 #[.agg #[.int .i64 a,.int .i64 b,.int .i64 N,.int .i64 s,.int .i64 v],.int .i64 u] w fun e w'=>e= .returned (.agg #[.int .i64 a,.int .i64 b,.int .i64 s,.int .i64 u,.int .i64 v,.int .i64 N])∧Below w.heap.size w w':=by
 have hX:=(Blk.new w #[.int .i64 a,.int .i64 b,.int .i64 N,.int .i64 s,.int .i64 v] 128).alloc (.cells #[.int .i64 0,.int .i64 0,.int .i64 0,.int .i64 0,.int .i64 0,.int .i64 0] 86)
 have HR:=hid (Blk.new (w.alloc (.cells #[.int .i64 a,.int .i64 b,.int .i64 N,.int .i64 s,.int .i64 v] 128)) #[.int .i64 a,.int .i64 b,.int .i64 s,.int .i64 u,.int .i64 v,.int .i64 N] 86)
 have HB:=hid (Joins.below_alloc2 w (.cells #[.int .i64 a,.int .i64 b,.int .i64 N,.int .i64 s,.int .i64 v] 128) (.cells #[.int .i64 a,.int .i64 b,.int .i64 s,.int .i64 u,.int .i64 v,.int .i64 N] 86))
 simp only [ζd]at HR
 have x0:=hX.get 0 rfl
 have x1:=hX.get 1 rfl
 have x2:=hX.get 2 rfl
 have x3:=hX.get 3 rfl
 have x4:=hX.get 4 rfl
 clear hX
 go_enter Tryz.func69,Tryz.ntmps69
 go_wp2_with fail
 have r0:=HR.out.get 0 rfl
 have r1:=HR.out.get 1 rfl
 have r2:=HR.out.get 2 rfl
 have r3:=HR.out.get 3 rfl
 have r4:=HR.out.get 4 rfl
 have r5:=HR.out.get 5 rfl
 refine bodyPost_ret (v:= .agg #[.int .i64 a,.int .i64 b,.int .i64 s,.int .i64 u,.int .i64 v,.int .i64 N]) (by simp [results,Tryz.results69,go_sem,r0,r1,r2,r3,r4,r5]) rfl ⟨rfl,HB.out⟩
theorem one_any (d:Int)(w:World):Calls Tryz.prog 37 #[.int .i64 d] w fun e w'=>e= .returned (.agg #[.int .i64 d,.int .i64 (IntKind.i64.wrap (d+1))])∧Below w.heap.size w w':=by
 obtain⟨z,hz⟩: ∃z,IntKind.i64.wrap (d+1)=z:=⟨_,rfl⟩
 rw [hz]
 have HR:=hid (Blk.new w #[.int .i64 d,.int .i64 z] 24)
 have HB:=hid ((Below.refl w.heap.size w).alloc (Nat.le_refl _) (.cells #[.int .i64 d,.int .i64 z] 24))
 go_enter Tryz.func37,Tryz.ntmps37
 go_wp2_with fail
 have r0:=HR.out.get 0 rfl
 have r1:=HR.out.get 1 rfl
 refine bodyPost_ret (v:= .agg #[.int .i64 d,.int .i64 z]) (by simp [results,Tryz.results37,go_sem,r0,r1]) rfl ⟨rfl,HB.out⟩
theorem ball_any (w:World):Calls Tryz.prog 42 #[] w fun e w'=>e= .returned (.agg #[.int .i64 1,.int .i64 3652060])∧Below w.heap.size w w':=by
 have HR:=hid (Blk.new w #[.int .i64 1,.int .i64 3652060] 24)
 have HB:=hid ((Below.refl w.heap.size w).alloc (Nat.le_refl _) (.cells #[.int .i64 1,.int .i64 3652060] 24))
 go_enter Tryz.func42,Tryz.ntmps42
 go_wp2_with fail
 have r0:=HR.out.get 0 rfl
 have r1:=HR.out.get 1 rfl
 refine bodyPost_ret (v:= .agg #[.int .i64 1,.int .i64 3652060]) (by simp [results,Tryz.results42,go_sem,r0,r1]) rfl ⟨rfl,HB.out⟩
theorem bmade_yes (g:Nat)(a:Addr)(w:World)(h:w.cell? ⟨g,0,none⟩=some (.pointer (some a))):Calls Tryz.prog 31 #[.pointer (some ⟨g,0,none⟩)] w fun e w'=>e= .returned (.bool true)∧w'=w:=by
 go_enter Tryz.func31,Tryz.ntmps31
 go_wp2_with fail
 go_ret
 exact⟨rfl,rfl⟩
theorem bmade_zero (g:Nat)(w:World)(h:w.cell? ⟨g,0,none⟩=some (.pointer none)):Calls Tryz.prog 31 #[.pointer (some ⟨g,0,none⟩)] w fun e w'=>e= .returned (.bool false)∧w'=w:=by
 go_enter Tryz.func31,Tryz.ntmps31
 go_wp2_with fail
 go_ret
 exact⟨rfl,rfl⟩
theorem bmade_none (w:World):Calls Tryz.prog 31 #[.pointer none] w fun e w'=>e= .returned (.bool false)∧w'=w:=by
 go_enter Tryz.func31,Tryz.ntmps31
 go_wp2_with fail
 go_ret
 exact⟨rfl,rfl⟩
theorem bheld_yes (g:Nat)(a:Addr)(w:World)(h:w.cell? ⟨g,0,none⟩=some (.pointer (some a))):Calls Tryz.prog 35 #[.pointer (some ⟨g,0,none⟩)] w fun e w'=>e= .returned (.pointer (some a))∧w'=w:=by
 go_enter Tryz.func35,Tryz.ntmps35
 go_wp2_with fail
 refine(bmade_yes g a w h).mono ?_
 rintro e w1 ⟨rfl,rfl⟩
 go_wp2_with fail
 go_ret
 exact⟨rfl,rfl⟩
theorem fresh_any {Rep:RepT}(K:TrK Rep)(w:World):Calls Tryz.prog 30 #[] w fun e w'=>∃S F,e= .returned (.pointer (some ⟨S.g,0,none⟩))∧(kpT K.toRepOk 86 134 S).P w' F∧KsOk [] S∧Below w.heap.size w w'∧∀k,F k→w.heap.size≤k:=by
 have HK:=hid K
 go_enter Tryz.func30,Tryz.ntmps30
 go_wp2_with fail
 refine(tpnew_anyq HK.out w).mono ?_
 rintro e w1 ⟨gT,gM,c,Fs,rfl,h1,h2,h3⟩
 have HH1:=hid h1
 have HH2:=hid h2
 have HH3:=hid h3
 clear h1 h2 h3
 go_wp2_with fail
 go_ret
 obtain⟨w2,hw2⟩: ∃w2,w1.alloc (.cells #[.int .i64 0,.int .i64 0,.pointer (some ⟨gT,0,none⟩),.slice none 0 0] 75)=w2:=⟨_,rfl⟩
 rw [hw2]
 have hs:SepF (fun _=>False) w ([]++ [tpTq HK.out.toRepOk (.pointer (some ⟨gT,0,none⟩)) 0 (pcI fun _=>0)]) w1:=(SepF.nil w).add HH2.out (t:=tpTq HK.out.toRepOk (.pointer (some ⟨gT,0,none⟩)) 0 (pcI fun _=>0)) ⟨gT,gM,c,Fs,_,_,rfl,HH1.out,rfl,tr_none,mp_none,fun i hi=>by simp⟩ HH3.out
 have hs2:=hs.push #[.int .i64 0,.int .i64 0,.pointer (some ⟨gT,0,none⟩),.slice none 0 0] 75
 rw [hw2]at hs2
 have hs3:=hs2.addRow (base:=0) (e:=134) (sz:=1) (A:=none) (n:=0) (c:=0) (xs:= []) (World.ownsRow_nil _ _ _ _) (fun k hk=>(by cases hk)) (Below.refl _ _)
 have hs4:=hs3.add (Below.refl _ _) (t:=packT []) (ζ3v w2) (fun k hk=>hk.elim)
 obtain⟨F,h1,h2,h3⟩:=hs4.pack
 exact⟨⟨w1.heap.size,0,0,.pointer (some ⟨gT,0,none⟩),0,fun _=>0,[]⟩,F,rfl,⟨⟨none,0,0⟩,h1⟩,⟨KS.nil,rfl,Nat.le_refl _,fun _ h=>by cases h⟩,h2.below (Nat.le_refl _) (fun k hk=>hk.elim),fun k hk=>(h3 k hk).resolve_left fun h=>h⟩
theorem bcatch_idle (p:Addr)(w:World):CallsD Tryz.prog 77 #[.pointer (some p)] .returning w fun e u' w'=>e= .returned (.tuple #[])∧u'= .returning∧w'=w:=by
 refine callsD_of_wpS Tryz.func77 rfl fun c₀ cs hu=> ?_
 apply wpS_seq
 apply wpS_region
 simp [wpOpsS,go_sem,recoverD,hu,Tryz.ntmps77,Exit.thenS]
 refine wpS_cond (t:=false) (by simp [Act.eval,Array.replicate]) ?_
 simp only [Bool.false_eq_true,if_false]
 refine wpS_of_wp (wp_skip ?_)
 cases c₀
 simp_all [bodyPostS,results,Tryz.results77]
theorem ζ1f (a b:Int)(w:World):Calls Tryz.prog 48 #[.int .i64 a,.int .i64 b] w fun e w'=>e= .returned (.bool (a == b))∧Below w.heap.size w w':=by
 have hmf: ∀(fn:Fn) (first cap:Array Value) (w:World),(Instr.makeFunc fn first cap).run Tryz.prog w= .ok (.func fn first cap) w:=fun _ _ _ _=>rfl
 have HB:=hid (((Below.refl w.heap.size w).alloc (Nat.le_refl _) (.cells #[.bool (a == b)] 4)))
 go_enter_defers Tryz.func48,Tryz.ntmps48
 go_wp2
 refine leaves_cons (f:=77) (args:= #[.pointer (some ⟨w.heap.size,0,none⟩)]) (by simp) (by simp [go_sem]) ?_
 refine(bcatch_idle ⟨w.heap.size,0,none⟩ _).mono ?_
 rintro e u' w'' ⟨rfl,rfl,rfl⟩
 simp [Leaves,settle,results,Tryz.results48,go_sem]
 exact HB.out
theorem until_any {Rep:RepT}(R:RepOk Rep)(c:Ck)(w:World)(F:Nat→Prop)(H:(ckT R 86 c).P w F)(r:Rn)(hr:c.rs.getLast? =some r)(hq:c.rs.length≤1000):Calls Tryz.prog 73 #[.pointer (some ⟨c.g,0,none⟩)] w fun e w'=>e= .returned (.int .i64 r.u)∧Below w.heap.size w w':=by
 obtain⟨⟨A,n,cap⟩,hp⟩:=H
 have hs:=hp.2
 have hb:Blk w c.g #[.slice A n cap,c.q,.int .i64 c.s0]:=hs.b 0 rfl
 have ho:w.ownsRow 0 86 6 (.slice A n cap) n (ζ8 c.rs):=hs.row 1 rfl
 have hl:=ζ1a ho
 have hn:0<n:=by
  cases h:c.rs with
  | nil=>rw [h]at hr;cases hr
  | cons x l=>rw [h]at hl;simp at hl;omega
 obtain⟨j,rfl⟩: ∃j,n=j+1:=⟨n-1,by omega⟩
 rw [List.getLast?_eq_getElem?,hl,Nat.add_sub_cancel]at hr
 obtain⟨g,x,rfl,hx,k0,k1,k2,k3,k4,k5⟩:=ζ1x ho (k:=j) (by omega)
 obtain rfl:=Option.some.inj (hx.symm.trans hr)
 have b0:=hb.get 0 rfl
 have hj:j≤1000:=by omega
 clear hq hs hb ho hl hn hx hr k0 k1 k2 k4 k5 hp
 go_enter Tryz.func73,Tryz.ntmps73
 go_upto_region 1 with fail
 go_quiet (fail)
 go_wp2_with fail
 go_ret
 exact⟨rfl,Joins.below_draws _ _ _⟩
end Go.Proofs.YthagdonmijhpdaaGreat
