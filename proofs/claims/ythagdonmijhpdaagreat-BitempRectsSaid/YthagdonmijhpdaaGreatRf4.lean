/- Where two differ -/
import Derived.Test.YthagdonmijhpdaaGreatBt1
import Derived.Test.YthagdonmijhpdaaGreatTlKnown
import Derived.Test.YthagdonmijhpdaaGreatRelVal
import Derived.Test.YthagdonmijhpdaaGreatTl4
import Derived.BigQuiet
import Derived.Deep.LoopGhost
import Derived.Test.YthagdonmijhpdaaGreatRow4
import Derived.Deep.RegionLaw
import Derived.Deep.AppendLies
import Derived.Test.YthagdonmijhpdaaGreatRowRel
import Derived.Deep.RegionWith
set_option linter.unusedSimpArgs false
set_option linter.unusedVariables false
namespace Corr
open Go Go.RowKit
def RetHist (T:TypeId)(w:World)(L:ClL)(d:Int)(e:Ending)(w':World):Prop:=∃A n c,e= .returned (.slice A n c)∧w'.ownsRow w.heap.size T 2 (.slice A n c) n (ζ1q (histL L d))∧Below w.heap.size w w'
end Corr
namespace Go.Proofs.YthagdonmijhpdaaGreat
open Go.RowKit Corr
theorem elem_ver:Elem Tryz.prog 49 52 (.agg #[.int .i64 0,.int .i64 0]) 2 16:=by
 obtain⟨i,h0,h1,h2,h3⟩:=info_parts (show (Tryz.prog.info? 52).map (fun i=>(i.zero,i.size,i.bytes))=some (some (.agg #[.int .i64 0,.int .i64 0]),2,16) by kernel_rfl)
 exact⟨Tryz.underlying49,⟨i,h0,h1,h2,h3⟩,rfl,by decide⟩
end Go.Proofs.YthagdonmijhpdaaGreat
namespace Corr
open Go Go.RowKit
structure RStW (T:TypeId)(w:World)(g:Nat)(A:Option Addr)(n c:Nat)(L:ClL):Prop where
 b:Blk w g #[.slice A n c]
 o:w.ownsRow 0 T 4 (.slice A n c) n (ζz L)
section
variable {T:TypeId} {w w':World} {g n c:Nat} {A:Option Addr} {L:ClL}
theorem RStW.r (h:RStW T w g A n c L):RSt w g A n c L:=⟨h.b.get 0 rfl,ζv h.o⟩
theorem RStW.keep (h:RStW T w g A n c L)(hb:Below w.heap.size w w'):RStW T w' g A n c L:=⟨h.b.keep hb,ζg h.o hb⟩
theorem RStW.sz (h:RStW T w g A n c L):g<w.heap.size:=h.b.sz
theorem RStW.len (h:RStW T w g A n c L):L.length=n:=Cls.count h.r.i
end
end Corr
namespace Go.Proofs.YthagdonmijhpdaaGreat
open Go.RowKit Corr
end Go.Proofs.YthagdonmijhpdaaGreat
namespace Corr
open Go Go.RowKit
section
variable {T:TypeId} {w w':World} {g n c:Nat} {A:Option Addr} {l:ItL} {G:Nat→Prop}
theorem RTlW.off (h:RTlW T w g A n c l)(ho:Off G w w')(hg: ¬G g)(ha: ∀k,(Value.slice A n c).ownBlock=some k→¬G k):RTlW T w' g A n c l:=⟨ho.blk h.b hg,ho.own h.o ha⟩
theorem RetPut.state {e:Ending}(h:RTlW T w g A n c l) {l':ItL}(r:RetPut T g w l' e w'):e= .returned (.int .i64 0)∧∃A' n' c',RTlW T w' g A' n' c' l'∧Off (· =g) w w'∧∀k,(Value.slice A' n' c').ownBlock=some k→w.heap.size≤k:=by
 obtain⟨A',n',c',w1,rfl,hb,ho,rfl⟩:=r
 have hg:=h.sz
 have hge:=ζ1c ho
 refine⟨rfl,A',n',c',⟨?_,?_⟩,(Off.of hb).trans (Off.set (F:=(· =g)) (a:=⟨g,0,none⟩) rfl _),hge⟩
 ·have:=(h.b.keep hb).set 0 (.slice A' n' c')
  simpa using this
 ·refine(Off.set (F:=(· =g)) (a:=⟨g,0,none⟩) rfl _).own (ζ1m ho (Nat.zero_le _)) fun k hk e=> ?_
  have:=hge k hk
  omega
end
end Corr
namespace Go.Proofs.YthagdonmijhpdaaGreat
open Go.RowKit Corr
end Go.Proofs.YthagdonmijhpdaaGreat
namespace Corr
open Go Go.RowKit
def covG {α:Type}(f:Int→α):Int→Int→List (Int × Int × α)→Prop
 | a,b,[]=>a=b
 | a,b,s :: r=>s.1=a∧s.1<s.2.1∧(∀d,s.1≤d→d<s.2.1→f d=s.2.2)∧(∀t,r.head? =some t→¬t.2.2=s.2.2)∧covG f s.2.1 b r
theorem covG_le {α:Type} {f:Int→α} : ∀ {l:List (Int × Int × α)} {a b:Int},covG f a b l→a+(l.length:Int)≤b
 | [],a,b,h=>by have:a=b:=h;simp;omega
 | s :: r,a,b,h=>by
  obtain⟨h1,h2,_,_,h5⟩:=h
  have:=covG_le h5
  simp at this ⊢;omega
structure TlsR (w:World)(A:Option Addr)(n c:Nat)(gs:List Nat)(ls:List ItL):Prop where
 li:Lies w 1 A n c (gs.map fun g=>Value.pointer (some ⟨g,0,none⟩))
 len:gs.length=ls.length
 each: ∀(i g:Nat) (l:ItL),gs[i]? =some g→ls[i]? =some l→∃A n c,RTl w g A n c l∧n≤100000
theorem TlsR.num {w:World} {A:Option Addr} {n c:Nat} {gs:List Nat} {ls:List ItL}(h:TlsR w A n c gs ls):gs.length=n:=by have:=h.li.len;simpa using this
theorem TlsR.keep {w w':World} {A:Option Addr} {n c:Nat} {gs:List Nat} {ls:List ItL}(h:TlsR w A n c gs ls)(hb:Below w.heap.size w w'):TlsR w' A n c gs ls:=
 ⟨h.li.keep hb,h.len,fun i g l h1 h2=>by obtain⟨A,n,c,h3,h4⟩:=h.each i g l h1 h2;exact⟨A,n,c,h3.keep hb,h4⟩⟩
theorem TlsR.get {w:World} {A:Option Addr} {n c:Nat} {gs:List Nat} {ls:List ItL}(h:TlsR w A n c gs ls) {k:Nat}(hk:k<n): ∃gl off g l,A=some ⟨gl,off,none⟩∧gl<w.heap.size∧w.cell? ⟨gl,off+k,none⟩=some (.pointer (some ⟨g,0,none⟩))∧gs[k]? =some g∧ls[k]? =some l∧∃A n c,RTl w g A n c l∧n≤100000:=by
 obtain⟨gl,off,hA,hg,hc⟩:=h.li.at_ (by omega)
 have hl:=h.num
 have hs:gs[k]? =some (gs[k]'(by omega)):=List.getElem?_eq_getElem (by omega)
 have hs2:ls[k]? =some (ls[k]'(by rw [←h.len];omega)):=List.getElem?_eq_getElem (by rw [←h.len];omega)
 exact⟨gl,off,_,_,hA,hg,hc k _ (by rw [List.getElem?_map,hs];rfl),hs,hs2,h.each _ _ _ hs hs2⟩
abbrev PtQ:=Int × Int × Value
abbrev PtL:=List (Int × Int × List Int)
structure PtIn (w:World)(q:PtQ)(p:Int × Int × List Int):Prop where
 f:q.1=p.1
 t:q.2.1=p.2.1
 v: ∃A n c,q.2.2= .slice A n c∧Nums w A n c p.2.2
theorem PtIn.off {w w':World} {G:Nat→Prop} {q:PtQ} {p:Int × Int × List Int}(h:PtIn w q p)(ho:Off G w w')(hg: ∀k,q.2.2.ownBlock=some k→¬G k):PtIn w' q p:=by
 obtain⟨h1,h2,A,n,c,h3,h4⟩:=h
 refine⟨h1,h2,A,n,c,h3,ho.lies h4 fun _ ad e=>hg ad.block ?_⟩
 rw [h3,e];rfl
structure PtsIn (w:World)(qs:List PtQ)(ps:PtL):Prop where
 len:qs.length=ps.length
 each: ∀(i:Nat) (q:PtQ) (p:Int × Int × List Int),qs[i]? =some q→ps[i]? =some p→PtIn w q p
theorem PtsIn.off {w w':World} {G:Nat→Prop} {qs:List PtQ} {ps:PtL}(h:PtsIn w qs ps)(ho:Off G w w')(hg: ∀q∈qs,∀k,q.2.2.ownBlock=some k→¬G k):PtsIn w' qs ps:=
 ⟨h.len,fun i q p h1 h2=>(h.each i q p h1 h2).off ho (hg q (List.mem_of_getElem? h1))⟩
end Corr
namespace Go.Proofs.YthagdonmijhpdaaGreat
open Go.RowKit Corr
end Go.Proofs.YthagdonmijhpdaaGreat
namespace Corr
open Go Go.RowKit
section
variable {α:Type} {f:Int→α}
theorem ζ33 {m t:Int} {v:α}(hmt:m<t)(hv: ∀d,m≤d→d<t→f d=v): ∀ {l:List (Int × Int × α)} {a:Int},covG f a m l→(∀s,l.getLast? =some s→¬v=s.2.2)→covG f a t (l++ [(m,t,v)])
 | [],a,h,_=>by
  have e:a=m:=h
  subst e
  exact⟨rfl,hmt,hv,(fun _ h=>by cases h),rfl⟩
 | [s],a,h,hl=>by
  obtain⟨h1,h2,h3,h4,h5⟩:=h
  have h5:s.2.1=m:=h5
  refine⟨h1,h2,h3,fun t' ht=> ?_,h5.symm,hmt,hv,(fun _ h=>by cases h),rfl⟩
  have:t'=(m,t,v):=by simpa using ht.symm
  subst this
  exact hl s rfl
 | s :: u :: r,a,h,hl=>by
  obtain⟨h1,h2,h3,h4,h5⟩:=h
  refine⟨h1,h2,h3,fun t' ht=>h4 t' (by simpa using ht),?_⟩
  exact ζ33 hmt hv h5 fun s' hs'=>hl s' (by rw [List.getLast?_cons_cons];exact hs')
theorem covG_ext {m t x:Int} {v:α}(hmt:m<t)(hv: ∀d,m≤d→d<t→f d=v): ∀ {l:List (Int × Int × α)} {a:Int},covG f a m (l++ [(x,m,v)])→covG f a t (l++ [(x,t,v)])
 | [],a,h=>by
  obtain⟨h1,h2,h3,h4,h5⟩:=h
  exact⟨h1,by show x<t;have:x<m:=h2;omega,fun d d1 d2=>by
   by_cases hd:d<m
   ·exact h3 d d1 hd
   ·exact hv d (by omega) d2,(fun _ h=>by cases h),rfl⟩
 | s :: r,a,h=>by
  obtain⟨h1,h2,h3,h4,h5⟩:=h
  refine⟨h1,h2,h3,fun t' ht=> ?_,covG_ext hmt hv h5⟩
  cases r with
  | nil=>
   have:t'=(x,t,v):=by simpa using ht.symm
   subst this
   exact h4 (x,m,v) rfl
  | cons u r=>exact h4 t' (by simpa using ht)
theorem last_snoc {β:Type} {r:List β} {x s:β}(h:(r++ [x]).getLast? =some s):s=x:=by simpa using h.symm
theorem ζ3z {m:Int} : ∀ {l:List (Int × Int × α)} {a:Int},covG f a m l→∀s,l.getLast? =some s→s.2.1=m∧s.1<m∧a≤s.1∧f s.1=s.2.2
 | [],_,_,s,h=>by cases h
 | [s],a,h,u,hu=>by
  obtain⟨h1,h2,h3,h4,h5⟩:=h
  have:s=u:=by simpa using hu
  subst this
  have h5:s.2.1=m:=h5
  exact⟨h5,by omega,by omega,h3 s.1 (Int.le_refl _) h2⟩
 | s :: t :: r,a,h,u,hu=>by
  obtain⟨h1,h2,h3,h4,h5⟩:=h
  rw [List.getLast?_cons_cons]at hu
  obtain⟨k1,k2,k3,k4⟩:=ζ3z h5 u hu
  exact⟨k1,k2,by omega,k4⟩
theorem covG_in {m:Int} : ∀ {l:List (Int × Int × α)} {a:Int},covG f a m l→∀s∈l,a≤s.1∧s.1<s.2.1∧s.2.1≤m
 | [],_,_,s,h=>by cases h
 | s :: r,a,h,u,hu=>by
  obtain⟨h1,h2,h3,h4,h5⟩:=h
  have hl:=covG_le h5
  rcases List.mem_cons.1 hu with rfl | hu
  ·exact⟨by omega,h2,by omega⟩
  ·obtain⟨k1,k2,k3⟩:=covG_in h5 u hu
   exact⟨by omega,k2,k3⟩
end
def difL (bs:List (Int × Int × Bool)):SpL:=(bs.filter (·.2.2)).map fun s=>(s.1,s.2.1)
theorem ζ21 (l:List (Int × Int × Bool))(s:Int × Int × Bool):difL (l++ [s])=if s.2.2=true then difL l++ [(s.1,s.2.1)]else difL l:=by
 unfold difL
 rw [List.filter_append]
 cases h:s.2.2 <;> simp [h]
theorem difL_mem {l:List (Int × Int × Bool)} {s:Int × Int}(h:s∈difL l): ∃u∈l,s=(u.1,u.2.1):=by
 unfold difL at h
 obtain⟨u,hu,rfl⟩:=List.mem_map.1 h
 exact⟨u,(List.mem_filter.1 hu).1,rfl⟩
def difS (f g:Int→Int)(a b:Int)(out:SpL):Prop:=if mayB a b=true then ∃bs,covG (fun d=>decide (f d≠g d)) a b bs∧out=difL bs else out= []
def difI (f g:Int→Int)(a m:Int)(out:SpL):Prop:=∃bs,covG (fun d=>decide (f d≠g d)) a m bs∧out=difL bs
section
variable {f g:Int→Int} {a m t:Int} {out:SpL}
theorem difI.start:difI f g a a []:=⟨[],rfl,rfl⟩
theorem ζ46 {α:Type}(l:List α):l= []∨∃r x,l=r++ [x]:=by
 rcases List.eq_nil_or_concat l with h | ⟨r,x,h⟩
 ·exact .inl h
 ·exact .inr ⟨r,x,by simpa using h⟩
theorem difI.same (h:difI f g a m out)(hmt:m<t)(hv: ∀d,m≤d→d<t→f d=g d):difI f g a t out:=by
 obtain⟨bs,hc,rfl⟩:=h
 have hv': ∀d,m≤d→d<t→(fun d=>decide (f d≠g d)) d=false:=fun d h1 h2=>by simp [hv d h1 h2]
 rcases ζ46 bs with rfl | ⟨r,⟨x,m',v⟩,rfl⟩
 ·exact⟨[]++ [(m,t,false)],ζ33 hmt hv' hc (fun _ h=>by cases h),rfl⟩
 ·obtain⟨h1,_⟩:=ζ3z hc (x,m',v) (by simp)
  have h1:m'=m:=h1
  subst h1
  cases v with
  | false=>exact⟨_,covG_ext hmt hv' hc,by rw [ζ21,ζ21];rfl⟩
  | true=>exact⟨_,ζ33 hmt hv' hc (fun s hs=>by rw [last_snoc hs];exact fun h=>by cases h),by rw [ζ21 (r++ [(x,m',true)])];rfl⟩
theorem difI.more {l:SpL} {x:Int}(h:difI f g a m (l++ [(x,m)]))(hmt:m<t)(hv: ∀d,m≤d→d<t→f d≠g d):difI f g a t (l++ [(x,t)]):=by
 obtain⟨bs,hc,he⟩:=h
 have hv': ∀d,m≤d→d<t→(fun d=>decide (f d≠g d)) d=true:=fun d h1 h2=>by simp [hv d h1 h2]
 rcases ζ46 bs with rfl | ⟨r,⟨y,m',v⟩,rfl⟩
 ·simp [difL]at he
 ·obtain⟨h1,h2,_⟩:=ζ3z hc (y,m',v) (by simp)
  have h1:m'=m:=h1
  have h2:y<m:=h2
  subst h1
  rw [ζ21]at he
  cases v with
  | false=>
   have he:l++ [(x,m')]=difL r:=he
   exfalso
   obtain⟨u,hu,e⟩:=difL_mem (l:=r) (s:=(x,m')) (by rw [←he];simp)
   have hin: ∀ {r:List (Int × Int × Bool)} {a:Int},covG (fun d=>decide (f d≠g d)) a m' (r++ [(y,m',false)])→∀u∈r,u.2.1≤y:=by
    intro r
    induction r with
    | nil=>intro a _ u hu;cases hu
    | cons s r ih=>
     intro a h u hu
     obtain⟨k1,k2,k3,k4,k5⟩:=h
     rcases List.mem_cons.1 hu with rfl | hu
     ·exact(covG_in k5 (y,m',false) (by simp)).1
     ·exact ih k5 u hu
   have:=hin hc u hu
   have e:m'=u.2.1:=congrArg Prod.snd e
   omega
  | true=>
   have he:l++ [(x,m')]=difL r++ [(y,m')]:=he
   obtain⟨e1,e2⟩:=List.append_inj' he rfl
   have e2:x=y:=by simpa using e2
   subst e1 e2
   exact⟨_,covG_ext hmt hv' hc,by rw [ζ21];rfl⟩
theorem difI.new (h:difI f g a m out)(hl: ∀s,out.getLast? =some s→¬s.2=m)(hmt:m<t)(hv: ∀d,m≤d→d<t→f d≠g d):difI f g a t (out++ [(m,t)]):=by
 obtain⟨bs,hc,rfl⟩:=h
 have hv': ∀d,m≤d→d<t→(fun d=>decide (f d≠g d)) d=true:=fun d h1 h2=>by simp [hv d h1 h2]
 rcases ζ46 bs with rfl | ⟨r,⟨y,m',v⟩,rfl⟩
 ·exact⟨[]++ [(m,t,true)],ζ33 hmt hv' hc (fun _ h=>by cases h),rfl⟩
 ·obtain⟨h1,_⟩:=ζ3z hc (y,m',v) (by simp)
  have h1:m'=m:=h1
  subst h1
  cases v with
  | true=>
   exfalso
   refine hl (y,m') ?_ rfl
   rw [ζ21];simp
  | false=>exact⟨_,ζ33 hmt hv' hc (fun s hs=>by rw [last_snoc hs];exact fun h=>by cases h),by rw [ζ21 (r++ [(y,m',false)])];rfl⟩
end
end Corr
namespace Go.Proofs.YthagdonmijhpdaaGreat
open Go.RowKit Corr
end Go.Proofs.YthagdonmijhpdaaGreat
