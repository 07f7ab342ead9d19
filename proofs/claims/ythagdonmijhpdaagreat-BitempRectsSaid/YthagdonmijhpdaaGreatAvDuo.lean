/- Rising lists of items as sets. No walk in this text. Two trees of the program's, a row of the call's own beside them, and other blocks. No walk of the program's functions in this text. -/
import Derived.Test.YthagdonmijhpdaaGreatAvKnown
import Derived.Test.YthagdonmijhpdaaGreatTlKnown
set_option linter.unusedVariables false
namespace Corr
open Go
theorem lessB_iff {a b:It} :lessB a b=true↔a.1<b.1∨a.1=b.1∧(a.2.1<b.2.1∨a.2.1=b.2.1∧a.2.2<b.2.2):=by
 unfold lessB
 split
 ·split
  ·simp;omega
  ·simp;omega
 ·simp;omega
theorem ζe (a:It):lessB a a=false:=by
 cases h:lessB a a with
 | false=>rfl
 | true=>rw [lessB_iff]at h;omega
theorem ζm {a b c:It}(h:lessB a b=true)(h':lessB b c=true):lessB a c=true:=by
 rw [lessB_iff]at *;omega
theorem lessB_or {a b:It}(h:lessB a b=false):a=b∨lessB b a=true:=by
 have h1: ¬lessB a b=true:=by rw [h];decide
 rw [lessB_iff]at h1
 rw [lessB_iff]
 obtain⟨a1,a2,a3⟩:=a
 obtain⟨b1,b2,b3⟩:=b
 simp only at*
 by_cases e:a1=b1∧a2=b2∧a3=b3
 ·left;rw [e.1,e.2.1,e.2.2]
 ·right;omega
def srt (l:ItL):Prop:=l.Pairwise (fun a b=>lessB a b=true)
theorem cntI_cons (x y:It)(r:ItL):cntI x (y :: r)=if lessB y x=true then cntI x r+1 else 0:=by
 unfold cntI
 rw [List.takeWhile_cons]
 split <;> simp
theorem insI_cons (x y:It)(r:ItL):insI x (y :: r)=if lessB y x=true then y :: insI x r else x :: y :: r:=by
 unfold insI
 rw [cntI_cons]
 split <;> simp
theorem delI_cons (x y:It)(r:ItL):delI x (y :: r)=if lessB y x=true then y :: delI x r else r:=by
 unfold delI
 rw [cntI_cons]
 split <;> simp
theorem hasI_cons (x y:It)(r:ItL):hasI x (y :: r)=if lessB y x=true then hasI x r else decide (y=x):=by
 unfold hasI
 rw [cntI_cons]
 split <;> simp
theorem ζ2t {x:It} {l:ItL}(h:srt (x :: l)):srt l:=(List.pairwise_cons.1 h).2
theorem ζ1v {x:It} {l:ItL}(h:srt (x :: l)): ∀y∈l,lessB x y=true:=(List.pairwise_cons.1 h).1
theorem ζ2e {x:It} : ∀ {l:ItL},srt l→(hasI x l=true↔x∈l)
 | [],_=>by simp [hasI]
 | y :: r,h=>by
  have ih:=ζ2e (x:=x) (ζ2t h)
  rw [hasI_cons,List.mem_cons]
  split
  ·rename_i hl
   rw [ih]
   constructor
   ·exact .inr
   ·rintro(rfl | hm)
    ·rw [ζe]at hl;cases hl
    ·exact hm
  ·rename_i hl
   rw [decide_eq_true_iff]
   constructor
   ·rintro rfl;exact .inl rfl
   ·rintro(rfl | hm)
    ·rfl
    ·exact absurd (ζ1v h x hm) hl
theorem ins_mem {x y:It} : ∀ {l:ItL},y∈insI x l↔y=x∨y∈l
 | []=>by simp [insI]
 | z :: r=>by
  have ih:=ins_mem (x:=x) (y:=y) (l:=r)
  rw [insI_cons]
  split
  ·rw [List.mem_cons,ih,List.mem_cons]
   constructor
   ·rintro(h | h | h)
    ·exact .inr (.inl h)
    ·exact .inl h
    ·exact .inr (.inr h)
   ·rintro(h | h | h)
    ·exact .inr (.inl h)
    ·exact .inl h
    ·exact .inr (.inr h)
  ·rw [List.mem_cons]
theorem ins_srt {x:It} : ∀ {l:ItL},srt l→hasI x l=false→srt (insI x l)
 | [],_,_=>by simp [insI,srt]
 | y :: r,h,hn=>by
  rw [hasI_cons]at hn
  rw [insI_cons]
  split
  ·rename_i hl
   rw [if_pos hl]at hn
   refine List.pairwise_cons.2 ⟨fun z hz=> ?_,ins_srt (ζ2t h) hn⟩
   rcases ins_mem.1 hz with rfl | hz
   ·exact hl
   ·exact ζ1v h z hz
  ·rename_i hl
   rw [if_neg hl]at hn
   have hne: ¬y=x:=of_decide_eq_false hn
   have hxy:lessB x y=true:=by
    rcases lessB_or (Bool.eq_false_iff.2 hl)with e | e
    ·exact absurd e hne
    ·exact e
   refine List.pairwise_cons.2 ⟨fun z hz=> ?_,h⟩
   rcases List.mem_cons.1 hz with rfl | hz
   ·exact hxy
   ·exact ζm hxy (ζ1v h z hz)
theorem del_sub {x y:It} : ∀ {l:ItL},y∈delI x l→y∈l
 | [],h=>by simp [delI]at h
 | z :: r,h=>by
  rw [delI_cons]at h
  split at h
  ·rcases List.mem_cons.1 h with rfl | h
   ·exact List.mem_cons_self
   ·exact List.mem_cons_of_mem _ (del_sub h)
  ·exact List.mem_cons_of_mem _ h
theorem del_srt {x:It} : ∀ {l:ItL},srt l→srt (delI x l)
 | [],h=>h
 | y :: r,h=>by
  rw [delI_cons]
  split
  ·exact List.pairwise_cons.2 ⟨fun z hz=>ζ1v h z (del_sub hz),del_srt (ζ2t h)⟩
  ·exact ζ2t h
theorem del_mem {x y:It} : ∀ {l:ItL},srt l→hasI x l=true→(y∈delI x l↔y∈l∧y≠x)
 | [],_,hh=>by simp [hasI]at hh
 | z :: r,h,hh=>by
  rw [hasI_cons]at hh
  rw [delI_cons]
  split
  ·rename_i hl
   rw [if_pos hl]at hh
   rw [List.mem_cons,del_mem (ζ2t h) hh,List.mem_cons]
   constructor
   ·rintro(rfl | ⟨h1,h2⟩)
    ·exact⟨.inl rfl,fun e=>by rw [e,ζe]at hl;cases hl⟩
    ·exact⟨.inr h1,h2⟩
   ·rintro⟨rfl | h1,h2⟩
    ·exact .inl rfl
    ·exact .inr ⟨h1,h2⟩
  ·rename_i hl
   rw [if_neg hl]at hh
   have e:z=x:=of_decide_eq_true hh
   subst e
   rw [List.mem_cons]
   constructor
   ·intro hm
    exact⟨.inr hm,fun e=>by have:=ζ1v h y hm;rw [e,ζe]at this;cases this⟩
   ·rintro⟨rfl | h1,h2⟩
    ·exact absurd rfl h2
    ·exact h1
theorem srt_one: ∀ {l m:ItL},srt l→srt m→(∀y,y∈l↔y∈m)→l=m
 | [],[],_,_,_=>rfl
 | [],y :: r,_,_,h=>by have:=(h y).2 List.mem_cons_self;cases this
 | x :: r,[],_,_,h=>by have:=(h x).1 List.mem_cons_self;cases this
 | x :: r,y :: s,hl,hm,h=>by
  have e:x=y:=by
   rcases List.mem_cons.1 ((h x).1 List.mem_cons_self)with e | h1
   ·exact e
   ·rcases List.mem_cons.1 ((h y).2 List.mem_cons_self)with e | h2
    ·exact e.symm
    ·have:=ζm (ζ1v hm x h1) (ζ1v hl y h2)
     rw [ζe]at this;cases this
  subst e
  rw [srt_one (ζ2t hl) (ζ2t hm) fun z=> ?_]
  constructor
  ·intro hz
   rcases List.mem_cons.1 ((h z).1 (List.mem_cons_of_mem _ hz))with e | h1
   ·subst e;have:=ζ1v hl z hz;rw [ζe]at this;cases this
   ·exact h1
  ·intro hz
   rcases List.mem_cons.1 ((h z).2 (List.mem_cons_of_mem _ hz))with e | h1
   ·subst e;have:=ζ1v hm z hz;rw [ζe]at this;cases this
   ·exact h1
def okI (x:It):Prop:=x.1<x.2.1
theorem insL_srt {M:Int} {x:It} {l:ItL}(h:srt l):srt (insL M x l):=by
 unfold insL
 split
 ·rename_i e
  refine ins_srt h ?_
  unfold insR at e
  split at e
  ·cases e
  ·split at e
   ·cases e
   ·rename_i hh;simpa using hh
 ·exact h
theorem insL_mem {M:Int} {x y:It} {l:ItL}(h:srt l)(hl: ¬(l.length:Int)=M):y∈insL M x l↔y∈l∨(y=x∧okI x):=by
 unfold insL insR okI
 by_cases h1:x.2.1≤x.1
 ·rw [if_pos h1,if_neg (by decide)]
  constructor
  ·exact .inl
  ·rintro(h | ⟨_,h⟩)
   ·exact h
   ·omega
 ·rw [if_neg h1]
  cases h2:hasI x l with
  | true=>
   rw [if_pos rfl,if_neg (by decide)]
   constructor
   ·exact .inl
   ·rintro(h | ⟨rfl,_⟩)
    ·exact h
    ·exact(ζ2e h).1 h2
  | false=>
   rw [if_neg (show ¬(false=true) by decide),if_neg hl,if_pos rfl,ins_mem]
   constructor
   ·rintro(rfl | h)
    ·exact .inr ⟨rfl,by omega⟩
    ·exact .inl h
   ·rintro(h | ⟨rfl,_⟩)
    ·exact .inr h
    ·exact .inl rfl
theorem insR_ok {M:Int} {x:It} {l:ItL}(h:srt l)(hl: ¬(l.length:Int)=M):insR M x l=0↔okI x∧¬x∈l:=by
 unfold insR okI
 by_cases h1:x.2.1≤x.1
 ·rw [if_pos h1]
  constructor
  ·intro e;cases e
  ·rintro⟨e,_⟩;omega
 ·rw [if_neg h1]
  rw [←ζ2e h]
  cases h2:hasI x l with
  | true=>
   rw [if_pos rfl]
   constructor
   ·intro e;cases e
   ·rintro⟨_,e⟩;exact absurd rfl e
  | false=>
   rw [if_neg (by decide),if_neg hl]
   exact⟨fun _=>⟨by omega,by decide⟩,fun _=>rfl⟩
theorem delL_srt {x:It} {l:ItL}(h:srt l):srt (delL x l):=by
 unfold delL;split
 ·exact del_srt h
 ·exact h
theorem delL_mem {x y:It} {l:ItL}(h:srt l):y∈delL x l↔y∈l∧y≠x:=by
 unfold delL
 cases h2:hasI x l with
 | true=>rw [if_pos rfl];exact del_mem h h2
 | false=>
  rw [if_neg (by decide)]
  constructor
  ·intro hy;exact⟨hy,fun e=>by rw [e]at hy;rw [(ζ2e h).2 hy]at h2;cases h2⟩
  ·exact fun h=>h.1
theorem delR_ok {x:It} {l:ItL}(h:srt l)(hx:x∈l):delR x l=0:=by unfold delR;rw [if_pos ((ζ2e h).2 hx)]
theorem srt_at {l:ItL}(h:srt l) {i:Nat} {x y:It}(hi:l[i]? =some x)(hj:l[i+1]? =some y):lessB x y=true:=by
 obtain⟨h1,e1⟩:=List.getElem?_eq_some_iff.1 hi
 obtain⟨h2,e2⟩:=List.getElem?_eq_some_iff.1 hj
 have:=List.pairwise_iff_getElem.1 h i (i+1) h1 h2 (by omega)
 rwa [e1,e2]at this
open Go.RowKit
structure Duo (Rep:RepT)(T:TypeId)(w0:World)(p1 p2:Value)(M:Int)(F1 F2:Nat→Prop)(l1 l2:ItL)(v:Value)(n:Nat)(mine:ItL)(os:List (Nat × Array Value))(w:World):Prop where
 r1:Rep w p1 F1 M l1
 r2:Rep w p2 F2 M l2
 f12: ∀k,F1 k→¬F2 k
 f1b: ∀k,F1 k→w0.heap.size≤k
 f2b: ∀k,F2 k→w0.heap.size≤k
 own:w.ownsRow w0.heap.size T 3 v n (ζ5 mine)
 fv: ∀k,v.ownBlock=some k→¬F1 k∧¬F2 k
 oth: ∀q∈os,Blk w q.1 q.2∧¬F1 q.1∧¬F2 q.1∧∀k,v.ownBlock=some k→q.1≠k
 bl:Below w0.heap.size w0 w
def DuoE (Rep:RepT)(T:TypeId)(w0:World)(p1 p2:Value)(M:Int)(l1 l2:ItL)(v:Value)(n:Nat)(mine:ItL)(os:List (Nat × Array Value))(w:World):Prop:=∃F1 F2,Duo Rep T w0 p1 p2 M F1 F2 l1 l2 v n mine os w
section
variable {Rep:RepT} {T:TypeId} {w0 w w':World} {p1 p2:Value} {M:Int} {F1 F2 F':Nat→Prop} {l1 l2 l' mine:ItL} {v:Value} {n:Nat} {os:List (Nat × Array Value)}
theorem Duo.off (R:RepOk Rep)(h:Duo Rep T w0 p1 p2 M F1 F2 l1 l2 v n mine os w) {G:Nat→Prop}(ho:Off G w w')(h1: ∀k,F1 k→¬G k)(h2: ∀k,F2 k→¬G k)(hv: ∀k,v.ownBlock=some k→¬G k)(hos: ∀q∈os,¬G q.1)(hB: ∀k,G k→w0.heap.size≤k):Duo Rep T w0 p1 p2 M F1 F2 l1 l2 v n mine os w':=
 ⟨R.keep h.r1 ho h1,R.keep h.r2 ho h2,h.f12,h.f1b,h.f2b,ho.own h.own hv,h.fv,fun q hq=>⟨ho.blk (h.oth q hq).1 (hos q hq),(h.oth q hq).2⟩,h.bl.trans (ho.below h.bl.size hB)⟩
theorem Duo.keep (R:RepOk Rep)(h:Duo Rep T w0 p1 p2 M F1 F2 l1 l2 v n mine os w)(hb:Below w.heap.size w w'):Duo Rep T w0 p1 p2 M F1 F2 l1 l2 v n mine os w':=
 h.off R (Off.of (F:=fun _=>False) hb) (fun _ _ e=>e) (fun _ _ e=>e) (fun _ _ e=>e) (fun _ _ e=>e) (fun _ e=>e.elim)
theorem Duo.one (R:RepOk Rep)(h:Duo Rep T w0 p1 p2 M F1 F2 l1 l2 v n mine os w)(ho:Off F1 w w')(hr:Rep w' p1 F' M l')(hF: ∀k,F' k→F1 k∨w.heap.size≤k):Duo Rep T w0 p1 p2 M F' F2 l' l2 v n mine os w':=by
 have new: ∀k,k<w.heap.size→¬F1 k→¬F' k:=fun k hk hn e=>by
  rcases hF k e with h1 | h1
  ·exact hn h1
  ·omega
 exact⟨hr,R.keep h.r2 ho (fun k h2 h1=>h.f12 k h1 h2),fun k hk h2=>by
  rcases hF k hk with h1 | h1
  ·exact h.f12 k h1 h2
  ·have:=R.lt h.r2 k h2;omega,fun k hk=>by
  rcases hF k hk with h1 | h1
  ·exact h.f1b k h1
  ·exact Nat.le_trans h.bl.size h1,h.f2b,ho.own h.own (fun k hk=>(h.fv k hk).1),fun k hk=>⟨new k (ζk h.own hk) (h.fv k hk).1,(h.fv k hk).2⟩,
  fun q hq=>⟨ho.blk (h.oth q hq).1 (h.oth q hq).2.1,new _ (h.oth q hq).1.sz (h.oth q hq).2.1,(h.oth q hq).2.2⟩,h.bl.trans (ho.below h.bl.size h.f1b)⟩
theorem Duo.swap (h:Duo Rep T w0 p1 p2 M F1 F2 l1 l2 v n mine os w):Duo Rep T w0 p2 p1 M F2 F1 l2 l1 v n mine os w:=
 ⟨h.r2,h.r1,fun k h2 h1=>h.f12 k h1 h2,h.f2b,h.f1b,h.own,fun k hk=>⟨(h.fv k hk).2,(h.fv k hk).1⟩,fun q hq=>⟨(h.oth q hq).1,(h.oth q hq).2.2.1,(h.oth q hq).2.1,(h.oth q hq).2.2.2⟩,h.bl⟩
theorem Duo.push (R:RepOk Rep)(h:Duo Rep T w0 p1 p2 M F1 F2 l1 l2 v n mine os w)(vs:Array Value)(U:TypeId):Duo Rep T w0 p1 p2 M F1 F2 l1 l2 v n mine ((w.heap.size,vs) :: os) (w.alloc (.cells vs U)):=by
 have k:=h.keep R ((Below.refl _ _).alloc (Nat.le_refl _) (.cells vs U))
 refine⟨k.r1,k.r2,k.f12,k.f1b,k.f2b,k.own,k.fv,fun q hq=> ?_,k.bl⟩
 rcases List.mem_cons.1 hq with rfl | hq
 ·exact⟨Blk.new w vs U,fun e=>absurd (R.lt h.r1 _ e) (Nat.lt_irrefl _),fun e=>absurd (R.lt h.r2 _ e) (Nat.lt_irrefl _),fun j hj e=>by
   have:=ζk h.own hj
   have e:w.heap.size=j:=e
   omega⟩
 ·exact k.oth q hq
theorem Duo.less (h:Duo Rep T w0 p1 p2 M F1 F2 l1 l2 v n mine os w) {os':List (Nat × Array Value)}(hs: ∀q∈os',q∈os):Duo Rep T w0 p1 p2 M F1 F2 l1 l2 v n mine os' w:=
 ⟨h.r1,h.r2,h.f12,h.f1b,h.f2b,h.own,h.fv,fun q hq=>h.oth q (hs q hq),h.bl⟩
theorem Duo.app (R:RepOk Rep)(h:Duo Rep T w0 p1 p2 M F1 F2 l1 l2 v n mine os w) {v':Value} {n':Nat} {mine':ItL}(ho:w'.ownsRow w0.heap.size T 3 v' n' (ζ5 mine'))(hg:w.grownBy w' v.ownBlock)(hv: ∀k,v'.ownBlock=some k→v.ownBlock=some k∨w.heap.size≤k):Duo Rep T w0 p1 p2 M F1 F2 l1 l2 v' n' mine' os w':=by
 have hoff:Off (fun k=>v.ownBlock=some k) w w':=⟨hg.os,hg.tape,hg.output,hg.size,fun k hk hn=>hg.block k hk fun e=>hn e.symm⟩
 refine⟨R.keep h.r1 hoff (fun k h1 e=>(h.fv k e).1 h1),R.keep h.r2 hoff (fun k h1 e=>(h.fv k e).2 h1),h.f12,h.f1b,h.f2b,ho,fun k hk=> ?_,fun q hq=>⟨hoff.blk (h.oth q hq).1 (fun e=>(h.oth q hq).2.2.2 _ e rfl),(h.oth q hq).2.1,(h.oth q hq).2.2.1,fun k hk e=> ?_⟩,h.bl.trans (hoff.below h.bl.size (ζ1c h.own))⟩
 ·rcases hv k hk with h1 | h1
  ·exact h.fv k h1
  ·exact⟨fun e=>by have:=R.lt h.r1 k e;omega,fun e=>by have:=R.lt h.r2 k e;omega⟩
 ·rcases hv k hk with h1 | h1
  ·exact(h.oth q hq).2.2.2 k h1 e
  ·have:=(h.oth q hq).1.sz;omega
end
end Corr
