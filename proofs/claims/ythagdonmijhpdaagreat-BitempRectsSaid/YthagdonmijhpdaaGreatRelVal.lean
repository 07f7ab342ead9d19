/- A region that draws its order, whose head's operations each yield one value, in whatever order, while the world goes from state to state -/
import Derived.Test.YthagdonmijhpdaaGreatRowRel
set_option linter.unusedVariables false
namespace Corr
open Go Go.RowKit
def setUpon (P:Program)(w:World)(R:Value→World→Prop):Result Next→Prop
 | .ok (.value u) w'=>R u w'
 | .ok .skip w'=>R undef w'
 | .ok (.enter f args) w'=>Calls P f args w' fun e w''=>∃u,e= .returned u∧R u w''
 | _=>False
def OpSet (P:Program)(o:Oper)(ev:Operand→Value)(w:World)(R:Value→World→Prop):Prop:=setUpon P w R ((execOp ev o).run P w)
theorem wp_of_set {P:Program} {o:Oper} {a:Act} {w:World} {R:Value→World→Prop} {K:Act→World→Prop} {Q:Exit→Act→World→Prop}(h:OpSet P o a.eval w R)
  (hK: ∀u w',R u w'→K (a.put o.dst u) w'):o.wp P a w K Q:=by
 unfold OpSet at h
 unfold Oper.wp
 generalize (execOp a.eval o).run P w=r at*
 cases r with
 | ok x w'=>
  cases x <;> simp only [setUpon]at h <;> simp only [Oper.upon]
  case value u=>exact hK _ _ h
  case skip=>exact hK _ _ h
  case enter f args=>exact h.mono fun e w'' ⟨u,he,hr⟩=>by subst he;exact hK _ _ hr
 | halt x w'=>simp only [setUpon]at h
def addS (S:Nat→Bool)(i:Nat):Nat→Bool:=fun j=>j == i || S j
def behind (listed:Array Bool):Nat→Bool:=fun j=>listed.getD j false
theorem behind_set {listed:Array Bool} {i:Nat}(h:i<listed.size):behind (listed.setIfInBounds i true)=addS (behind listed) i:=by
 funext j
 unfold behind addS
 by_cases e:j=i
 ·subst e;simp [h]
 ·rw [getD_set_ne false (Ne.symm e),show (j == i)=false from beq_eq_false_iff_ne.2 e,Bool.false_or]
section
variable (P:Program) (l:List Oper) (n:Nat) (C:(Nat→Bool)→World→Prop) (val:Nat→Value) (eg:List Nat) (a0:Act)
def stepS (o:Oper)(i:Nat):Prop:=∀(ev:Operand→Value) (w:World) (S:Nat→Bool),Ev a0 (ζu l n) ev→C S w→S i=false→(∀j∈depsL o,S j=true∧ev (.tmp (dstAt l j))=val j)→
 if wantE l ev o=true then(if eg.contains i=true then(∀w,(execOp ev o).run P w= .ok (.value (val i)) w)∧C (addS S i) w else OpSet P o ev w (fun u w'=>u=val i∧C (addS S i) w'))else val i=undef∧C (addS S i) w
def stepsS:List Oper→Nat→Prop
 | [],_=>True
 | o :: r,i=>stepS P l n C val eg a0 o i∧stepsS r (i+1)
end
theorem ζn {P:Program} {o:Oper} {ev:Operand→Value} {w w':World} {R:Value→World→Prop} {u:Value}(hr:(execOp ev o).run P w= .ok (.value u) w')(hR:R u w'):OpSet P o ev w R:=by
 unfold OpSet;rw [hr];exact hR
theorem set_call {P:Program} {o:Oper} {ev:Operand→Value} {w:World} {R:Value→World→Prop} {f:FuncId} {args:Array Value} {Q:Ending→World→Prop}(hr:(execOp ev o).run P w= .ok (.enter f args) w)(hc:Calls P f args w Q)
  (hQ: ∀e w',Q e w'→∃u,e= .returned u∧R u w'):OpSet P o ev w R:=by
 unfold OpSet;rw [hr];exact hc.mono hQ
def addV (val:Nat→Value)(i:Nat)(u:Value):Nat→Value:=fun j=>if j=i then u else val j
section
variable (P:Program) (l:List Oper) (n:Nat) (C:(Nat→Bool)→(Nat→Value)→World→Prop) (eg:List Nat) (a0:Act)
def stepV (o:Oper)(i:Nat):Prop:=∀(ev:Operand→Value) (w:World) (S:Nat→Bool) (val:Nat→Value),Ev a0 (ζu l n) ev→C S val w→S i=false→(∀j∈depsL o,S j=true∧ev (.tmp (dstAt l j))=val j)→
 if wantE l ev o=true then(if eg.contains i=true then ∃u,(∀w,(execOp ev o).run P w= .ok (.value u) w)∧C (addS S i) (addV val i u) w else OpSet P o ev w (fun u w'=>C (addS S i) (addV val i u) w'))else C (addS S i) (addV val i undef) w
def stepsV:List Oper→Nat→Prop
 | [],_=>True
 | o :: r,i=>stepV P l n C eg a0 o i∧stepsV r (i+1)
end
section
variable {P:Program} {l:List Oper} {n:Nat} {C:(Nat→Bool)→(Nat→Value)→World→Prop} {eg:List Nat} {a0:Act}
theorem stepsV_get (hs:stepsV P l n C eg a0 (l.take n) 0): ∀i o,i<n→l[i]? =some o→stepV P l n C eg a0 o i:=by
 have key: ∀(r:List Oper) (k:Nat),stepsV P l n C eg a0 r k→∀i o,r[i]? =some o→stepV P l n C eg a0 o (k+i):=by
  intro r
  induction r with
  | nil=>intro k _ i o h;cases i <;> cases h
  | cons x r ih=>
   intro k h i o ho
   cases i with
   | zero=>
    have:x=o:=by simpa using ho
    subst this
    exact h.1
   | succ i=>
    have:=ih (k+1) h.2 i o (by simpa using ho)
    rw [show k+(i+1)=k+1+i by omega];exact this
 intro i o hi ho
 have:=key _ 0 hs i o (by rw [List.getElem?_take];simp [hi,ho])
 rwa [Nat.zero_add]at this
abbrev WInv (l:List Oper)(n:Nat)(val:Nat→Value)(a0:Act)(listed:Array Bool)(a:Act)(w:World):Prop:=RInv l n (fun _=>True) (fun i v _=>v=val i) [] a0 listed a w
theorem val_any {Q:Exit→Act→World→Prop} {g:Nat}(F:FormOf l n a0.tmps.size [] eg)(hQ: ∀c a w,¬Q (.panic c) a w)(hs: ∀i o,i<n→l[i]? =some o→stepV P l n C eg a0 o i)
  (hT: ∀listed a w val,WInv l n val a0 listed a w→C (behind listed) val w→(∀i,i<n→listed.getD i false=true)→wpAny P .any l.toArray Q g listed a w):
  ∀(f:Nat) (listed:Array Bool) (a:Act) (w:World) (val:Nat→Value),(List.range n).countP (fun i=> !listed.getD i false)≤f→WInv l n val a0 listed a w→C (behind listed) val w→wpAny P .any l.toArray Q (f+g) listed a w:=by
 have addM: ∀(g:Nat) (listed:Array Bool) (a:Act) (w:World),wpAny P .any l.toArray Q g listed a w→wpAny P .any l.toArray Q (g+1) listed a w:=by
  intro g
  induction g with
  | zero=>intro listed a w h;exact⟨fun _=>h.2,fun i hi=>by rw [h.1]at hi;cases hi⟩
  | succ g ih=>intro listed a w h;exact⟨h.1,fun i hi=>wpOp_mono (fun a' w' h'=>ih _ a' w' h') (h.2 i hi)⟩
 have addN: ∀(f:Nat) (listed:Array Bool) (a:Act) (w:World),wpAny P .any l.toArray Q g listed a w→wpAny P .any l.toArray Q (f+g) listed a w:=by
  intro f
  induction f with
  | zero=>intro listed a w h;rw [Nat.zero_add];exact h
  | succ f ih=>intro listed a w h;rw [show f+1+g=f+g+1 by omega];exact addM _ _ _ _ (ih _ _ _ h)
 intro f
 induction f with
 | zero=>
  intro listed a w val hc I hC
  refine addN 0 _ _ _ (hT listed a w val I hC fun i hi=> ?_)
  have h0:(List.range n).countP (fun i=> !listed.getD i false)=0:=by omega
  have:=List.countP_eq_zero.1 h0 i (List.mem_range.2 hi)
  simpa using this
 | succ f ih=>
  intro listed a w val hc I hC
  by_cases hall: ∀i,i<n→listed.getD i false=true
  ·exact addN _ _ _ _ (hT listed a w val I hC hall)
  ·have hex: ∃i,i<n∧listed.getD i false=false:=by
    rcases Classical.em (∃i,i<n∧listed.getD i false=false)with h | h
    ·exact h
    ·exact absurd (fun i hi=>by
      cases e:listed.getD i false with
      | true=>rfl
      | false=>exact absurd ⟨i,hi,e⟩ h) hall
   have hlsz:listed.size=l.length:=by simpa using I.inv.size
   have hmin: ∀k,k<n→listed.getD k false=false→∃i,i∈Region.ready .any l.toArray listed:=by
    intro k
    induction k using Nat.strongRecOn with
    | _ k ihk=>
     intro hk hkl
     have hkl':k<l.length:=Nat.lt_of_lt_of_le hk F.le
     by_cases hb: ∀e∈(l[k]'hkl').after,Region.binds .any e=true→listed.getD e.on false=true
     ·exact⟨k,mem_ready.2 ⟨getD_in (by omega) hkl,l[k]'hkl',by simp [hkl'],hb⟩⟩
     ·have: ∃e∈(l[k]'hkl').after,Region.binds .any e=true∧listed.getD e.on false=false:=by
       rcases Classical.em (∃e∈(l[k]'hkl').after,Region.binds .any e=true∧listed.getD e.on false=false)with h | h
       ·exact h
       ·exact absurd (fun e he hbe=>by
         cases e':listed.getD e.on false with
         | true=>rfl
         | false=>exact absurd ⟨e,he,hbe,e'⟩ h) hb
      obtain⟨e,he,hbe,hel⟩:=this
      have hlt:=F.edge k _ hk (List.getElem?_eq_getElem hkl') e he hbe
      exact ihk e.on hlt (by omega) hel
   obtain⟨k0,hk0,hk0l⟩:=hex
   obtain⟨i0,hi0⟩:=hmin k0 hk0 hk0l
   rw [show f+1+g=f+g+1 by omega]
   have step: ∀i,i<n→i∈Region.ready .any l.toArray listed→∃o d,l[i]? =some o∧o.dst=some d∧Region.wanted o (yielded l.toArray a.tmps)=wantE l a.eval o∧
     (if wantE l a.eval o=true then(if eg.contains i=true then ∃u,(∀w,(execOp a.eval o).run P w= .ok (.value u) w)∧C (addS (behind listed) i) (addV val i u) w else OpSet P o a.eval w (fun u w'=>C (addS (behind listed) i) (addV val i u) w'))else C (addS (behind listed) i) (addV val i undef) w)∧
     ∀u w',C (addS (behind listed) i) (addV val i u) w'→wpAny P .any l.toArray Q (f+g) (listed.setIfInBounds i true) (a.put o.dst u) w':=by
    intro i hin hi
    obtain⟨hiu,o,ho,hdeps⟩:=mem_ready.1 hi
    have hol:l[i]? =some o:=by simpa using ho
    obtain⟨d,hdo,hdl⟩:=F.dst i o hin hol
    have hdi:=ζ4i hol hdo
    have hil:i<listed.size:=by rw [hlsz];exact Nat.lt_of_lt_of_le hin F.le
    have hiu':listed.getD i false=false:=getD_both hiu
    have hEv:Ev a0 (ζu l n) a.eval:=⟨fun _=>rfl,fun _=>rfl,fun _=>rfl,fun s hsd=>ζ50 (I.off s fun j hj _ hjs=>by
     have hjl:j<l.length:=Nat.lt_of_lt_of_le hj F.le
     obtain⟨dj,hdj,_⟩:=F.dst j _ hj (List.getElem?_eq_getElem hjl)
     have hjd:=ζ4i (List.getElem?_eq_getElem hjl) hdj
     have hmem:s∈ζu l n:=List.mem_filterMap.2 ⟨l[j],by
      rw [List.mem_take_iff_getElem];exact⟨j,by omega,rfl⟩,by rw [hdj,←hjs,hjd]⟩
     rw [List.contains_iff_mem.2 hmem]at hsd
     cases hsd)⟩
    have hst:=hs i o hin hol a.eval w (behind listed) val hEv hC hiu' (fun j hj=>by
     obtain⟨e,he,rfl⟩:=List.mem_map.1 hj
     obtain⟨he1,he2⟩:=List.mem_filter.1 he
     have heo:e∈o.after:=by simpa using he1
     have:=hdeps e heo he2
     have hlt:=F.edge i o hin hol e heo he2
     exact⟨this,I.v e.on (by omega) this⟩)
    have hw:Region.wanted o (yielded l.toArray a.tmps)=wantE l a.eval o:=by
     unfold Region.wanted wantE
     cases hg:o.guard with
     | none=>rfl
     | some gb=>
      obtain⟨gi,b⟩:=gb
      obtain⟨_,dg,hdg,hdgl⟩:=F.guard i o gi b hin hol hg
      have h1:dstAt l gi=dg:=by simp [dstAt,hdg]
      have h2:dg<a.tmps.size:=by rw [I.size];exact hdgl
      have h3:((l.toArray[gi]?).bind (·.dst))=some dg:=by simpa using hdg
      simp only [yielded,h3,h1,Option.bind_some]
      have h4:a.eval (.tmp dg)=a.tmps[dg]:=by
       show a.tmps.getD dg undef=_
       simp [h2]
      rw [h4,Array.getElem?_eq_getElem h2]
      cases a.tmps[dg] <;> rfl
    have hnext: ∀u w',C (addS (behind listed) i) (addV val i u) w'→wpAny P .any l.toArray Q (f+g) (listed.setIfInBounds i true) (a.put o.dst u) w':=by
     intro u w' hC'
     have hsetne: ∀j,j≠i→(listed.setIfInBounds i true).getD j false=listed.getD j false:=fun j hj=>getD_set_ne false (Ne.symm hj)
     refine ih _ _ _ (addV val i u) ?_ ?_ (by rw [behind_set hil];exact hC')
     ·have:=countP_lt (p:=fun j=> !listed.getD j false) (q:=fun j=> !(listed.setIfInBounds i true).getD j false) (List.range n)
       (fun j _ h=>by
        by_cases e:j=i
        ·subst e;simp [hiu']
        ·rw [hsetne j e]at h;exact h)
       ⟨i,List.mem_range.2 hin,by simp [hiu'],by simp [hil]⟩
      omega
     ·have hput:a.put o.dst u=a.put (some d) u:=by rw [hdo]
      have vself:vOf l (a.put o.dst u) i=u:=by unfold vOf;rw [hput,hdi];exact ζ3q (by rw [I.size];exact hdl)
      have vne: ∀j,j<n→j≠i→vOf l (a.put o.dst u) j=vOf l a j:=fun j hj hji=>by
       unfold vOf;rw [hput];exact ζ4z (by rw [←hdi];exact F.apart i j hin hj (Ne.symm hji))
      refine⟨trivial,by rw [hput];simpa [Act.put]using I.size,by rw [hput];exact I.defers,fun s hsn=> ?_,fun j hj hjl=> ?_,fun j hja hj hjl=> ?_,fun j k hja hka hj hk hjk hjl hkl=> ?_,I.inv.set hi hin⟩
      ·rw [hput]
       show (a.tmps.setIfInBounds d u)[s]? =a0.tmps[s]?
       have h1:d≠s:=by rw [←hdi];exact hsn i hin (by simp [hil])
       rw [Array.getElem?_setIfInBounds_ne h1]
       exact I.off s fun j hj hjl=>by
        by_cases e:j=i
        ·subst e;rw [hdi];exact h1
        ·exact hsn j hj (by rw [hsetne j e];exact hjl)
      ·by_cases e:j=i
       ·subst e;rw [vself];simp [addV]
       ·rw [vne j hj e];rw [hsetne j e]at hjl;simp only [addV,if_neg e];exact I.v j hj hjl
      ·cases hja
      ·cases hja
    exact⟨o,d,hol,hdo,hw,hst,hnext⟩
   by_cases hegr: ∃i,i<n∧eg.contains i=true∧i∈Region.ready .any l.toArray listed
   ·obtain⟨i,hin,hieg,hi⟩:=hegr
    obtain⟨o,d,hol,hdo,hw,hst,hnext⟩:=step i hin hi
    have hoa:l.toArray[i]? =some o:=by simpa using hol
    obtain⟨hial,hfree⟩:=F.eager i o hin hol hieg
    obtain⟨_,o',ho',hdeps⟩:=mem_ready.1 hi
    have:o'=o:=Option.some.inj (ho'.symm.trans hoa)
    subst this
    obtain⟨v,hy,hCv⟩: ∃v,Yields P l.toArray o' v a∧C (addS (behind listed) i) (addV val i v) w:=by
     by_cases hwt:wantE l a.eval o'=true
     ·rw [if_pos hwt,if_pos hieg]at hst
      obtain⟨u,h1,h2⟩:=hst
      exact⟨u,.inl ⟨hw.trans hwt,h1⟩,h2⟩
     ·rw [if_neg hwt]at hst
      exact⟨undef,.inr ⟨hw.trans (by simpa using hwt),rfl⟩,hst⟩
    refine wpAny_first hoa (Region.noSelect_spec F.sel) (fun c a w h=>absurd h (hQ c _ w)) (f+g) listed a w ?_ hi hy (hnext v w hCv)
    intro j oj hoj hji hjl hjw
    rcases hfree j oj (by simpa using hoj) hji with h | h | h
    ·obtain⟨e,he,rfl⟩:=List.mem_map.1 h
     obtain⟨he1,he2⟩:=List.mem_filter.1 he
     have h1:=hdeps e (by simpa using he1) he2
     rw [getD_both hjl]at h1
     cases h1
    ·obtain⟨oj',hoj',e,he,hb,hon⟩:=Region.waitsFor_spec h
     have:oj'=oj:=Option.some.inj (hoj'.symm.trans hoj)
     subst this
     exact absurd hon (hjw e he hb)
    ·exact h
   ·have hhead: ∀t,t∈Region.ready .any l.toArray listed→t<n:=by
     intro t ht
     rcases Nat.lt_or_ge t n with h | h
     ·exact h
     ·exfalso
      obtain⟨_,ot,hot,htd⟩:=mem_ready.1 ht
      have htl:t<l.length:=by simpa using(Array.getElem?_eq_some_iff.1 hot).1
      have htd': ∀o,l[t]? =some o→∀e∈o.after,Region.binds .any e=true→listed.getD e.on false=true:=fun o ho e he hb=>by
       have:o=ot:=Option.some.inj ((show l.toArray[t]? =some o by simpa using ho).symm.trans hot)
       subst this;exact htd e he hb
      have hk0l':k0<l.length:=Nat.lt_of_lt_of_le hk0 F.le
      rcases F.tail t h htl k0 _ hk0 (List.getElem?_eq_getElem hk0l')with h1 | ⟨h1,h2⟩
      ·rw [ζ18 I.inv 3 t k0 h1 htd']at hk0l;cases hk0l
      ·refine hegr ⟨k0,hk0,h1,mem_ready.2 ⟨getD_in (by omega) hk0l,l[k0],by simp [hk0l'],fun e he hb=> ?_⟩⟩
       exact ζ18 I.inv 3 t e.on (h2 e.on (List.mem_map.2 ⟨e,List.mem_filter.2 ⟨by simpa using he,hb⟩,rfl⟩)) htd'
    refine⟨(fun h0=>by rw [h0]at hi0;cases hi0),fun i hi=> ?_⟩
    have hin:=hhead i hi
    obtain⟨o,d,hol,hdo,hw,hst,hnext⟩:=step i hin hi
    have ho:l.toArray[i]? =some o:=by simpa using hol
    have hne:eg.contains i=false:=by
     cases h:eg.contains i with
     | false=>rfl
     | true=>exact absurd ⟨i,hin,h,hi⟩ hegr
    unfold wpOp
    simp only [ho]
    rw [hw]
    by_cases hwt:wantE l a.eval o=true
    ·rw [if_pos hwt]
     rw [if_pos hwt,if_neg (by rw [hne];decide)]at hst
     exact .inl (wp_of_set hst fun u w' h=>hnext u w' h)
    ·rw [if_neg hwt]
     rw [if_neg hwt]at hst
     exact hnext undef w hst
theorem ζ3 {id:Nat} {Q:Exit→Act→World→Prop} {w:World}(n:Nat)(C:(Nat→Bool)→(Nat→Value)→World→Prop)(eg:List Nat)(hm:P.follows .mixedOrders=true)
  (hB:relB l n [] eg a0.tmps.size=true) (hC:C (fun _=>false) (fun _=>undef) w.drew)
  (hs:stepsV P l n C eg a0 (l.take n) 0)
  (hf: ∀(S:Nat→Bool) (val:Nat→Value) (w':World),(∀i,i<n→S i=true)→C S val w'→finR (fun i v _=>v=val i) [] w' (fun a'=>wpList P l.toArray (calm Q) (l.drop n) a' w') (l.take n) 0 a0 []):(Code.region id l.toArray true).wp P Q a0 w:=by
 have F:=form_of hB
 refine Code.wp_mono (Q:=calm Q) (fun _ _ _ h=>h.2) (wp_region_any hm ?_)
 have inv0:HeadInv .any l.toArray n (Array.replicate l.toArray.size false):=
  ⟨by simp,fun j oj _ hl=>(by rw [getD_replicate_false]at hl;cases hl),fun t _ ht=>getD_in (by simpa using ht) (getD_replicate_false _ _)⟩
 have none0: ∀j,(Array.replicate l.toArray.size false).getD j false=true→False:=fun j h=>by rw [getD_replicate_false]at h;cases h
 have I0:WInv l n (fun _=>undef) a0 (Array.replicate l.toArray.size false) a0 w.drew:=
  ⟨trivial,rfl,rfl,fun _ _=>rfl,fun j _ h=>(none0 j h).elim,fun j _ _ h=>(none0 j h).elim,fun i _ _ _ _ _ _ h _=>(none0 i h).elim,inv0⟩
 have hC0:C (behind (Array.replicate l.toArray.size false)) (fun _=>undef) w.drew:=by
  have e:behind (Array.replicate l.toArray.size false)=fun _=>false:=by funext j;unfold behind;exact getD_replicate_false _ _
  rw [e];exact hC
 have hfin:=val_any (P:=P) (Q:=calm Q) (g:=l.length-n) F (fun c _ _ h=>h.1 c rfl) (stepsV_get hs)
  (fun listed a' w' val I hCl hall=>by
   have hQ:=fin_get F I hall (hf (behind listed) val w' hall hCl)
   have hl:listed=(List.replicate n true++List.replicate (l.length-n) false).toArray:=by
    have hsz2:listed.size=l.length:=by simpa using I.inv.size
    have hle:=F.le
    apply Array.ext
    ·simp [hsz2];omega
    ·intro i h1 h2
     by_cases hi:i<n
     ·have:=hall i hi
      simp [h1]at this
      rw [this]
      simp only [List.getElem_toArray]
      rw [List.getElem_append_left (by simpa using hi)]
      simp
     ·have:=I.inv.tail i (by omega) (by simpa [hsz2]using h1)
      simp [h1]at this
      rw [this]
      simp only [List.getElem_toArray]
      rw [List.getElem_append_right (by simp;omega)]
      simp
   have:=wpAny_of_seq (P:=P) (md:= .any) (ops:=l.toArray) (Q':=calm Q) (l.drop n) n listed a' w' (fun j=>by simp [List.getElem?_drop]) (by rw [hl];simpa using F.seq) hQ
   simpa using this)
  n (Array.replicate l.toArray.size false) a0 w.drew (fun _=>undef) (by
   have:=List.countP_le_length (p:=fun i=> !(Array.replicate l.toArray.size false).getD i false) (l:=List.range n)
   simpa using this) I0 hC0
 have hle:=F.le
 rw [show n+(l.length-n)=l.toArray.size by simp;omega]at hfin
 exact hfin
end
section
variable {P:Program} {l:List Oper} {n:Nat} {eg:List Nat} {a0:Act}
theorem finR_of {V V':Nat→Value→World→Prop} {w:World} {Fin:Act→Prop} : ∀ {r:List Oper} {k:Nat} {a:Act},(∀j,k≤j→j<k+r.length→∀v,V j v w→V' j v w)→finR V' [] w Fin r k a []→finR V [] w Fin r k a []
 | [],_,_,_,h=>h
 | o :: r,k,a,hv,h=>fun v h1 hu=>finR_of (fun j h2 h3=>hv j (by omega) (by rw [List.length_cons];omega)) (h v (hv k (Nat.le_refl _) (by rw [List.length_cons];omega) v h1) hu)
theorem ζ24 {id:Nat} {Q:Exit→Act→World→Prop} {w:World}(n:Nat)(C:(Nat→Bool)→World→Prop)(val:Nat→Value)(eg:List Nat)(hm:P.follows .mixedOrders=true)
  (hB:relB l n [] eg a0.tmps.size=true) (hC:C (fun _=>false) w.drew)
  (hs:stepsS P l n C val eg a0 (l.take n) 0)
  (hf: ∀(S:Nat→Bool) (w':World),(∀i,i<n→S i=true)→C S w'→finR (fun i v _=>v=val i) [] w' (fun a'=>wpList P l.toArray (calm Q) (l.drop n) a' w') (l.take n) 0 a0 []):(Code.region id l.toArray true).wp P Q a0 w:=by
 have up: ∀ {S:Nat→Bool} {v:Nat→Value} {i:Nat},(∀j,S j=true→v j=val j)→∀j,addS S i j=true→addV v i (val i) j=val j:=by
  intro S v i h j hj
  unfold addV
  by_cases e:j=i
  ·rw [if_pos e,e]
  ·rw [if_neg e]
   unfold addS at hj
   rw [show (j == i)=false from beq_eq_false_iff_ne.2 e,Bool.false_or]at hj
   exact h j hj
 refine ζ3 n (fun S v w=>C S w∧∀j,S j=true→v j=val j) eg hm hB ⟨hC,fun j h=>by cases h⟩ ?_ ?_
 ·have key: ∀(r:List Oper) (k:Nat),stepsS P l n C val eg a0 r k→stepsV P l n (fun S v w=>C S w∧∀j,S j=true→v j=val j) eg a0 r k:=by
   intro r
   induction r with
   | nil=>intro k h;exact trivial
   | cons o r ih=>
    intro k h
    refine⟨?_,ih _ h.2⟩
    rintro ev w S v hE ⟨hc,hv⟩ hS hd
    have h1:=h.1 ev w S hE hc hS fun j hj=>⟨(hd j hj).1,(hd j hj).2.trans (hv j (hd j hj).1)⟩
    by_cases hw:wantE l ev o=true
    ·rw [if_pos hw]at h1 ⊢
     by_cases he:eg.contains k=true
     ·rw [if_pos he]at h1 ⊢
      exact⟨val k,h1.1,h1.2,up hv⟩
     ·rw [if_neg he]at h1 ⊢
      unfold OpSet at h1 ⊢
      generalize (execOp ev o).run P w=r at*
      cases r with
      | ok x w'=>
       cases x <;> simp only [setUpon]at h1 ⊢
       ·rw [h1.1];exact⟨h1.2,up hv⟩
       ·rw [h1.1];exact⟨h1.2,up hv⟩
       ·exact h1.mono fun e w'' ⟨u,e1,e2,e3⟩=>⟨u,e1,by rw [e2];exact⟨e3,up hv⟩⟩
      | halt x w'=>simp only [setUpon]at h1
    ·rw [if_neg hw]at h1 ⊢
     rw [←h1.1];exact⟨h1.2,up hv⟩
  exact key _ _ hs
 ·intro S v w' hS hc
  exact finR_of (fun j _ h2 u h3=>h3.trans (hc.2 j (hS j (Nat.lt_of_lt_of_le h2 (by rw [Nat.zero_add];exact List.length_take_le n l))))) (hf S w' hS hc.1)
end
def VVs (n:Nat)(L:List (Value→Prop))(S:Nat→Bool)(val:Nat→Value):Prop:=∀i,i<n→S i=true→(L.getD i (fun _=>True)) (val i)
theorem VVs.start {n:Nat} {L:List (Value→Prop)} {val:Nat→Value} :VVs n L (fun _=>false) val:=fun _ _ h=>by cases h
theorem VVs.add {n:Nat} {L:List (Value→Prop)} {S:Nat→Bool} {val:Nat→Value}(h:VVs n L S val) {i:Nat} {u:Value}(hu:(L.getD i (fun _=>True)) u):VVs n L (addS S i) (addV val i u):=by
 intro j hj hS
 by_cases e:j=i
 ·subst e;simp only [addV,if_true];exact hu
 ·simp only [addV,if_neg e]
  refine h j hj ?_
  unfold addS at hS
  rwa [show (j == i)=false from beq_eq_false_iff_ne.2 e,Bool.false_or]at hS
def Clo (T:List (List Nat))(S:Nat→Bool):Prop:=∀i,S i=true→∀j∈T.getD i [],S j=true
theorem Clo.start {T:List (List Nat)} :Clo T (fun _=>false):=fun _ h=>by cases h
theorem Clo.add {T:List (List Nat)} {S:Nat→Bool}(h:Clo T S) {i:Nat}(hi: ∀j∈T.getD i [],S j=true):Clo T (addS S i):=by
 intro k hk j hj
 have hup: ∀j,S j=true→addS S i j=true:=fun j h=>by unfold addS;rw [h,Bool.or_true]
 by_cases e:k=i
 ·subst e;exact hup j (hi j hj)
 ·refine hup j (h k ?_ j hj)
  unfold addS at hk
  rwa [show (k == i)=false from beq_eq_false_iff_ne.2 e,Bool.false_or]at hk
theorem vd {p:Prop} {α:Type} {a b c:α}(h:p∧a=b)(k:p→b=c):a=c:=h.2.trans (k h.1)
theorem fc {α:Type} {p:α→Prop} {a:α} {l:List α}(x:p a)(y: ∀j∈l,p j): ∀j∈a :: l,p j:=List.forall_mem_cons.2 ⟨x,y⟩
theorem fz {α:Type} {p:α→Prop} : ∀j∈([]:List α),p j:=fun _ h=>by cases h
theorem pv {c d:Bool} {X Y:Prop} {run:World→Result Next} {C:Value→Prop}(u:Value)(hC:C u)(h: ∀w,run w= .ok (.value u) w)(hc:c=true)(hd:d=true):if c=true then(if d=true then ∃u,(∀w,run w= .ok (.value u) w)∧C u else X)else Y:=ifw hc (ifw hd ⟨u,h,hC⟩)
section
variable {P:Program} {l:List Oper} {n:Nat} {L:List (Value→Prop)} {T:List (List Nat)} {R:(Nat→Bool)→(Nat→Value)→World→Prop} {eg:List Nat} {a0:Act} {o:Oper} {i:Nat}
theorem ζ57 {ev:Operand→Value} {S:Nat→Bool} {val:Nat→Value} {ss:List Nat}(hE:Ev a0 (ζu l n) ev)(hs:(ss.all fun s=> !(ζu l n).contains s)=true)(hV:VVs n L S val)(hn:((depsL o).all fun j=>decide (j<n))=true)(hd: ∀j∈depsL o,S j=true∧ev (.tmp (dstAt l j))=val j):EvK P a0 ss (depsL o) (fun j v=>(L.getD j (fun _=>True)) v) l ev:=
 ⟨hE.const,hE.func,AllQ.of fun s h=>hE.tmp s (by simpa using List.all_eq_true.1 hs s h),AllQ.of fun j hj=>by
  have h1:=hd j hj
  rw [h1.2]
  exact hV j (by simpa using List.all_eq_true.1 hn j hj) h1.1⟩
theorem ζi {ev:Operand→Value} {S:Nat→Bool} {val:Nat→Value}(hK:Clo T S)(hT:((T.getD i []).all fun j=>(depsL o).contains j)=true)(hd: ∀j∈depsL o,S j=true∧ev (.tmp (dstAt l j))=val j):Clo T (addS S i):=
 Clo.add hK fun j hj=>(hd j (by simpa using List.all_eq_true.1 hT j hj)).1
theorem qU (ss:List Nat)(hg:o.guard=none:=by rfl)(he:eg.contains i=true:=by rfl)(hn:((depsL o).all fun j=>decide (j<n))=true:=by rfl)(hT:((T.getD i []).all fun j=>(depsL o).contains j)=true:=by rfl)(hs:(ss.all fun s=> !(ζu l n).contains s)=true:=by rfl)
  (hR: ∀S val w u,R S val w→S i=false→R (addS S i) (addV val i u) w:=by(intro S val w u hw hS;first | exact hw | (simpa [addS,addV]using hw)))
  (hrun: ∀(ev:Operand→Value),EvK P a0 ss (depsL o) (fun j v=>(L.getD j (fun _=>True)) v) l ev→∃u,(L.getD i (fun _=>True)) u∧∀w,(execOp ev o).run P w= .ok (.value u) w:=by
   (intro ev hK;obtain⟨e1,e2,hs,hq⟩:=hK;refine⟨_,rfl,fun w9=> ?_⟩;(repeat (have q:=AllQ.hd hq;replace hq:=AllQ.tl hq;(conv at q=>whnf);try (conv at q=>lhs;arg 1;arg 1;whnf)));(repeat (have q:=AllQ.hd hs;replace hs:=AllQ.tl hs;(conv at q=>rhs;whnf)));clear hq hs;go_simp)):stepV P l n (fun S val w=>VVs n L S val∧Clo T S∧R S val w) eg a0 o i:=by
 rintro ev w S val hE ⟨hV,hK,hw⟩ hS hd
 obtain⟨u,hu,hr⟩:=hrun ev (ζ57 hE hs hV hn hd)
 exact ifw (ζ12 hg) (ifw he ⟨u,hr,VVs.add hV hu,ζi hK hT hd,hR S val w u hw hS⟩)
theorem qL {F:World→Prop}(ss:List Nat)(k: ∀ {S val w},R S val w→F w)(hg:o.guard=none:=by rfl)(he:eg.contains i=false:=by rfl)(hn:((depsL o).all fun j=>decide (j<n))=true:=by rfl)(hT:((T.getD i []).all fun j=>(depsL o).contains j)=true:=by rfl)(hs:(ss.all fun s=> !(ζu l n).contains s)=true:=by rfl)
  (hR: ∀S val w u,R S val w→S i=false→R (addS S i) (addV val i u) w:=by(intro S val w u hw hS;first | exact hw | (simpa [addS,addV]using hw)))
  (hrun: ∀(ev:Operand→Value) (w:World),F w→EvK P a0 ss (depsL o) (fun j v=>(L.getD j (fun _=>True)) v) l ev→∃u,(L.getD i (fun _=>True)) u∧(execOp ev o).run P w= .ok (.value u) w:=by
   (intro ev w kx hK;obtain⟨e1,e2,hs,hq⟩:=hK;refine⟨_,rfl,?_⟩;(repeat (have q:=AllQ.hd hq;replace hq:=AllQ.tl hq;(conv at q=>whnf);try (conv at q=>lhs;arg 1;arg 1;whnf)));(repeat (have q:=AllQ.hd hs;replace hs:=AllQ.tl hs;(conv at q=>rhs;whnf)));clear hq hs;(repeat (have ky:=And.left kx;replace kx:=And.right kx));go_simp)):stepV P l n (fun S val w=>VVs n L S val∧Clo T S∧R S val w) eg a0 o i:=by
 rintro ev w S val hE ⟨hV,hK,hw⟩ hS hd
 obtain⟨u,hu,hr⟩:=hrun ev w (k hw) (ζ57 hE hs hV hn hd)
 exact ifw (ζ12 hg) (ifn he (ζn hr ⟨VVs.add hV hu,ζi hK hT hd,hR S val w u hw hS⟩))
theorem finL {S:Nat→Bool} {val:Nat→Value} {w:World} {Fin:Act→Prop}(hV:VVs n L S val)(hS: ∀i,i<n→S i=true)(h:finR (fun i v _=>v=val i∧(L.getD i (fun _=>True)) v) [] w Fin (l.take n) 0 a0 []):finR (fun i v _=>v=val i) [] w Fin (l.take n) 0 a0 []:=
 finR_of (fun j _ h2 v h3=>⟨h3,by
  have hj:j<n:=Nat.lt_of_lt_of_le h2 (by rw [Nat.zero_add];exact List.length_take_le n l)
  rw [h3];exact hV j hj (hS j hj)⟩) h
def chainB (T:List (List Nat)):Nat→List Nat→Nat→Bool
 | a,[],b=>a == b
 | a,c :: p,b=>(T.getD a []).contains c && chainB T c p b
theorem Clo.no {S:Nat→Bool}(hK:Clo T S) {b:Nat}(hS:S b=false)(a:Nat)(p:List Nat)(h:chainB T a p b=true:=by rfl):S a=false:=by
 have key: ∀(p:List Nat) (a:Nat),chainB T a p b=true→S a=true→S b=true:=by
  intro p
  induction p with
  | nil=>intro a h h1;have:=eq_of_beq h;rwa [←this]
  | cons c p ih=>
   intro a h h1
   simp only [chainB,Bool.and_eq_true]at h
   exact ih c h.2 (hK a h1 c (by simpa using h.1))
 cases h0:S a with
 | false=>rfl
 | true=>rw [key p a h h0]at hS;cases hS
theorem qE {ev:Operand→Value} {w:World} {S:Nat→Bool} {val:Nat→Value} {i:Nat}(ss:List Nat)(hE:Ev a0 (ζu l n) ev)(hV:VVs n L S val)(hd: ∀j∈depsL o,S j=true∧ev (.tmp (dstAt l j))=val j)(hn:((depsL o).all fun j=>decide (j<n))=true:=by rfl)(hs:(ss.all fun s=> !(ζu l n).contains s)=true:=by rfl)
  (hrun:EvK P a0 ss (depsL o) (fun j v=>(L.getD j (fun _=>True)) v) l ev→∃u,(L.getD i (fun _=>True)) u∧(execOp ev o).run P w= .ok (.value u) w:=by
   (intro hk;obtain⟨e1,e2,hs,hq⟩:=hk;refine⟨_,rfl,?_⟩;(repeat (have q:=AllQ.hd hq;replace hq:=AllQ.tl hq;(conv at q=>whnf);try (conv at q=>lhs;arg 1;arg 1;whnf)));(repeat (have q:=AllQ.hd hs;replace hs:=AllQ.tl hs;(conv at q=>rhs;whnf)));clear hq hs;(try clear hE);(try clear hd);(try clear hw);(try clear hS);(try clear hV);(try clear hK);go_simp)): ∃u,(L.getD i (fun _=>True)) u∧(execOp ev o).run P w= .ok (.value u) w:=hrun (ζ57 hE hs hV hn hd)
theorem qM (h: ∀(ev:Operand→Value) (w:World) (S:Nat→Bool) (val:Nat→Value),Ev a0 (ζu l n) ev→VVs n L S val→Clo T S→R S val w→S i=false→(∀j∈depsL o,S j=true∧ev (.tmp (dstAt l j))=val j)→∃u,(L.getD i (fun _=>True)) u∧(execOp ev o).run P w= .ok (.value u) w)
  (he:eg.contains i=false:=by rfl) (hn:((depsL o).all fun j=>decide (j<n))=true:=by rfl) (hT:((T.getD i []).all fun j=>(depsL o).contains j)=true:=by rfl)
  (hR: ∀S val w u,R S val w→S i=false→R (addS S i) (addV val i u) w:=by(intro S val w u hw hS;first | exact hw | (simpa [addS,addV]using hw)))
  (hwant: ∀(ev:Operand→Value),EvK P a0 [] (depsL o) (fun j v=>(L.getD j (fun _=>True)) v) l ev→wantE l ev o=true:=by
   (intro ev hk;first | exact ζ12 rfl | (obtain⟨e1,e2,hs,hq⟩:=hk;refine want_is rfl ?_;(repeat (have q:=AllQ.hd hq;replace hq:=AllQ.tl hq;(conv at q=>whnf);try (conv at q=>lhs;arg 1;arg 1;whnf)));(conv=>lhs;arg 1;arg 1;whnf);assumption))):stepV P l n (fun S val w=>VVs n L S val∧Clo T S∧R S val w) eg a0 o i:=by
 rintro ev w S val hE ⟨hV,hK,hw⟩ hS hd
 have hk:EvK P a0 [] (depsL o) (fun j v=>(L.getD j (fun _=>True)) v) l ev:=ζ57 hE rfl hV hn hd
 obtain⟨u,hu,hr⟩:=h ev w S val hE hV hK hw hS hd
 exact ifw (hwant ev hk) (ifn he (ζn hr ⟨VVs.add hV hu,ζi hK hT hd,hR S val w u hw hS⟩))
def CallTo (P:Program)(o:Oper)(ev:Operand→Value)(w:World)(K:Value→World→Prop):Prop:=∃f args Q,(execOp ev o).run P w= .ok (.enter f args) w∧Calls P f args w Q∧∀e w',Q e w'→∃u,e= .returned u∧K u w'
theorem qF {f:FuncId} {args:Array Value} {Q:Ending→World→Prop} {K:Value→World→Prop} {ev:Operand→Value} {w:World} {S:Nat→Bool} {val:Nat→Value}(ss:List Nat)(hE:Ev a0 (ζu l n) ev)(hV:VVs n L S val)(hd: ∀j∈depsL o,S j=true∧ev (.tmp (dstAt l j))=val j)(hc:Calls P f args w Q)(h: ∀e w',Q e w'→∃u,e= .returned u∧K u w')(hn:((depsL o).all fun j=>decide (j<n))=true:=by rfl)(hs:(ss.all fun s=> !(ζu l n).contains s)=true:=by rfl)
  (hrun:EvK P a0 ss (depsL o) (fun j v=>(L.getD j (fun _=>True)) v) l ev→(execOp ev o).run P w= .ok (.enter f args) w:=by
   (intro hk;obtain⟨e1,e2,hs,hq⟩:=hk;(repeat (have q:=AllQ.hd hq;replace hq:=AllQ.tl hq;(conv at q=>whnf);try (conv at q=>lhs;arg 1;arg 1;whnf)));(repeat (have q:=AllQ.hd hs;replace hs:=AllQ.tl hs;(conv at q=>rhs;whnf)));clear hq hs;(try clear hE);(try clear hd);(try clear hw);(try clear hS);(try clear hV);(try clear hK);go_simp)):CallTo P o ev w K:=⟨f,args,Q,hrun (ζ57 hE hs hV hn hd),hc,h⟩
theorem qC (h: ∀(ev:Operand→Value) (w:World) (S:Nat→Bool) (val:Nat→Value),Ev a0 (ζu l n) ev→VVs n L S val→Clo T S→R S val w→S i=false→(∀j∈depsL o,S j=true∧ev (.tmp (dstAt l j))=val j)→CallTo P o ev w (fun u w'=>(L.getD i (fun _=>True)) u∧R (addS S i) (addV val i u) w'))
  (he:eg.contains i=false:=by rfl) (hn:((depsL o).all fun j=>decide (j<n))=true:=by rfl) (hT:((T.getD i []).all fun j=>(depsL o).contains j)=true:=by rfl)
  (hwant: ∀(ev:Operand→Value),EvK P a0 [] (depsL o) (fun j v=>(L.getD j (fun _=>True)) v) l ev→wantE l ev o=true:=by
   (intro ev hk;first | exact ζ12 rfl | (obtain⟨e1,e2,hs,hq⟩:=hk;refine want_is rfl ?_;(repeat (have q:=AllQ.hd hq;replace hq:=AllQ.tl hq;(conv at q=>whnf);try (conv at q=>lhs;arg 1;arg 1;whnf)));(conv=>lhs;arg 1;arg 1;whnf);assumption))):stepV P l n (fun S val w=>VVs n L S val∧Clo T S∧R S val w) eg a0 o i:=by
 rintro ev w S val hE ⟨hV,hK,hw⟩ hS hd
 have hk:EvK P a0 [] (depsL o) (fun j v=>(L.getD j (fun _=>True)) v) l ev:=ζ57 hE rfl hV hn hd
 obtain⟨f,args,Q,hr,hc,hq⟩:=h ev w S val hE hV hK hw hS hd
 refine ifw (hwant ev hk) (ifn he (set_call hr hc fun e w' q=> ?_))
 obtain⟨u,h1,h2,h3⟩:=hq e w' q
 exact⟨u,h1,VVs.add hV h2,ζi hK hT hd,h3⟩
end
section
variable {P:Program} {l:List Oper} {n:Nat} {C:(Nat→Bool)→World→Prop} {val:Nat→Value} {eg:List Nat} {a0:Act} {o:Oper} {i:Nat}
theorem evk_set {ev:Operand→Value} {S:Nat→Bool} {ss:List Nat}(hE:Ev a0 (ζu l n) ev)(hs:(ss.all fun s=> !(ζu l n).contains s)=true)(hd: ∀j∈depsL o,S j=true∧ev (.tmp (dstAt l j))=val j):EvK P a0 ss (depsL o) (fun j v=>v=val j) l ev:=
 ⟨hE.const,hE.func,AllQ.of fun s h=>hE.tmp s (by simpa using List.all_eq_true.1 hs s h),AllQ.of fun j hj=>(hd j hj).2⟩
theorem sE {ev:Operand→Value} {w:World} {S:Nat→Bool} {X:Value}(ss:List Nat)(hE:Ev a0 (ζu l n) ev)(hd: ∀j∈depsL o,S j=true∧ev (.tmp (dstAt l j))=val j)(hs:(ss.all fun s=> !(ζu l n).contains s)=true:=by rfl)
  (hrun:EvK P a0 ss (depsL o) (fun j v=>v=val j) l ev→(execOp ev o).run P w= .ok (.value X) w:=by
   (intro hk;obtain⟨e1,e2,hs,hq⟩:=hk;(repeat (have q:=AllQ.hd hq;replace hq:=AllQ.tl hq;(conv at q=>rhs;whnf);try (conv at q=>lhs;arg 1;arg 1;whnf)));(repeat (have q:=AllQ.hd hs;replace hs:=AllQ.tl hs;(conv at q=>rhs;whnf)));clear hq hs;(try clear hE);(try clear hd);(try clear hw);(try clear hS);(conv=>rhs;arg 1;arg 1;whnf);go_simp)):(execOp ev o).run P w= .ok (.value X) w:=hrun (evk_set hE hs hd)
theorem sM (h: ∀(ev:Operand→Value) (w:World) (S:Nat→Bool),Ev a0 (ζu l n) ev→C S w→S i=false→(∀j∈depsL o,S j=true∧ev (.tmp (dstAt l j))=val j)→(execOp ev o).run P w= .ok (.value (val i)) w)(hg:o.guard=none:=by rfl)(he:eg.contains i=false:=by rfl)
  (hR: ∀S w,C S w→S i=false→C (addS S i) w:=by(intro S w hw hS;first | exact hw | (simpa [addS]using hw))):stepS P l n C val eg a0 o i:=
 fun ev w S hE hw hS hd=>ifw (ζ12 hg) (ifn he (ζn (h ev w S hE hw hS hd) ⟨rfl,hR S w hw hS⟩))
end
end Corr
