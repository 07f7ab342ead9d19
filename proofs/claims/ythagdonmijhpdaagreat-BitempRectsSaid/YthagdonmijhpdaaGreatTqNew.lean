/- New of package timeline, for values of three numbers. -/
import Derived.Test.YthagdonmijhpdaaGreatTpSegs
import Derived.Test.YthagdonmijhpdaaGreatTpLay2
import Derived.Test.YthagdonmijhpdaaGreatRelVal
import Derived.Test.YthagdonmijhpdaaGreatTqPut
open Go.Lib (hid)
set_option linter.unusedSimpArgs false
set_option linter.unusedVariables false
set_option maxHeartbeats 4000000
set_option maxRecDepth 8000
namespace Corr
open Go Go.RowKit
end Corr
namespace Go.Proofs.YthagdonmijhpdaaGreat
open Go.RowKit Corr
end Go.Proofs.YthagdonmijhpdaaGreat
namespace Corr
open Go Go.RowKit
structure NwI (Rep:RepT)(w:World)(gT gM i:Nat)(c:Nat→Value)(Fs:Nat→Nat→Prop)(wr:World):Prop where
 b:Blk wr gT #[c 0,c 1,c 2,c 3,.map (some gM)]
 mp:MapI wr gM (fun _=>none)
 tr: ∀j,j<i→Rep wr (c j) (Fs j) 1000000 []
 ptr: ∀j,j<i→∃a,c j= .pointer (some a)
 lo:gM=w.heap.size∧gT=w.heap.size+1
 fT: ∀j,j<i→∀k,Fs j k→gT<k
 ff: ∀j k,j<i→k<i→j≠k→∀x,Fs j x→¬Fs k x
 bl:Below w.heap.size w wr
def updC (c:Nat→Value)(i:Nat)(v:Value):Nat→Value:=fun j=>if j=i then v else c j
theorem cells_upd (c:Nat→Value)(m:Value): ∀ {i:Nat} (v:Value),i<4→(#[c 0,c 1,c 2,c 3,m]).setIfInBounds i v= #[updC c i v 0,updC c i v 1,updC c i v 2,updC c i v 3,m]
 | 0,v,_=>by simp [updC]
 | 1,v,_=>by simp [updC]
 | 2,v,_=>by simp [updC]
 | 3,v,_=>by simp [updC]
def NewD (Rep:RepT)(wr:World)(b:Bool)(v:Value)(wx:World):Prop:=Below wr.heap.size wr wx∧(b=true→∃q F,v= .tuple #[.pointer (some q),.int .i64 0]∧Rep wx (.pointer (some q)) F 1000000 []∧∀k,F k→wr.heap.size≤k)
section
variable {Rep:RepT} {w wr wz:World} {gT gM i:Nat} {c:Nat→Value} {Fs:Nat→Nat→Prop}
theorem NwI.step (R:RepOk Rep)(h:NwI Rep w gT gM i c Fs wr)(hi:i<4) {q:Addr}(hD:NewD Rep wr true (.tuple #[.pointer (some q),.int .i64 0]) wz): ∃Fs',NwI Rep w gT gM (i+1) (updC c i (.pointer (some q))) Fs' (wz.setCell ⟨gT,i,none⟩ (.pointer (some q))):=by
 obtain⟨hb,h2⟩:=hD
 obtain⟨q',F,e,hr,hF⟩:=h2 rfl
 have e1:q'=q:=by
  injection e with e
  injection e with e
  injection e with e _
  injection e with e
  injection e with e
  exact e.symm
 subst e1
 obtain⟨l1,l2⟩:=h.lo
 have hT:=h.b.sz
 have hM:=h.mp.lt
 have hs:=hb.size
 have ho:Off (· =gT) wz (wz.setCell ⟨gT,i,none⟩ (.pointer (some q'))):=Off.set (F:=(· =gT)) (a:=⟨gT,i,none⟩) rfl _
 have hoff: ∀ {p F' l},Rep wz p F' 1000000 l→(∀k,F' k→gT<k)→Rep (wz.setCell ⟨gT,i,none⟩ (.pointer (some q'))) p F' 1000000 l:=fun h1 h2=>R.keep h1 ho fun k hk e=>by have:=h2 k hk;omega
 refine⟨updB Fs i F,?_,?_,fun j hj=> ?_,fun j hj=> ?_,⟨l1,l2⟩,fun j hj=> ?_,fun j k hj hk hne x=> ?_,?_⟩
 ·rw [←cells_upd c _ _ hi]
  exact(h.b.keep hb).set i _
 ·exact(h.mp.of_eq (hb.block _ hM)).off ho (by omega)
 ·unfold updC updB
  by_cases e:j=i
  ·rw [if_pos e,if_pos e];exact hoff hr fun k hk=>by have:=hF k hk;omega
  ·rw [if_neg e,if_neg e]
   exact hoff (R.keep (h.tr j (by omega)) (Off.of (F:=fun _=>False) hb) (fun _ _ e=>e)) (h.fT j (by omega))
 ·unfold updC
  split
  ·exact⟨_,rfl⟩
  ·exact h.ptr j (by omega)
 ·unfold updB
  split
  ·intro k hk;have:=hF k hk;omega
  ·exact h.fT j (by omega)
 ·have new: ∀k,k<i→F x→¬Fs k x:=fun k hk h1 h2=>by have:=hF x h1;have:=R.lt (h.tr k hk) x h2;omega
  unfold updB
  by_cases ej:j=i
  ·rw [if_pos ej,if_neg (fun e=>hne (ej.trans e.symm))]
   exact new k (by omega)
  ·by_cases ek:k=i
   ·rw [if_neg ej,if_pos ek]
    exact fun h1 h2=>new j (by omega) h2 h1
   ·rw [if_neg ej,if_neg ek]
    exact h.ff j k (by omega) (by omega) hne x
 ·exact(h.bl.trans (hb.mono h.bl.size)).setCell (p:=⟨gT,i,none⟩) (by show w.heap.size≤gT;omega) _
theorem NwI.done (h:NwI Rep w gT gM 4 c Fs wr):Tp Rep wr gT gM c Fs (fun _=> []) (fun _=>none)∧Below w.heap.size w wr∧∀k,TpF gT gM Fs k→w.heap.size≤k:=by
 obtain⟨l1,l2⟩:=h.lo
 refine⟨⟨h.b,h.mp,h.tr,h.ptr,by omega,fun i hi e=> ?_,fun i hi e=> ?_,h.ff⟩,h.bl,?_⟩
 ·have:=h.fT i hi _ e;omega
 ·have:=h.fT i hi _ e;omega
 ·rintro k (rfl | rfl | ⟨i,hi,hk⟩)
  ·omega
  ·omega
  ·have:=h.fT i hi k hk;omega
end
end Corr
namespace Go.Proofs.YthagdonmijhpdaaGreat
open Go.RowKit Corr
theorem tpnew_any {Rep:RepT}(K:TrK Rep)(w:World):Calls Tryz.prog 29 #[] w fun e w'=>∃gT gM c Fs,e= .returned (.pointer (some ⟨gT,0,none⟩))∧Tp Rep w' gT gM c Fs (fun _=> []) (fun _=>none)∧Below w.heap.size w w'∧∀k,TpF gT gM Fs k→w.heap.size≤k:=by
 have HK:=hid K
 have HM:=hid (show NwI Rep w (w.heap.size+1) w.heap.size 0 (fun _=> .pointer none) (fun _ _=>False) ((w.alloc (.map #[] 0)).alloc (.cells #[.pointer none,.pointer none,.pointer none,.pointer none,.map (some w.heap.size)] 120))from by
  refine⟨?_,?_,fun j hj=>by omega,fun j hj=>by omega,⟨rfl,rfl⟩,fun j hj=>by omega,fun j k hj=>by omega,?_⟩
  ·have:=Blk.new (w.alloc (.map #[] 0)) #[.pointer none,.pointer none,.pointer none,.pointer none,.map (some w.heap.size)] 120
   simpa using this
  ·exact(MapI.made w).of_eq (Below.heap_alloc _ _ _ (by simp))
  ·exact Joins.below_alloc2 w _ _)
 have hmm: ∀(t:TypeId) (w:World),(Instr.makeMap t none).run Tryz.prog w= .ok (.map (some w.heap.size)) (w.alloc (.map #[] 0)):=fun _ _=>rfl
 clear K
 go_enter Tryz.func29,Tryz.ntmps29
 go_wp2_with fail
 generalize (w.alloc (.map #[] 0)).alloc (.cells #[.pointer none,.pointer none,.pointer none,.pointer none,.map (some w.heap.size)] 120)=wq at*
 obtain⟨gT,hgT⟩: ∃k,w.heap.size+1=k:=⟨_,rfl⟩
 obtain⟨gM,hgM⟩: ∃k,w.heap.size=k:=⟨_,rfl⟩
 rw [hgT]at HM ⊢
 have HM:=hid (show NwI Rep w gT gM 0 (fun _=> .pointer none) (fun _ _=>False) wq from hgM▸HM.out)
 clear hgT hgM
 go_loopw [6] (fun u wr=>∃(i:Nat) (c:Nat→Value) (Fs:Nat→Nat→Prop),u= .int .i64 (i:Int)∧i≤4∧NwI Rep w gT gM i c Fs wr) (fun u _=>(4-intOf u).toNat)
 case atStart=>exact⟨0,_,_,rfl,by omega,HM.out⟩
 case round=>
  clear HM
  obtain⟨i,c,Fs,rfl,hi,hN⟩:=hrel
  have HN:=hid hN
  clear hN
  rcases Nat.lt_or_ge i 4 with h4' | h4'
  ·have i1:(0:Int)≤(i:Int):=by omega
   have i2:(i:Int)<4:=by omega
   have i3:((i:Int)).toNat=i:=by omega
   go_upto_region 5 with fail
   refine ζ3 9 (fun S val wx=>VVs 9 [(· = .pointer (some ⟨gT,0,none⟩)),(· = .int .i64 (i:Int)),(fun vv=>∃qa,vv= .tuple #[.pointer (some qa),.int .i64 0]),(fun vv=>∃qb,vv= .tuple #[.pointer (some qb),.int .i64 0]),(fun vv=>∃qc,vv= .pointer (some qc)),(· = .int .i64 0),(· = .pointer (some ⟨gT,0,none⟩)),(· = .pointer (some ⟨gT,0,none⟩)),(· = .pointer (some ⟨gT,i,none⟩))] S val∧Clo [[],[],[],[2],[3],[3],[0],[6],[7,1]] S∧(NewD Rep wr (S 2) (val 2) wx∧(S 3=true→val 3=val 2)∧(S 4=true→∃qd,val 3= .tuple #[.pointer (some qd),.int .i64 0]∧val 4= .pointer (some qd)))) [0,1,3,4,5,6,7,8] (by kernel_rfl) (by kernel_rfl) ⟨VVs.start,Clo.start,⟨⟨(Below.refl _ wr).drew,fun h=>by cases h⟩,(fun h=>by cases h),fun h=>by cases h⟩⟩ ⟨?_,?_,?_,?_,?_,?_,?_,?_,?_,trivial⟩ ?_
   ·exact qU [1]
   ·exact qU [2]
   ·refine qC fun ev wv S val hE hV hK hw hS hd=> ?_
    refine qF (f:=62) (args:= #[.int .i64 1000000]) [] hE hV hd (HK.out.make 1000000 wv (by decide) (by decide)) ?_
    rintro e w' ⟨qn,Fn,rfl,hr,hb',hFn⟩
    exact⟨_,rfl,(⟨qn,rfl⟩),⟨⟨hw.1.1.trans (hb'.mono hw.1.1.size),fun _=>⟨qn,Fn,rfl,hr,fun k hk=>Nat.le_trans hw.1.1.size (hFn k hk)⟩⟩,(fun h=>absurd (hK 3 h 2 (by decide)) (by rw [hS];decide)),(fun h=>absurd (hK 3 (hK 4 h 3 (by decide)) 2 (by decide)) (by rw [hS];decide))⟩⟩
   ·rintro ev wv S val hE ⟨hV,hK,hw⟩ hS hd
    obtain⟨qa2,g2⟩:=hV 2 (by decide) (hd 2 (by decide)).1
    have v12:ev (.tmp 12)= .tuple #[.pointer (some qa2),.int .i64 0]:=(hd 2 (by decide)).2.trans g2
    refine ifw rfl (ifw rfl ⟨.tuple #[.pointer (some qa2),.int .i64 0],fun w9=> ?_,VVs.add hV ⟨qa2,rfl⟩,ζi hK rfl hd,⟨hw.1,(fun _=>g2.symm),(fun h=>absurd (hK 4 h 3 (by decide)) (by rw [hS];decide))⟩⟩)
    obtain⟨e1,-,e2,-⟩:=hE;clear hd hw hS hV hK
    show _=Result.ok (Next.value (.tuple #[.pointer (some qa2),.int .i64 0])) w9
    go_simp
   ·rintro ev wv S val hE ⟨hV,hK,hw⟩ hS hd
    obtain⟨qb3,g3⟩:=hV 3 (by decide) (hd 3 (by decide)).1
    have v9:ev (.tmp 9)= .tuple #[.pointer (some qb3),.int .i64 0]:=(hd 3 (by decide)).2.trans g3
    refine ifw rfl (ifw rfl ⟨.pointer (some qb3),fun w9=> ?_,VVs.add hV ⟨qb3,rfl⟩,ζi hK rfl hd,⟨hw.1,hw.2.1,(fun _=>⟨qb3,g3,rfl⟩)⟩⟩)
    obtain⟨e1,-,e2,-⟩:=hE;clear hd hw hS hV hK
    show _=Result.ok (Next.value (.pointer (some qb3))) w9
    go_simp
   ·rintro ev wv S val hE ⟨hV,hK,hw⟩ hS hd
    obtain⟨qb3,g3⟩:=hV 3 (by decide) (hd 3 (by decide)).1
    have v9:ev (.tmp 9)= .tuple #[.pointer (some qb3),.int .i64 0]:=(hd 3 (by decide)).2.trans g3
    refine ifw rfl (ifw rfl ⟨.int .i64 0,fun w9=> ?_,VVs.add hV rfl,ζi hK rfl hd,hw⟩)
    obtain⟨e1,-,e2,-⟩:=hE;clear hd hw hS hV hK
    show _=Result.ok (Next.value (.int .i64 0)) w9
    go_simp
   ·exact qU []
   ·exact qU []
   ·exact qU []
   ·rintro S val wz hS ⟨hV,hK,hw⟩
    have e0:val 0= .pointer (some ⟨gT,0,none⟩):=hV 0 (by decide) (hS 0 (by decide))
    obtain⟨qa2,e2⟩:=hV 2 (by decide) (hS 2 (by decide))
    obtain⟨qb3,e3⟩:=hV 3 (by decide) (hS 3 (by decide))
    obtain⟨qc4,e4⟩:=hV 4 (by decide) (hS 4 (by decide))
    refine finL hV hS ?_
    rintro v0 ⟨h0,-⟩-_ ⟨-,rfl⟩-v2 ⟨h2,-⟩-v3 ⟨h3,-⟩-v4 ⟨h4,-⟩-
    iterate 4 rintro _ ⟨-,rfl⟩-
    simp only [zA]
    simp only [h0.trans e0,h2.trans e2,h3.trans e3,h4.trans e4]
    clear hV h0 e0 v0 h2 v2 h3 v3 h4 v4
    change wpList Tryz.prog _ _ _ _ wz
    obtain⟨hD,h32,h4⟩:=hw
    obtain⟨qd,k3,k4⟩:=h4 (hS 4 (by decide))
    have k2:=h32 (hS 3 (by decide))
    rw [hS 2 (by decide),←k2,k3]at hD
    obtain rfl:qc4=qd:=by
     rw [e4]at k4
     injection k4 with k4
     injection k4
    obtain⟨Fs',hN'⟩:=HN.out.step HK.out.toRepOk h4' hD
    have HN':=hid hN'
    have hbz:=HN.out.b.keep hD.1
    have hfz:=hbz.f i
    obtain⟨v0,hv0⟩: ∃v0,wz.cell? ⟨gT,i,none⟩=some v0:=by
     match i,h4' with
     | 0,_=>exact⟨_,hbz.get 0 rfl⟩
     | 1,_=>exact⟨_,hbz.get 1 rfl⟩
     | 2,_=>exact⟨_,hbz.get 2 rfl⟩
     | 3,_=>exact⟨_,hbz.get 3 rfl⟩
    clear hN' hbz hD h32 h4 k2 k3 k4 e4 e3 e2 hS hK val S
    go_wp2_with fail
    refine ζ2 ?_
    go_wp2_with fail
    go_roundw
    case rel=>exact⟨i+1,_,Fs',by go_num,by omega,HN'.out⟩
    case measure=>simp [intOf];omega
  ·obtain rfl:i=4:=by omega
   go_wp2_with fail
   go_ret
   exact⟨gT,gM,c,Fs,rfl,HN.out.done⟩
end Go.Proofs.YthagdonmijhpdaaGreat
namespace Corr
open Go Go.RowKit
theorem Tp.congr {Rep:RepT} {w:World} {gT gM:Nat} {q:Nat→Value} {Fs:Nat→Nat→Prop} {l l':Nat→ItL} {m:Int→Option Int}(h:Tp Rep w gT gM q Fs l m)(e: ∀i,i<4→l i=l' i):Tp Rep w gT gM q Fs l' m:=
 ⟨h.b,h.mp,fun i hi=>by rw [←e i hi];exact h.tr i hi,h.ptr,h.ne,h.fT,h.fM,h.ff⟩
end Corr
namespace Go.Proofs.YthagdonmijhpdaaGreat
open Go.RowKit Corr
end Go.Proofs.YthagdonmijhpdaaGreat
namespace Corr
open Go Go.RowKit
structure NwIq (Rep:RepT)(w:World)(gT gM i:Nat)(c:Nat→Value)(Fs:Nat→Nat→Prop)(wr:World):Prop where
 b:Blk wr gT #[c 0,c 1,c 2,c 3,.map (some gM)]
 mp:MapIq wr gM (fun _=>none)
 tr: ∀j,j<i→Rep wr (c j) (Fs j) 1000000 []
 ptr: ∀j,j<i→∃a,c j= .pointer (some a)
 lo:gM=w.heap.size∧gT=w.heap.size+1
 fT: ∀j,j<i→∀k,Fs j k→gT<k
 ff: ∀j k,j<i→k<i→j≠k→∀x,Fs j x→¬Fs k x
 bl:Below w.heap.size w wr
section
variable {Rep:RepT} {w wr wz:World} {gT gM i:Nat} {c:Nat→Value} {Fs:Nat→Nat→Prop}
theorem NwIq.step (R:RepOk Rep)(h:NwIq Rep w gT gM i c Fs wr)(hi:i<4) {q:Addr}(hD:NewD Rep wr true (.tuple #[.pointer (some q),.int .i64 0]) wz): ∃Fs',NwIq Rep w gT gM (i+1) (updC c i (.pointer (some q))) Fs' (wz.setCell ⟨gT,i,none⟩ (.pointer (some q))):=by
 obtain⟨hb,h2⟩:=hD
 obtain⟨q',F,e,hr,hF⟩:=h2 rfl
 have e1:q'=q:=by
  injection e with e
  injection e with e
  injection e with e _
  injection e with e
  injection e with e
  exact e.symm
 subst e1
 obtain⟨l1,l2⟩:=h.lo
 have hT:=h.b.sz
 have hM:=h.mp.lt
 have hs:=hb.size
 have ho:Off (· =gT) wz (wz.setCell ⟨gT,i,none⟩ (.pointer (some q'))):=Off.set (F:=(· =gT)) (a:=⟨gT,i,none⟩) rfl _
 have hoff: ∀ {p F' l},Rep wz p F' 1000000 l→(∀k,F' k→gT<k)→Rep (wz.setCell ⟨gT,i,none⟩ (.pointer (some q'))) p F' 1000000 l:=fun h1 h2=>R.keep h1 ho fun k hk e=>by have:=h2 k hk;omega
 refine⟨updB Fs i F,?_,?_,fun j hj=> ?_,fun j hj=> ?_,⟨l1,l2⟩,fun j hj=> ?_,fun j k hj hk hne x=> ?_,?_⟩
 ·rw [←cells_upd c _ _ hi]
  exact(h.b.keep hb).set i _
 ·exact(h.mp.of_eq (hb.block _ hM)).off ho (by omega)
 ·unfold updC updB
  by_cases e:j=i
  ·rw [if_pos e,if_pos e];exact hoff hr fun k hk=>by have:=hF k hk;omega
  ·rw [if_neg e,if_neg e]
   exact hoff (R.keep (h.tr j (by omega)) (Off.of (F:=fun _=>False) hb) (fun _ _ e=>e)) (h.fT j (by omega))
 ·unfold updC
  split
  ·exact⟨_,rfl⟩
  ·exact h.ptr j (by omega)
 ·unfold updB
  split
  ·intro k hk;have:=hF k hk;omega
  ·exact h.fT j (by omega)
 ·have new: ∀k,k<i→F x→¬Fs k x:=fun k hk h1 h2=>by have:=hF x h1;have:=R.lt (h.tr k hk) x h2;omega
  unfold updB
  by_cases ej:j=i
  ·rw [if_pos ej,if_neg (fun e=>hne (ej.trans e.symm))]
   exact new k (by omega)
  ·by_cases ek:k=i
   ·rw [if_neg ej,if_pos ek]
    exact fun h1 h2=>new j (by omega) h2 h1
   ·rw [if_neg ej,if_neg ek]
    exact h.ff j k (by omega) (by omega) hne x
 ·exact(h.bl.trans (hb.mono h.bl.size)).setCell (p:=⟨gT,i,none⟩) (by show w.heap.size≤gT;omega) _
theorem NwIq.done (h:NwIq Rep w gT gM 4 c Fs wr):Tpq Rep wr gT gM c Fs (fun _=> []) (fun _=>none)∧Below w.heap.size w wr∧∀k,TpF gT gM Fs k→w.heap.size≤k:=by
 obtain⟨l1,l2⟩:=h.lo
 refine⟨⟨h.b,h.mp,h.tr,h.ptr,by omega,fun i hi e=> ?_,fun i hi e=> ?_,h.ff⟩,h.bl,?_⟩
 ·have:=h.fT i hi _ e;omega
 ·have:=h.fT i hi _ e;omega
 ·rintro k (rfl | rfl | ⟨i,hi,hk⟩)
  ·omega
  ·omega
  ·have:=h.fT i hi k hk;omega
end
end Corr
namespace Go.Proofs.YthagdonmijhpdaaGreat
open Go.RowKit Corr
theorem tpnew_anyq {Rep:RepT}(K:TrK Rep)(w:World):Calls Tryz.prog 63 #[] w fun e w'=>∃gT gM c Fs,e= .returned (.pointer (some ⟨gT,0,none⟩))∧Tpq Rep w' gT gM c Fs (fun _=> []) (fun _=>none)∧Below w.heap.size w w'∧∀k,TpF gT gM Fs k→w.heap.size≤k:=by
 have HK:=hid K
 have HM:=hid (show NwIq Rep w (w.heap.size+1) w.heap.size 0 (fun _=> .pointer none) (fun _ _=>False) ((w.alloc (.map #[] 0)).alloc (.cells #[.pointer none,.pointer none,.pointer none,.pointer none,.map (some w.heap.size)] 163))from by
  refine⟨?_,?_,fun j hj=>by omega,fun j hj=>by omega,⟨rfl,rfl⟩,fun j hj=>by omega,fun j k hj=>by omega,?_⟩
  ·have:=Blk.new (w.alloc (.map #[] 0)) #[.pointer none,.pointer none,.pointer none,.pointer none,.map (some w.heap.size)] 163
   simpa using this
  ·exact(MapIq.made w).of_eq (Below.heap_alloc _ _ _ (by simp))
  ·exact Joins.below_alloc2 w _ _)
 have hmm: ∀(t:TypeId) (w:World),(Instr.makeMap t none).run Tryz.prog w= .ok (.map (some w.heap.size)) (w.alloc (.map #[] 0)):=fun _ _=>rfl
 clear K
 go_enter Tryz.func63,Tryz.ntmps63
 go_wp2_with fail
 generalize (w.alloc (.map #[] 0)).alloc (.cells #[.pointer none,.pointer none,.pointer none,.pointer none,.map (some w.heap.size)] 163)=wq at*
 obtain⟨gT,hgT⟩: ∃k,w.heap.size+1=k:=⟨_,rfl⟩
 obtain⟨gM,hgM⟩: ∃k,w.heap.size=k:=⟨_,rfl⟩
 rw [hgT]at HM ⊢
 have HM:=hid (show NwIq Rep w gT gM 0 (fun _=> .pointer none) (fun _ _=>False) wq from hgM▸HM.out)
 clear hgT hgM
 go_loopw [6] (fun u wr=>∃(i:Nat) (c:Nat→Value) (Fs:Nat→Nat→Prop),u= .int .i64 (i:Int)∧i≤4∧NwIq Rep w gT gM i c Fs wr) (fun u _=>(4-intOf u).toNat)
 case atStart=>exact⟨0,_,_,rfl,by omega,HM.out⟩
 case round=>
  clear HM
  obtain⟨i,c,Fs,rfl,hi,hN⟩:=hrel
  have HN:=hid hN
  clear hN
  rcases Nat.lt_or_ge i 4 with h4' | h4'
  ·have i1:(0:Int)≤(i:Int):=by omega
   have i2:(i:Int)<4:=by omega
   have i3:((i:Int)).toNat=i:=by omega
   go_upto_region 5 with fail
   refine ζ3 9 (fun S val wx=>VVs 9 [(· = .pointer (some ⟨gT,0,none⟩)),(· = .int .i64 (i:Int)),(fun vv=>∃qa,vv= .tuple #[.pointer (some qa),.int .i64 0]),(fun vv=>∃qb,vv= .tuple #[.pointer (some qb),.int .i64 0]),(fun vv=>∃qc,vv= .pointer (some qc)),(· = .int .i64 0),(· = .pointer (some ⟨gT,0,none⟩)),(· = .pointer (some ⟨gT,0,none⟩)),(· = .pointer (some ⟨gT,i,none⟩))] S val∧Clo [[],[],[],[2],[3],[3],[0],[6],[7,1]] S∧(NewD Rep wr (S 2) (val 2) wx∧(S 3=true→val 3=val 2)∧(S 4=true→∃qd,val 3= .tuple #[.pointer (some qd),.int .i64 0]∧val 4= .pointer (some qd)))) [0,1,3,4,5,6,7,8] (by kernel_rfl) (by kernel_rfl) ⟨VVs.start,Clo.start,⟨⟨(Below.refl _ wr).drew,fun h=>by cases h⟩,(fun h=>by cases h),fun h=>by cases h⟩⟩ ⟨?_,?_,?_,?_,?_,?_,?_,?_,?_,trivial⟩ ?_
   ·exact qU [1]
   ·exact qU [2]
   ·refine qC fun ev wv S val hE hV hK hw hS hd=> ?_
    refine qF (f:=62) (args:= #[.int .i64 1000000]) [] hE hV hd (HK.out.make 1000000 wv (by decide) (by decide)) ?_
    rintro e w' ⟨qn,Fn,rfl,hr,hb',hFn⟩
    exact⟨_,rfl,(⟨qn,rfl⟩),⟨⟨hw.1.1.trans (hb'.mono hw.1.1.size),fun _=>⟨qn,Fn,rfl,hr,fun k hk=>Nat.le_trans hw.1.1.size (hFn k hk)⟩⟩,(fun h=>absurd (hK 3 h 2 (by decide)) (by rw [hS];decide)),(fun h=>absurd (hK 3 (hK 4 h 3 (by decide)) 2 (by decide)) (by rw [hS];decide))⟩⟩
   ·rintro ev wv S val hE ⟨hV,hK,hw⟩ hS hd
    obtain⟨qa2,g2⟩:=hV 2 (by decide) (hd 2 (by decide)).1
    have v12:ev (.tmp 12)= .tuple #[.pointer (some qa2),.int .i64 0]:=(hd 2 (by decide)).2.trans g2
    refine ifw rfl (ifw rfl ⟨.tuple #[.pointer (some qa2),.int .i64 0],fun w9=> ?_,VVs.add hV ⟨qa2,rfl⟩,ζi hK rfl hd,⟨hw.1,(fun _=>g2.symm),(fun h=>absurd (hK 4 h 3 (by decide)) (by rw [hS];decide))⟩⟩)
    obtain⟨e1,-,e2,-⟩:=hE;clear hd hw hS hV hK
    show _=Result.ok (Next.value (.tuple #[.pointer (some qa2),.int .i64 0])) w9
    go_simp
   ·rintro ev wv S val hE ⟨hV,hK,hw⟩ hS hd
    obtain⟨qb3,g3⟩:=hV 3 (by decide) (hd 3 (by decide)).1
    have v9:ev (.tmp 9)= .tuple #[.pointer (some qb3),.int .i64 0]:=(hd 3 (by decide)).2.trans g3
    refine ifw rfl (ifw rfl ⟨.pointer (some qb3),fun w9=> ?_,VVs.add hV ⟨qb3,rfl⟩,ζi hK rfl hd,⟨hw.1,hw.2.1,(fun _=>⟨qb3,g3,rfl⟩)⟩⟩)
    obtain⟨e1,-,e2,-⟩:=hE;clear hd hw hS hV hK
    show _=Result.ok (Next.value (.pointer (some qb3))) w9
    go_simp
   ·rintro ev wv S val hE ⟨hV,hK,hw⟩ hS hd
    obtain⟨qb3,g3⟩:=hV 3 (by decide) (hd 3 (by decide)).1
    have v9:ev (.tmp 9)= .tuple #[.pointer (some qb3),.int .i64 0]:=(hd 3 (by decide)).2.trans g3
    refine ifw rfl (ifw rfl ⟨.int .i64 0,fun w9=> ?_,VVs.add hV rfl,ζi hK rfl hd,hw⟩)
    obtain⟨e1,-,e2,-⟩:=hE;clear hd hw hS hV hK
    show _=Result.ok (Next.value (.int .i64 0)) w9
    go_simp
   ·exact qU []
   ·exact qU []
   ·exact qU []
   ·rintro S val wz hS ⟨hV,hK,hw⟩
    have e0:val 0= .pointer (some ⟨gT,0,none⟩):=hV 0 (by decide) (hS 0 (by decide))
    obtain⟨qa2,e2⟩:=hV 2 (by decide) (hS 2 (by decide))
    obtain⟨qb3,e3⟩:=hV 3 (by decide) (hS 3 (by decide))
    obtain⟨qc4,e4⟩:=hV 4 (by decide) (hS 4 (by decide))
    refine finL hV hS ?_
    rintro v0 ⟨h0,-⟩-_ ⟨-,rfl⟩-v2 ⟨h2,-⟩-v3 ⟨h3,-⟩-v4 ⟨h4,-⟩-
    iterate 4 rintro _ ⟨-,rfl⟩-
    simp only [zA]
    simp only [h0.trans e0,h2.trans e2,h3.trans e3,h4.trans e4]
    clear hV h0 e0 v0 h2 v2 h3 v3 h4 v4
    change wpList Tryz.prog _ _ _ _ wz
    obtain⟨hD,h32,h4⟩:=hw
    obtain⟨qd,k3,k4⟩:=h4 (hS 4 (by decide))
    have k2:=h32 (hS 3 (by decide))
    rw [hS 2 (by decide),←k2,k3]at hD
    obtain rfl:qc4=qd:=by
     rw [e4]at k4
     injection k4 with k4
     injection k4
    obtain⟨Fs',hN'⟩:=HN.out.step HK.out.toRepOk h4' hD
    have HN':=hid hN'
    have hbz:=HN.out.b.keep hD.1
    have hfz:=hbz.f i
    obtain⟨v0,hv0⟩: ∃v0,wz.cell? ⟨gT,i,none⟩=some v0:=by
     match i,h4' with
     | 0,_=>exact⟨_,hbz.get 0 rfl⟩
     | 1,_=>exact⟨_,hbz.get 1 rfl⟩
     | 2,_=>exact⟨_,hbz.get 2 rfl⟩
     | 3,_=>exact⟨_,hbz.get 3 rfl⟩
    clear hN' hbz hD h32 h4 k2 k3 k4 e4 e3 e2 hS hK val S
    go_wp2_with fail
    refine ζ2 ?_
    go_wp2_with fail
    go_roundw
    case rel=>exact⟨i+1,_,Fs',by go_num,by omega,HN'.out⟩
    case measure=>simp [intOf];omega
  ·obtain rfl:i=4:=by omega
   go_wp2_with fail
   go_ret
   exact⟨gT,gM,c,Fs,rfl,HN.out.done⟩
end Go.Proofs.YthagdonmijhpdaaGreat
