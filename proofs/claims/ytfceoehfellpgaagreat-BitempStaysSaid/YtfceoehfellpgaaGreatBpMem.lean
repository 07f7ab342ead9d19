/- How a store of package bitemp lies -/
import Derived.Test.YtfceoehfellpgaaGreatTqPut
import Derived.Test.YtfceoehfellpgaaGreatTpCopy
import Derived.Test.YtfceoehfellpgaaGreatBpMath
import Derived.Test.YtfceoehfellpgaaGreatFramePuts
open Go.Lib (hid)
set_option linter.unusedSimpArgs false
set_option linter.unusedVariables false
set_option maxRecDepth 8000
namespace Corr
open Go Go.RowKit
structure NwIq (Rep:RepT)(w:World)(gT gM i:Nat)(c:Nat→Value)(Fs:Nat→Nat→Prop)(wr:World):Prop where
 b:Blk wr gT #[c 0,c 1,c 2,c 3,.map (some gM)]
 mp:MapIq wr gM (fun _=>none)
 tr: ∀j,j<i→Rep wr (c j) (Fs j) 1000000 []
 ptr: ∀j,j<i→∃a,c j= .pointer (some a)
 lo:gM=w.heap.size∧gT=w.heap.size+1
 fT: ∀j,j<i→∀k,Fs j k→gT<k
 ff: ∀j k,j<i→k<i→j≠k→∀x,Fs j x→¬Fs k x
 bl:Below w.heap.size w wr
section
variable {Rep:RepT} {w wr wz:World} {gT gM i:Nat} {c:Nat→Value} {Fs:Nat→Nat→Prop}
theorem NwIq.step (R:RepOk Rep)(h:NwIq Rep w gT gM i c Fs wr)(hi:i<4) {q:Addr}(hD:NewD Rep wr true (.tuple #[.pointer (some q),.int .i64 0]) wz): ∃Fs',NwIq Rep w gT gM (i+1) (updC c i (.pointer (some q))) Fs' (wz.setCell ⟨gT,i,none⟩ (.pointer (some q))):=by
 obtain⟨hb,h2⟩:=hD
 obtain⟨q',F,e,hr,hF⟩:=h2 rfl
 have e1:q'=q:=by
  injection e with e
  injection e with e
  injection e with e _
  injection e with e
  injection e with e
  exact e.symm
 subst e1
 obtain⟨l1,l2⟩:=h.lo
 have hT:=h.b.sz
 have hM:=h.mp.lt
 have hs:=hb.size
 have ho:Off (· =gT) wz (wz.setCell ⟨gT,i,none⟩ (.pointer (some q'))):=Off.set (F:=(· =gT)) (a:=⟨gT,i,none⟩) rfl _
 have hoff: ∀ {p F' l},Rep wz p F' 1000000 l→(∀k,F' k→gT<k)→Rep (wz.setCell ⟨gT,i,none⟩ (.pointer (some q'))) p F' 1000000 l:=fun h1 h2=>R.keep h1 ho fun k hk e=>by have:=h2 k hk;omega
 refine⟨updB Fs i F,?_,?_,fun j hj=> ?_,fun j hj=> ?_,⟨l1,l2⟩,fun j hj=> ?_,fun j k hj hk hne x=> ?_,?_⟩
 ·rw [←cells_upd c _ _ hi]
  exact(h.b.keep hb).set i _
 ·exact(h.mp.of_eq (hb.block _ hM)).off ho (by omega)
 ·unfold updC updB
  by_cases e:j=i
  ·rw [if_pos e,if_pos e];exact hoff hr fun k hk=>by have:=hF k hk;omega
  ·rw [if_neg e,if_neg e]
   exact hoff (R.keep (h.tr j (by omega)) (Off.of (F:=fun _=>False) hb) (fun _ _ e=>e)) (h.fT j (by omega))
 ·unfold updC
  split
  ·exact⟨_,rfl⟩
  ·exact h.ptr j (by omega)
 ·unfold updB
  split
  ·intro k hk;have:=hF k hk;omega
  ·exact h.fT j (by omega)
 ·have new: ∀k,k<i→F x→¬Fs k x:=fun k hk h1 h2=>by have:=hF x h1;have:=R.lt (h.tr k hk) x h2;omega
  unfold updB
  by_cases ej:j=i
  ·rw [if_pos ej,if_neg (fun e=>hne (ej.trans e.symm))]
   exact new k (by omega)
  ·by_cases ek:k=i
   ·rw [if_neg ej,if_pos ek]
    exact fun h1 h2=>new j (by omega) h2 h1
   ·rw [if_neg ej,if_neg ek]
    exact h.ff j k (by omega) (by omega) hne x
 ·exact(h.bl.trans (hb.mono h.bl.size)).setCell (p:=⟨gT,i,none⟩) (by show w.heap.size≤gT;omega) _
theorem NwIq.done (h:NwIq Rep w gT gM 4 c Fs wr):Tpq Rep wr gT gM c Fs (fun _=> []) (fun _=>none)∧Below w.heap.size w wr∧∀k,TpF gT gM Fs k→w.heap.size≤k:=by
 obtain⟨l1,l2⟩:=h.lo
 refine⟨⟨h.b,h.mp,h.tr,h.ptr,by omega,fun i hi e=> ?_,fun i hi e=> ?_,h.ff⟩,h.bl,?_⟩
 ·have:=h.fT i hi _ e;omega
 ·have:=h.fT i hi _ e;omega
 ·rintro k (rfl | rfl | ⟨i,hi,hk⟩)
  ·omega
  ·omega
  ·have:=h.fT i hi k hk;omega
end
end Corr
namespace Go.Proofs.YtfceoehfellpgaaGreat
open Go.RowKit Corr
set_option maxHeartbeats 4000000 in
theorem tpnew_anyq {Rep:RepT}(K:TrK Rep)(w:World):Calls Tryz.prog 63 #[] w fun e w'=>∃gT gM c Fs,e= .returned (.pointer (some ⟨gT,0,none⟩))∧Tpq Rep w' gT gM c Fs (fun _=> []) (fun _=>none)∧Below w.heap.size w w'∧∀k,TpF gT gM Fs k→w.heap.size≤k:=by
 have HK:=hid K
 have HM:=hid (show NwIq Rep w (w.heap.size+1) w.heap.size 0 (fun _=> .pointer none) (fun _ _=>False) ((w.alloc (.map #[] 0)).alloc (.cells #[.pointer none,.pointer none,.pointer none,.pointer none,.map (some w.heap.size)] 163))from by
  refine⟨?_,?_,fun j hj=>by omega,fun j hj=>by omega,⟨rfl,rfl⟩,fun j hj=>by omega,fun j k hj=>by omega,?_⟩
  ·have:=Blk.new (w.alloc (.map #[] 0)) #[.pointer none,.pointer none,.pointer none,.pointer none,.map (some w.heap.size)] 163
   simpa using this
  ·exact(MapIq.made w).of_eq (Below.heap_alloc _ _ _ (by simp))
  ·exact Joins.below_alloc2 w _ _)
 have hmm: ∀(t:TypeId) (w:World),(Instr.makeMap t none).run Tryz.prog w= .ok (.map (some w.heap.size)) (w.alloc (.map #[] 0)):=fun _ _=>rfl
 clear K
 go_enter Tryz.func63,Tryz.ntmps63
 go_wp2_with fail
 generalize (w.alloc (.map #[] 0)).alloc (.cells #[.pointer none,.pointer none,.pointer none,.pointer none,.map (some w.heap.size)] 163)=wq at*
 obtain⟨gT,hgT⟩: ∃k,w.heap.size+1=k:=⟨_,rfl⟩
 obtain⟨gM,hgM⟩: ∃k,w.heap.size=k:=⟨_,rfl⟩
 rw [hgT]at HM ⊢
 have HM:=hid (show NwIq Rep w gT gM 0 (fun _=> .pointer none) (fun _ _=>False) wq from hgM▸HM.out)
 clear hgT hgM
 go_loopw [6] (fun u wr=>∃(i:Nat) (c:Nat→Value) (Fs:Nat→Nat→Prop),u= .int .i64 (i:Int)∧i≤4∧NwIq Rep w gT gM i c Fs wr) (fun u _=>(4-intOf u).toNat)
 case atStart=>exact⟨0,_,_,rfl,by omega,HM.out⟩
 case round=>
  clear HM
  obtain⟨i,c,Fs,rfl,hi,hN⟩:=hrel
  have HN:=hid hN
  clear hN
  rcases Nat.lt_or_ge i 4 with h4' | h4'
  ·have i1:(0:Int)≤(i:Int):=by omega
   have i2:(i:Int)<4:=by omega
   have i3:((i:Int)).toNat=i:=by omega
   go_upto_region 5 with fail
   refine ζ4 9 (fun S val wx=>VVs 9 [(fun vv=>vv= .pointer (some ⟨gT,0,none⟩)),(fun vv=>vv= .int .i64 (i:Int)),(fun vv=>∃qa,vv= .tuple #[.pointer (some qa),.int .i64 0]),(fun vv=>∃qb,vv= .tuple #[.pointer (some qb),.int .i64 0]),(fun vv=>∃qc,vv= .pointer (some qc)),(fun vv=>vv= .int .i64 0),(fun vv=>vv= .pointer (some ⟨gT,0,none⟩)),(fun vv=>vv= .pointer (some ⟨gT,0,none⟩)),(fun vv=>vv= .pointer (some ⟨gT,i,none⟩))] S val∧Clo [[],[],[],[2],[3],[3],[0],[6],[7,1]] S∧(NewD Rep wr (S 2) (val 2) wx∧(S 3=true→val 3=val 2)∧(S 4=true→∃qd,val 3= .tuple #[.pointer (some qd),.int .i64 0]∧val 4= .pointer (some qd)))) [0,1,3,4,5,6,7,8] (by kernel_rfl) (by kernel_rfl) ⟨VVs.start,Clo.start,⟨⟨(Below.refl _ wr).drew,fun h=>by cases h⟩,(fun h=>by cases h),fun h=>by cases h⟩⟩ ⟨?_,?_,?_,?_,?_,?_,?_,?_,?_,trivial⟩ ?_
   ·rintro ev wv S val hE ⟨hV,hK,hw⟩ hS hd
    have hcl:=Clo.add hK (i:=0) fz
    have v1:ev (.tmp 1)= .pointer (some ⟨gT,0,none⟩):=hE.tmp 1 rfl
    refine pv (.pointer (some ⟨gT,0,none⟩)) ⟨VVs.add hV rfl,hcl,hw⟩ (fun w9=> ?_) rfl rfl
    obtain⟨e1,-,e2,-⟩:=hE;clear hd hw hS hV hK hcl
    go_simp
   ·rintro ev wv S val hE ⟨hV,hK,hw⟩ hS hd
    have hcl:=Clo.add hK (i:=1) fz
    have v2:ev (.tmp 2)= .int .i64 (i:Int):=hE.tmp 2 rfl
    refine pv (.int .i64 (i:Int)) ⟨VVs.add hV rfl,hcl,hw⟩ (fun w9=> ?_) rfl rfl
    obtain⟨e1,-,e2,-⟩:=hE;clear hd hw hS hV hK hcl
    go_simp
   ·rintro ev wv S val hE ⟨hV,hK,hw⟩ hS hd
    have hcl:=Clo.add hK (i:=2) fz
    refine ifw rfl (ifn rfl ?_)
    refine ζl (f:=62) (args:= #[.int .i64 1000000]) ?_ (HK.out.make 1000000 wv (by decide) (by decide)) ?_
    ·obtain⟨e1,-,e0,-⟩:=hE;clear hd hw hS hV hK hcl
     go_simp
    ·rintro e w' ⟨qn,Fn,rfl,hr,hb',hFn⟩
     exact⟨_,rfl,VVs.add hV (⟨qn,rfl⟩),hcl,⟨⟨hw.1.1.trans (hb'.mono hw.1.1.size),fun _=>⟨qn,Fn,rfl,hr,fun k hk=>Nat.le_trans hw.1.1.size (hFn k hk)⟩⟩,(fun h=>absurd (hK 3 h 2 (by decide)) (by rw [hS];decide)),(fun h=>absurd (hK 3 (hK 4 h 3 (by decide)) 2 (by decide)) (by rw [hS];decide))⟩⟩
   ·rintro ev wv S val hE ⟨hV,hK,hw⟩ hS hd
    have hcl:=Clo.add hK (i:=3) (fc (hd 2 (by decide)).1 fz)
    obtain⟨qa2,g2⟩:=hV 2 (by decide) (hd 2 (by decide)).1
    have v12:ev (.tmp 12)= .tuple #[.pointer (some qa2),.int .i64 0]:=(hd 2 (by decide)).2.trans g2
    refine ifw rfl (ifw rfl ⟨.tuple #[.pointer (some qa2),.int .i64 0],fun w9=> ?_,VVs.add hV ⟨qa2,rfl⟩,hcl,⟨hw.1,(fun _=>g2.symm),(fun h=>absurd (hK 4 h 3 (by decide)) (by rw [hS];decide))⟩⟩)
    obtain⟨e1,-,e2,-⟩:=hE;clear hd hw hS hV hK hcl
    show _=Result.ok (Next.value (.tuple #[.pointer (some qa2),.int .i64 0])) w9
    go_simp
   ·rintro ev wv S val hE ⟨hV,hK,hw⟩ hS hd
    have hcl:=Clo.add hK (i:=4) (fc (hd 3 (by decide)).1 fz)
    obtain⟨qb3,g3⟩:=hV 3 (by decide) (hd 3 (by decide)).1
    have v9:ev (.tmp 9)= .tuple #[.pointer (some qb3),.int .i64 0]:=(hd 3 (by decide)).2.trans g3
    refine ifw rfl (ifw rfl ⟨.pointer (some qb3),fun w9=> ?_,VVs.add hV ⟨qb3,rfl⟩,hcl,⟨hw.1,hw.2.1,(fun _=>⟨qb3,g3,rfl⟩)⟩⟩)
    obtain⟨e1,-,e2,-⟩:=hE;clear hd hw hS hV hK hcl
    show _=Result.ok (Next.value (.pointer (some qb3))) w9
    go_simp
   ·rintro ev wv S val hE ⟨hV,hK,hw⟩ hS hd
    have hcl:=Clo.add hK (i:=5) (fc (hd 3 (by decide)).1 fz)
    obtain⟨qb3,g3⟩:=hV 3 (by decide) (hd 3 (by decide)).1
    have v9:ev (.tmp 9)= .tuple #[.pointer (some qb3),.int .i64 0]:=(hd 3 (by decide)).2.trans g3
    refine pv (.int .i64 0) ⟨VVs.add hV rfl,hcl,hw⟩ (fun w9=> ?_) rfl rfl
    obtain⟨e1,-,e2,-⟩:=hE;clear hd hw hS hV hK hcl
    go_simp
   ·rintro ev wv S val hE ⟨hV,hK,hw⟩ hS hd
    have hcl:=Clo.add hK (i:=6) (fc (hd 0 (by decide)).1 fz)
    have v10:ev (.tmp 10)= .pointer (some ⟨gT,0,none⟩):=vd (hd 0 (by decide)) (hV 0 (by decide))
    refine pv (.pointer (some ⟨gT,0,none⟩)) ⟨VVs.add hV rfl,hcl,hw⟩ (fun w9=> ?_) rfl rfl
    obtain⟨e1,-,e2,-⟩:=hE;clear hd hw hS hV hK hcl
    go_simp
   ·rintro ev wv S val hE ⟨hV,hK,hw⟩ hS hd
    have hcl:=Clo.add hK (i:=7) (fc (hd 6 (by decide)).1 fz)
    have v15:ev (.tmp 15)= .pointer (some ⟨gT,0,none⟩):=vd (hd 6 (by decide)) (hV 6 (by decide))
    refine pv (.pointer (some ⟨gT,0,none⟩)) ⟨VVs.add hV rfl,hcl,hw⟩ (fun w9=> ?_) rfl rfl
    obtain⟨e1,-,e2,-⟩:=hE;clear hd hw hS hV hK hcl
    go_simp
   ·rintro ev wv S val hE ⟨hV,hK,hw⟩ hS hd
    have hcl:=Clo.add hK (i:=8) (fc (hd 7 (by decide)).1 (fc (hd 1 (by decide)).1 fz))
    have v16:ev (.tmp 16)= .pointer (some ⟨gT,0,none⟩):=vd (hd 7 (by decide)) (hV 7 (by decide))
    have v11:ev (.tmp 11)= .int .i64 (i:Int):=vd (hd 1 (by decide)) (hV 1 (by decide))
    refine pv (.pointer (some ⟨gT,i,none⟩)) ⟨VVs.add hV rfl,hcl,hw⟩ (fun w9=> ?_) rfl rfl
    obtain⟨e1,-,e2,-⟩:=hE;clear hd hw hS hV hK hcl
    go_simp
   ·rintro S val wz hS ⟨hV,hK,hw⟩
    have e0:val 0= .pointer (some ⟨gT,0,none⟩):=hV 0 (by decide) (hS 0 (by decide))
    have e1:val 1= .int .i64 (i:Int):=hV 1 (by decide) (hS 1 (by decide))
    obtain⟨qa2,e2⟩:=hV 2 (by decide) (hS 2 (by decide))
    obtain⟨qb3,e3⟩:=hV 3 (by decide) (hS 3 (by decide))
    obtain⟨qc4,e4⟩:=hV 4 (by decide) (hS 4 (by decide))
    have e5:val 5= .int .i64 0:=hV 5 (by decide) (hS 5 (by decide))
    have e6:val 6= .pointer (some ⟨gT,0,none⟩):=hV 6 (by decide) (hS 6 (by decide))
    have e7:val 7= .pointer (some ⟨gT,0,none⟩):=hV 7 (by decide) (hS 7 (by decide))
    have e8:val 8= .pointer (some ⟨gT,i,none⟩):=hV 8 (by decide) (hS 8 (by decide))
    intro v0 h0 u0 v1 h1 u1 v2 h2 u2 v3 h3 u3 v4 h4 u4 v5 h5 u5 v6 h6 u6 v7 h7 u7 v8 h8 u8
    simp only [Act.put,List.setIfInBounds_toArray,List.set_cons_zero,List.set_cons_succ,List.drop_succ_cons,List.drop_zero]
    simp only [h0.trans e0,h1.trans e1,h2.trans e2,h3.trans e3,h4.trans e4,h5.trans e5,h6.trans e6,h7.trans e7,h8.trans e8]
    clear hV h0 e0 u0 v0 h1 e1 u1 v1 h2 u2 v2 h3 u3 v3 h4 u4 v4 h5 e5 u5 v5 h6 e6 u6 v6 h7 e7 u7 v7 h8 e8 u8 v8
    change wpList Tryz.prog _ _ _ _ wz
    obtain⟨hD,h32,h4⟩:=hw
    obtain⟨qd,k3,k4⟩:=h4 (hS 4 (by decide))
    have k2:=h32 (hS 3 (by decide))
    rw [hS 2 (by decide),←k2,k3]at hD
    obtain rfl:qc4=qd:=by
     rw [e4]at k4
     injection k4 with k4
     injection k4
    obtain⟨Fs',hN'⟩:=HN.out.step HK.out.toRepOk h4' hD
    have HN':=hid hN'
    have hbz:=HN.out.b.keep hD.1
    have hfz:=hbz.f i
    obtain⟨v0,hv0⟩: ∃v0,wz.cell? ⟨gT,i,none⟩=some v0:=by
     match i,h4' with
     | 0,_=>exact⟨_,hbz.get 0 rfl⟩
     | 1,_=>exact⟨_,hbz.get 1 rfl⟩
     | 2,_=>exact⟨_,hbz.get 2 rfl⟩
     | 3,_=>exact⟨_,hbz.get 3 rfl⟩
    clear hN' hbz hD h32 h4 k2 k3 k4 e4 e3 e2 hS hK val S
    go_wp2_with fail
    refine ζ2 ?_
    go_wp2_with fail
    go_roundw
    case rel=>exact⟨i+1,_,Fs',by go_num,by omega,HN'.out⟩
    case measure=>simp [intOf];omega
  ·obtain rfl:i=4:=by omega
   go_wp2_with fail
   go_ret
   exact⟨gT,gM,c,Fs,rfl,HN.out.done⟩
end Go.Proofs.YtfceoehfellpgaaGreat
namespace Corr
open Go Go.RowKit
theorem SepF.nil' (w:World):SepF (fun _=>False) w [] w:=SepF.nil w
def packT (ts:List Thing):Thing where
 P w F:=(∀k,F k→k<w.heap.size)∧SepF F w ts w
 lt:=fun h=>h.1
 keep:=fun {w w' F G} h ho hn=>by
  obtain⟨h0,Fs,h1,h2,h3,h4⟩:=h
  have hF: ∀i,i<ts.length→∀k,Fs i k→F k:=fun i hi k hk=>by
   rcases h3 i hi k hk with h | h
   ·exact h
   ·have:=(ts[i]).lt (h1 i _ (List.getElem?_eq_getElem hi)) k hk;omega
  exact⟨fun k hk=>Nat.lt_of_lt_of_le (h0 k hk) ho.size,Fs,fun i t hi=>t.keep (h1 i t hi) ho fun k hk=>hn k (hF i (ζk hi) k hk),h2,fun i hi k hk=> .inl (hF i hi k hk),Off.refl _ _⟩
def exT {ι:Type}(T:ι→Thing):Thing where
 P w F:=∃i,(T i).P w F
 lt:=fun⟨i,h⟩=>(T i).lt h
 keep:=fun⟨i,h⟩ ho hn=>⟨i,(T i).keep h ho hn⟩
theorem SepF.pack {F0:Nat→Prop} {w0 w:World} {ts:List Thing}(h:SepF F0 w0 ts w): ∃F,(packT ts).P w F∧Off F0 w0 w∧∀k,F k→F0 k∨w0.heap.size≤k:=by
 obtain⟨Fs,h1,h2,h3,h4⟩:=h
 refine⟨fun k=>∃i,i<ts.length∧Fs i k,⟨fun k ⟨i,hi,hk⟩=>(ts[i]).lt (h1 i _ (List.getElem?_eq_getElem hi)) k hk,Fs,h1,h2,fun i hi k hk=> .inl ⟨i,hi,hk⟩,Off.refl _ _⟩,h4,fun k ⟨i,hi,hk⟩=>h3 i hi k hk⟩
theorem SepF.deep {F0:Nat→Prop} {w0 w:World} {ts us:List Thing}(h:SepF F0 w0 ts w) {i j:Nat} {t:Thing}(hi:ts[i]? =some (packT us))(hj:us[j]? =some t): ∃F,t.P w F∧(∀k,F k→F0 k∨w0.heap.size≤k)∧
  ∀(w':World) (F':Nat→Prop) (t':Thing),Off F w w'→t'.P w' F'→(∀k,F' k→F k∨w.heap.size≤k)→SepF F0 w0 (ts.set i (packT (us.set j t'))) w':=by
 have hsz:=h.off.size
 obtain⟨F,hp,hF,hu⟩:=h.get hi
 obtain⟨G,hg,hG,hv⟩:=hp.2.get hj
 refine⟨G,hg,fun k hk=> ?_,fun w' F' t' ho ht hF'=> ?_⟩
 ·rcases hG k hk with h | h
  ·exact hF k h
  ·exact .inr (Nat.le_trans hsz h)
 ·obtain⟨F2,h1,h2,h3⟩:=(hv w' F' t' ho ht hF').pack
  exact hu w' F2 _ h2 h1 h3
theorem SepF.swap {F0:Nat→Prop} {w0 w:World} {x y:Thing}(h:SepF F0 w0 [x,y] w):SepF F0 w0 [y,x] w:=by
 obtain⟨Fs,h1,h2,h3,h4⟩:=h
 refine⟨fun i=>if i=0 then Fs 1 else Fs 0,fun i t hi=> ?_,fun i j hi hj hij k=> ?_,fun i hi k=> ?_,h4⟩
 ·match i,hi with
  | 0,hi=>obtain rfl:=Option.some.inj hi;exact h1 1 y rfl
  | 1,hi=>obtain rfl:=Option.some.inj hi;exact h1 0 x rfl
  | i+2,hi=>simp at hi
 ·have hi:i<2:=hi
  have hj:j<2:=hj
  by_cases e:i=0
  ·have e2: ¬j=0:=fun e2=>hij (e.trans e2.symm)
   simp only [e,e2,if_true,if_false]
   exact h2 1 0 (by simp) (by simp) (by omega) k
  ·have e2:j=0:=by omega
   simp only [e,e2,if_true,if_false]
   exact h2 0 1 (by simp) (by simp) (by omega) k
 ·by_cases e:i=0
  ·simp only [e,if_true];exact h3 1 (by simp) k
  ·simp only [e,if_false];exact h3 0 (by simp) k
theorem ζ3p (w:World):(packT []).P w (fun _=>False):=⟨fun _ h=>h.elim,SepF.nil' w⟩
theorem SepF.join {F0:Nat→Prop} {w0 w:World} {ts us:List Thing}(h:SepF F0 w0 ts w) {i j:Nat} {t:Thing}(hi:ts[i]? =some (packT us))(hj:ts[j]? =some t)(hne:i≠j):SepF F0 w0 ((ts.set i (packT (us++ [t]))).set j (packT [])) w:=by
 obtain⟨Fs,h1,h2,h3,h4⟩:=h
 have hil:=ζk hi
 have hjl:=ζk hj
 have pi:=h1 i _ hi
 have pj:=h1 j _ hj
 have hlj:=fun k hk=>t.lt pj k hk
 refine⟨fun k=>if k=j then fun _=>False else if k=i then fun b=>Fs i b∨Fs j b else Fs k,fun k u hk=> ?_,fun a b ha hb hab c=> ?_,fun k hk c=> ?_,h4⟩
 ·by_cases e:k=j
  ·subst e
   rw [List.getElem?_set_self (by rw [List.length_set];exact hjl)]at hk
   obtain rfl:=Option.some.inj hk
   simpa using ζ3p w
  ·rw [List.getElem?_set_ne (fun e'=>e e'.symm)]at hk
   by_cases e2:k=i
   ·subst e2
    rw [List.getElem?_set_self hil]at hk
    obtain rfl:=Option.some.inj hk
    simp only [e,if_false,if_true]
    refine⟨fun c hc=>hc.elim (pi.1 c) (hlj c),?_⟩
    obtain⟨Gs,g1,g2,g3,g4⟩:=pi.2
    have gF: ∀m,m<us.length→∀c,Gs m c→Fs k c:=fun m hm c hc=>by
     rcases g3 m hm c hc with h | h
     ·exact h
     ·have:=(us[m]).lt (g1 m _ (List.getElem?_eq_getElem hm)) c hc;omega
    refine⟨fun m=>if m=us.length then Fs j else Gs m,fun m u hm=> ?_,fun a b ha hb hab c=> ?_,fun m hm c hc=> ?_,Off.refl _ _⟩
    ·by_cases em:m=us.length
     ·subst em
      rw [List.getElem?_append_right (Nat.le_refl _)]at hm
      obtain rfl:t=u:=by simpa using hm
      simpa using pj
     ·have hml:m<us.length:=by have:=ζk hm;simp at this;omega
      rw [List.getElem?_append_left hml]at hm
      simpa [em]using g1 m u hm
    ·rw [List.length_append,List.length_singleton]at ha hb
     by_cases ea:a=us.length
     ·have eb:b≠us.length:=fun e=>hab (ea.trans e.symm)
      simp only [ea,eb,if_true,if_false]
      exact fun x y=>h2 k j hil hjl hne c (gF b (by omega) c y) x
     ·by_cases eb:b=us.length
      ·simp only [ea,eb,if_true,if_false]
       exact fun x y=>h2 k j hil hjl hne c (gF a (by omega) c x) y
      ·simp only [ea,eb,if_false]
       exact g2 a b (by omega) (by omega) hab c
    ·left
     by_cases em:m=us.length
     ·simp only [em,if_true]at hc;exact .inr hc
     ·simp only [em,if_false]at hc
      rw [List.length_append,List.length_singleton]at hm
      exact .inl (gF m (by omega) c hc)
   ·rw [List.getElem?_set_ne (fun e'=>e2 e'.symm)]at hk
    simpa [e,e2]using h1 k u hk
 ·rw [List.length_set,List.length_set]at ha hb
  by_cases aj:a=j
  ·simp only [aj,if_true];exact fun h=>h.elim
  ·by_cases bj:b=j
   ·simp only [bj,if_true];exact fun _ h=>h
   ·by_cases ai:a=i
    ·have bi:b≠i:=fun e=>hab (ai.trans e.symm)
     subst ai
     simp only [aj,bj,bi,if_false,if_true]
     rintro(h | h)
     ·exact h2 a b ha hb hab c h
     ·exact h2 j b hjl hb (fun e=>bj e.symm) c h
    ·by_cases bi:b=i
     ·subst bi
      simp only [aj,bj,ai,if_false,if_true]
      rintro h (h' | h')
      ·exact h2 a b ha hb hab c h h'
      ·exact h2 a j ha hjl aj c h h'
     ·simp only [aj,bj,ai,bi,if_false]
      exact h2 a b ha hb hab c
 ·rw [List.length_set,List.length_set]at hk
  by_cases aj:k=j
  ·simp only [aj,if_true];exact fun h=>h.elim
  ·by_cases ai:k=i
   ·subst ai
    simp only [aj,if_false,if_true]
    rintro(h | h)
    ·exact h3 k hk c h
    ·exact h3 j hjl c h
   ·simp only [aj,ai,if_false]
    exact h3 k hk c
theorem packT.open_ {w:World} {F:Nat→Prop} {ts:List Thing}(h:(packT ts).P w F):SepF F w ts w:=h.2
def trT {Rep:RepT}(R:RepOk Rep)(q:Value)(M:Int)(l:ItL):Thing where
 P w F:=Rep w q F M l
 lt:=R.lt
 keep:=R.keep
def ζa:List Rn→List Value
 | []=> []
 | r :: l=> .int .i64 r.a :: .int .i64 r.b :: .int .i64 r.s :: .int .i64 r.u :: .int .i64 r.v :: .int .i64 r.m :: ζa l
theorem ζ1i: ∀l:List Rn,(ζa l).length=l.length*6
 | []=>rfl
 | s :: r=>by simp only [ζa,List.length_cons];rw [ζ1i r];omega
theorem ζ3l (a b:List Rn):ζa (a++b)=ζa a++ζa b:=by
 induction a with
 | nil=>rfl
 | cons s r ih=>simp [ζa,ih]
theorem cells6_at: ∀ {l:List Rn} {i:Nat} {s:Rn},l[i]? =some s→(ζa l)[i*6]? =some (.int .i64 s.a)∧(ζa l)[i*6+1]? =some (.int .i64 s.b)∧(ζa l)[i*6+2]? =some (.int .i64 s.s)∧(ζa l)[i*6+3]? =some (.int .i64 s.u)∧(ζa l)[i*6+4]? =some (.int .i64 s.v)∧(ζa l)[i*6+5]? =some (.int .i64 s.m)
 | [],_,_,h=>by simp at h
 | x :: r,0,s,h=>by simp at h;subst h;exact⟨rfl,rfl,rfl,rfl,rfl,rfl⟩
 | x :: r,i+1,s,h=>by
  have:=cells6_at (l:=r) (i:=i) (by simpa using h)
  rw [show (i+1)*6=i*6+1+1+1+1+1+1 by omega,show i*6+1+1+1+1+1+1+1=(i*6+1)+1+1+1+1+1+1 by omega,show i*6+1+1+1+1+1+1+2=(i*6+2)+1+1+1+1+1+1 by omega,show i*6+1+1+1+1+1+1+3=(i*6+3)+1+1+1+1+1+1 by omega,show i*6+1+1+1+1+1+1+4=(i*6+4)+1+1+1+1+1+1 by omega,show i*6+1+1+1+1+1+1+5=(i*6+5)+1+1+1+1+1+1 by omega]
  simpa [ζa]using this
theorem ζ4d: ∀(l:List Rn),∀u∈ζa l,u.oneCell'=true
 | [],u,hu=>by cases hu
 | s :: r,u,hu=>by
  simp only [ζa,List.mem_cons]at hu
  rcases hu with rfl | rfl | rfl | rfl | rfl | rfl | hu
  all_goals first | rfl | exact ζ4d r u hu
abbrev rnV (r:Rn):Value:= .agg #[.int .i64 r.a,.int .i64 r.b,.int .i64 r.s,.int .i64 r.u,.int .i64 r.v,.int .i64 r.m]
structure Ck where
 g:Nat
 q:Value
 rs:List Rn
 s0:Int
 l:ItL
structure okCk0 (c:Ck):Prop where
 len:c.rs.length≤250
 ll:c.l.length≤c.rs.length
 srt_:srt c.l
 mem: ∀y,y∈c.l↔∃(i:Nat) (r:Rn),c.rs[i]? =some r∧y=(r.a,r.b,(i:Int))
 low: ∀r∈c.rs,c.s0≤r.s
structure okCk (c:Ck):Prop extends okCk0 c where
 ne: ¬c.rs= []
def addCk (c:Ck)(x:Rn):Ck:=⟨c.g,c.q,c.rs++ [x],min c.s0 x.s,insL 250 (x.a,x.b,(c.rs.length:Int)) c.l⟩
theorem okCk0.add {c:Ck}(h:okCk0 c) {x:Rn}(hl:c.rs.length<250)(hx:x.a<x.b):okCk (addCk c x) where
 len:=by show (c.rs++ [x]).length≤250;rw [List.length_append,List.length_singleton];omega
 ll:=by
  show (insL 250 (x.a,x.b,(c.rs.length:Int)) c.l).length≤(c.rs++ [x]).length
  have h1:=insL_len 250 (x.a,x.b,(c.rs.length:Int)) c.l
  have h2:=h.ll
  rw [List.length_append,List.length_singleton];omega
 srt_:=insL_srt h.srt_
 mem:=fun y=>by
  show y∈insL 250 (x.a,x.b,(c.rs.length:Int)) c.l↔∃(i:Nat) (r:Rn),(c.rs++ [x])[i]? =some r∧y=(r.a,r.b,(i:Int))
  rw [insL_mem h.srt_ (by have:=h.ll;omega),h.mem]
  constructor
  ·rintro(⟨i,r,h1,rfl⟩ | ⟨rfl,_⟩)
   ·exact⟨i,r,by rw [List.getElem?_append_left (List.getElem?_eq_some_iff.1 h1).1];exact h1,rfl⟩
   ·exact⟨c.rs.length,x,by simp,rfl⟩
  ·rintro⟨i,r,h1,rfl⟩
   rcases Nat.lt_or_ge i c.rs.length with hi | hi
   ·rw [List.getElem?_append_left hi]at h1
    exact .inl ⟨i,r,h1,rfl⟩
   ·rw [List.getElem?_append_right hi]at h1
    have h2:=(List.getElem?_eq_some_iff.1 h1).1
    simp at h2
    obtain rfl:i=c.rs.length:=by omega
    simp at h1
    subst h1
    exact .inr ⟨rfl,hx⟩
 low:=fun r hr=>by
  show min c.s0 x.s≤r.s
  rcases List.mem_append.1 hr with hr | hr
  ·have:=h.low r hr;omega
  ·rw [List.mem_singleton.1 hr];omega
 ne:=by show ¬c.rs++ [x]= [];simp
structure SlA where
 A:Option Addr
 n:Nat
 c:Nat
def ckT {Rep:RepT}(R:RepOk Rep)(T:TypeId)(c:Ck):Thing:=exT fun s:SlA=>packT [blkT c.g #[.slice s.A s.n s.c,c.q,.int .i64 c.s0],rowT 0 T 6 s.A s.n s.c (ζa c.rs),trT R c.q 250 c.l]
structure Kp where
 g:Nat
 la:Int
 n:Int
 q:Value
 nb:Nat
 f:Int→Int
 cs:List Ck
def ptrsC (cs:List Ck):List Value:=cs.map fun c=> .pointer (some ⟨c.g,0,none⟩)
abbrev kpTs {Rep:RepT}(R:RepOk Rep)(T U:TypeId)(K:Kp)(s:SlA):List Thing:=tpTq R K.q K.nb (pcI K.f) :: blkT K.g #[.int .i64 K.la,.int .i64 K.n,K.q,.slice s.A s.n s.c] :: rowT 0 U 1 s.A s.n s.c (ptrsC K.cs) :: packT (K.cs.map (ckT R T)) :: []
def kpT {Rep:RepT}(R:RepOk Rep)(T U:TypeId)(K:Kp):Thing:=exT fun s:SlA=>packT (kpTs R T U K s)
def boT {Rep:RepT}(R:RepOk Rep)(T U:TypeId)(g:Nat)(K:Kp):Thing:=packT [blkT g #[.pointer (some ⟨K.g,0,none⟩)],kpT R T U K]
structure KsOk (L:ClL)(K:Kp):Prop where
 ks:KS L K.f (K.cs.flatMap Ck.rs) K.n
 la:K.la=lastL L
 nb:K.nb≤2*L.length
 ck: ∀c∈K.cs,okCk c
def RepBt {Rep:RepT}(R:RepOk Rep)(T U:TypeId):RepB:=fun w p F L=>∃g K,p= .pointer (some ⟨g,0,none⟩)∧(boT R T U g K).P w F∧KsOk L K
theorem repBt_ok {Rep:RepT}(R:RepOk Rep)(T U:TypeId):BtOk (RepBt R T U) where
 lt:=fun⟨g,K,_,h,_⟩=>(boT R T U g K).lt h
 keep:=fun⟨g,K,hp,h,hk⟩ ho hn=>⟨g,K,hp,(boT R T U g K).keep h ho hn,hk⟩
theorem TpQq.few {Rep:RepT} {w:World} {p:Value} {F:Nat→Prop} {n:Nat} {f:Int→Int}(h:TpQq Rep w p F n (pcI f)) {E:List Int}(hE: ∀d,¬f d=f (d-1)→d∈E):TpQq Rep w p F E.length (pcI f):=by
 obtain⟨gT,gM,q,Fs,l,m,h1,h2,h3,h4,h5,h6⟩:=h
 refine⟨gT,gM,q,Fs,l,m,h1,h2,h3,h4,h5,fun i hi=> ?_⟩
 obtain⟨hs,hm⟩:=h4 i hi
 have key: ∀y∈l i,∃v,pcI f (y.1,y.2.1,v):=fun y hy=>((hm y).1 hy).2.2.2
 have:=pigeonI ((l i).map (·.1)) E ?_ ?_
 ·rwa [List.length_map]at this
 ·rw [List.nodup_iff_pairwise_ne,List.pairwise_map]
  refine List.Pairwise.imp_of_mem ?_ hs
  intro x y hx hy hxy e
  obtain⟨v,hv⟩:=key x hx
  obtain⟨u,hu⟩:=key y hy
  have hh:=pc_from hv hu e
  have e2:x.2.1=y.2.1:=by injection hh with _ hh;injection hh
  have z1:=((hm x).1 hx).1
  have z2:=((hm y).1 hy).1
  have e3:x=y:=Prod.ext e (Prod.ext e2 (z1.trans z2.symm))
  rw [e3]at hxy
  rcases lessB_iff.1 hxy with h | h
  ·omega
  ·rcases h with⟨_,h | h⟩
   ·omega
   ·omega
 ·intro x hx
  obtain⟨y,hy,rfl⟩:=List.mem_map.1 hx
  obtain⟨v,hv⟩:=key y hy
  refine hE y.1 fun e=>hv.bef ?_
  show f (y.1-1)=v
  rw [←e]
  exact hv.on y.1 (Int.le_refl _) hv.lt
end Corr
