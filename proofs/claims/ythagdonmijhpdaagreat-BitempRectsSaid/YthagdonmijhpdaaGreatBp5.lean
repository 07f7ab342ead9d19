/- Contract of package bitemp -/
import Derived.Test.YthagdonmijhpdaaGreatBp4
open Go.Lib (hid)
set_option linter.unusedSimpArgs false
set_option linter.unusedVariables false
set_option maxHeartbeats 4000000
set_option maxRecDepth 8000
namespace Corr
open Go Go.RowKit
section
variable {T:TypeId} {A:Option Addr} {n c B sz:Nat} {xs ys:List Value} {wr wx:World} {bB bA:Bool} {vB vA:Value}
theorem AppD.alloc (h:AppD T A n c B xs ys sz wr bB bA vB vA wx)(o:Obj):AppD T A n c B xs ys sz wr bB bA vB vA (wx.alloc o):=
 ⟨h.1.later ((Below.refl _ wx).alloc (Nat.le_refl _) _),fun e=>(h.2.1 e).alloc _,fun e=>by
  obtain⟨kb,h1,h2,h3⟩:=h.2.2.1 e;exact⟨kb,h1,h2.alloc _,h3⟩,fun e=>by
  obtain⟨A',c',g1,g2,g3⟩:=h.2.2.2 e;exact⟨A',c',g1,g2.alloc _,g3⟩⟩
theorem AppD.run2 {P:Program} {t ty:TypeId} {z:Value} {bytes kb:Nat}(E:Elem P t T z sz bytes)(h:AppD T A n c B xs ys sz wr true false (.slice (some ⟨kb,0,none⟩) 1 1) vA wx)(hlt: ∀k,rowK A n c k→k<wr.heap.size)
  (hl:ys.length=sz) (h1: ∀u∈ys,u.oneCell'=true) (hn:(n+1)*bytes≤140737488355328) (hm:n+1≤maxLen) (hb:B≤wr.heap.size):
  ∃A' c' w',(Builtin.append_ #[t,t] ty #[.slice A n c,.slice (some ⟨kb,0,none⟩) 1 1]).run P wx= .ok (.slice A' (n+1) c') w'∧AppD T A n c B xs ys sz wr true true (.slice (some ⟨kb,0,none⟩) 1 1) (.slice A' (n+1) c') w'∧Off (fun k=>rowK A n c k) wx w':=by
 obtain⟨kb',hk1,hk2,hk3⟩:=h.2.2.1 rfl
 obtain rfl:kb=kb':=by
  injection hk1 with hk1 _ _
  injection hk1 with hk1
  injection hk1
 obtain⟨TB,hTB⟩:=hk2.blk
 have hwz:=h.1.size
 obtain⟨v9,w9,hr9,ho9,hg9,ha9⟩:=run_app2 (P:=P) (ty:=ty) (t:=t) (c:=1) (m:=1) (ad:=⟨kb,0,none⟩) E (h.2.1 rfl) (ys:=ys) (by rw [hl,Nat.one_mul]) (ζ3n (ys:=ys) hTB) h1 hn hm (by omega)
 obtain⟨A9,c9,rfl,_⟩:=Lies.of_own ho9 (by have:=ho9.1;exact this)
 refine⟨A9,c9,w9,hr9,⟨h.1.trans (Off.grown (v:= .slice A n c) hg9),fun h=>(by cases h),fun _=>⟨kb,rfl,(Off.grown (v:= .slice A n c) hg9).blk hk2 (fun e=>by have:=hlt kb e;omega),hk3⟩,fun _=>⟨A9,c9,rfl,ho9,fun q hq=>(ha9 q hq).imp_right (fun h=>Nat.le_trans hwz h)⟩⟩,Off.grown (v:= .slice A n c) hg9⟩
end
theorem SepF.app_new {F0:Nat→Prop} {w0 w wz:World} {ts:List Thing}(h:SepF F0 w0 ts w) {i sz n c c':Nat} {T U:TypeId} {A A':Option Addr} {xs ys:List Value} {bB:Bool} {vB:Value}(hi:ts[i]? =some (rowT 0 T sz A n c xs))(hD:AppD T A n c 0 xs ys sz w bB true vB (.slice A' (n+1) c') wz)
  {gc:Nat} {vs:Array Value} (hg:wz.heap[gc]? =some (.cells vs U (0,0))) (hge:w.heap.size≤gc) (hU:U≠T):SepF F0 w0 (ts.set i (rowT 0 T sz A' (n+1) c' (xs++ys))++ [blkT gc vs]) wz:=by
 obtain⟨Fs,h1,h2,h3,h4⟩:=h
 obtain⟨d1,d2,d3⟩:=hD.done
 have hil:=ζh hi
 have pi:=h1 i _ hi
 have hsz:=h4.size
 have hlt: ∀j,j<ts.length→∀k,Fs j k→k<w.heap.size:=fun j hj k hk=>(ts[j]).lt (h1 j _ (List.getElem?_eq_getElem hj)) k hk
 have hoff:Off (Fs i) w wz:=d1.mono fun k _ hk=>(pi.2 k).2 hk
 have hnew: ∀k,rowK A' (n+1) c' k→k≠gc∧(Fs i k∨w.heap.size≤k):=fun k hk=>⟨row_ne d2 hU hg hk,(d3 k hk).imp_left fun h=>(pi.2 k).2 h⟩
 refine⟨fun j=>if j=ts.length then(· =gc)else if j=i then fun k=>rowK A' (n+1) c' k else Fs j,fun j u hj=> ?_,fun j k hj hk hjk b=> ?_,fun j hj k=> ?_,off_turn h4 hoff (h3 i hil)⟩
 ·have hjl:=ζh hj
  rw [List.length_append,List.length_set,List.length_singleton]at hjl
  by_cases e:j=ts.length
  ·subst e
   rw [List.getElem?_append_right (by simp)]at hj
   simp at hj
   subst hj
   simp only [if_true]
   exact⟨⟨U,hg⟩,fun _=>Iff.rfl⟩
  ·rw [List.getElem?_append_left (by rw [List.length_set];omega)]at hj
   by_cases e2:j=i
   ·subst e2
    rw [List.getElem?_set_self hil]at hj
    obtain rfl:=Option.some.inj hj
    simp only [e,if_false,if_true]
    exact⟨d2,fun _=>Iff.rfl⟩
   ·rw [List.getElem?_set_ne (fun e'=>e2 e'.symm)]at hj
    simp only [e,e2,if_false]
    exact u.keep (h1 j u hj) hoff (h2 j i (ζh hj) hil e2)
 ·rw [List.length_append,List.length_set,List.length_singleton]at hj hk
  by_cases ej:j=ts.length
  ·have ek:k≠ts.length:=fun e=>hjk (ej.trans e.symm)
   simp only [ej,ek,if_true,if_false]
   by_cases ek2:k=i
   ·simp only [ek2,if_true];exact fun x y=>(hnew b y).1 x
   ·simp only [ek2,if_false];exact fun x y=>by have:=hlt k (by omega) b y;omega
  ·by_cases ek:k=ts.length
   ·simp only [ej,ek,if_true,if_false]
    by_cases ej2:j=i
    ·simp only [ej2,if_true];exact fun x y=>(hnew b x).1 y
    ·simp only [ej2,if_false];exact fun x y=>by have:=hlt j (by omega) b x;omega
   ·by_cases ej2:j=i
    ·have ek2:k≠i:=fun e=>hjk (ej2.trans e.symm)
     simp only [ej,ek,ej2,ek2,if_true,if_false]
     rw [if_neg (fun e=>ej (by rw [ej2];exact e))]
     exact fun x y=>by
      rcases(hnew b x).2 with h | h
      ·exact h2 i k hil (by omega) (fun e=>ek2 e.symm) b h y
      ·have:=hlt k (by omega) b y;omega
    ·by_cases ek2:k=i
     ·simp only [ej,ek,ej2,ek2,if_true,if_false]
      rw [if_neg (fun e=>ek (by rw [ek2];exact e))]
      exact fun x y=>by
       rcases(hnew b y).2 with h | h
       ·exact h2 j i (by omega) hil ej2 b x h
       ·have:=hlt j (by omega) b x;omega
     ·simp only [ej,ek,ej2,ek2,if_false]
      exact h2 j k (by omega) (by omega) hjk b
 ·rw [List.length_append,List.length_set,List.length_singleton]at hj
  by_cases ej:j=ts.length
  ·simp only [ej,if_true];intro e;exact .inr (by omega)
  ·by_cases ej2:j=i
   ·simp only [ej,ej2,if_true,if_false]
    rw [if_neg (fun e=>ej (by rw [ej2];exact e))]
    intro hk
    rcases(hnew k hk).2 with h | h
    ·exact h3 i hil k h
    ·exact .inr (by omega)
   ·simp only [ej,ej2,if_false]
    exact h3 j (by omega) k
theorem okCk0.fresh (g:Nat)(q:Value)(s:Int):okCk0 ⟨g,q,[],s,[]⟩ where
 len:=Nat.zero_le _
 ll:=Nat.le_refl _
 srt_:=List.Pairwise.nil
 mem:=fun y=>⟨fun h=>(by cases h),fun⟨i,r,h,_⟩=>by simp at h⟩
 low:=fun _ h=>by cases h
end Corr
namespace Go.Proofs.YthagdonmijhpdaaGreat
open Go.RowKit Corr
theorem elem_cp:Elem Tryz.prog 73 134 (.pointer none) 1 8:=by
 obtain⟨i,h0,h1,h2,h3⟩:=info_parts (show (Tryz.prog.info? 134).map (fun i=>(i.zero,i.size,i.bytes))=some (some (.pointer none),1,8) by kernel_rfl)
 exact⟨Tryz.underlying73,⟨i,h0,h1,h2,h3⟩,rfl,by decide⟩
theorem end_new {Rep:RepT}(K:TrK Rep)(Sk:Kp)(x:Rn)(w:World)(F:Nat→Prop)(H:(kpT K.toRepOk 86 134 Sk).P w F)(hcase:Sk.cs= []∨∃init c,Sk.cs=init++ [c]∧c.rs.length=250)(hlen:Sk.cs.length≤100000)(hx:x.a<x.b)(hk: ∀c∈Sk.cs,okCk c):
  Calls Tryz.prog 68 #[.pointer (some ⟨Sk.g,0,none⟩),.agg #[.int .i64 x.a,.int .i64 x.b,.int .i64 x.s,.int .i64 x.u,.int .i64 x.v,.int .i64 x.m]] w (EndP K.toRepOk 86 134 Sk x w F):=by
 obtain⟨⟨A,n,cap⟩,hp⟩:=H
 have hs0:SepF F w [tpTq K.toRepOk Sk.q Sk.nb (pcI Sk.f),blkT Sk.g #[.int .i64 Sk.la,.int .i64 Sk.n,Sk.q,.slice A n cap],rowT 0 134 1 A n cap (ptrsC Sk.cs),packT (Sk.cs.map (ckT K.toRepOk 86))] w:=hp.2
 have hs1:=hs0.push #[.int .i64 x.a,.int .i64 x.b,.int .i64 x.s,.int .i64 x.u,.int .i64 x.v,.int .i64 x.m] 86
 obtain⟨w1,hw1⟩: ∃w1,w.alloc (.cells #[.int .i64 x.a,.int .i64 x.b,.int .i64 x.s,.int .i64 x.u,.int .i64 x.v,.int .i64 x.m] 86)=w1:=⟨_,rfl⟩
 rw [hw1]at hs1
 obtain⟨gx,hgx⟩: ∃k,w.heap.size=k:=⟨_,rfl⟩
 rw [hgx]at hs1
 have hs1:SepF F w [tpTq K.toRepOk Sk.q Sk.nb (pcI Sk.f),blkT Sk.g #[.int .i64 Sk.la,.int .i64 Sk.n,Sk.q,.slice A n cap],rowT 0 134 1 A n cap (ptrsC Sk.cs),packT (Sk.cs.map (ckT K.toRepOk 86)),blkT gx #[.int .i64 x.a,.int .i64 x.b,.int .i64 x.s,.int .i64 x.u,.int .i64 x.v,.int .i64 x.m]] w1:=hs1
 have hrow:=hs1.row 2 rfl
 have hN:Sk.cs.length=n:=by have:=hrow.1;rw [ζ2z]at this;omega
 have HS1:=hid hs1
 have HGX:=hid hgx
 have HKK:=hid hk
 have HX:=hid hx
 have HN:=hid (show n≤100000 by omega)
 have HNL:=hid hN
 have b3:=(hs1.b 1 rfl).get 3 rfl
 rcases hcase with hcs | ⟨init,c,hcs,hm⟩
 ·have hn0:n=0:=by rw [←hN,hcs];rfl
  have d0:((n:Int) == 0)=true:=by simp;omega
  clear hp hs0 hs1 hgx hrow hN hk hx hlen hcs hn0
  go_enter Tryz.func68,Tryz.ntmps68
  go_upto_region 3 with fail
  rw [HGX.out]
  clear hw1
  go_wp2_with fail
  refine(K.make 250 _ (by omega) (by omega)).mono ?_
  rintro e w2 ⟨qt,Ft,rfl,r1,b1,r2⟩
  have hs2:=HS1.out.add b1 (t:=trT K.toRepOk (.pointer (some qt)) 250 []) r1 r2
  have HS2:=hid (show SepF F w [tpTq K.toRepOk Sk.q Sk.nb (pcI Sk.f),blkT Sk.g #[.int .i64 Sk.la,.int .i64 Sk.n,Sk.q,.slice A n cap],rowT 0 134 1 A n cap (ptrsC Sk.cs),packT (Sk.cs.map (ckT K.toRepOk 86)),blkT gx #[.int .i64 x.a,.int .i64 x.b,.int .i64 x.s,.int .i64 x.u,.int .i64 x.v,.int .i64 x.m],trT K.toRepOk (.pointer (some qt)) 250 []] w2 from hs2)
  have HB2:=hid (hs2.b 1 rfl)
  have HX2:=hid (hs2.b 4 rfl)
  have HR2:=hid (hs2.row 2 rfl)
  have H4:=hid (hs2.apart_row (i:=1) (j:=2) rfl rfl (by decide))
  have H5:=hid (hs2.apart_row (i:=4) (j:=2) rfl rfl (by decide))
  have HLT:=hid (fun k (hk:rowK A n cap k)=>ζk HR2.out hk)
  obtain⟨gc,hgc⟩: ∃k,w2.heap.size=k:=⟨_,rfl⟩
  have HGC:=hid hgc
  have HNR:=hid (show ¬rowK A n cap gc from fun e=>by have:=HLT.out gc e;omega)
  have hnn:=HN.out
  clear r1 b1 r2 hs2 hgc b3 HS1
  go_upto_region 4 with fail
  refine ζ3 15 (fun S val wx=>VVs 15 [(· = .pointer (some ⟨Sk.g,0,none⟩)),(· = .pointer (some ⟨Sk.g,0,none⟩)),(· = .pointer (some ⟨Sk.g,0,none⟩)),(· = .pointer (some ⟨Sk.g,3,none⟩)),(· = .slice A n cap),(· = .pointer (some qt)),(· = .pointer (some ⟨gx,0,none⟩)),(· = .pointer (some ⟨gx,2,none⟩)),(· = .int .i64 x.s),(· = .agg #[.slice none 0 0,.pointer (some qt),.int .i64 x.s]),(· = .pointer (some ⟨gc,0,none⟩)),(fun vv=>∃kb,vv= .slice (some ⟨kb,0,none⟩) 1 1),(fun vv=>∃Av cv,vv= .slice Av (n+1) cv),(· = .pointer (some ⟨Sk.g,0,none⟩)),(· = .pointer (some ⟨Sk.g,3,none⟩))] S val∧Clo [[],[],[1],[2],[3],[],[],[6],[7],[5,8],[9],[10],[4,11],[0],[13]] S∧(AppD 134 A n cap 0 (ptrsC Sk.cs) [.pointer (some ⟨gc,0,none⟩)] 1 w2 (S 11) (S 12) (val 11) (val 12) wx∧(S 10=false→wx.heap.size=gc)∧(S 10=true→wx.heap[gc]? =some (.cells #[.slice none 0 0,.pointer (some qt),.int .i64 x.s] 136 (0,0))))) [0,1,2,3,5,6,7,9,13,14] (by kernel_rfl) (by kernel_rfl) ⟨VVs.start,Clo.start,⟨AppD.start (HR2.out),fun _=>HGC.out,fun h=>by cases h⟩⟩ ⟨?_,?_,?_,?_,?_,?_,?_,?_,?_,?_,?_,?_,?_,?_,?_,trivial⟩ ?_
  ·exact qU [0]
  ·exact qU [0]
  ·exact qU []
  ·exact qU []
  ·exact qL [] fun hw=>(hw.1.1.blk HB2.out H4.out).get 3 rfl
  ·exact qU [5]
  ·exact qU [3]
  ·exact qU []
  ·exact qL [] fun hw=>(hw.1.1.blk HX2.out H5.out).get 2 rfl
  ·exact qU []
  ·rintro ev wv S val hE ⟨hV,hK,hw⟩ hS hd
   have v42:ev (.tmp 42)= .agg #[.slice none 0 0,.pointer (some qt),.int .i64 x.s]:=vd (hd 9 (by decide)) (hV 9 (by decide))
   have hsz:=hw.2.1 hS
   refine ifw rfl (ifn rfl ?_)
   refine ζn (u:= .pointer (some ⟨gc,0,none⟩)) (w':=wv.alloc (.cells #[.slice none 0 0,.pointer (some qt),.int .i64 x.s] 136)) ?_ ⟨VVs.add hV rfl,ζi hK rfl hd,⟨hw.1.alloc _,fun h=>absurd h (by simp [addS]),fun _=>by rw [←hsz];exact ζw wv _⟩⟩
   have e1:=hE.const;clear hE hd hw hS hV hK
   go_simp
  ·rintro ev wv S val hE ⟨hV,hK,hw⟩ hS hd
   have v43:ev (.tmp 43)= .pointer (some ⟨gc,0,none⟩):=vd (hd 10 (by decide)) (hV 10 (by decide))
   refine ifw rfl (ifn rfl ?_)
   refine ζn (u:= .slice (some ⟨wv.heap.size,0,none⟩) 1 1) (w':=wv.alloc (.cells ([.pointer (some ⟨gc,0,none⟩)]).toArray 134)) ?_ ⟨VVs.add hV ⟨_,rfl⟩,ζi hK rfl hd,⟨(show AppD _ _ _ _ _ _ _ _ _ (addS S 11 11) (addS S 11 12) (addV val 11 _ 11) (addV val 11 _ 12) _ from by simpa [addS,addV]using hw.1.build 134),fun h=>absurd h (by simp [addS,(hd 10 (by decide)).1]),fun _=>(Below.heap_alloc _ _ _ (Array.getElem?_eq_some_iff.1 (hw.2.2 (hd 10 (by decide)).1)).1).trans (hw.2.2 (hd 10 (by decide)).1)⟩⟩
   have e1:=hE.const;clear hE hd hw hS hV hK
   go_simp
  ·rintro ev wv S val hE ⟨hV,hK,hw⟩ hS hd
   have v37:ev (.tmp 37)= .slice A n cap:=vd (hd 4 (by decide)) (hV 4 (by decide))
   obtain⟨kb11,g11⟩:=hV 11 (by decide) (hd 11 (by decide)).1
   have v44:ev (.tmp 44)= .slice (some ⟨kb11,0,none⟩) 1 1:=(hd 11 (by decide)).2.trans g11
   have hwA:=hw.1
   rw [(hd 11 (by decide)).1,hS,g11]at hwA
   obtain⟨A9,c9,w9,hr9,hD9,hO9⟩:=AppD.run2 (P:=Tryz.prog) (t:=73) (ty:=73) elem_cp hwA HLT.out (by rfl) (by intro u hu;rw [List.mem_singleton.1 hu];rfl) (by omega) (by unfold maxLen;omega) (Nat.zero_le _)
   refine ifw rfl (ifn rfl ?_)
   refine ζn (u:= .slice A9 (n+1) c9) (w':=w9) ?_ ⟨VVs.add hV ⟨A9,c9,rfl⟩,ζi hK rfl hd,⟨(by simpa [addS,addV,(hd 11 (by decide)).1,g11]using hD9),fun h=>absurd h (by simp [addS,(hK 11 (hd 11 (by decide)).1 10 (by decide))]),fun _=>(hO9.block _ (Array.getElem?_eq_some_iff.1 (hw.2.2 (hK 11 (hd 11 (by decide)).1 10 (by decide)))).1 HNR.out).trans (hw.2.2 (hK 11 (hd 11 (by decide)).1 10 (by decide)))⟩⟩
   have e1:=hE.const;clear hE hd hw hS hV hK
   unfold execOp
   simp only [resolve,invoke,builtin,Sem.run_bind,Sem.run_pure,Result.andThen_ok,List.map_toArray,List.map_cons,List.map_nil,v37,v44,hr9]
  ·exact qU []
  ·exact qU []
  ·rintro S val wz hS ⟨hV,hK,hw⟩
   have e0:val 0= .pointer (some ⟨Sk.g,0,none⟩):=hV 0 (by decide) (hS 0 (by decide))
   have e1:val 1= .pointer (some ⟨Sk.g,0,none⟩):=hV 1 (by decide) (hS 1 (by decide))
   have e2:val 2= .pointer (some ⟨Sk.g,0,none⟩):=hV 2 (by decide) (hS 2 (by decide))
   have e3:val 3= .pointer (some ⟨Sk.g,3,none⟩):=hV 3 (by decide) (hS 3 (by decide))
   have e4:val 4= .slice A n cap:=hV 4 (by decide) (hS 4 (by decide))
   have e5:val 5= .pointer (some qt):=hV 5 (by decide) (hS 5 (by decide))
   have e6:val 6= .pointer (some ⟨gx,0,none⟩):=hV 6 (by decide) (hS 6 (by decide))
   have e7:val 7= .pointer (some ⟨gx,2,none⟩):=hV 7 (by decide) (hS 7 (by decide))
   have e8:val 8= .int .i64 x.s:=hV 8 (by decide) (hS 8 (by decide))
   have e9:val 9= .agg #[.slice none 0 0,.pointer (some qt),.int .i64 x.s]:=hV 9 (by decide) (hS 9 (by decide))
   have e10:val 10= .pointer (some ⟨gc,0,none⟩):=hV 10 (by decide) (hS 10 (by decide))
   obtain⟨kb11,e11⟩:=hV 11 (by decide) (hS 11 (by decide))
   obtain⟨Av12,cv12,e12⟩:=hV 12 (by decide) (hS 12 (by decide))
   have e13:val 13= .pointer (some ⟨Sk.g,0,none⟩):=hV 13 (by decide) (hS 13 (by decide))
   refine finL hV hS ?_
   rintro v0 ⟨h0,-⟩-v1 ⟨h1,-⟩-v2 ⟨h2,-⟩-v3 ⟨h3,-⟩-v4 ⟨h4,-⟩-v5 ⟨h5,-⟩-v6 ⟨h6,-⟩-v7 ⟨h7,-⟩-v8 ⟨h8,-⟩-v9 ⟨h9,-⟩-v10 ⟨h10,-⟩-v11 ⟨h11,-⟩-v12 ⟨h12,-⟩-v13 ⟨h13,-⟩-_ ⟨-,rfl⟩-
   simp only [zA]
   simp only [h0.trans e0,h1.trans e1,h2.trans e2,h3.trans e3,h4.trans e4,h5.trans e5,h6.trans e6,h7.trans e7,h8.trans e8,h9.trans e9,h10.trans e10,h11.trans e11,h12.trans e12,h13.trans e13]
   clear hV h0 e0 v0 h1 e1 v1 h2 e2 v2 h3 e3 v3 h4 e4 v4 h5 e5 v5 h6 e6 v6 h7 e7 v7 h8 e8 v8 h9 e9 v9 h10 e10 v10 h11 v11 h12 v12 h13 e13 v13
   change wpList Tryz.prog _ _ _ _ wz
   rw [hS 11 (by decide),hS 12 (by decide),e11,e12]at hw
   have hs4:=HS2.out.app_new (i:=2) rfl hw.1 (hw.2.2 (hS 10 (by decide))) (Nat.le_of_eq HGC.out) (by decide)
   have HS4:=hid (show SepF F w [tpTq K.toRepOk Sk.q Sk.nb (pcI Sk.f),blkT Sk.g #[.int .i64 Sk.la,.int .i64 Sk.n,Sk.q,.slice A n cap],rowT 0 134 1 Av12 (n+1) cv12 (ptrsC Sk.cs++ [.pointer (some ⟨gc,0,none⟩)]),packT (Sk.cs.map (ckT K.toRepOk 86)),blkT gx #[.int .i64 x.a,.int .i64 x.b,.int .i64 x.s,.int .i64 x.u,.int .i64 x.v,.int .i64 x.m],trT K.toRepOk (.pointer (some qt)) 250 [],blkT gc #[.slice none 0 0,.pointer (some qt),.int .i64 x.s]] wz from hs4)
   have hbz:=hs4.b 1 rfl
   have y0:=hbz.get 3 rfl
   have z0:=hbz.f 3
   clear hw hS hK e11 e12 val S hbz hs4
   go_wp2_with fail
   refine ζ2 ?_
   have hs5:=HS4.out.set 1 rfl 3 (.slice Av12 (n+1) cv12)
   generalize wz.setCell ⟨Sk.g,3,none⟩ (.slice Av12 (n+1) cv12)=w5 at*
   have hs5:SepF F w [tpTq K.toRepOk Sk.q Sk.nb (pcI Sk.f),blkT Sk.g #[.int .i64 Sk.la,.int .i64 Sk.n,Sk.q,.slice Av12 (n+1) cv12],rowT 0 134 1 Av12 (n+1) cv12 (ptrsC Sk.cs++ [.pointer (some ⟨gc,0,none⟩)]),packT (Sk.cs.map (ckT K.toRepOk 86)),blkT gx #[.int .i64 x.a,.int .i64 x.b,.int .i64 x.s,.int .i64 x.u,.int .i64 x.v,.int .i64 x.m],trT K.toRepOk (.pointer (some qt)) 250 [],blkT gc #[.slice none 0 0,.pointer (some qt),.int .i64 x.s]] w5:=hs5
   have hs6:=hs5.add (Below.refl _ _) (t:=packT []) (ζ3v w5) (fun k hk=>hk.elim)
   have hs7:=hs6.join (i:=7) (j:=6) rfl rfl (by decide)
   have hs8:SepF F w [tpTq K.toRepOk Sk.q Sk.nb (pcI Sk.f),blkT Sk.g #[.int .i64 Sk.la,.int .i64 Sk.n,Sk.q,.slice Av12 (n+1) cv12],rowT 0 134 1 Av12 (n+1) cv12 (ptrsC Sk.cs++ [.pointer (some ⟨gc,0,none⟩)]),packT (Sk.cs.map (ckT K.toRepOk 86)),blkT gx #[.int .i64 x.a,.int .i64 x.b,.int .i64 x.s,.int .i64 x.u,.int .i64 x.v,.int .i64 x.m],trT K.toRepOk (.pointer (some qt)) 250 [],packT [],packT [blkT gc #[.slice none 0 0,.pointer (some qt),.int .i64 x.s]],rowT 0 86 6 none 0 0 []] w5:=hs7.addRow (base:=0) (e:=86) (sz:=6) (A:=none) (n:=0) (c:=0) (xs:= []) (World.ownsRow_nil _ _ _ _) (fun k hk=>(by cases hk)) (Below.refl _ _)
   have hs9:=hs8.join (i:=7) (j:=8) rfl rfl (by decide)
   have hs10:=hs9.join (i:=7) (j:=5) rfl rfl (by decide)
   have hs11:=hs10.as (i:=7) rfl (ckT K.toRepOk 86 (⟨gc,.pointer (some qt),[],x.s,[]⟩:Ck)) (fun F' h=>⟨F',⟨⟨none,0,0⟩,h⟩,fun _ h=>h⟩)
   have hs12:=hs11.join (i:=3) (j:=7) rfl rfl (by decide)
   have hs13:=hs12.take 5
   have HS5:=hid (show SepF F w [tpTq K.toRepOk Sk.q Sk.nb (pcI Sk.f),blkT Sk.g #[.int .i64 Sk.la,.int .i64 Sk.n,Sk.q,.slice Av12 (n+1) cv12],rowT 0 134 1 Av12 (n+1) cv12 (ptrsC Sk.cs++ [.pointer (some ⟨gc,0,none⟩)]),packT ((Sk.cs.map (ckT K.toRepOk 86))++ [ckT K.toRepOk 86 (⟨gc,.pointer (some qt),[],x.s,[]⟩:Ck)]),blkT gx #[.int .i64 x.a,.int .i64 x.b,.int .i64 x.s,.int .i64 x.u,.int .i64 x.v,.int .i64 x.m]] w5 from hs13)
   clear HS4 y0 z0 hs5 hs6 hs7 hs8 hs9 hs10 hs11 hs12 hs13 HS2 HB2 HX2 HR2 H4 H5 HLT
   have hat:(ptrsC Sk.cs++ [.pointer (some ⟨gc,0,none⟩)])[n]? =some (.pointer (some ⟨gc,0,none⟩)):=by
    rw [←HNL.out,←ζ2z];simp
   obtain⟨gr2,rfl,kr2⟩:=ζ4d (HS5.out.row 2 rfl) hat
   have HKR2:=hid kr2
   have HGR2:=hid (ζk (HS5.out.row 2 rfl) (k:=gr2) (by simp [rowK,Value.ownBlock]))
   have HMAP:=hid (show ((Sk.cs.map (ckT K.toRepOk 86))++ [ckT K.toRepOk 86 (⟨gc,.pointer (some qt),[],x.s,[]⟩:Ck)])[n]? =some (ckT K.toRepOk 86 (⟨gc,.pointer (some qt),[],x.s,[]⟩:Ck)) by rw [←HNL.out];simp)
   have HB5:=hid (HS5.out.b 1 rfl)
   have HX5:=hid (HS5.out.b 4 rfl)
   have HWN:=hid (show IntKind.i64.wrap (n:Int)=(n:Int)from IntWalk.i64_in _ (by omega))
   clear hat kr2
   go_upto_region 5 with fail
   obtain⟨Q1,hQ1⟩: ∃Q1:World→Prop,Q1=fun wx=>SepF F w [tpTq K.toRepOk Sk.q Sk.nb (pcI Sk.f),blkT Sk.g #[.int .i64 Sk.la,.int .i64 Sk.n,Sk.q,.slice (some ⟨gr2,0,none⟩) (n+1) cv12],rowT 0 134 1 (some ⟨gr2,0,none⟩) (n+1) cv12 (ptrsC Sk.cs++ [.pointer (some ⟨gc,0,none⟩)]),packT (((Sk.cs.map (ckT K.toRepOk 86))++ [ckT K.toRepOk 86 (⟨gc,.pointer (some qt),[],x.s,[]⟩:Ck)]).set n (ckT K.toRepOk 86 (addCk (⟨gc,.pointer (some qt),[],x.s,[]⟩:Ck) x))),blkT gx #[.int .i64 x.a,.int .i64 x.b,.int .i64 x.s,.int .i64 x.u,.int .i64 x.v,.int .i64 x.m]] wx:=⟨_,rfl⟩
   have HQ1:=hid hQ1
   clear hQ1
   refine ζ3 14 (fun S val wx=>VVs 14 [(· = .pointer (some ⟨Sk.g,0,none⟩)),(· = .pointer (some ⟨Sk.g,0,none⟩)),(· = .pointer (some ⟨Sk.g,3,none⟩)),(· = .slice (some ⟨gr2,0,none⟩) (n+1) cv12),(· = .pointer (some ⟨Sk.g,0,none⟩)),(· = .pointer (some ⟨Sk.g,0,none⟩)),(· = .pointer (some ⟨Sk.g,3,none⟩)),(· = .slice (some ⟨gr2,0,none⟩) (n+1) cv12),(· = .int .i64 ((n:Int)+1)),(· = .int .i64 (n:Int)),(· = .pointer (some ⟨gr2,n,none⟩)),(· = .pointer (some ⟨gc,0,none⟩)),(· = .agg #[.int .i64 x.a,.int .i64 x.b,.int .i64 x.s,.int .i64 x.u,.int .i64 x.v,.int .i64 x.m]),(· = .tuple #[])] S val∧Clo [[],[0],[1],[2],[],[4],[5],[6],[7],[8],[3,9],[10],[],[11,12]] S∧((S 13=false→Below w5.heap.size w5 wx)∧(S 13=true→Q1 wx))) [0,1,2,4,5,6,8,9,10] (by kernel_rfl) (by kernel_rfl) ⟨VVs.start,Clo.start,⟨fun _=>(Below.refl _ _).drew,fun h=>by cases h⟩⟩ ⟨?_,?_,?_,?_,?_,?_,?_,?_,?_,?_,?_,?_,?_,?_,trivial⟩ ?_
   ·exact qU [0]
   ·exact qU []
   ·exact qU []
   ·refine qM fun ev wv S val hE hV hK hw hS hd=> ?_
    have s13:=hK.no hS 13 [11,10,3]
    have hwb:=hw.1 s13
    have kx0:=((HB5.out).keep hwb).get 3 rfl
    exact qE [] hE hV hd
   ·exact qU [0]
   ·exact qU []
   ·exact qU []
   ·refine qM fun ev wv S val hE hV hK hw hS hd=> ?_
    have s13:=hK.no hS 13 [11,10,9,8,7]
    have hwb:=hw.1 s13
    have kx0:=((HB5.out).keep hwb).get 3 rfl
    exact qE [] hE hV hd
   ·exact qU []
   ·rintro ev wv S val hE ⟨hV,hK,hw⟩ hS hd
    have v56:ev (.tmp 56)= .int .i64 ((n:Int)+1):=vd (hd 8 (by decide)) (hV 8 (by decide))
    refine ifw rfl (ifw rfl ⟨.int .i64 (n:Int),fun w9=> ?_,VVs.add hV rfl,ζi hK rfl hd,(by simpa [addS]using hw)⟩)
    obtain⟨e1,-,e2,-⟩:=hE;clear hd hw hS hV hK
    have hwn:IntKind.i64.wrap (n:Int)=(n:Int):=HWN.out
    show _=Result.ok (Next.value (.int .i64 (n:Int))) w9
    go_simp
   ·rintro ev wv S val hE ⟨hV,hK,hw⟩ hS hd
    have v51:ev (.tmp 51)= .slice (some ⟨gr2,0,none⟩) (n+1) cv12:=vd (hd 3 (by decide)) (hV 3 (by decide))
    have v57:ev (.tmp 57)= .int .i64 (n:Int):=vd (hd 9 (by decide)) (hV 9 (by decide))
    refine ifw rfl (ifw rfl ⟨.pointer (some ⟨gr2,n,none⟩),fun w9=> ?_,VVs.add hV rfl,ζi hK rfl hd,(by simpa [addS]using hw)⟩)
    obtain⟨e1,-,e2,-⟩:=hE;clear hd hw hS hV hK
    show _=Result.ok (Next.value (.pointer (some ⟨gr2,n,none⟩))) w9
    go_simp
    intro h9
    omega
   ·refine qM fun ev wv S val hE hV hK hw hS hd=> ?_
    have s13:=hK.no hS 13 [11]
    have hwb:=hw.1 s13
    have kx0:=(Below.cell hwb HGR2.out).trans HKR2.out
    exact qE [] hE hV hd
   ·refine qM fun ev wv S val hE hV hK hw hS hd=> ?_
    have s13:=hK.no hS 13 [12]
    have hwb:=hw.1 s13
    have kx0:=((HX5.out).keep hwb).get 0 rfl
    have kx1:=((HX5.out).keep hwb).get 1 rfl
    have kx2:=((HX5.out).keep hwb).get 2 rfl
    have kx3:=((HX5.out).keep hwb).get 3 rfl
    have kx4:=((HX5.out).keep hwb).get 4 rfl
    have kx5:=((HX5.out).keep hwb).get 5 rfl
    exact qE [3] hE hV hd
   ·refine qC fun ev wv S val hE hV hK hw hS hd=> ?_
    have hwb:=hw.1 hS
    refine qF (f:=91) (args:= #[.pointer (some ⟨gc,0,none⟩),.agg #[.int .i64 x.a,.int .i64 x.b,.int .i64 x.s,.int .i64 x.u,.int .i64 x.v,.int .i64 x.m]]) [] hE hV hd (sepf_add K (HS5.out.keep hwb) (i:=3) rfl HMAP.out (by show (0:Nat)<250;decide) (by show (0:Nat)≤1000;decide) x) ?_
    rintro e w' ⟨rfl,hs3⟩
    exact⟨_,rfl,rfl,⟨fun h=>absurd h (by simp [addS]),fun _=>(by rw [HQ1.out];exact hs3)⟩⟩
   ·rintro S val w9 hS ⟨hV,hK,hw⟩
    have e1:val 1= .pointer (some ⟨Sk.g,0,none⟩):=hV 1 (by decide) (hS 1 (by decide))
    have e2:val 2= .pointer (some ⟨Sk.g,3,none⟩):=hV 2 (by decide) (hS 2 (by decide))
    have e3:val 3= .slice (some ⟨gr2,0,none⟩) (n+1) cv12:=hV 3 (by decide) (hS 3 (by decide))
    refine finL hV hS ?_
    rintro _ ⟨-,rfl⟩-v1 ⟨h1,-⟩-v2 ⟨h2,-⟩-v3 ⟨h3,-⟩-
    iterate 10 rintro _ ⟨-,rfl⟩-
    simp only [zA]
    simp only [h1.trans e1,h2.trans e2,h3.trans e3]
    clear hV h1 e1 v1 h2 e2 v2 h3 e3 v3
    change wpList Tryz.prog _ _ _ _ w9
    have HQZ:=hid (hw.2 (hS 13 (by decide)))
    clear hw hS hK val S
    rw [HQ1.out]at HQZ
    clear HQ1 HB5 HX5 HS5
    refine ζ2 ?_
    go_wp2_with fail
    go_end0
    have hs9:SepF F w [tpTq K.toRepOk Sk.q Sk.nb (pcI Sk.f),blkT Sk.g #[.int .i64 Sk.la,.int .i64 Sk.n,Sk.q,.slice (some ⟨gr2,0,none⟩) (n+1) cv12],rowT 0 134 1 (some ⟨gr2,0,none⟩) (n+1) cv12 (ptrsC Sk.cs++ [.pointer (some ⟨gc,0,none⟩)]),packT (((Sk.cs.map (ckT K.toRepOk 86))++ [ckT K.toRepOk 86 (⟨gc,.pointer (some qt),[],x.s,[]⟩:Ck)]).set n (ckT K.toRepOk 86 (addCk (⟨gc,.pointer (some qt),[],x.s,[]⟩:Ck) x))),blkT gx #[.int .i64 x.a,.int .i64 x.b,.int .i64 x.s,.int .i64 x.u,.int .i64 x.v,.int .i64 x.m]] w9:=HQZ.out
    have e1:((Sk.cs.map (ckT K.toRepOk 86))++ [ckT K.toRepOk 86 (⟨gc,.pointer (some qt),[],x.s,[]⟩:Ck)]).set n (ckT K.toRepOk 86 (addCk (⟨gc,.pointer (some qt),[],x.s,[]⟩:Ck) x))=(Sk.cs++ [addCk (⟨gc,.pointer (some qt),[],x.s,[]⟩:Ck) x]).map (ckT K.toRepOk 86):=by
     rw [←HNL.out,List.map_append];simp
    have e2:ptrsC Sk.cs++ [.pointer (some ⟨gc,0,none⟩)]=ptrsC (Sk.cs++ [addCk (⟨gc,.pointer (some qt),[],x.s,[]⟩:Ck) x]):=by
     unfold ptrsC;rw [List.map_append];rfl
    rw [e1,e2]at hs9
    obtain⟨F',h1,h2,h3⟩:=(hs9.take 4).pack
    exact⟨F', { Sk with cs:=Sk.cs++ [addCk (⟨gc,.pointer (some qt),[],x.s,[]⟩:Ck) x] },rfl,⟨⟨some ⟨gr2,0,none⟩,n+1,cv12⟩,h1⟩,EndS.new HKK.out rfl (okCk0.add (okCk0.fresh gc (.pointer (some qt)) x.s) (by show (0:Nat)<250;decide) HX.out),h2,h3⟩
 ·obtain⟨j,hj⟩: ∃j,init.length=j:=⟨_,rfl⟩
  have hat:Sk.cs[j]? =some c:=by rw [hcs,←hj];simp
  have hn1:n=j+1:=by rw [←hN,hcs,List.length_append,hj];rfl
  have hmap:(Sk.cs.map (ckT K.toRepOk 86))[j]? =some (ckT K.toRepOk 86 c):=by rw [List.getElem?_map,hat];rfl
  obtain⟨gr,hA,kr⟩:=ζ4d hrow (ptrsC_at hat)
  obtain⟨Fc,hcp,_,_⟩:=hs1.deep (i:=3) rfl hmap
  obtain⟨A2,cap2,hb2,ho2⟩:=ckT_blk hcp
  rw [hm]at hb2
  have q0:=hb2.get 0 rfl
  have d0:((n:Int) == 0)=false:=by simp;omega
  have hjn:(n:Int)-1=(j:Int):=by omega
  have hjn2:j<n:=by omega
  have hj1:j≤100000:=by omega
  rw [hA]at b3
  have HA:=hid hA
  clear hp hs0 hs1 hgx hrow hN hk hx hlen hcs hcp hb2 ho2 hmap hat hj hm hA
  go_enter Tryz.func68,Tryz.ntmps68
  go_upto_region 3 with fail
  rw [HGX.out]
  clear hw1 hn1 hjn hjn2 hj1 d0 q0 kr
  go_wp2_with fail
  refine(K.make 250 _ (by omega) (by omega)).mono ?_
  rintro e w2 ⟨qt,Ft,rfl,r1,b1,r2⟩
  have hs2:=HS1.out.add b1 (t:=trT K.toRepOk (.pointer (some qt)) 250 []) r1 r2
  have HS2:=hid (show SepF F w [tpTq K.toRepOk Sk.q Sk.nb (pcI Sk.f),blkT Sk.g #[.int .i64 Sk.la,.int .i64 Sk.n,Sk.q,.slice A n cap],rowT 0 134 1 A n cap (ptrsC Sk.cs),packT (Sk.cs.map (ckT K.toRepOk 86)),blkT gx #[.int .i64 x.a,.int .i64 x.b,.int .i64 x.s,.int .i64 x.u,.int .i64 x.v,.int .i64 x.m],trT K.toRepOk (.pointer (some qt)) 250 []] w2 from hs2)
  have HB2:=hid (hs2.b 1 rfl)
  have HX2:=hid (hs2.b 4 rfl)
  have HR2:=hid (hs2.row 2 rfl)
  have H4:=hid (hs2.apart_row (i:=1) (j:=2) rfl rfl (by decide))
  have H5:=hid (hs2.apart_row (i:=4) (j:=2) rfl rfl (by decide))
  have HLT:=hid (fun k (hk:rowK A n cap k)=>ζk HR2.out hk)
  obtain⟨gc,hgc⟩: ∃k,w2.heap.size=k:=⟨_,rfl⟩
  have HGC:=hid hgc
  have HNR:=hid (show ¬rowK A n cap gc from fun e=>by have:=HLT.out gc e;omega)
  have hnn:=HN.out
  clear r1 b1 r2 hs2 hgc b3 HS1
  go_upto_region 4 with fail
  refine ζ3 15 (fun S val wx=>VVs 15 [(· = .pointer (some ⟨Sk.g,0,none⟩)),(· = .pointer (some ⟨Sk.g,0,none⟩)),(· = .pointer (some ⟨Sk.g,0,none⟩)),(· = .pointer (some ⟨Sk.g,3,none⟩)),(· = .slice A n cap),(· = .pointer (some qt)),(· = .pointer (some ⟨gx,0,none⟩)),(· = .pointer (some ⟨gx,2,none⟩)),(· = .int .i64 x.s),(· = .agg #[.slice none 0 0,.pointer (some qt),.int .i64 x.s]),(· = .pointer (some ⟨gc,0,none⟩)),(fun vv=>∃kb,vv= .slice (some ⟨kb,0,none⟩) 1 1),(fun vv=>∃Av cv,vv= .slice Av (n+1) cv),(· = .pointer (some ⟨Sk.g,0,none⟩)),(· = .pointer (some ⟨Sk.g,3,none⟩))] S val∧Clo [[],[],[1],[2],[3],[],[],[6],[7],[5,8],[9],[10],[4,11],[0],[13]] S∧(AppD 134 A n cap 0 (ptrsC Sk.cs) [.pointer (some ⟨gc,0,none⟩)] 1 w2 (S 11) (S 12) (val 11) (val 12) wx∧(S 10=false→wx.heap.size=gc)∧(S 10=true→wx.heap[gc]? =some (.cells #[.slice none 0 0,.pointer (some qt),.int .i64 x.s] 136 (0,0))))) [0,1,2,3,5,6,7,9,13,14] (by kernel_rfl) (by kernel_rfl) ⟨VVs.start,Clo.start,⟨AppD.start (HR2.out),fun _=>HGC.out,fun h=>by cases h⟩⟩ ⟨?_,?_,?_,?_,?_,?_,?_,?_,?_,?_,?_,?_,?_,?_,?_,trivial⟩ ?_
  ·exact qU [0]
  ·exact qU [0]
  ·exact qU []
  ·exact qU []
  ·exact qL [] fun hw=>(hw.1.1.blk HB2.out H4.out).get 3 rfl
  ·exact qU [5]
  ·exact qU [3]
  ·exact qU []
  ·exact qL [] fun hw=>(hw.1.1.blk HX2.out H5.out).get 2 rfl
  ·exact qU []
  ·rintro ev wv S val hE ⟨hV,hK,hw⟩ hS hd
   have v42:ev (.tmp 42)= .agg #[.slice none 0 0,.pointer (some qt),.int .i64 x.s]:=vd (hd 9 (by decide)) (hV 9 (by decide))
   have hsz:=hw.2.1 hS
   refine ifw rfl (ifn rfl ?_)
   refine ζn (u:= .pointer (some ⟨gc,0,none⟩)) (w':=wv.alloc (.cells #[.slice none 0 0,.pointer (some qt),.int .i64 x.s] 136)) ?_ ⟨VVs.add hV rfl,ζi hK rfl hd,⟨hw.1.alloc _,fun h=>absurd h (by simp [addS]),fun _=>by rw [←hsz];exact ζw wv _⟩⟩
   have e1:=hE.const;clear hE hd hw hS hV hK
   go_simp
  ·rintro ev wv S val hE ⟨hV,hK,hw⟩ hS hd
   have v43:ev (.tmp 43)= .pointer (some ⟨gc,0,none⟩):=vd (hd 10 (by decide)) (hV 10 (by decide))
   refine ifw rfl (ifn rfl ?_)
   refine ζn (u:= .slice (some ⟨wv.heap.size,0,none⟩) 1 1) (w':=wv.alloc (.cells ([.pointer (some ⟨gc,0,none⟩)]).toArray 134)) ?_ ⟨VVs.add hV ⟨_,rfl⟩,ζi hK rfl hd,⟨(show AppD _ _ _ _ _ _ _ _ _ (addS S 11 11) (addS S 11 12) (addV val 11 _ 11) (addV val 11 _ 12) _ from by simpa [addS,addV]using hw.1.build 134),fun h=>absurd h (by simp [addS,(hd 10 (by decide)).1]),fun _=>(Below.heap_alloc _ _ _ (Array.getElem?_eq_some_iff.1 (hw.2.2 (hd 10 (by decide)).1)).1).trans (hw.2.2 (hd 10 (by decide)).1)⟩⟩
   have e1:=hE.const;clear hE hd hw hS hV hK
   go_simp
  ·rintro ev wv S val hE ⟨hV,hK,hw⟩ hS hd
   have v37:ev (.tmp 37)= .slice A n cap:=vd (hd 4 (by decide)) (hV 4 (by decide))
   obtain⟨kb11,g11⟩:=hV 11 (by decide) (hd 11 (by decide)).1
   have v44:ev (.tmp 44)= .slice (some ⟨kb11,0,none⟩) 1 1:=(hd 11 (by decide)).2.trans g11
   have hwA:=hw.1
   rw [(hd 11 (by decide)).1,hS,g11]at hwA
   obtain⟨A9,c9,w9,hr9,hD9,hO9⟩:=AppD.run2 (P:=Tryz.prog) (t:=73) (ty:=73) elem_cp hwA HLT.out (by rfl) (by intro u hu;rw [List.mem_singleton.1 hu];rfl) (by omega) (by unfold maxLen;omega) (Nat.zero_le _)
   refine ifw rfl (ifn rfl ?_)
   refine ζn (u:= .slice A9 (n+1) c9) (w':=w9) ?_ ⟨VVs.add hV ⟨A9,c9,rfl⟩,ζi hK rfl hd,⟨(by simpa [addS,addV,(hd 11 (by decide)).1,g11]using hD9),fun h=>absurd h (by simp [addS,(hK 11 (hd 11 (by decide)).1 10 (by decide))]),fun _=>(hO9.block _ (Array.getElem?_eq_some_iff.1 (hw.2.2 (hK 11 (hd 11 (by decide)).1 10 (by decide)))).1 HNR.out).trans (hw.2.2 (hK 11 (hd 11 (by decide)).1 10 (by decide)))⟩⟩
   have e1:=hE.const;clear hE hd hw hS hV hK
   unfold execOp
   simp only [resolve,invoke,builtin,Sem.run_bind,Sem.run_pure,Result.andThen_ok,List.map_toArray,List.map_cons,List.map_nil,v37,v44,hr9]
  ·exact qU []
  ·exact qU []
  ·rintro S val wz hS ⟨hV,hK,hw⟩
   have e0:val 0= .pointer (some ⟨Sk.g,0,none⟩):=hV 0 (by decide) (hS 0 (by decide))
   have e1:val 1= .pointer (some ⟨Sk.g,0,none⟩):=hV 1 (by decide) (hS 1 (by decide))
   have e2:val 2= .pointer (some ⟨Sk.g,0,none⟩):=hV 2 (by decide) (hS 2 (by decide))
   have e3:val 3= .pointer (some ⟨Sk.g,3,none⟩):=hV 3 (by decide) (hS 3 (by decide))
   have e4:val 4= .slice A n cap:=hV 4 (by decide) (hS 4 (by decide))
   have e5:val 5= .pointer (some qt):=hV 5 (by decide) (hS 5 (by decide))
   have e6:val 6= .pointer (some ⟨gx,0,none⟩):=hV 6 (by decide) (hS 6 (by decide))
   have e7:val 7= .pointer (some ⟨gx,2,none⟩):=hV 7 (by decide) (hS 7 (by decide))
   have e8:val 8= .int .i64 x.s:=hV 8 (by decide) (hS 8 (by decide))
   have e9:val 9= .agg #[.slice none 0 0,.pointer (some qt),.int .i64 x.s]:=hV 9 (by decide) (hS 9 (by decide))
   have e10:val 10= .pointer (some ⟨gc,0,none⟩):=hV 10 (by decide) (hS 10 (by decide))
   obtain⟨kb11,e11⟩:=hV 11 (by decide) (hS 11 (by decide))
   obtain⟨Av12,cv12,e12⟩:=hV 12 (by decide) (hS 12 (by decide))
   have e13:val 13= .pointer (some ⟨Sk.g,0,none⟩):=hV 13 (by decide) (hS 13 (by decide))
   refine finL hV hS ?_
   rintro v0 ⟨h0,-⟩-v1 ⟨h1,-⟩-v2 ⟨h2,-⟩-v3 ⟨h3,-⟩-v4 ⟨h4,-⟩-v5 ⟨h5,-⟩-v6 ⟨h6,-⟩-v7 ⟨h7,-⟩-v8 ⟨h8,-⟩-v9 ⟨h9,-⟩-v10 ⟨h10,-⟩-v11 ⟨h11,-⟩-v12 ⟨h12,-⟩-v13 ⟨h13,-⟩-_ ⟨-,rfl⟩-
   simp only [zA]
   simp only [h0.trans e0,h1.trans e1,h2.trans e2,h3.trans e3,h4.trans e4,h5.trans e5,h6.trans e6,h7.trans e7,h8.trans e8,h9.trans e9,h10.trans e10,h11.trans e11,h12.trans e12,h13.trans e13]
   clear hV h0 e0 v0 h1 e1 v1 h2 e2 v2 h3 e3 v3 h4 e4 v4 h5 e5 v5 h6 e6 v6 h7 e7 v7 h8 e8 v8 h9 e9 v9 h10 e10 v10 h11 v11 h12 v12 h13 e13 v13
   change wpList Tryz.prog _ _ _ _ wz
   rw [hS 11 (by decide),hS 12 (by decide),e11,e12]at hw
   have hs4:=HS2.out.app_new (i:=2) rfl hw.1 (hw.2.2 (hS 10 (by decide))) (Nat.le_of_eq HGC.out) (by decide)
   have HS4:=hid (show SepF F w [tpTq K.toRepOk Sk.q Sk.nb (pcI Sk.f),blkT Sk.g #[.int .i64 Sk.la,.int .i64 Sk.n,Sk.q,.slice A n cap],rowT 0 134 1 Av12 (n+1) cv12 (ptrsC Sk.cs++ [.pointer (some ⟨gc,0,none⟩)]),packT (Sk.cs.map (ckT K.toRepOk 86)),blkT gx #[.int .i64 x.a,.int .i64 x.b,.int .i64 x.s,.int .i64 x.u,.int .i64 x.v,.int .i64 x.m],trT K.toRepOk (.pointer (some qt)) 250 [],blkT gc #[.slice none 0 0,.pointer (some qt),.int .i64 x.s]] wz from hs4)
   have hbz:=hs4.b 1 rfl
   have y0:=hbz.get 3 rfl
   have z0:=hbz.f 3
   clear hw hS hK e11 e12 val S hbz hs4
   go_wp2_with fail
   refine ζ2 ?_
   have hs5:=HS4.out.set 1 rfl 3 (.slice Av12 (n+1) cv12)
   generalize wz.setCell ⟨Sk.g,3,none⟩ (.slice Av12 (n+1) cv12)=w5 at*
   have hs5:SepF F w [tpTq K.toRepOk Sk.q Sk.nb (pcI Sk.f),blkT Sk.g #[.int .i64 Sk.la,.int .i64 Sk.n,Sk.q,.slice Av12 (n+1) cv12],rowT 0 134 1 Av12 (n+1) cv12 (ptrsC Sk.cs++ [.pointer (some ⟨gc,0,none⟩)]),packT (Sk.cs.map (ckT K.toRepOk 86)),blkT gx #[.int .i64 x.a,.int .i64 x.b,.int .i64 x.s,.int .i64 x.u,.int .i64 x.v,.int .i64 x.m],trT K.toRepOk (.pointer (some qt)) 250 [],blkT gc #[.slice none 0 0,.pointer (some qt),.int .i64 x.s]] w5:=hs5
   have hs6:=hs5.add (Below.refl _ _) (t:=packT []) (ζ3v w5) (fun k hk=>hk.elim)
   have hs7:=hs6.join (i:=7) (j:=6) rfl rfl (by decide)
   have hs8:SepF F w [tpTq K.toRepOk Sk.q Sk.nb (pcI Sk.f),blkT Sk.g #[.int .i64 Sk.la,.int .i64 Sk.n,Sk.q,.slice Av12 (n+1) cv12],rowT 0 134 1 Av12 (n+1) cv12 (ptrsC Sk.cs++ [.pointer (some ⟨gc,0,none⟩)]),packT (Sk.cs.map (ckT K.toRepOk 86)),blkT gx #[.int .i64 x.a,.int .i64 x.b,.int .i64 x.s,.int .i64 x.u,.int .i64 x.v,.int .i64 x.m],trT K.toRepOk (.pointer (some qt)) 250 [],packT [],packT [blkT gc #[.slice none 0 0,.pointer (some qt),.int .i64 x.s]],rowT 0 86 6 none 0 0 []] w5:=hs7.addRow (base:=0) (e:=86) (sz:=6) (A:=none) (n:=0) (c:=0) (xs:= []) (World.ownsRow_nil _ _ _ _) (fun k hk=>(by cases hk)) (Below.refl _ _)
   have hs9:=hs8.join (i:=7) (j:=8) rfl rfl (by decide)
   have hs10:=hs9.join (i:=7) (j:=5) rfl rfl (by decide)
   have hs11:=hs10.as (i:=7) rfl (ckT K.toRepOk 86 (⟨gc,.pointer (some qt),[],x.s,[]⟩:Ck)) (fun F' h=>⟨F',⟨⟨none,0,0⟩,h⟩,fun _ h=>h⟩)
   have hs12:=hs11.join (i:=3) (j:=7) rfl rfl (by decide)
   have hs13:=hs12.take 5
   have HS5:=hid (show SepF F w [tpTq K.toRepOk Sk.q Sk.nb (pcI Sk.f),blkT Sk.g #[.int .i64 Sk.la,.int .i64 Sk.n,Sk.q,.slice Av12 (n+1) cv12],rowT 0 134 1 Av12 (n+1) cv12 (ptrsC Sk.cs++ [.pointer (some ⟨gc,0,none⟩)]),packT ((Sk.cs.map (ckT K.toRepOk 86))++ [ckT K.toRepOk 86 (⟨gc,.pointer (some qt),[],x.s,[]⟩:Ck)]),blkT gx #[.int .i64 x.a,.int .i64 x.b,.int .i64 x.s,.int .i64 x.u,.int .i64 x.v,.int .i64 x.m]] w5 from hs13)
   clear HS4 y0 z0 hs5 hs6 hs7 hs8 hs9 hs10 hs11 hs12 hs13 HS2 HB2 HX2 HR2 H4 H5 HLT
   have hat:(ptrsC Sk.cs++ [.pointer (some ⟨gc,0,none⟩)])[n]? =some (.pointer (some ⟨gc,0,none⟩)):=by
    rw [←HNL.out,←ζ2z];simp
   obtain⟨gr2,rfl,kr2⟩:=ζ4d (HS5.out.row 2 rfl) hat
   have HKR2:=hid kr2
   have HGR2:=hid (ζk (HS5.out.row 2 rfl) (k:=gr2) (by simp [rowK,Value.ownBlock]))
   have HMAP:=hid (show ((Sk.cs.map (ckT K.toRepOk 86))++ [ckT K.toRepOk 86 (⟨gc,.pointer (some qt),[],x.s,[]⟩:Ck)])[n]? =some (ckT K.toRepOk 86 (⟨gc,.pointer (some qt),[],x.s,[]⟩:Ck)) by rw [←HNL.out];simp)
   have HB5:=hid (HS5.out.b 1 rfl)
   have HX5:=hid (HS5.out.b 4 rfl)
   have HWN:=hid (show IntKind.i64.wrap (n:Int)=(n:Int)from IntWalk.i64_in _ (by omega))
   clear hat kr2
   go_upto_region 5 with fail
   obtain⟨Q1,hQ1⟩: ∃Q1:World→Prop,Q1=fun wx=>SepF F w [tpTq K.toRepOk Sk.q Sk.nb (pcI Sk.f),blkT Sk.g #[.int .i64 Sk.la,.int .i64 Sk.n,Sk.q,.slice (some ⟨gr2,0,none⟩) (n+1) cv12],rowT 0 134 1 (some ⟨gr2,0,none⟩) (n+1) cv12 (ptrsC Sk.cs++ [.pointer (some ⟨gc,0,none⟩)]),packT (((Sk.cs.map (ckT K.toRepOk 86))++ [ckT K.toRepOk 86 (⟨gc,.pointer (some qt),[],x.s,[]⟩:Ck)]).set n (ckT K.toRepOk 86 (addCk (⟨gc,.pointer (some qt),[],x.s,[]⟩:Ck) x))),blkT gx #[.int .i64 x.a,.int .i64 x.b,.int .i64 x.s,.int .i64 x.u,.int .i64 x.v,.int .i64 x.m]] wx:=⟨_,rfl⟩
   have HQ1:=hid hQ1
   clear hQ1
   refine ζ3 14 (fun S val wx=>VVs 14 [(· = .pointer (some ⟨Sk.g,0,none⟩)),(· = .pointer (some ⟨Sk.g,0,none⟩)),(· = .pointer (some ⟨Sk.g,3,none⟩)),(· = .slice (some ⟨gr2,0,none⟩) (n+1) cv12),(· = .pointer (some ⟨Sk.g,0,none⟩)),(· = .pointer (some ⟨Sk.g,0,none⟩)),(· = .pointer (some ⟨Sk.g,3,none⟩)),(· = .slice (some ⟨gr2,0,none⟩) (n+1) cv12),(· = .int .i64 ((n:Int)+1)),(· = .int .i64 (n:Int)),(· = .pointer (some ⟨gr2,n,none⟩)),(· = .pointer (some ⟨gc,0,none⟩)),(· = .agg #[.int .i64 x.a,.int .i64 x.b,.int .i64 x.s,.int .i64 x.u,.int .i64 x.v,.int .i64 x.m]),(· = .tuple #[])] S val∧Clo [[],[0],[1],[2],[],[4],[5],[6],[7],[8],[3,9],[10],[],[11,12]] S∧((S 13=false→Below w5.heap.size w5 wx)∧(S 13=true→Q1 wx))) [0,1,2,4,5,6,8,9,10] (by kernel_rfl) (by kernel_rfl) ⟨VVs.start,Clo.start,⟨fun _=>(Below.refl _ _).drew,fun h=>by cases h⟩⟩ ⟨?_,?_,?_,?_,?_,?_,?_,?_,?_,?_,?_,?_,?_,?_,trivial⟩ ?_
   ·exact qU [0]
   ·exact qU []
   ·exact qU []
   ·refine qM fun ev wv S val hE hV hK hw hS hd=> ?_
    have s13:=hK.no hS 13 [11,10,3]
    have hwb:=hw.1 s13
    have kx0:=((HB5.out).keep hwb).get 3 rfl
    exact qE [] hE hV hd
   ·exact qU [0]
   ·exact qU []
   ·exact qU []
   ·refine qM fun ev wv S val hE hV hK hw hS hd=> ?_
    have s13:=hK.no hS 13 [11,10,9,8,7]
    have hwb:=hw.1 s13
    have kx0:=((HB5.out).keep hwb).get 3 rfl
    exact qE [] hE hV hd
   ·exact qU []
   ·rintro ev wv S val hE ⟨hV,hK,hw⟩ hS hd
    have v56:ev (.tmp 56)= .int .i64 ((n:Int)+1):=vd (hd 8 (by decide)) (hV 8 (by decide))
    refine ifw rfl (ifw rfl ⟨.int .i64 (n:Int),fun w9=> ?_,VVs.add hV rfl,ζi hK rfl hd,(by simpa [addS]using hw)⟩)
    obtain⟨e1,-,e2,-⟩:=hE;clear hd hw hS hV hK
    have hwn:IntKind.i64.wrap (n:Int)=(n:Int):=HWN.out
    show _=Result.ok (Next.value (.int .i64 (n:Int))) w9
    go_simp
   ·rintro ev wv S val hE ⟨hV,hK,hw⟩ hS hd
    have v51:ev (.tmp 51)= .slice (some ⟨gr2,0,none⟩) (n+1) cv12:=vd (hd 3 (by decide)) (hV 3 (by decide))
    have v57:ev (.tmp 57)= .int .i64 (n:Int):=vd (hd 9 (by decide)) (hV 9 (by decide))
    refine ifw rfl (ifw rfl ⟨.pointer (some ⟨gr2,n,none⟩),fun w9=> ?_,VVs.add hV rfl,ζi hK rfl hd,(by simpa [addS]using hw)⟩)
    obtain⟨e1,-,e2,-⟩:=hE;clear hd hw hS hV hK
    show _=Result.ok (Next.value (.pointer (some ⟨gr2,n,none⟩))) w9
    go_simp
    intro h9
    omega
   ·refine qM fun ev wv S val hE hV hK hw hS hd=> ?_
    have s13:=hK.no hS 13 [11]
    have hwb:=hw.1 s13
    have kx0:=(Below.cell hwb HGR2.out).trans HKR2.out
    exact qE [] hE hV hd
   ·refine qM fun ev wv S val hE hV hK hw hS hd=> ?_
    have s13:=hK.no hS 13 [12]
    have hwb:=hw.1 s13
    have kx0:=((HX5.out).keep hwb).get 0 rfl
    have kx1:=((HX5.out).keep hwb).get 1 rfl
    have kx2:=((HX5.out).keep hwb).get 2 rfl
    have kx3:=((HX5.out).keep hwb).get 3 rfl
    have kx4:=((HX5.out).keep hwb).get 4 rfl
    have kx5:=((HX5.out).keep hwb).get 5 rfl
    exact qE [3] hE hV hd
   ·refine qC fun ev wv S val hE hV hK hw hS hd=> ?_
    have hwb:=hw.1 hS
    refine qF (f:=91) (args:= #[.pointer (some ⟨gc,0,none⟩),.agg #[.int .i64 x.a,.int .i64 x.b,.int .i64 x.s,.int .i64 x.u,.int .i64 x.v,.int .i64 x.m]]) [] hE hV hd (sepf_add K (HS5.out.keep hwb) (i:=3) rfl HMAP.out (by show (0:Nat)<250;decide) (by show (0:Nat)≤1000;decide) x) ?_
    rintro e w' ⟨rfl,hs3⟩
    exact⟨_,rfl,rfl,⟨fun h=>absurd h (by simp [addS]),fun _=>(by rw [HQ1.out];exact hs3)⟩⟩
   ·rintro S val w9 hS ⟨hV,hK,hw⟩
    have e1:val 1= .pointer (some ⟨Sk.g,0,none⟩):=hV 1 (by decide) (hS 1 (by decide))
    have e2:val 2= .pointer (some ⟨Sk.g,3,none⟩):=hV 2 (by decide) (hS 2 (by decide))
    have e3:val 3= .slice (some ⟨gr2,0,none⟩) (n+1) cv12:=hV 3 (by decide) (hS 3 (by decide))
    refine finL hV hS ?_
    rintro _ ⟨-,rfl⟩-v1 ⟨h1,-⟩-v2 ⟨h2,-⟩-v3 ⟨h3,-⟩-
    iterate 10 rintro _ ⟨-,rfl⟩-
    simp only [zA]
    simp only [h1.trans e1,h2.trans e2,h3.trans e3]
    clear hV h1 e1 v1 h2 e2 v2 h3 e3 v3
    change wpList Tryz.prog _ _ _ _ w9
    have HQZ:=hid (hw.2 (hS 13 (by decide)))
    clear hw hS hK val S
    rw [HQ1.out]at HQZ
    clear HQ1 HB5 HX5 HS5
    refine ζ2 ?_
    go_wp2_with fail
    go_end0
    have hs9:SepF F w [tpTq K.toRepOk Sk.q Sk.nb (pcI Sk.f),blkT Sk.g #[.int .i64 Sk.la,.int .i64 Sk.n,Sk.q,.slice (some ⟨gr2,0,none⟩) (n+1) cv12],rowT 0 134 1 (some ⟨gr2,0,none⟩) (n+1) cv12 (ptrsC Sk.cs++ [.pointer (some ⟨gc,0,none⟩)]),packT (((Sk.cs.map (ckT K.toRepOk 86))++ [ckT K.toRepOk 86 (⟨gc,.pointer (some qt),[],x.s,[]⟩:Ck)]).set n (ckT K.toRepOk 86 (addCk (⟨gc,.pointer (some qt),[],x.s,[]⟩:Ck) x))),blkT gx #[.int .i64 x.a,.int .i64 x.b,.int .i64 x.s,.int .i64 x.u,.int .i64 x.v,.int .i64 x.m]] w9:=HQZ.out
    have e1:((Sk.cs.map (ckT K.toRepOk 86))++ [ckT K.toRepOk 86 (⟨gc,.pointer (some qt),[],x.s,[]⟩:Ck)]).set n (ckT K.toRepOk 86 (addCk (⟨gc,.pointer (some qt),[],x.s,[]⟩:Ck) x))=(Sk.cs++ [addCk (⟨gc,.pointer (some qt),[],x.s,[]⟩:Ck) x]).map (ckT K.toRepOk 86):=by
     rw [←HNL.out,List.map_append];simp
    have e2:ptrsC Sk.cs++ [.pointer (some ⟨gc,0,none⟩)]=ptrsC (Sk.cs++ [addCk (⟨gc,.pointer (some qt),[],x.s,[]⟩:Ck) x]):=by
     unfold ptrsC;rw [List.map_append];rfl
    rw [e1,e2]at hs9
    obtain⟨F',h1,h2,h3⟩:=(hs9.take 4).pack
    exact⟨F', { Sk with cs:=Sk.cs++ [addCk (⟨gc,.pointer (some qt),[],x.s,[]⟩:Ck) x] },rfl,⟨⟨some ⟨gr2,0,none⟩,n+1,cv12⟩,h1⟩,EndS.new HKK.out rfl (okCk0.add (okCk0.fresh gc (.pointer (some qt)) x.s) (by show (0:Nat)<250;decide) HX.out),h2,h3⟩
theorem end_any {Rep:RepT}(K:TrK Rep)(Sk:Kp)(x:Rn)(w:World)(F:Nat→Prop)(H:(kpT K.toRepOk 86 134 Sk).P w F)(hlen:Sk.cs.length≤100000)(hx:x.a<x.b)(hk: ∀c∈Sk.cs,okCk c):
  Calls Tryz.prog 68 #[.pointer (some ⟨Sk.g,0,none⟩),.agg #[.int .i64 x.a,.int .i64 x.b,.int .i64 x.s,.int .i64 x.u,.int .i64 x.v,.int .i64 x.m]] w (EndP K.toRepOk 86 134 Sk x w F):=by
 rcases List.eq_nil_or_concat Sk.cs with e | ⟨init,c,e⟩
 ·exact end_new K Sk x w F H (.inl e) hlen hx hk
 ·rw [List.concat_eq_append]at e
  have hc:=hk c (by rw [e];simp)
  by_cases hl:c.rs.length<250
  ·exact end_old K Sk x w F H init c e hc.1 hl (by rw [e]at hlen;simp at hlen;omega) hx hk
  ·exact end_new K Sk x w F H (.inr ⟨init,c,e,by have:=hc.len;omega⟩) hlen hx hk
end Go.Proofs.YthagdonmijhpdaaGreat
