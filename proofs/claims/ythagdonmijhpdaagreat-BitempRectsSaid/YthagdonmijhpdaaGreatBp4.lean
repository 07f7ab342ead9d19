/- Contract of package bitemp -/
import Derived.Test.YthagdonmijhpdaaGreatBp2
open Go.Lib (hid)
set_option linter.unusedSimpArgs false
set_option linter.unusedVariables false
set_option maxHeartbeats 4000000
set_option maxRecDepth 8000
namespace Corr
open Go Go.RowKit
theorem SepF.apart_row {F0:Nat→Prop} {w0 w:World} {ts:List Thing}(h:SepF F0 w0 ts w) {i j k B sz n c:Nat} {vs:Array Value} {T:TypeId} {A:Option Addr} {xs:List Value}(hi:ts[i]? =some (blkT k vs))(hj:ts[j]? =some (rowT B T sz A n c xs))(hne:i≠j): ¬rowK A n c k:=by
 obtain⟨Fs,h1,h2,_⟩:=h
 exact fun e=>h2 i j (ζh hi) (ζh hj) hne k (((h1 i _ hi).2 k).2 rfl) (((h1 j _ hj).2 k).2 e)
theorem SepF.app {F0:Nat→Prop} {w0 w wz:World} {ts:List Thing}(h:SepF F0 w0 ts w) {i sz n c c':Nat} {T:TypeId} {A A':Option Addr} {xs ys:List Value} {bB:Bool} {vB:Value}(hi:ts[i]? =some (rowT 0 T sz A n c xs))(hD:AppD T A n c 0 xs ys sz w bB true vB (.slice A' (n+1) c') wz):SepF F0 w0 (ts.set i (rowT 0 T sz A' (n+1) c' (xs++ys))) wz:=by
 obtain⟨F,hp,_,hu⟩:=h.get hi
 obtain⟨h1,h2,h3⟩:=hD.done
 exact hu wz (fun k=>rowK A' (n+1) c' k) _ (h1.mono fun k _ hk=>(hp.2 k).2 hk) ⟨h2,fun _=>Iff.rfl⟩ fun k hk=>(h3 k hk).imp_left fun h=>(hp.2 k).2 h
end Corr
namespace Go.Proofs.YthagdonmijhpdaaGreat
open Go.RowKit Corr
theorem elem_rn:Elem Tryz.prog 100 86 (.agg #[.int .i64 0,.int .i64 0,.int .i64 0,.int .i64 0,.int .i64 0,.int .i64 0]) 6 48:=by
 obtain⟨i,h0,h1,h2,h3⟩:=info_parts (show (Tryz.prog.info? 86).map (fun i=>(i.zero,i.size,i.bytes))=some (some (.agg #[.int .i64 0,.int .i64 0,.int .i64 0,.int .i64 0,.int .i64 0,.int .i64 0]),6,48) by kernel_rfl)
 exact⟨Tryz.underlying100,⟨i,h0,h1,h2,h3⟩,rfl,by decide⟩
theorem sepf_ins {Rep:RepT}(K:TrK Rep) {F0:Nat→Prop} {w0 w:World} {ts:List Thing}(h:SepF F0 w0 ts w) {i:Nat} {q:Value} {M:Int} {l:ItL}(hi:ts[i]? =some (trT K.toRepOk q M l))(hl:l.length≤1000)(x:It):Calls Tryz.prog 100 #[q,itV x] w fun e w'=>e= .returned (.int .i64 (insR M x l))∧SepF F0 w0 (ts.set i (trT K.toRepOk q M (insL M x l))) w':=by
 obtain⟨F,hp,_,hu⟩:=h.get hi
 refine(K.insert w q F M l x hp hl).mono fun e w' hq=> ?_
 obtain⟨F',he,hr,ho,hF⟩:=hq
 exact⟨he,hu w' F' (trT K.toRepOk q M (insL M x l)) ho hr hF⟩
theorem add_any {Rep:RepT}(K:TrK Rep)(c:Ck)(x:Rn)(w:World)(F:Nat→Prop)(H:(ckT K.toRepOk 86 c).P w F)(hl:c.rs.length<250)(hll:c.l.length≤1000):Calls Tryz.prog 91 #[.pointer (some ⟨c.g,0,none⟩),.agg #[.int .i64 x.a,.int .i64 x.b,.int .i64 x.s,.int .i64 x.u,.int .i64 x.v,.int .i64 x.m]] w fun e w'=>∃F',e= .returned (.tuple #[])∧(ckT K.toRepOk 86 (addCk c x)).P w' F'∧Off F w w'∧∀k,F' k→F k∨w.heap.size≤k:=by
 obtain⟨⟨A,n,cap⟩,hp⟩:=H
 have hs0:SepF F w [blkT c.g #[.slice A n cap,c.q,.int .i64 c.s0],rowT 0 86 6 A n cap (ζ8 c.rs),trT K.toRepOk c.q 250 c.l] w:=hp.2
 have HLN:=hid (ζ1a (hs0.row 1 rfl))
 have hn:n<250:=by have:=HLN.out;omega
 have HLL:=hid hll
 have hs1:=hs0.push #[.int .i64 x.a,.int .i64 x.b,.int .i64 x.s,.int .i64 x.u,.int .i64 x.v,.int .i64 x.m] 86
 have hmn:=fun t ty x y w=>run_min2 (P:=Tryz.prog) t ty x y w
 have HK:=hid K
 obtain⟨w1,hw1⟩: ∃w1,w.alloc (.cells #[.int .i64 x.a,.int .i64 x.b,.int .i64 x.s,.int .i64 x.u,.int .i64 x.v,.int .i64 x.m] 86)=w1:=⟨_,rfl⟩
 rw [hw1]at hs1
 obtain⟨gx,hgx⟩: ∃k,w.heap.size=k:=⟨_,rfl⟩
 rw [hgx]at hs1
 have HS1:=hid (show SepF F w [blkT c.g #[.slice A n cap,c.q,.int .i64 c.s0],rowT 0 86 6 A n cap (ζ8 c.rs),trT HK.out.toRepOk c.q 250 c.l,blkT gx #[.int .i64 x.a,.int .i64 x.b,.int .i64 x.s,.int .i64 x.u,.int .i64 x.v,.int .i64 x.m]] w1 from hs1)
 have HGX:=hid hgx
 have HB1:=hid (HS1.out.b 0 rfl)
 have HX1:=hid (HS1.out.b 3 rfl)
 clear hs0 hs1 hp hl hll hgx
 go_enter Tryz.func91,Tryz.ntmps91
 go_upto_region 1 with fail
 rw [HGX.out]
 clear hw1
 obtain⟨Q1,hQ1⟩: ∃Q1:World→Prop,Q1=fun wx=>SepF F w [blkT c.g #[.slice A n cap,c.q,.int .i64 c.s0],rowT 0 86 6 A n cap (ζ8 c.rs),trT HK.out.toRepOk c.q 250 (insL 250 (x.a,x.b,(n:Int)) c.l),blkT gx #[.int .i64 x.a,.int .i64 x.b,.int .i64 x.s,.int .i64 x.u,.int .i64 x.v,.int .i64 x.m]] wx:=⟨_,rfl⟩
 have HQ1:=hid hQ1
 clear hQ1
 refine ζ3 17 (fun S val wx=>VVs 17 [(· = .pointer (some ⟨c.g,0,none⟩)),(· = .pointer (some ⟨c.g,0,none⟩)),(· = .pointer (some ⟨c.g,1,none⟩)),(· =c.q),(· = .pointer (some ⟨gx,0,none⟩)),(· = .pointer (some ⟨gx,0,none⟩)),(· = .int .i64 x.a),(· = .pointer (some ⟨gx,0,none⟩)),(· = .pointer (some ⟨gx,1,none⟩)),(· = .int .i64 x.b),(· = .pointer (some ⟨c.g,0,none⟩)),(· = .pointer (some ⟨c.g,0,none⟩)),(· = .pointer (some ⟨c.g,0,none⟩)),(· = .slice A n cap),(· = .int .i64 (n:Int)),(· = .agg #[.int .i64 x.a,.int .i64 x.b,.int .i64 (n:Int)]),(· = .int .i64 (insR 250 (x.a,x.b,(n:Int)) c.l))] S val∧Clo [[],[0],[1],[2],[],[4],[5],[],[7],[8],[],[10],[11],[12],[13],[6,9,14],[3,15]] S∧((S 16=false→Below w1.heap.size w1 wx)∧(S 16=true→Q1 wx))) [0,1,2,4,5,7,8,10,11,12,14,15] (by kernel_rfl) (by kernel_rfl) ⟨VVs.start,Clo.start,⟨fun _=>(Below.refl _ _).drew,fun h=>by cases h⟩⟩ ⟨?_,?_,?_,?_,?_,?_,?_,?_,?_,?_,?_,?_,?_,?_,?_,?_,?_,trivial⟩ ?_
 ·exact qU [0]
 ·exact qU []
 ·exact qU []
 ·refine qM fun ev wv S val hE hV hK hw hS hd=> ?_
  have s16:=hK.no hS 16 [3]
  have hwb:=hw.1 s16
  have kx0:=((HB1.out).keep hwb).get 1 rfl
  exact qE [] hE hV hd
 ·exact qU [3]
 ·exact qU []
 ·refine qM fun ev wv S val hE hV hK hw hS hd=> ?_
  have s16:=hK.no hS 16 [15,6]
  have hwb:=hw.1 s16
  have kx0:=((HX1.out).keep hwb).get 0 rfl
  exact qE [] hE hV hd
 ·exact qU [3]
 ·exact qU []
 ·refine qM fun ev wv S val hE hV hK hw hS hd=> ?_
  have s16:=hK.no hS 16 [15,9]
  have hwb:=hw.1 s16
  have kx0:=((HX1.out).keep hwb).get 1 rfl
  exact qE [] hE hV hd
 ·exact qU [0]
 ·exact qU []
 ·exact qU []
 ·refine qM fun ev wv S val hE hV hK hw hS hd=> ?_
  have s16:=hK.no hS 16 [15,14,13]
  have hwb:=hw.1 s16
  have kx0:=((HB1.out).keep hwb).get 0 rfl
  exact qE [] hE hV hd
 ·exact qU []
 ·exact qU []
 ·refine qC fun ev wv S val hE hV hK hw hS hd=> ?_
  have hwb:=hw.1 hS
  refine qF (f:=100) (args:= #[c.q,.agg #[.int .i64 x.a,.int .i64 x.b,.int .i64 (n:Int)]]) [] hE hV hd (sepf_ins HK.out (HS1.out.keep hwb) (i:=2) rfl HLL.out (x.a,x.b,(n:Int))) ?_
  rintro e w' ⟨rfl,hs3⟩
  exact⟨_,rfl,rfl,⟨fun h=>absurd h (by simp [addS]),fun _=>(by rw [HQ1.out];exact hs3)⟩⟩
 ·rintro S val w3 hS ⟨hV,hK,hw⟩
  have e0:val 0= .pointer (some ⟨c.g,0,none⟩):=hV 0 (by decide) (hS 0 (by decide))
  have e1:val 1= .pointer (some ⟨c.g,0,none⟩):=hV 1 (by decide) (hS 1 (by decide))
  have e2:val 2= .pointer (some ⟨c.g,1,none⟩):=hV 2 (by decide) (hS 2 (by decide))
  have e3:val 3=c.q:=hV 3 (by decide) (hS 3 (by decide))
  have e4:val 4= .pointer (some ⟨gx,0,none⟩):=hV 4 (by decide) (hS 4 (by decide))
  have e5:val 5= .pointer (some ⟨gx,0,none⟩):=hV 5 (by decide) (hS 5 (by decide))
  have e6:val 6= .int .i64 x.a:=hV 6 (by decide) (hS 6 (by decide))
  have e7:val 7= .pointer (some ⟨gx,0,none⟩):=hV 7 (by decide) (hS 7 (by decide))
  have e8:val 8= .pointer (some ⟨gx,1,none⟩):=hV 8 (by decide) (hS 8 (by decide))
  have e9:val 9= .int .i64 x.b:=hV 9 (by decide) (hS 9 (by decide))
  refine finL hV hS ?_
  rintro v0 ⟨h0,-⟩-v1 ⟨h1,-⟩-v2 ⟨h2,-⟩-v3 ⟨h3,-⟩-v4 ⟨h4,-⟩-v5 ⟨h5,-⟩-v6 ⟨h6,-⟩-v7 ⟨h7,-⟩-v8 ⟨h8,-⟩-v9 ⟨h9,-⟩-
  iterate 7 rintro _ ⟨-,rfl⟩-
  simp only [zA]
  simp only [h0.trans e0,h1.trans e1,h2.trans e2,h3.trans e3,h4.trans e4,h5.trans e5,h6.trans e6,h7.trans e7,h8.trans e8,h9.trans e9]
  clear hV h0 e0 v0 h1 e1 v1 h2 e2 v2 h3 e3 v3 h4 e4 v4 h5 e5 v5 h6 e6 v6 h7 e7 v7 h8 e8 v8 h9 e9 v9
  change wpList Tryz.prog _ _ _ _ w3
  have HQZ:=hid (hw.2 (hS 16 (by decide)))
  clear hw hS hK val S
  rw [HQ1.out]at HQZ
  have HS3:=hid (show SepF F w [blkT c.g #[.slice A n cap,c.q,.int .i64 c.s0],rowT 0 86 6 A n cap (ζ8 c.rs),trT HK.out.toRepOk c.q 250 (insL 250 (x.a,x.b,(n:Int)) c.l),blkT gx #[.int .i64 x.a,.int .i64 x.b,.int .i64 x.s,.int .i64 x.u,.int .i64 x.v,.int .i64 x.m]] w3 from HQZ.out)
  have HB3:=hid (HS3.out.b 0 rfl)
  have HX3:=hid (HS3.out.b 3 rfl)
  have HR3:=hid (HS3.out.row 1 rfl)
  have H4:=hid (HS3.out.apart_row (i:=0) (j:=1) rfl rfl (by decide))
  have H5:=hid (HS3.out.apart_row (i:=3) (j:=1) rfl rfl (by decide))
  have HLT:=hid (fun k (hk:rowK A n cap k)=>ζk HR3.out hk)
  clear HQZ HQ1 HB1 HX1 HS1
  refine ζ2 ?_
  go_upto_region 2 with fail
  refine ζ3 10 (fun S val wx=>VVs 10 [(· = .pointer (some ⟨c.g,0,none⟩)),(· = .pointer (some ⟨c.g,0,none⟩)),(· = .pointer (some ⟨c.g,0,none⟩)),(· = .pointer (some ⟨c.g,0,none⟩)),(· = .slice A n cap),(· =rnV x),(fun vv=>∃kb,vv= .slice (some ⟨kb,0,none⟩) 1 1),(fun vv=>∃Av cv,vv= .slice Av (n+1) cv),(· = .pointer (some ⟨c.g,0,none⟩)),(· = .pointer (some ⟨c.g,0,none⟩))] S val∧Clo [[],[],[1],[2],[3],[],[5],[4,6],[0],[8]] S∧AppD 86 A n cap 0 (ζ8 c.rs) (ζ8 [x]) 6 w3 (S 6) (S 7) (val 6) (val 7) wx) [0,1,2,3,8,9] (by kernel_rfl) (by kernel_rfl) ⟨VVs.start,Clo.start,AppD.start (HR3.out)⟩ ⟨?_,?_,?_,?_,?_,?_,?_,?_,?_,?_,trivial⟩ ?_
  ·exact qU [0]
  ·exact qU [0]
  ·exact qU []
  ·exact qU []
  ·exact qL [] fun hw=>(hw.1.blk HB3.out H4.out).get 0 rfl
  ·exact qL [3] fun hw=>And.intro ((hw.1.blk HX3.out H5.out).get 0 rfl) (And.intro ((hw.1.blk HX3.out H5.out).get 1 rfl) (And.intro ((hw.1.blk HX3.out H5.out).get 2 rfl) (And.intro ((hw.1.blk HX3.out H5.out).get 3 rfl) (And.intro ((hw.1.blk HX3.out H5.out).get 4 rfl) ((hw.1.blk HX3.out H5.out).get 5 rfl)))))
  ·rintro ev wv S val hE ⟨hV,hK,hw⟩ hS hd
   have v26:ev (.tmp 26)=rnV x:=vd (hd 5 (by decide)) (hV 5 (by decide))
   refine ifw rfl (ifn rfl ?_)
   refine ζn (u:= .slice (some ⟨wv.heap.size,0,none⟩) 1 1) (w':=wv.alloc (.cells (ζ8 [x]).toArray 86)) ?_ ⟨VVs.add hV ⟨_,rfl⟩,ζi hK rfl hd,(show AppD _ _ _ _ _ _ _ _ _ (addS S 6 6) (addS S 6 7) (addV val 6 _ 6) (addV val 6 _ 7) _ from by simpa [addS,addV]using hw.build 86)⟩
   have e1:=hE.const;clear hE hd hw hS hV hK
   go_simp;rfl
  ·rintro ev wv S val hE ⟨hV,hK,hw⟩ hS hd
   have v25:ev (.tmp 25)= .slice A n cap:=vd (hd 4 (by decide)) (hV 4 (by decide))
   obtain⟨kb6,g6⟩:=hV 6 (by decide) (hd 6 (by decide)).1
   have v27:ev (.tmp 27)= .slice (some ⟨kb6,0,none⟩) 1 1:=(hd 6 (by decide)).2.trans g6
   have hwA:=hw
   rw [(hd 6 (by decide)).1,hS,g6]at hwA
   obtain⟨A9,c9,w9,hr9,hD9⟩:=AppD.run (P:=Tryz.prog) (t:=100) (ty:=100) elem_rn hwA HLT.out (by rfl) (ζ4k _) (by omega) (by unfold maxLen;omega) (Nat.zero_le _)
   refine ifw rfl (ifn rfl ?_)
   refine ζn (u:= .slice A9 (n+1) c9) (w':=w9) ?_ ⟨VVs.add hV ⟨A9,c9,rfl⟩,ζi hK rfl hd,(by simpa [addS,addV,(hd 6 (by decide)).1,g6]using hD9)⟩
   have e1:=hE.const;clear hE hd hw hS hV hK
   unfold execOp
   simp only [resolve,invoke,builtin,Sem.run_bind,Sem.run_pure,Result.andThen_ok,List.map_toArray,List.map_cons,List.map_nil,v25,v27,hr9]
  ·exact qU []
  ·exact qU []
  ·rintro S val wz hS ⟨hV,hK,hw⟩
   have e1:val 1= .pointer (some ⟨c.g,0,none⟩):=hV 1 (by decide) (hS 1 (by decide))
   have e2:val 2= .pointer (some ⟨c.g,0,none⟩):=hV 2 (by decide) (hS 2 (by decide))
   have e3:val 3= .pointer (some ⟨c.g,0,none⟩):=hV 3 (by decide) (hS 3 (by decide))
   have e5:val 5=rnV x:=hV 5 (by decide) (hS 5 (by decide))
   obtain⟨kb6,e6⟩:=hV 6 (by decide) (hS 6 (by decide))
   obtain⟨Av7,cv7,e7⟩:=hV 7 (by decide) (hS 7 (by decide))
   refine finL hV hS ?_
   rintro _ ⟨-,rfl⟩-v1 ⟨h1,-⟩-v2 ⟨h2,-⟩-v3 ⟨h3,-⟩-_ ⟨-,rfl⟩-v5 ⟨h5,-⟩-v6 ⟨h6,-⟩-v7 ⟨h7,-⟩-_ ⟨-,rfl⟩-_ ⟨-,rfl⟩-
   simp only [zA]
   simp only [h1.trans e1,h2.trans e2,h3.trans e3,h5.trans e5,h6.trans e6,h7.trans e7]
   clear hV h1 e1 v1 h2 e2 v2 h3 e3 v3 h5 e5 v5 h6 v6 h7 v7
   change wpList Tryz.prog _ _ _ _ wz
   rw [hS 6 (by decide),hS 7 (by decide),e6,e7]at hw
   have hs4:=HS3.out.app (i:=1) rfl hw
   have HS4:=hid hs4
   have hbz:=hs4.b 0 rfl
   have y0:=hbz.get 0 rfl
   have z0:=hbz.f 0
   clear hw hS hK e6 e7 val S hbz hs4
   go_wp2_with fail
   refine ζ2 ?_
   have hs5:=HS4.out.set 0 rfl 0 (.slice Av7 (n+1) cv7)
   generalize wz.setCell ⟨c.g,0,none⟩ (.slice Av7 (n+1) cv7)=w5 at*
   have HS5:=hid (show SepF F w [blkT c.g #[.slice Av7 (n+1) cv7,c.q,.int .i64 c.s0],rowT 0 86 6 Av7 (n+1) cv7 (ζ8 c.rs++ζ8 [x]),trT HK.out.toRepOk c.q 250 (insL 250 (x.a,x.b,(n:Int)) c.l),blkT gx #[.int .i64 x.a,.int .i64 x.b,.int .i64 x.s,.int .i64 x.u,.int .i64 x.v,.int .i64 x.m]] w5 from hs5)
   clear HS4 y0 z0
   have b2:=(HS5.out.b 0 rfl).get 2 rfl
   have q2:=(HS5.out.b 0 rfl).f 2
   have x2:=(HS5.out.b 3 rfl).get 2 rfl
   clear hs5
   go_upto_region 3 with fail
   go_region
   have hs6:=(HS5.out.set 0 rfl 2 (.int .i64 (min c.s0 x.s))).keep ((Below.refl _ _).drew)
   have HS6:=hid hs6
   clear hs6 b2 q2 x2
   go_wp2_with fail
   go_end0
   obtain⟨F',h1,h2,h3⟩:=(HS6.out.take 3).pack
   refine⟨F',rfl,⟨⟨Av7,n+1,cv7⟩,?_⟩,h2,h3⟩
   show (packT [blkT c.g #[.slice Av7 (n+1) cv7,c.q,.int .i64 (min c.s0 x.s)],rowT 0 86 6 Av7 (n+1) cv7 (ζ8 (c.rs++ [x])),trT HK.out.toRepOk c.q 250 (insL 250 (x.a,x.b,(c.rs.length:Int)) c.l)]).P _ F'
   rw [ζ3s,HLN.out]
   exact h1
end Go.Proofs.YthagdonmijhpdaaGreat
namespace Corr
open Go Go.RowKit
theorem ζ4d {W:World} {B n c k:Nat} {T:TypeId} {A:Option Addr} {xs:List Value} {v:Value}(h:W.ownsRow B T 1 (.slice A n c) n xs)(hk:xs[k]? =some v): ∃g,A=some ⟨g,0,none⟩∧W.cell? ⟨g,k,none⟩=some v:=by
 have hl:xs.length=n:=by have:=h.1;omega
 have hkn:=(List.getElem?_eq_some_iff.1 hk).1
 rcases Joins.ownsRow_forms h with⟨_,h0⟩ | ⟨g,d,hv⟩
 ·omega
 ·injection hv with e1 _ e3
  subst e1 e3
  exact⟨g,rfl,by rw [h.cellAt _ (by omega)];exact hk⟩
theorem ζ2z (cs:List Ck):(ptrsC cs).length=cs.length:=by unfold ptrsC;rw [List.length_map]
theorem ptrsC_at {cs:List Ck} {k:Nat} {c:Ck}(h:cs[k]? =some c):(ptrsC cs)[k]? =some (.pointer (some ⟨c.g,0,none⟩)):=by unfold ptrsC;rw [List.getElem?_map,h];rfl
theorem ckT_blk {Rep:RepT} {R:RepOk Rep} {T:TypeId} {c:Ck} {w:World} {F:Nat→Prop}(h:(ckT R T c).P w F): ∃A cap,Blk w c.g #[.slice A c.rs.length cap,c.q,.int .i64 c.s0]∧w.ownsRow 0 T 6 (.slice A c.rs.length cap) c.rs.length (ζ8 c.rs):=by
 obtain⟨⟨A,n,cap⟩,hp⟩:=h
 have hb:Blk w c.g #[.slice A n cap,c.q,.int .i64 c.s0]:=hp.2.b 0 rfl
 have ho:w.ownsRow 0 T 6 (.slice A n cap) n (ζ8 c.rs):=hp.2.row 1 rfl
 have:=ζ1a ho
 subst this
 exact⟨A,cap,hb,ho⟩
structure EndS (S:Kp)(x:Rn)(S':Kp):Prop where
 g:S'.g=S.g
 la:S'.la=S.la
 n:S'.n=S.n
 q:S'.q=S.q
 nb:S'.nb=S.nb
 f:S'.f=S.f
 rs:S'.cs.flatMap Ck.rs=S.cs.flatMap Ck.rs++ [x]
 ck: ∀c∈S'.cs,okCk c
 len:S'.cs.length≤S.cs.length+1
theorem EndS.old {S:Kp} {x:Rn} {init:List Ck} {c:Ck}(h:S.cs=init++ [c])(hk: ∀c∈S.cs,okCk c)(hc:okCk (addCk c x)):EndS S x { S with cs:=init++ [addCk c x] } where
 g:=rfl
 la:=rfl
 n:=rfl
 q:=rfl
 nb:=rfl
 f:=rfl
 rs:=by
  show (init++ [addCk c x]).flatMap Ck.rs=_
  rw [h,List.flatMap_append,List.flatMap_append,List.append_assoc]
  simp [addCk]
 ck:=fun d hd=>by
  rcases List.mem_append.1 hd with hd | hd
  ·exact hk d (by rw [h];exact List.mem_append_left _ hd)
  ·rw [List.mem_singleton.1 hd];exact hc
 len:=by show (init++ [addCk c x]).length≤_;rw [h];simp
theorem EndS.new {S:Kp} {x:Rn} {c:Ck}(hk: ∀c∈S.cs,okCk c)(he:c.rs= [])(hc:okCk (addCk c x)):EndS S x { S with cs:=S.cs++ [addCk c x] } where
 g:=rfl
 la:=rfl
 n:=rfl
 q:=rfl
 nb:=rfl
 f:=rfl
 rs:=by
  show (S.cs++ [addCk c x]).flatMap Ck.rs=_
  rw [List.flatMap_append]
  simp [addCk,he]
 ck:=fun d hd=>by
  rcases List.mem_append.1 hd with hd | hd
  ·exact hk d hd
  ·rw [List.mem_singleton.1 hd];exact hc
 len:=by show (S.cs++ [addCk c x]).length≤_;simp
def EndP {Rep:RepT}(R:RepOk Rep)(T U:TypeId)(Sk:Kp)(x:Rn)(w:World)(F:Nat→Prop)(e:Ending)(w':World):Prop:=∃(F':Nat→Prop) (S':Kp),e= .returned (.tuple #[])∧(kpT R T U S').P w' F'∧EndS Sk x S'∧Off F w w'∧∀k,F' k→F k∨w.heap.size≤k
end Corr
namespace Go.Proofs.YthagdonmijhpdaaGreat
open Go.RowKit Corr
theorem sepf_add {Rep:RepT}(K:TrK Rep) {F0:Nat→Prop} {w0 w:World} {ts us:List Thing}(h:SepF F0 w0 ts w) {i j:Nat} {c:Ck}(hi:ts[i]? =some (packT us))(hj:us[j]? =some (ckT K.toRepOk 86 c))(hl:c.rs.length<250)(hll:c.l.length≤1000)(x:Rn):
  Calls Tryz.prog 91 #[.pointer (some ⟨c.g,0,none⟩),.agg #[.int .i64 x.a,.int .i64 x.b,.int .i64 x.s,.int .i64 x.u,.int .i64 x.v,.int .i64 x.m]] w fun e w'=>e= .returned (.tuple #[])∧SepF F0 w0 (ts.set i (packT (us.set j (ckT K.toRepOk 86 (addCk c x))))) w':=by
 obtain⟨F,hp,_,hu⟩:=h.deep hi hj
 refine(add_any K c x w F hp hl hll).mono fun e w' hq=> ?_
 obtain⟨F',he,h1,h2,h3⟩:=hq
 exact⟨he,hu w' F' _ h2 h1 h3⟩
theorem end_old {Rep:RepT}(K:TrK Rep)(Sk:Kp)(x:Rn)(w:World)(F:Nat→Prop)(H:(kpT K.toRepOk 86 134 Sk).P w F)(init:List Ck)(c:Ck)(hcs:Sk.cs=init++ [c])(hc:okCk0 c)(hl:c.rs.length<250)(hlen:init.length≤100000)(hx:x.a<x.b)(hk: ∀c∈Sk.cs,okCk c):
  Calls Tryz.prog 68 #[.pointer (some ⟨Sk.g,0,none⟩),.agg #[.int .i64 x.a,.int .i64 x.b,.int .i64 x.s,.int .i64 x.u,.int .i64 x.v,.int .i64 x.m]] w (EndP K.toRepOk 86 134 Sk x w F):=by
 obtain⟨⟨A,n,cap⟩,hp⟩:=H
 have hs0:SepF F w [tpTq K.toRepOk Sk.q Sk.nb (pcI Sk.f),blkT Sk.g #[.int .i64 Sk.la,.int .i64 Sk.n,Sk.q,.slice A n cap],rowT 0 134 1 A n cap (ptrsC Sk.cs),packT (Sk.cs.map (ckT K.toRepOk 86))] w:=hp.2
 have hs1:=hs0.push #[.int .i64 x.a,.int .i64 x.b,.int .i64 x.s,.int .i64 x.u,.int .i64 x.v,.int .i64 x.m] 86
 obtain⟨w1,hw1⟩: ∃w1,w.alloc (.cells #[.int .i64 x.a,.int .i64 x.b,.int .i64 x.s,.int .i64 x.u,.int .i64 x.v,.int .i64 x.m] 86)=w1:=⟨_,rfl⟩
 rw [hw1]at hs1
 obtain⟨gx,hgx⟩: ∃k,w.heap.size=k:=⟨_,rfl⟩
 rw [hgx]at hs1
 obtain⟨j,hj⟩: ∃j,init.length=j:=⟨_,rfl⟩
 have hat:Sk.cs[j]? =some c:=by rw [hcs,←hj];simp
 have hN:Sk.cs.length=j+1:=by rw [hcs,List.length_append,hj];rfl
 have hs1:SepF F w [tpTq K.toRepOk Sk.q Sk.nb (pcI Sk.f),blkT Sk.g #[.int .i64 Sk.la,.int .i64 Sk.n,Sk.q,.slice A n cap],rowT 0 134 1 A n cap (ptrsC Sk.cs),packT (Sk.cs.map (ckT K.toRepOk 86)),blkT gx #[.int .i64 x.a,.int .i64 x.b,.int .i64 x.s,.int .i64 x.u,.int .i64 x.v,.int .i64 x.m]] w1:=hs1
 have hrow:=hs1.row 2 rfl
 have hn:n=j+1:=by have:=hrow.1;rw [ζ2z]at this;omega
 subst hn
 obtain⟨gr,rfl,kr⟩:=ζ4d hrow (ptrsC_at hat)
 have hmap:(Sk.cs.map (ckT K.toRepOk 86))[j]? =some (ckT K.toRepOk 86 c):=by rw [List.getElem?_map,hat];rfl
 obtain⟨Fc,hcp,_,_⟩:=hs1.deep (i:=3) rfl hmap
 obtain⟨A2,cap2,hb2,ho2⟩:=ckT_blk hcp
 obtain⟨m,hm⟩: ∃m,c.rs.length=m:=⟨_,rfl⟩
 rw [hm]at hb2 hl
 have hgr:=ζk hrow (k:=gr) (by simp [rowK,Value.ownBlock])
 have HGR:=hid hgr
 have HKR:=hid kr
 have HS1:=hid hs1
 have HGX:=hid hgx
 have HM:=hid hm
 have HB1:=hid (hs1.b 1 rfl)
 have HX1:=hid (hs1.b 4 rfl)
 have HB2:=hid hb2
 have HCS:=hid hcs
 have HMAP:=hid hmap
 have HC:=hid hc
 have HL:=hid hl
 have HX:=hid hx
 have HKK:=hid hk
 have HJ:=hid hj
 have hj1:j≤100000:=by omega
 have b3:=(hs1.b 1 rfl).get 3 rfl
 have q0:=hb2.get 0 rfl
 have HWJ:=hid (show IntKind.i64.wrap (j:Int)=(j:Int)from IntWalk.i64_in _ (by omega))
 have d0:(((j:Int)+1) == 0)=false:=by simp;omega
 have d1:((m:Int) == 250)=false:=by simp;omega
 clear hp hs0 hs1 hgx hat hN hrow hmap hcp hb2 ho2 hm hgr hcs hc hl hx hk hj hlen
 go_enter Tryz.func68,Tryz.ntmps68
 go_upto_region 5 with fail
 rw [HGX.out]
 clear hw1
 obtain⟨Q1,hQ1⟩: ∃Q1:World→Prop,Q1=fun wx=>SepF F w [tpTq K.toRepOk Sk.q Sk.nb (pcI Sk.f),blkT Sk.g #[.int .i64 Sk.la,.int .i64 Sk.n,Sk.q,.slice (some ⟨gr,0,none⟩) (j+1) cap],rowT 0 134 1 (some ⟨gr,0,none⟩) (j+1) cap (ptrsC Sk.cs),packT ((Sk.cs.map (ckT K.toRepOk 86)).set j (ckT K.toRepOk 86 (addCk c x))),blkT gx #[.int .i64 x.a,.int .i64 x.b,.int .i64 x.s,.int .i64 x.u,.int .i64 x.v,.int .i64 x.m]] wx:=⟨_,rfl⟩
 have HQ1:=hid hQ1
 clear hQ1
 refine ζ3 14 (fun S val wx=>VVs 14 [(· = .pointer (some ⟨Sk.g,0,none⟩)),(· = .pointer (some ⟨Sk.g,0,none⟩)),(· = .pointer (some ⟨Sk.g,3,none⟩)),(· = .slice (some ⟨gr,0,none⟩) (j+1) cap),(· = .pointer (some ⟨Sk.g,0,none⟩)),(· = .pointer (some ⟨Sk.g,0,none⟩)),(· = .pointer (some ⟨Sk.g,3,none⟩)),(· = .slice (some ⟨gr,0,none⟩) (j+1) cap),(· = .int .i64 ((j:Int)+1)),(· = .int .i64 (j:Int)),(· = .pointer (some ⟨gr,j,none⟩)),(· = .pointer (some ⟨c.g,0,none⟩)),(· = .agg #[.int .i64 x.a,.int .i64 x.b,.int .i64 x.s,.int .i64 x.u,.int .i64 x.v,.int .i64 x.m]),(· = .tuple #[])] S val∧Clo [[],[0],[1],[2],[],[4],[5],[6],[7],[8],[3,9],[10],[],[11,12]] S∧((S 13=false→Below w1.heap.size w1 wx)∧(S 13=true→Q1 wx))) [0,1,2,4,5,6,8,9,10] (by kernel_rfl) (by kernel_rfl) ⟨VVs.start,Clo.start,⟨fun _=>(Below.refl _ _).drew,fun h=>by cases h⟩⟩ ⟨?_,?_,?_,?_,?_,?_,?_,?_,?_,?_,?_,?_,?_,?_,trivial⟩ ?_
 ·exact qU [0]
 ·exact qU []
 ·exact qU []
 ·refine qM fun ev wv S val hE hV hK hw hS hd=> ?_
  have s13:=hK.no hS 13 [11,10,3]
  have hwb:=hw.1 s13
  have kx0:=((HB1.out).keep hwb).get 3 rfl
  exact qE [] hE hV hd
 ·exact qU [0]
 ·exact qU []
 ·exact qU []
 ·refine qM fun ev wv S val hE hV hK hw hS hd=> ?_
  have s13:=hK.no hS 13 [11,10,9,8,7]
  have hwb:=hw.1 s13
  have kx0:=((HB1.out).keep hwb).get 3 rfl
  exact qE [] hE hV hd
 ·exact qU []
 ·rintro ev wv S val hE ⟨hV,hK,hw⟩ hS hd
  have v56:ev (.tmp 56)= .int .i64 ((j:Int)+1):=vd (hd 8 (by decide)) (hV 8 (by decide))
  refine ifw rfl (ifw rfl ⟨.int .i64 (j:Int),fun w9=> ?_,VVs.add hV rfl,ζi hK rfl hd,(by simpa [addS]using hw)⟩)
  obtain⟨e1,-,e2,-⟩:=hE;clear hd hw hS hV hK
  have hwj:IntKind.i64.wrap (j:Int)=(j:Int):=HWJ.out
  show _=Result.ok (Next.value (.int .i64 (j:Int))) w9
  go_simp
 ·rintro ev wv S val hE ⟨hV,hK,hw⟩ hS hd
  have v51:ev (.tmp 51)= .slice (some ⟨gr,0,none⟩) (j+1) cap:=vd (hd 3 (by decide)) (hV 3 (by decide))
  have v57:ev (.tmp 57)= .int .i64 (j:Int):=vd (hd 9 (by decide)) (hV 9 (by decide))
  refine ifw rfl (ifw rfl ⟨.pointer (some ⟨gr,j,none⟩),fun w9=> ?_,VVs.add hV rfl,ζi hK rfl hd,(by simpa [addS]using hw)⟩)
  obtain⟨e1,-,e2,-⟩:=hE;clear hd hw hS hV hK
  show _=Result.ok (Next.value (.pointer (some ⟨gr,j,none⟩))) w9
  go_simp
  intro h9
  omega
 ·refine qM fun ev wv S val hE hV hK hw hS hd=> ?_
  have s13:=hK.no hS 13 [11]
  have hwb:=hw.1 s13
  have kx0:=(Below.cell hwb HGR.out).trans HKR.out
  exact qE [] hE hV hd
 ·refine qM fun ev wv S val hE hV hK hw hS hd=> ?_
  have s13:=hK.no hS 13 [12]
  have hwb:=hw.1 s13
  have kx0:=((HX1.out).keep hwb).get 0 rfl
  have kx1:=((HX1.out).keep hwb).get 1 rfl
  have kx2:=((HX1.out).keep hwb).get 2 rfl
  have kx3:=((HX1.out).keep hwb).get 3 rfl
  have kx4:=((HX1.out).keep hwb).get 4 rfl
  have kx5:=((HX1.out).keep hwb).get 5 rfl
  exact qE [3] hE hV hd
 ·refine qC fun ev wv S val hE hV hK hw hS hd=> ?_
  have hwb:=hw.1 hS
  refine qF (f:=91) (args:= #[.pointer (some ⟨c.g,0,none⟩),.agg #[.int .i64 x.a,.int .i64 x.b,.int .i64 x.s,.int .i64 x.u,.int .i64 x.v,.int .i64 x.m]]) [] hE hV hd (sepf_add K (HS1.out.keep hwb) (i:=3) rfl HMAP.out (by have h1:=HM.out;have h2:=HL.out;omega) (by have h1:=HC.out.ll;have h2:=HC.out.len;omega) x) ?_
  rintro e w' ⟨rfl,hs3⟩
  exact⟨_,rfl,rfl,⟨fun h=>absurd h (by simp [addS]),fun _=>(by rw [HQ1.out];exact hs3)⟩⟩
 ·rintro S val w9 hS ⟨hV,hK,hw⟩
  have e1:val 1= .pointer (some ⟨Sk.g,0,none⟩):=hV 1 (by decide) (hS 1 (by decide))
  have e2:val 2= .pointer (some ⟨Sk.g,3,none⟩):=hV 2 (by decide) (hS 2 (by decide))
  have e3:val 3= .slice (some ⟨gr,0,none⟩) (j+1) cap:=hV 3 (by decide) (hS 3 (by decide))
  refine finL hV hS ?_
  rintro _ ⟨-,rfl⟩-v1 ⟨h1,-⟩-v2 ⟨h2,-⟩-v3 ⟨h3,-⟩-
  iterate 10 rintro _ ⟨-,rfl⟩-
  simp only [zA]
  simp only [h1.trans e1,h2.trans e2,h3.trans e3]
  clear hV h1 e1 v1 h2 e2 v2 h3 e3 v3
  change wpList Tryz.prog _ _ _ _ w9
  have HQZ:=hid (hw.2 (hS 13 (by decide)))
  clear hw hS hK val S
  rw [HQ1.out]at HQZ
  clear HQ1 HB1 HX1 HS1
  refine ζ2 ?_
  go_wp2_with fail
  go_end0
  have hs9:SepF F w [tpTq K.toRepOk Sk.q Sk.nb (pcI Sk.f),blkT Sk.g #[.int .i64 Sk.la,.int .i64 Sk.n,Sk.q,.slice (some ⟨gr,0,none⟩) (j+1) cap],rowT 0 134 1 (some ⟨gr,0,none⟩) (j+1) cap (ptrsC Sk.cs),packT ((Sk.cs.map (ckT K.toRepOk 86)).set j (ckT K.toRepOk 86 (addCk c x))),blkT gx #[.int .i64 x.a,.int .i64 x.b,.int .i64 x.s,.int .i64 x.u,.int .i64 x.v,.int .i64 x.m]] w9:=HQZ.out
  have e1:(Sk.cs.map (ckT K.toRepOk 86)).set j (ckT K.toRepOk 86 (addCk c x))=(init++ [addCk c x]).map (ckT K.toRepOk 86):=by
   rw [HCS.out,List.map_append,List.map_append,←HJ.out];simp
  have e2:ptrsC Sk.cs=ptrsC (init++ [addCk c x]):=by
   rw [HCS.out];unfold ptrsC;rw [List.map_append,List.map_append];rfl
  rw [e1,e2]at hs9
  obtain⟨F',h1,h2,h3⟩:=(hs9.take 4).pack
  exact⟨F', { Sk with cs:=init++ [addCk c x] },rfl,⟨⟨some ⟨gr,0,none⟩,j+1,cap⟩,h1⟩,EndS.old HCS.out HKK.out (HC.out.add (by have h1:=HM.out;have h2:=HL.out;omega) HX.out),h2,h3⟩
end Go.Proofs.YthagdonmijhpdaaGreat
