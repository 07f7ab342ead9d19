/- Contract of package bitemp -/
import Derived.Test.YtfceoehfellpgaaGreatBp2
open Go.Lib (hid)
set_option linter.unusedSimpArgs false
set_option linter.unusedVariables false
set_option maxRecDepth 8000
namespace Corr
open Go Go.RowKit
theorem SepF.apart_row {F0:Nat→Prop} {w0 w:World} {ts:List Thing}(h:SepF F0 w0 ts w) {i j k B sz n c:Nat} {vs:Array Value} {T:TypeId} {A:Option Addr} {xs:List Value}(hi:ts[i]? =some (blkT k vs))(hj:ts[j]? =some (rowT B T sz A n c xs))(hne:i≠j): ¬rowK A n c k:=by
 obtain⟨Fs,h1,h2,_⟩:=h
 exact fun e=>h2 i j (ζk hi) (ζk hj) hne k (((h1 i _ hi).2 k).2 rfl) (((h1 j _ hj).2 k).2 e)
theorem SepF.app {F0:Nat→Prop} {w0 w wz:World} {ts:List Thing}(h:SepF F0 w0 ts w) {i sz n c c':Nat} {T:TypeId} {A A':Option Addr} {xs ys:List Value} {bB:Bool} {vB:Value}(hi:ts[i]? =some (rowT 0 T sz A n c xs))(hD:AppD T A n c 0 xs ys sz w bB true vB (.slice A' (n+1) c') wz):SepF F0 w0 (ts.set i (rowT 0 T sz A' (n+1) c' (xs++ys))) wz:=by
 obtain⟨F,hp,_,hu⟩:=h.get hi
 obtain⟨h1,h2,h3⟩:=hD.done
 exact hu wz (fun k=>rowK A' (n+1) c' k) _ (h1.mono fun k _ hk=>(hp.2 k).2 hk) ⟨h2,fun _=>Iff.rfl⟩ fun k hk=>(h3 k hk).imp_left fun h=>(hp.2 k).2 h
end Corr
namespace Go.Proofs.YtfceoehfellpgaaGreat
open Go.RowKit Corr
theorem elem_rn:Elem Tryz.prog 100 86 (.agg #[.int .i64 0,.int .i64 0,.int .i64 0,.int .i64 0,.int .i64 0,.int .i64 0]) 6 48:=by
 obtain⟨i,h0,h1,h2,h3⟩:=info_parts (show (Tryz.prog.info? 86).map (fun i=>(i.zero,i.size,i.bytes))=some (some (.agg #[.int .i64 0,.int .i64 0,.int .i64 0,.int .i64 0,.int .i64 0,.int .i64 0]),6,48) by kernel_rfl)
 exact⟨Tryz.underlying100,⟨i,h0,h1,h2,h3⟩,rfl,by decide⟩
theorem sepf_ins {Rep:RepT}(K:TrK Rep) {F0:Nat→Prop} {w0 w:World} {ts:List Thing}(h:SepF F0 w0 ts w) {i:Nat} {q:Value} {M:Int} {l:ItL}(hi:ts[i]? =some (trT K.toRepOk q M l))(hl:l.length≤1000)(x:It):Calls Tryz.prog 100 #[q,itV x] w fun e w'=>e= .returned (.int .i64 (insR M x l))∧SepF F0 w0 (ts.set i (trT K.toRepOk q M (insL M x l))) w':=by
 obtain⟨F,hp,_,hu⟩:=h.get hi
 refine(K.insert w q F M l x hp hl).mono fun e w' hq=> ?_
 obtain⟨F',he,hr,ho,hF⟩:=hq
 exact⟨he,hu w' F' (trT K.toRepOk q M (insL M x l)) ho hr hF⟩
set_option maxHeartbeats 4000000 in
theorem add_any {Rep:RepT}(K:TrK Rep)(c:Ck)(x:Rn)(w:World)(F:Nat→Prop)(H:(ckT K.toRepOk 86 c).P w F)(hl:c.rs.length<250)(hll:c.l.length≤1000):Calls Tryz.prog 91 #[.pointer (some ⟨c.g,0,none⟩),.agg #[.int .i64 x.a,.int .i64 x.b,.int .i64 x.s,.int .i64 x.u,.int .i64 x.v,.int .i64 x.m]] w fun e w'=>∃F',e= .returned (.tuple #[])∧(ckT K.toRepOk 86 (addCk c x)).P w' F'∧Off F w w'∧∀k,F' k→F k∨w.heap.size≤k:=by
 obtain⟨⟨A,n,cap⟩,hp⟩:=H
 have hs0:SepF F w [blkT c.g #[.slice A n cap,c.q,.int .i64 c.s0],rowT 0 86 6 A n cap (ζa c.rs),trT K.toRepOk c.q 250 c.l] w:=hp.2
 have HLN:=hid (ζ14 (hs0.row 1 rfl))
 have hn:n<250:=by have:=HLN.out;omega
 have HLL:=hid hll
 have hs1:=hs0.push #[.int .i64 x.a,.int .i64 x.b,.int .i64 x.s,.int .i64 x.u,.int .i64 x.v,.int .i64 x.m] 86
 have hmn:=fun t ty x y w=>run_min2 (P:=Tryz.prog) t ty x y w
 have HK:=hid K
 obtain⟨w1,hw1⟩: ∃w1,w.alloc (.cells #[.int .i64 x.a,.int .i64 x.b,.int .i64 x.s,.int .i64 x.u,.int .i64 x.v,.int .i64 x.m] 86)=w1:=⟨_,rfl⟩
 rw [hw1]at hs1
 obtain⟨gx,hgx⟩: ∃k,w.heap.size=k:=⟨_,rfl⟩
 rw [hgx]at hs1
 have HS1:=hid (show SepF F w [blkT c.g #[.slice A n cap,c.q,.int .i64 c.s0],rowT 0 86 6 A n cap (ζa c.rs),trT HK.out.toRepOk c.q 250 c.l,blkT gx #[.int .i64 x.a,.int .i64 x.b,.int .i64 x.s,.int .i64 x.u,.int .i64 x.v,.int .i64 x.m]] w1 from hs1)
 have HGX:=hid hgx
 have HB1:=hid (HS1.out.b 0 rfl)
 have HX1:=hid (HS1.out.b 3 rfl)
 clear hs0 hs1 hp hl hll hgx
 go_enter Tryz.func91,Tryz.ntmps91
 go_upto_region 1 with fail
 rw [HGX.out]
 clear hw1
 obtain⟨Q1,hQ1⟩: ∃Q1:World→Prop,Q1=fun wx=>SepF F w [blkT c.g #[.slice A n cap,c.q,.int .i64 c.s0],rowT 0 86 6 A n cap (ζa c.rs),trT HK.out.toRepOk c.q 250 (insL 250 (x.a,x.b,(n:Int)) c.l),blkT gx #[.int .i64 x.a,.int .i64 x.b,.int .i64 x.s,.int .i64 x.u,.int .i64 x.v,.int .i64 x.m]] wx:=⟨_,rfl⟩
 have HQ1:=hid hQ1
 clear hQ1
 refine ζ4 17 (fun S val wx=>VVs 17 [(fun vv=>vv= .pointer (some ⟨c.g,0,none⟩)),(fun vv=>vv= .pointer (some ⟨c.g,0,none⟩)),(fun vv=>vv= .pointer (some ⟨c.g,1,none⟩)),(fun vv=>vv=c.q),(fun vv=>vv= .pointer (some ⟨gx,0,none⟩)),(fun vv=>vv= .pointer (some ⟨gx,0,none⟩)),(fun vv=>vv= .int .i64 x.a),(fun vv=>vv= .pointer (some ⟨gx,0,none⟩)),(fun vv=>vv= .pointer (some ⟨gx,1,none⟩)),(fun vv=>vv= .int .i64 x.b),(fun vv=>vv= .pointer (some ⟨c.g,0,none⟩)),(fun vv=>vv= .pointer (some ⟨c.g,0,none⟩)),(fun vv=>vv= .pointer (some ⟨c.g,0,none⟩)),(fun vv=>vv= .slice A n cap),(fun vv=>vv= .int .i64 (n:Int)),(fun vv=>vv= .agg #[.int .i64 x.a,.int .i64 x.b,.int .i64 (n:Int)]),(fun vv=>vv= .int .i64 (insR 250 (x.a,x.b,(n:Int)) c.l))] S val∧Clo [[],[0],[1],[2],[],[4],[5],[],[7],[8],[],[10],[11],[12],[13],[6,9,14],[3,15]] S∧((S 16=false→Below w1.heap.size w1 wx)∧(S 16=true→Q1 wx))) [0,1,2,4,5,7,8,10,11,12,14,15] (by kernel_rfl) (by kernel_rfl) ⟨VVs.start,Clo.start,⟨fun _=>(Below.refl _ _).drew,fun h=>by cases h⟩⟩ ⟨?_,?_,?_,?_,?_,?_,?_,?_,?_,?_,?_,?_,?_,?_,?_,?_,?_,trivial⟩ ?_
 ·rintro ev wv S val hE ⟨hV,hK,hw⟩ hS hd
  have hcl:=Clo.add hK (i:=0) fz
  have v0:ev (.tmp 0)= .pointer (some ⟨c.g,0,none⟩):=hE.tmp 0 rfl
  refine pv (.pointer (some ⟨c.g,0,none⟩)) ⟨VVs.add hV rfl,hcl,(by simpa [addS]using hw)⟩ (fun w9=> ?_) rfl rfl
  obtain⟨e1,-,e2,-⟩:=hE;clear hd hw hS hV hK hcl
  go_simp
 ·rintro ev wv S val hE ⟨hV,hK,hw⟩ hS hd
  have hcl:=Clo.add hK (i:=1) (fc (hd 0 (by decide)).1 fz)
  have v4:ev (.tmp 4)= .pointer (some ⟨c.g,0,none⟩):=vd (hd 0 (by decide)) (hV 0 (by decide))
  refine pv (.pointer (some ⟨c.g,0,none⟩)) ⟨VVs.add hV rfl,hcl,(by simpa [addS]using hw)⟩ (fun w9=> ?_) rfl rfl
  obtain⟨e1,-,e2,-⟩:=hE;clear hd hw hS hV hK hcl
  go_simp
 ·rintro ev wv S val hE ⟨hV,hK,hw⟩ hS hd
  have hcl:=Clo.add hK (i:=2) (fc (hd 1 (by decide)).1 fz)
  have v5:ev (.tmp 5)= .pointer (some ⟨c.g,0,none⟩):=vd (hd 1 (by decide)) (hV 1 (by decide))
  refine pv (.pointer (some ⟨c.g,1,none⟩)) ⟨VVs.add hV rfl,hcl,(by simpa [addS]using hw)⟩ (fun w9=> ?_) rfl rfl
  obtain⟨e1,-,e2,-⟩:=hE;clear hd hw hS hV hK hcl
  go_simp
 ·rintro ev wv S val hE ⟨hV,hK,hw⟩ hS hd
  have hcl:=Clo.add hK (i:=3) (fc (hd 2 (by decide)).1 fz)
  have v6:ev (.tmp 6)= .pointer (some ⟨c.g,1,none⟩):=vd (hd 2 (by decide)) (hV 2 (by decide))
  have s16:S 16=false:=by
   cases h0:S 16 with
   | false=>rfl
   | true=>
    have q3:=hK 16 h0 3 (by decide)
    exact absurd q3 (by rw [hS];decide)
  have hwb:=hw.1 s16
  have kx0:=((HB1.out).keep hwb).get 1 rfl
  refine ifw rfl (ifn rfl ?_)
  refine ζ3 (u:=c.q) (w':=wv) ?_ ⟨VVs.add hV rfl,hcl,(by simpa [addS]using hw)⟩
  have e1:=hE.const;clear hE hd hw hS hV hK hcl
  go_simp
 ·rintro ev wv S val hE ⟨hV,hK,hw⟩ hS hd
  have hcl:=Clo.add hK (i:=4) fz
  have v3:ev (.tmp 3)= .pointer (some ⟨gx,0,none⟩):=hE.tmp 3 rfl
  refine pv (.pointer (some ⟨gx,0,none⟩)) ⟨VVs.add hV rfl,hcl,(by simpa [addS]using hw)⟩ (fun w9=> ?_) rfl rfl
  obtain⟨e1,-,e2,-⟩:=hE;clear hd hw hS hV hK hcl
  go_simp
 ·rintro ev wv S val hE ⟨hV,hK,hw⟩ hS hd
  have hcl:=Clo.add hK (i:=5) (fc (hd 4 (by decide)).1 fz)
  have v8:ev (.tmp 8)= .pointer (some ⟨gx,0,none⟩):=vd (hd 4 (by decide)) (hV 4 (by decide))
  refine pv (.pointer (some ⟨gx,0,none⟩)) ⟨VVs.add hV rfl,hcl,(by simpa [addS]using hw)⟩ (fun w9=> ?_) rfl rfl
  obtain⟨e1,-,e2,-⟩:=hE;clear hd hw hS hV hK hcl
  go_simp
 ·rintro ev wv S val hE ⟨hV,hK,hw⟩ hS hd
  have hcl:=Clo.add hK (i:=6) (fc (hd 5 (by decide)).1 fz)
  have v9:ev (.tmp 9)= .pointer (some ⟨gx,0,none⟩):=vd (hd 5 (by decide)) (hV 5 (by decide))
  have s16:S 16=false:=by
   cases h0:S 16 with
   | false=>rfl
   | true=>
    have q15:=hK 16 h0 15 (by decide)
    have q6:=hK 15 q15 6 (by decide)
    exact absurd q6 (by rw [hS];decide)
  have hwb:=hw.1 s16
  have kx0:=((HX1.out).keep hwb).get 0 rfl
  refine ifw rfl (ifn rfl ?_)
  refine ζ3 (u:= .int .i64 x.a) (w':=wv) ?_ ⟨VVs.add hV rfl,hcl,(by simpa [addS]using hw)⟩
  have e1:=hE.const;clear hE hd hw hS hV hK hcl
  go_simp
 ·rintro ev wv S val hE ⟨hV,hK,hw⟩ hS hd
  have hcl:=Clo.add hK (i:=7) fz
  have v3:ev (.tmp 3)= .pointer (some ⟨gx,0,none⟩):=hE.tmp 3 rfl
  refine pv (.pointer (some ⟨gx,0,none⟩)) ⟨VVs.add hV rfl,hcl,(by simpa [addS]using hw)⟩ (fun w9=> ?_) rfl rfl
  obtain⟨e1,-,e2,-⟩:=hE;clear hd hw hS hV hK hcl
  go_simp
 ·rintro ev wv S val hE ⟨hV,hK,hw⟩ hS hd
  have hcl:=Clo.add hK (i:=8) (fc (hd 7 (by decide)).1 fz)
  have v11:ev (.tmp 11)= .pointer (some ⟨gx,0,none⟩):=vd (hd 7 (by decide)) (hV 7 (by decide))
  refine pv (.pointer (some ⟨gx,1,none⟩)) ⟨VVs.add hV rfl,hcl,(by simpa [addS]using hw)⟩ (fun w9=> ?_) rfl rfl
  obtain⟨e1,-,e2,-⟩:=hE;clear hd hw hS hV hK hcl
  go_simp
 ·rintro ev wv S val hE ⟨hV,hK,hw⟩ hS hd
  have hcl:=Clo.add hK (i:=9) (fc (hd 8 (by decide)).1 fz)
  have v12:ev (.tmp 12)= .pointer (some ⟨gx,1,none⟩):=vd (hd 8 (by decide)) (hV 8 (by decide))
  have s16:S 16=false:=by
   cases h0:S 16 with
   | false=>rfl
   | true=>
    have q15:=hK 16 h0 15 (by decide)
    have q9:=hK 15 q15 9 (by decide)
    exact absurd q9 (by rw [hS];decide)
  have hwb:=hw.1 s16
  have kx0:=((HX1.out).keep hwb).get 1 rfl
  refine ifw rfl (ifn rfl ?_)
  refine ζ3 (u:= .int .i64 x.b) (w':=wv) ?_ ⟨VVs.add hV rfl,hcl,(by simpa [addS]using hw)⟩
  have e1:=hE.const;clear hE hd hw hS hV hK hcl
  go_simp
 ·rintro ev wv S val hE ⟨hV,hK,hw⟩ hS hd
  have hcl:=Clo.add hK (i:=10) fz
  have v0:ev (.tmp 0)= .pointer (some ⟨c.g,0,none⟩):=hE.tmp 0 rfl
  refine pv (.pointer (some ⟨c.g,0,none⟩)) ⟨VVs.add hV rfl,hcl,(by simpa [addS]using hw)⟩ (fun w9=> ?_) rfl rfl
  obtain⟨e1,-,e2,-⟩:=hE;clear hd hw hS hV hK hcl
  go_simp
 ·rintro ev wv S val hE ⟨hV,hK,hw⟩ hS hd
  have hcl:=Clo.add hK (i:=11) (fc (hd 10 (by decide)).1 fz)
  have v14:ev (.tmp 14)= .pointer (some ⟨c.g,0,none⟩):=vd (hd 10 (by decide)) (hV 10 (by decide))
  refine pv (.pointer (some ⟨c.g,0,none⟩)) ⟨VVs.add hV rfl,hcl,(by simpa [addS]using hw)⟩ (fun w9=> ?_) rfl rfl
  obtain⟨e1,-,e2,-⟩:=hE;clear hd hw hS hV hK hcl
  go_simp
 ·rintro ev wv S val hE ⟨hV,hK,hw⟩ hS hd
  have hcl:=Clo.add hK (i:=12) (fc (hd 11 (by decide)).1 fz)
  have v15:ev (.tmp 15)= .pointer (some ⟨c.g,0,none⟩):=vd (hd 11 (by decide)) (hV 11 (by decide))
  refine pv (.pointer (some ⟨c.g,0,none⟩)) ⟨VVs.add hV rfl,hcl,(by simpa [addS]using hw)⟩ (fun w9=> ?_) rfl rfl
  obtain⟨e1,-,e2,-⟩:=hE;clear hd hw hS hV hK hcl
  go_simp
 ·rintro ev wv S val hE ⟨hV,hK,hw⟩ hS hd
  have hcl:=Clo.add hK (i:=13) (fc (hd 12 (by decide)).1 fz)
  have v16:ev (.tmp 16)= .pointer (some ⟨c.g,0,none⟩):=vd (hd 12 (by decide)) (hV 12 (by decide))
  have s16:S 16=false:=by
   cases h0:S 16 with
   | false=>rfl
   | true=>
    have q15:=hK 16 h0 15 (by decide)
    have q14:=hK 15 q15 14 (by decide)
    have q13:=hK 14 q14 13 (by decide)
    exact absurd q13 (by rw [hS];decide)
  have hwb:=hw.1 s16
  have kx0:=((HB1.out).keep hwb).get 0 rfl
  refine ifw rfl (ifn rfl ?_)
  refine ζ3 (u:= .slice A n cap) (w':=wv) ?_ ⟨VVs.add hV rfl,hcl,(by simpa [addS]using hw)⟩
  have e1:=hE.const;clear hE hd hw hS hV hK hcl
  go_simp
 ·rintro ev wv S val hE ⟨hV,hK,hw⟩ hS hd
  have hcl:=Clo.add hK (i:=14) (fc (hd 13 (by decide)).1 fz)
  have v17:ev (.tmp 17)= .slice A n cap:=vd (hd 13 (by decide)) (hV 13 (by decide))
  refine pv (.int .i64 (n:Int)) ⟨VVs.add hV rfl,hcl,(by simpa [addS]using hw)⟩ (fun w9=> ?_) rfl rfl
  obtain⟨e1,-,e2,-⟩:=hE;clear hd hw hS hV hK hcl
  go_simp
 ·rintro ev wv S val hE ⟨hV,hK,hw⟩ hS hd
  have hcl:=Clo.add hK (i:=15) (fc (hd 6 (by decide)).1 (fc (hd 9 (by decide)).1 (fc (hd 14 (by decide)).1 fz)))
  have v10:ev (.tmp 10)= .int .i64 x.a:=vd (hd 6 (by decide)) (hV 6 (by decide))
  have v13:ev (.tmp 13)= .int .i64 x.b:=vd (hd 9 (by decide)) (hV 9 (by decide))
  have v18:ev (.tmp 18)= .int .i64 (n:Int):=vd (hd 14 (by decide)) (hV 14 (by decide))
  refine pv (.agg #[.int .i64 x.a,.int .i64 x.b,.int .i64 (n:Int)]) ⟨VVs.add hV rfl,hcl,(by simpa [addS]using hw)⟩ (fun w9=> ?_) rfl rfl
  obtain⟨e1,-,e2,-⟩:=hE;clear hd hw hS hV hK hcl
  go_simp
 ·rintro ev wv S val hE ⟨hV,hK,hw⟩ hS hd
  have hcl:=Clo.add hK (i:=16) (fc (hd 3 (by decide)).1 (fc (hd 15 (by decide)).1 fz))
  have v7:ev (.tmp 7)=c.q:=vd (hd 3 (by decide)) (hV 3 (by decide))
  have v19:ev (.tmp 19)= .agg #[.int .i64 x.a,.int .i64 x.b,.int .i64 (n:Int)]:=vd (hd 15 (by decide)) (hV 15 (by decide))
  have hwb:=hw.1 hS
  refine ifw rfl (ifn rfl ?_)
  refine ζl (f:=100) (args:= #[c.q,.agg #[.int .i64 x.a,.int .i64 x.b,.int .i64 (n:Int)]]) ?_ (sepf_ins HK.out (HS1.out.keep hwb) (i:=2) rfl HLL.out (x.a,x.b,(n:Int))) ?_
  ·obtain⟨e1,-,e0,-⟩:=hE;clear hd hw hS hV hK hcl
   go_simp
  ·rintro e w' ⟨rfl,hs3⟩
   exact⟨_,rfl,VVs.add hV (rfl),hcl,⟨fun h=>absurd h (by simp [addS]),fun _=>(by rw [HQ1.out];exact hs3)⟩⟩
 ·rintro S val w3 hS ⟨hV,hK,hw⟩
  have e0:val 0= .pointer (some ⟨c.g,0,none⟩):=hV 0 (by decide) (hS 0 (by decide))
  have e1:val 1= .pointer (some ⟨c.g,0,none⟩):=hV 1 (by decide) (hS 1 (by decide))
  have e2:val 2= .pointer (some ⟨c.g,1,none⟩):=hV 2 (by decide) (hS 2 (by decide))
  have e3:val 3=c.q:=hV 3 (by decide) (hS 3 (by decide))
  have e4:val 4= .pointer (some ⟨gx,0,none⟩):=hV 4 (by decide) (hS 4 (by decide))
  have e5:val 5= .pointer (some ⟨gx,0,none⟩):=hV 5 (by decide) (hS 5 (by decide))
  have e6:val 6= .int .i64 x.a:=hV 6 (by decide) (hS 6 (by decide))
  have e7:val 7= .pointer (some ⟨gx,0,none⟩):=hV 7 (by decide) (hS 7 (by decide))
  have e8:val 8= .pointer (some ⟨gx,1,none⟩):=hV 8 (by decide) (hS 8 (by decide))
  have e9:val 9= .int .i64 x.b:=hV 9 (by decide) (hS 9 (by decide))
  have e10:val 10= .pointer (some ⟨c.g,0,none⟩):=hV 10 (by decide) (hS 10 (by decide))
  have e11:val 11= .pointer (some ⟨c.g,0,none⟩):=hV 11 (by decide) (hS 11 (by decide))
  have e12:val 12= .pointer (some ⟨c.g,0,none⟩):=hV 12 (by decide) (hS 12 (by decide))
  have e13:val 13= .slice A n cap:=hV 13 (by decide) (hS 13 (by decide))
  have e14:val 14= .int .i64 (n:Int):=hV 14 (by decide) (hS 14 (by decide))
  have e15:val 15= .agg #[.int .i64 x.a,.int .i64 x.b,.int .i64 (n:Int)]:=hV 15 (by decide) (hS 15 (by decide))
  have e16:val 16= .int .i64 (insR 250 (x.a,x.b,(n:Int)) c.l):=hV 16 (by decide) (hS 16 (by decide))
  intro v0 h0 u0 v1 h1 u1 v2 h2 u2 v3 h3 u3 v4 h4 u4 v5 h5 u5 v6 h6 u6 v7 h7 u7 v8 h8 u8 v9 h9 u9 v10 h10 u10 v11 h11 u11 v12 h12 u12 v13 h13 u13 v14 h14 u14 v15 h15 u15 v16 h16 u16
  simp only [Act.put,List.setIfInBounds_toArray,List.set_cons_zero,List.set_cons_succ,List.drop_succ_cons,List.drop_zero]
  simp only [h0.trans e0,h1.trans e1,h2.trans e2,h3.trans e3,h4.trans e4,h5.trans e5,h6.trans e6,h7.trans e7,h8.trans e8,h9.trans e9,h10.trans e10,h11.trans e11,h12.trans e12,h13.trans e13,h14.trans e14,h15.trans e15,h16.trans e16]
  clear hV h0 e0 u0 v0 h1 e1 u1 v1 h2 e2 u2 v2 h3 e3 u3 v3 h4 e4 u4 v4 h5 e5 u5 v5 h6 e6 u6 v6 h7 e7 u7 v7 h8 e8 u8 v8 h9 e9 u9 v9 h10 e10 u10 v10 h11 e11 u11 v11 h12 e12 u12 v12 h13 e13 u13 v13 h14 e14 u14 v14 h15 e15 u15 v15 h16 e16 u16 v16
  change wpList Tryz.prog _ _ _ _ w3
  have HQZ:=hid (hw.2 (hS 16 (by decide)))
  clear hw hS hK val S
  rw [HQ1.out]at HQZ
  have HS3:=hid (show SepF F w [blkT c.g #[.slice A n cap,c.q,.int .i64 c.s0],rowT 0 86 6 A n cap (ζa c.rs),trT HK.out.toRepOk c.q 250 (insL 250 (x.a,x.b,(n:Int)) c.l),blkT gx #[.int .i64 x.a,.int .i64 x.b,.int .i64 x.s,.int .i64 x.u,.int .i64 x.v,.int .i64 x.m]] w3 from HQZ.out)
  have HB3:=hid (HS3.out.b 0 rfl)
  have HX3:=hid (HS3.out.b 3 rfl)
  have HR3:=hid (HS3.out.row 1 rfl)
  have H4:=hid (HS3.out.apart_row (i:=0) (j:=1) rfl rfl (by decide))
  have H5:=hid (HS3.out.apart_row (i:=3) (j:=1) rfl rfl (by decide))
  have HLT:=hid (fun k (hk:rowK A n cap k)=>ζp HR3.out hk)
  clear HQZ HQ1 HB1 HX1 HS1
  refine ζ2 ?_
  go_upto_region 2 with fail
  refine ζ4 10 (fun S val wx=>VVs 10 [(fun vv=>vv= .pointer (some ⟨c.g,0,none⟩)),(fun vv=>vv= .pointer (some ⟨c.g,0,none⟩)),(fun vv=>vv= .pointer (some ⟨c.g,0,none⟩)),(fun vv=>vv= .pointer (some ⟨c.g,0,none⟩)),(fun vv=>vv= .slice A n cap),(fun vv=>vv=rnV x),(fun vv=>∃kb,vv= .slice (some ⟨kb,0,none⟩) 1 1),(fun vv=>∃Av cv,vv= .slice Av (n+1) cv),(fun vv=>vv= .pointer (some ⟨c.g,0,none⟩)),(fun vv=>vv= .pointer (some ⟨c.g,0,none⟩))] S val∧Clo [[],[],[1],[2],[3],[],[5],[4,6],[0],[8]] S∧AppD 86 A n cap 0 (ζa c.rs) (ζa [x]) 6 w3 (S 6) (S 7) (val 6) (val 7) wx) [0,1,2,3,8,9] (by kernel_rfl) (by kernel_rfl) ⟨VVs.start,Clo.start,AppD.start (HR3.out)⟩ ⟨?_,?_,?_,?_,?_,?_,?_,?_,?_,?_,trivial⟩ ?_
  ·rintro ev wv S val hE ⟨hV,hK,hw⟩ hS hd
   have hcl:=Clo.add hK (i:=0) fz
   have v0:ev (.tmp 0)= .pointer (some ⟨c.g,0,none⟩):=hE.tmp 0 rfl
   refine pv (.pointer (some ⟨c.g,0,none⟩)) ⟨VVs.add hV rfl,hcl,hw⟩ (fun w9=> ?_) rfl rfl
   obtain⟨e1,-,e2,-⟩:=hE;clear hd hw hS hV hK hcl
   go_simp
  ·rintro ev wv S val hE ⟨hV,hK,hw⟩ hS hd
   have hcl:=Clo.add hK (i:=1) fz
   have v0:ev (.tmp 0)= .pointer (some ⟨c.g,0,none⟩):=hE.tmp 0 rfl
   refine pv (.pointer (some ⟨c.g,0,none⟩)) ⟨VVs.add hV rfl,hcl,hw⟩ (fun w9=> ?_) rfl rfl
   obtain⟨e1,-,e2,-⟩:=hE;clear hd hw hS hV hK hcl
   go_simp
  ·rintro ev wv S val hE ⟨hV,hK,hw⟩ hS hd
   have hcl:=Clo.add hK (i:=2) (fc (hd 1 (by decide)).1 fz)
   have v22:ev (.tmp 22)= .pointer (some ⟨c.g,0,none⟩):=vd (hd 1 (by decide)) (hV 1 (by decide))
   refine pv (.pointer (some ⟨c.g,0,none⟩)) ⟨VVs.add hV rfl,hcl,hw⟩ (fun w9=> ?_) rfl rfl
   obtain⟨e1,-,e2,-⟩:=hE;clear hd hw hS hV hK hcl
   go_simp
  ·rintro ev wv S val hE ⟨hV,hK,hw⟩ hS hd
   have hcl:=Clo.add hK (i:=3) (fc (hd 2 (by decide)).1 fz)
   have v23:ev (.tmp 23)= .pointer (some ⟨c.g,0,none⟩):=vd (hd 2 (by decide)) (hV 2 (by decide))
   refine pv (.pointer (some ⟨c.g,0,none⟩)) ⟨VVs.add hV rfl,hcl,hw⟩ (fun w9=> ?_) rfl rfl
   obtain⟨e1,-,e2,-⟩:=hE;clear hd hw hS hV hK hcl
   go_simp
  ·rintro ev wv S val hE ⟨hV,hK,hw⟩ hS hd
   have hcl:=Clo.add hK (i:=4) (fc (hd 3 (by decide)).1 fz)
   have v24:ev (.tmp 24)= .pointer (some ⟨c.g,0,none⟩):=vd (hd 3 (by decide)) (hV 3 (by decide))
   have kx:=(hw.1.blk HB3.out H4.out).get 0 rfl
   refine ifw rfl (ifn rfl ?_)
   refine ζ3 (u:= .slice A n cap) (w':=wv) ?_ ⟨VVs.add hV rfl,hcl,hw⟩
   have e1:=hE.const;clear hE hd hw hS hV hK hcl
   go_simp
  ·rintro ev wv S val hE ⟨hV,hK,hw⟩ hS hd
   have hcl:=Clo.add hK (i:=5) fz
   have v3:ev (.tmp 3)= .pointer (some ⟨gx,0,none⟩):=hE.tmp 3 rfl
   have hvx:=hw.1.blk HX3.out H5.out
   have kx0:=hvx.get 0 rfl
   have kx1:=hvx.get 1 rfl
   have kx2:=hvx.get 2 rfl
   have kx3:=hvx.get 3 rfl
   have kx4:=hvx.get 4 rfl
   have kx5:=hvx.get 5 rfl
   refine ifw rfl (ifn rfl ?_)
   refine ζ3 (u:=rnV x) (w':=wv) ?_ ⟨VVs.add hV rfl,hcl,hw⟩
   have e1:=hE.const;clear hE hd hw hS hV hK hcl
   go_simp
  ·rintro ev wv S val hE ⟨hV,hK,hw⟩ hS hd
   have hcl:=Clo.add hK (i:=6) (fc (hd 5 (by decide)).1 fz)
   have v26:ev (.tmp 26)=rnV x:=vd (hd 5 (by decide)) (hV 5 (by decide))
   refine ifw rfl (ifn rfl ?_)
   refine ζ3 (u:= .slice (some ⟨wv.heap.size,0,none⟩) 1 1) (w':=wv.alloc (.cells (ζa [x]).toArray 86)) ?_ ⟨VVs.add hV ⟨_,rfl⟩,hcl,(show AppD _ _ _ _ _ _ _ _ _ (addS S 6 6) (addS S 6 7) (addV val 6 _ 6) (addV val 6 _ 7) _ from by simpa [addS,addV]using hw.build 86)⟩
   have e1:=hE.const;clear hE hd hw hS hV hK hcl
   go_simp;rfl
  ·rintro ev wv S val hE ⟨hV,hK,hw⟩ hS hd
   have hcl:=Clo.add hK (i:=7) (fc (hd 4 (by decide)).1 (fc (hd 6 (by decide)).1 fz))
   have v25:ev (.tmp 25)= .slice A n cap:=vd (hd 4 (by decide)) (hV 4 (by decide))
   obtain⟨kb6,g6⟩:=hV 6 (by decide) (hd 6 (by decide)).1
   have v27:ev (.tmp 27)= .slice (some ⟨kb6,0,none⟩) 1 1:=(hd 6 (by decide)).2.trans g6
   have hwA:=hw
   rw [(hd 6 (by decide)).1,hS,g6]at hwA
   obtain⟨A9,c9,w9,hr9,hD9⟩:=AppD.run (P:=Tryz.prog) (t:=100) (ty:=100) elem_rn hwA HLT.out (by rfl) (ζ4d _) (by omega) (by unfold maxLen;omega) (Nat.zero_le _)
   refine ifw rfl (ifn rfl ?_)
   refine ζ3 (u:= .slice A9 (n+1) c9) (w':=w9) ?_ ⟨VVs.add hV ⟨A9,c9,rfl⟩,hcl,(by simpa [addS,addV,(hd 6 (by decide)).1,g6]using hD9)⟩
   have e1:=hE.const;clear hE hd hw hS hV hK hcl
   unfold execOp
   simp only [resolve,invoke,builtin,Sem.run_bind,Sem.run_pure,Result.andThen_ok,List.map_toArray,List.map_cons,List.map_nil,v25,v27,hr9]
  ·rintro ev wv S val hE ⟨hV,hK,hw⟩ hS hd
   have hcl:=Clo.add hK (i:=8) (fc (hd 0 (by decide)).1 fz)
   have v21:ev (.tmp 21)= .pointer (some ⟨c.g,0,none⟩):=vd (hd 0 (by decide)) (hV 0 (by decide))
   refine pv (.pointer (some ⟨c.g,0,none⟩)) ⟨VVs.add hV rfl,hcl,hw⟩ (fun w9=> ?_) rfl rfl
   obtain⟨e1,-,e2,-⟩:=hE;clear hd hw hS hV hK hcl
   go_simp
  ·rintro ev wv S val hE ⟨hV,hK,hw⟩ hS hd
   have hcl:=Clo.add hK (i:=9) (fc (hd 8 (by decide)).1 fz)
   have v29:ev (.tmp 29)= .pointer (some ⟨c.g,0,none⟩):=vd (hd 8 (by decide)) (hV 8 (by decide))
   refine pv (.pointer (some ⟨c.g,0,none⟩)) ⟨VVs.add hV rfl,hcl,hw⟩ (fun w9=> ?_) rfl rfl
   obtain⟨e1,-,e2,-⟩:=hE;clear hd hw hS hV hK hcl
   go_simp
  ·rintro S val wz hS ⟨hV,hK,hw⟩
   have e0:val 0= .pointer (some ⟨c.g,0,none⟩):=hV 0 (by decide) (hS 0 (by decide))
   have e1:val 1= .pointer (some ⟨c.g,0,none⟩):=hV 1 (by decide) (hS 1 (by decide))
   have e2:val 2= .pointer (some ⟨c.g,0,none⟩):=hV 2 (by decide) (hS 2 (by decide))
   have e3:val 3= .pointer (some ⟨c.g,0,none⟩):=hV 3 (by decide) (hS 3 (by decide))
   have e4:val 4= .slice A n cap:=hV 4 (by decide) (hS 4 (by decide))
   have e5:val 5=rnV x:=hV 5 (by decide) (hS 5 (by decide))
   obtain⟨kb6,e6⟩:=hV 6 (by decide) (hS 6 (by decide))
   obtain⟨Av7,cv7,e7⟩:=hV 7 (by decide) (hS 7 (by decide))
   have e8:val 8= .pointer (some ⟨c.g,0,none⟩):=hV 8 (by decide) (hS 8 (by decide))
   have e9:val 9= .pointer (some ⟨c.g,0,none⟩):=hV 9 (by decide) (hS 9 (by decide))
   intro v0 h0 u0 v1 h1 u1 v2 h2 u2 v3 h3 u3 v4 h4 u4 v5 h5 u5 v6 h6 u6 v7 h7 u7 v8 h8 u8 v9 h9 u9
   simp only [Act.put,List.setIfInBounds_toArray,List.set_cons_zero,List.set_cons_succ,List.drop_succ_cons,List.drop_zero]
   simp only [h0.trans e0,h1.trans e1,h2.trans e2,h3.trans e3,h4.trans e4,h5.trans e5,h6.trans e6,h7.trans e7,h8.trans e8,h9.trans e9]
   clear hV h0 e0 u0 v0 h1 e1 u1 v1 h2 e2 u2 v2 h3 e3 u3 v3 h4 e4 u4 v4 h5 e5 u5 v5 h6 u6 v6 h7 u7 v7 h8 e8 u8 v8 h9 e9 u9 v9
   change wpList Tryz.prog _ _ _ _ wz
   rw [hS 6 (by decide),hS 7 (by decide),e6,e7]at hw
   have hs4:=HS3.out.app (i:=1) rfl hw
   have HS4:=hid hs4
   have hbz:=hs4.b 0 rfl
   have y0:=hbz.get 0 rfl
   have z0:=hbz.f 0
   clear hw hS hK e6 e7 val S hbz hs4
   go_wp2_with fail
   refine ζ2 ?_
   have hs5:=HS4.out.set 0 rfl 0 (.slice Av7 (n+1) cv7)
   generalize wz.setCell ⟨c.g,0,none⟩ (.slice Av7 (n+1) cv7)=w5 at*
   have HS5:=hid (show SepF F w [blkT c.g #[.slice Av7 (n+1) cv7,c.q,.int .i64 c.s0],rowT 0 86 6 Av7 (n+1) cv7 (ζa c.rs++ζa [x]),trT HK.out.toRepOk c.q 250 (insL 250 (x.a,x.b,(n:Int)) c.l),blkT gx #[.int .i64 x.a,.int .i64 x.b,.int .i64 x.s,.int .i64 x.u,.int .i64 x.v,.int .i64 x.m]] w5 from hs5)
   clear HS4 y0 z0
   have b2:=(HS5.out.b 0 rfl).get 2 rfl
   have q2:=(HS5.out.b 0 rfl).f 2
   have x2:=(HS5.out.b 3 rfl).get 2 rfl
   clear hs5
   go_upto_region 3 with fail
   go_region
   have hs6:=(HS5.out.set 0 rfl 2 (.int .i64 (min c.s0 x.s))).keep ((Below.refl _ _).drew)
   have HS6:=hid hs6
   clear hs6 b2 q2 x2
   go_wp2_with fail
   go_end0
   obtain⟨F',h1,h2,h3⟩:=(HS6.out.take 3).pack
   refine⟨F',rfl,⟨⟨Av7,n+1,cv7⟩,?_⟩,h2,h3⟩
   show (packT [blkT c.g #[.slice Av7 (n+1) cv7,c.q,.int .i64 (min c.s0 x.s)],rowT 0 86 6 Av7 (n+1) cv7 (ζa (c.rs++ [x])),trT HK.out.toRepOk c.q 250 (insL 250 (x.a,x.b,(c.rs.length:Int)) c.l)]).P _ F'
   rw [ζ3l,HLN.out]
   exact h1
end Go.Proofs.YtfceoehfellpgaaGreat
