/- TpPut's words, for values of three numbers. -/
import Derived.Test.YthagdonmijhpdaaGreatTqSegs
import Derived.Test.YthagdonmijhpdaaGreatTpPut
open Go.Lib (hid)
set_option linter.unusedSimpArgs false
set_option linter.unusedVariables false
set_option maxHeartbeats 8000000
set_option maxRecDepth 8000
namespace Go.Proofs.YthagdonmijhpdaaGreat
open Go.RowKit Corr
theorem ζ43 (gT i:Nat)(x1 x2 x3:Int)(a:Addr)(w:World)(hi:i<4)(hs:inShr i x1)(hc:w.cell? ⟨gT,i,none⟩=some (.pointer (some a))):Calls Tryz.prog 117 #[.pointer (some ⟨gT,0,none⟩),.agg #[.int .i64 x1,.int .i64 x2,.int .i64 (numP x3),.int .i64 (sinP x3),.int .i64 (valP x3)]] w fun e w'=>
  e= .returned (.tuple #[.pointer (some a),.agg #[.int .i64 x1,.int .i64 x2,.int .i64 0]])∧Below w.heap.size w w':=by
 have HX:=hid ((Blk.new w #[.int .i64 x1,.int .i64 x2,.int .i64 (numP x3),.int .i64 (sinP x3),.int .i64 (valP x3)] 128).alloc (.cells #[.int .i64 0,.int .i64 0,.int .i64 0] 141))
 have HR:=hid (Blk.new (w.alloc (.cells #[.int .i64 x1,.int .i64 x2,.int .i64 (numP x3),.int .i64 (sinP x3),.int .i64 (valP x3)] 128)) #[.int .i64 0,.int .i64 0,.int .i64 0] 141)
 have HB:=hid (Joins.below_alloc2 w (.cells #[.int .i64 x1,.int .i64 x2,.int .i64 (numP x3),.int .i64 (sinP x3),.int .i64 (valP x3)] 128) (.cells #[.int .i64 0,.int .i64 0,.int .i64 0] 141))
 have hgt:=World.block_lt_of_cell? _ _ hc
 have HC:=hid ((Below.cell (p:=⟨gT,i,none⟩) HB.out hgt).trans hc)
 clear hc hgt
 go_enter Tryz.func117,Tryz.ntmps117
 go_upto_region 1 with fail
 simp only [ζd]at HR
 generalize (w.alloc (.cells #[.int .i64 x1,.int .i64 x2,.int .i64 (numP x3),.int .i64 (sinP x3),.int .i64 (valP x3)] 128)).alloc (.cells #[.int .i64 0,.int .i64 0,.int .i64 0] 141)=wq at*
 generalize hhx:w.heap.size=hx at HX HR ⊢
 have x0:=HX.out.get 0 rfl
 have x1':=HX.out.get 1 rfl
 have x2':=HX.out.get 2 rfl
 have r0:=HR.out.get 0 rfl
 have r1:=HR.out.get 1 rfl
 have r2:=HR.out.get 2 rfl
 have f0:=HR.out.f 0
 have f1:=HR.out.f 1
 have f2:=HR.out.f 2
 have c0:wq.cell? ⟨gT,((x1-1) / 1000000).toNat,none⟩=some (.pointer (some a)):=by rw [show ((x1-1) / 1000000).toNat=i by have h1:=hs.1;have h2:=hs.2;omega];exact HC.out
 go_region
 have HX2:=hid (((HR.out.set 0 (.int .i64 x1)).set 1 (.int .i64 x2)).set 2 (.int .i64 0))
 have HF:=hid ((((HB.out.setCell (p:=⟨hx+1,0,none⟩) (by show w.heap.size≤hx+1;omega) (.int .i64 x1)).setCell (p:=⟨hx+1,1,none⟩) (by show w.heap.size≤hx+1;omega) (.int .i64 x2)).setCell (p:=⟨hx+1,2,none⟩) (by show w.heap.size≤hx+1;omega) (.int .i64 0)).drew)
 clear r0 r1 r2 f0 f1 f2 x0 x1' x2' c0
 go_wp2_with fail
 have r0:=HX2.out.get 0 (v:= .int .i64 x1) rfl
 have r1:=HX2.out.get 1 (v:= .int .i64 x2) rfl
 have r2:=HX2.out.get 2 (v:= .int .i64 0) rfl
 refine bodyPost_ret (v:= .tuple #[.pointer (some a),.agg #[.int .i64 x1,.int .i64 x2,.int .i64 0]]) (by simp [results,Tryz.results117,go_sem,r0,r1,r2]) rfl ⟨rfl,HF.out⟩
theorem tpkeep_anyq {Rep:RepT}(K:TrK Rep)(gT gM:Nat)(q:Nat→Value)(Fs:Nat→Nat→Prop)(l:Nat→ItL)(m:Int→Option Int)(x1 x2 x3:Int)(w:World)(i:Nat)(H:Tpq Rep w gT gM q Fs l m)(hi:i<4)(hs:inShr i x1)(hl:(l i).length≤1000)(hm:m x1=none):
  Calls Tryz.prog 93 #[.pointer (some ⟨gT,0,none⟩),.agg #[.int .i64 x1,.int .i64 x2,.int .i64 (numP x3),.int .i64 (sinP x3),.int .i64 (valP x3)]] w fun e w'=>
  e= .returned (.tuple #[])∧∃Fs',Tpq Rep w' gT gM q Fs' (updL l i (insL 1000000 (x1,x2,0) (l i))) (updM m x1 (some x3))∧Off (TpF gT gM Fs) w w'∧∀k,TpF gT gM Fs' k→TpF gT gM Fs k∨w.heap.size≤k:=by
 have HK:=hid K
 have HX:=hid (Blk.new w #[.int .i64 x1,.int .i64 x2,.int .i64 (numP x3),.int .i64 (sinP x3),.int .i64 (valP x3)] 128)
 have HB:=hid ((Below.refl w.heap.size w).alloc (Nat.le_refl _) (.cells #[.int .i64 x1,.int .i64 x2,.int .i64 (numP x3),.int .i64 (sinP x3),.int .i64 (valP x3)] 128))
 have HT:=hid (H.keep K.toRepOk HB.out)
 have HLT:=hid (H.lt K.toRepOk)
 have HL:=hid hl
 have HM:=hid hm
 obtain⟨a,hqa,hca⟩:=HT.out.cells hi
 have HQA:=hid hqa
 have HP:=hid (ζ43 gT i x1 x2 x3 a _ hi hs hca)
 have x0:=HX.out.get 0 rfl
 have y1:=HX.out.get 1 rfl
 have y2:=HX.out.get 2 rfl
 have y3:=HX.out.get 3 rfl
 have y4:=HX.out.get 4 rfl
 clear K H hl hm hqa hca
 go_enter Tryz.func93,Tryz.ntmps93
 go_wp2_with fail
 generalize w.alloc (.cells #[.int .i64 x1,.int .i64 x2,.int .i64 (numP x3),.int .i64 (sinP x3),.int .i64 (valP x3)] 128)=wq at*
 generalize hhx:w.heap.size=hx at HX x0 y1 y2 y3 y4 ⊢
 have HHX:=hid hhx
 clear hhx
 refine HP.out.mono ?_
 rintro e w1 ⟨rfl,b1⟩
 have HB1:=hid (b1.alloc b1.size (.cells #[.int .i64 x1,.int .i64 x2,.int .i64 0] 141))
 have HI1:=Blk.new w1 #[.int .i64 x1,.int .i64 x2,.int .i64 0] 141
 have i0:=HI1.get 0 rfl
 have i1:=HI1.get 1 rfl
 have i2:=HI1.get 2 rfl
 have HT1:=hid (HT.out.keep HK.out.toRepOk HB1.out)
 have HX1:=hid (HX.out.keep HB1.out)
 have HS1:=hid HX.out.sz
 have HIN:=hid (HK.out.insert _ (q i) (Fs i) 1000000 (l i) (x1,x2,0) (HT1.out.tr i hi) HL.out)
 rw [HQA.out]at HIN
 clear b1 HI1 x0 y1 y2 y3 y4 HP
 go_wp2_with fail
 refine HIN.out.mono ?_
 rintro e w2 ⟨F',rfl,hr2,ho2,hF2⟩
 have HT2:=hid (HT1.out.tree HK.out.toRepOk hi (by rw [HQA.out];exact hr2) ho2 hF2)
 have HO2:=hid ho2
 have HF2:=hid hF2
 have HX2:=hid (ho2.blk HX1.out (fun e=>by have h1:=HLT.out hx (TpF.sub hi e);have h2:=HHX.out;omega))
 have c4:=HT2.out.map_cell
 have x0:=HX2.out.get 0 rfl
 have x2':=HX2.out.get 2 rfl
 clear HIN hr2 ho2 hF2 i0 i1 i2
 go_upto_region 3 with fail
 refine ζ3 9 (fun S val wx=>VVs 9 [(· = .pointer (some ⟨gT,0,none⟩)),(· = .pointer (some ⟨gT,0,none⟩)),(· = .pointer (some ⟨gT,4,none⟩)),(· = .map (some gM)),(· = .pointer (some ⟨hx,0,none⟩)),(· = .int .i64 x1),(· = .pointer (some ⟨hx,2,none⟩)),(· = .agg #[.int .i64 (numP x3),.int .i64 (sinP x3),.int .i64 (valP x3)]),(· = .agg #[.int .i64 (numP x3),.int .i64 (sinP x3),.int .i64 (valP x3)])] S val∧Clo [[],[0],[1],[2],[],[4],[],[6],[7]] S∧wx=w2.drew) [0,1,2,4,6,8] (by kernel_rfl) (by kernel_rfl) ⟨VVs.start,Clo.start,rfl⟩ ⟨?_,?_,?_,?_,?_,?_,?_,?_,?_,trivial⟩ ?_
 ·exact qU [0]
 ·exact qU []
 ·exact qU []
 ·refine qM fun ev wv S val hE hV hK hw hS hd=> ?_
  have kx:wv.cell? ⟨gT,4,none⟩=some (.map (some gM)):=by rw [hw];exact HT2.out.map_cell
  exact qE [] hE hV hd
 ·exact qU [3]
 ·refine qM fun ev wv S val hE hV hK hw hS hd=> ?_
  have kx:wv.cell? ⟨hx,0,none⟩=some (.int .i64 x1):=by rw [hw];exact HX2.out.get 0 rfl
  exact qE [] hE hV hd
 ·exact qU [3]
 ·refine qM fun ev wv S val hE hV hK hw hS hd=> ?_
  have kx:wv.cell? ⟨hx,2,none⟩=some (.int .i64 (numP x3)):=by rw [hw];exact HX2.out.get 2 rfl
  have kx3:wv.cell? ⟨hx,3,none⟩=some (.int .i64 (sinP x3)):=by rw [hw];exact HX2.out.get 3 rfl
  have kx4:wv.cell? ⟨hx,4,none⟩=some (.int .i64 (valP x3)):=by rw [hw];exact HX2.out.get 4 rfl
  exact qE [] hE hV hd
 ·exact qU []
 ·rintro S val wz hS ⟨hV,hK,hw⟩
  have e1:val 1= .pointer (some ⟨gT,0,none⟩):=hV 1 (by decide) (hS 1 (by decide))
  have e2:val 2= .pointer (some ⟨gT,4,none⟩):=hV 2 (by decide) (hS 2 (by decide))
  have e3:val 3= .map (some gM):=hV 3 (by decide) (hS 3 (by decide))
  refine finL hV hS ?_
  rintro _ ⟨-,rfl⟩-v1 ⟨h1,-⟩-v2 ⟨h2,-⟩-v3 ⟨h3,-⟩-
  iterate 5 rintro _ ⟨-,rfl⟩-
  simp only [zA]
  simp only [h1.trans e1,h2.trans e2,h3.trans e3]
  clear hV h1 e1 v1 h2 e2 v2 h3 e3 v3
  change wpList Tryz.prog _ _ _ _ wz
  have hmp:MapIq wz gM m:=by rw [hw];exact HT2.out.mp.of_eq rfl
  have HTZ:=hid (HT2.out.keep HK.out.toRepOk (w':=wz) (by rw [hw];exact(Below.refl _ _).drew))
  have HBZ:=hid (show Below w2.heap.size w2 wz by rw [hw];exact(Below.refl _ _).drew)
  refine wpl_mapputq rfl _ _ _ rfl x1 x3 rfl hmp HM.out rfl rfl ?_
  intro w3 hm3 ho3 hs3
  have HT3:=hid (HTZ.out.map_ HK.out.toRepOk hm3 ho3)
  have HO3:=hid ho3
  clear hm3 ho3 hw hmp hS hK
  refine ζ2 ?_
  simp only [Act.put]
  go_wp2_with fail
  go_end0
  refine⟨rfl,updB Fs i F',HT3.out,?_,?_⟩
  ·refine(Off.of (F:=TpF gT gM Fs) HB.out).trans ((Off.of (F:=TpF gT gM Fs) HB1.out).trans ((HO2.out.mono fun k _ hk=>TpF.sub hi hk).trans ((Off.of (F:=TpF gT gM Fs) HBZ.out).trans (HO3.out.mono fun k _ hk=> .inr (.inl hk)))))
  ·exact TpF.upd hi fun k hk=>(HF2.out k hk).imp_right fun h=>by have h1:=HB.out.size;have h2:=HB1.out.size;have h3:=HHX.out;omega
theorem tpdrop_anyq {Rep:RepT}(K:TrK Rep)(gT gM:Nat)(q:Nat→Value)(Fs:Nat→Nat→Prop)(l:Nat→ItL)(m:Int→Option Int)(x1 x2 x3:Int)(w:World)(i:Nat)(H:Tpq Rep w gT gM q Fs l m)(hi:i<4)(hs:inShr i x1)(hl:(l i).length≤1000)(hm:m x1=some x3):
  Calls Tryz.prog 92 #[.pointer (some ⟨gT,0,none⟩),.agg #[.int .i64 x1,.int .i64 x2,.int .i64 (numP x3),.int .i64 (sinP x3),.int .i64 (valP x3)]] w fun e w'=>
  e= .returned (.tuple #[])∧∃Fs',Tpq Rep w' gT gM q Fs' (updL l i (delL (x1,x2,0) (l i))) (updM m x1 none)∧Off (TpF gT gM Fs) w w'∧∀k,TpF gT gM Fs' k→TpF gT gM Fs k∨w.heap.size≤k:=by
 have HK:=hid K
 have HX:=hid (Blk.new w #[.int .i64 x1,.int .i64 x2,.int .i64 (numP x3),.int .i64 (sinP x3),.int .i64 (valP x3)] 128)
 have HB:=hid ((Below.refl w.heap.size w).alloc (Nat.le_refl _) (.cells #[.int .i64 x1,.int .i64 x2,.int .i64 (numP x3),.int .i64 (sinP x3),.int .i64 (valP x3)] 128))
 have HT:=hid (H.keep K.toRepOk HB.out)
 have HLT:=hid (H.lt K.toRepOk)
 have HL:=hid hl
 have HM:=hid hm
 obtain⟨a,hqa,hca⟩:=HT.out.cells hi
 have HQA:=hid hqa
 have HP:=hid (ζ43 gT i x1 x2 x3 a _ hi hs hca)
 have x0:=HX.out.get 0 rfl
 have y1:=HX.out.get 1 rfl
 have y2:=HX.out.get 2 rfl
 have y3:=HX.out.get 3 rfl
 have y4:=HX.out.get 4 rfl
 clear K H hl hm hqa hca
 go_enter Tryz.func92,Tryz.ntmps92
 go_wp2_with fail
 generalize w.alloc (.cells #[.int .i64 x1,.int .i64 x2,.int .i64 (numP x3),.int .i64 (sinP x3),.int .i64 (valP x3)] 128)=wq at*
 generalize hhx:w.heap.size=hx at HX x0 y1 y2 y3 y4 ⊢
 have HHX:=hid hhx
 clear hhx
 refine HP.out.mono ?_
 rintro e w1 ⟨rfl,b1⟩
 have HB1:=hid (b1.alloc b1.size (.cells #[.int .i64 x1,.int .i64 x2,.int .i64 0] 141))
 have HI1:=Blk.new w1 #[.int .i64 x1,.int .i64 x2,.int .i64 0] 141
 have i0:=HI1.get 0 rfl
 have i1:=HI1.get 1 rfl
 have i2:=HI1.get 2 rfl
 have HT1:=hid (HT.out.keep HK.out.toRepOk HB1.out)
 have HX1:=hid (HX.out.keep HB1.out)
 have HS1:=hid HX.out.sz
 have HIN:=hid (HK.out.delete _ (q i) (Fs i) 1000000 (l i) (x1,x2,0) (HT1.out.tr i hi) HL.out)
 rw [HQA.out]at HIN
 clear b1 HI1 x0 y1 y2 y3 y4 HP
 go_wp2_with fail
 refine HIN.out.mono ?_
 rintro e w2 ⟨F',rfl,hr2,ho2,hF2⟩
 have HT2:=hid (HT1.out.tree HK.out.toRepOk hi (by rw [HQA.out];exact hr2) ho2 hF2)
 have HO2:=hid ho2
 have HF2:=hid hF2
 have HX2:=hid (ho2.blk HX1.out (fun e=>by have h1:=HLT.out hx (TpF.sub hi e);have h2:=HHX.out;omega))
 have c4:=HT2.out.map_cell
 have x0:=HX2.out.get 0 rfl
 have x2':=HX2.out.get 2 rfl
 clear HIN hr2 ho2 hF2 i0 i1 i2
 go_upto_region 3 with fail
 refine ζ3 6 (fun S val wx=>VVs 6 [(· = .pointer (some ⟨gT,0,none⟩)),(· = .pointer (some ⟨gT,0,none⟩)),(· = .pointer (some ⟨gT,4,none⟩)),(· = .map (some gM)),(· = .pointer (some ⟨hx,0,none⟩)),(· = .int .i64 x1)] S val∧Clo [[],[0],[1],[2],[],[4]] S∧wx=w2.drew) [0,1,2,4] (by kernel_rfl) (by kernel_rfl) ⟨VVs.start,Clo.start,rfl⟩ ⟨?_,?_,?_,?_,?_,?_,trivial⟩ ?_
 ·exact qU [0]
 ·exact qU []
 ·exact qU []
 ·refine qM fun ev wv S val hE hV hK hw hS hd=> ?_
  have kx:wv.cell? ⟨gT,4,none⟩=some (.map (some gM)):=by rw [hw];exact HT2.out.map_cell
  exact qE [] hE hV hd
 ·exact qU [3]
 ·refine qM fun ev wv S val hE hV hK hw hS hd=> ?_
  have kx:wv.cell? ⟨hx,0,none⟩=some (.int .i64 x1):=by rw [hw];exact HX2.out.get 0 rfl
  exact qE [] hE hV hd
 ·rintro S val wz hS ⟨hV,hK,hw⟩
  have e1:val 1= .pointer (some ⟨gT,0,none⟩):=hV 1 (by decide) (hS 1 (by decide))
  have e2:val 2= .pointer (some ⟨gT,4,none⟩):=hV 2 (by decide) (hS 2 (by decide))
  have e3:val 3= .map (some gM):=hV 3 (by decide) (hS 3 (by decide))
  refine finL hV hS ?_
  rintro _ ⟨-,rfl⟩-v1 ⟨h1,-⟩-v2 ⟨h2,-⟩-v3 ⟨h3,-⟩-_ ⟨-,rfl⟩-_ ⟨-,rfl⟩-
  simp only [zA]
  simp only [h1.trans e1,h2.trans e2,h3.trans e3]
  clear hV h1 e1 v1 h2 e2 v2 h3 e3 v3
  change wpList Tryz.prog _ _ _ _ wz
  have hmp:MapIq wz gM m:=by rw [hw];exact HT2.out.mp.of_eq rfl
  have HTZ:=hid (HT2.out.keep HK.out.toRepOk (w':=wz) (by rw [hw];exact(Below.refl _ _).drew))
  have HBZ:=hid (show Below w2.heap.size w2 wz by rw [hw];exact(Below.refl _ _).drew)
  refine wpl_mapdelq rfl _ _ rfl x1 x3 rfl hmp HM.out rfl ?_
  intro w3 hm3 ho3 hs3
  have HT3:=hid (HTZ.out.map_ HK.out.toRepOk hm3 ho3)
  have HO3:=hid ho3
  clear hm3 ho3 hw hmp hS hK
  refine ζ2 ?_
  simp only [Act.put]
  go_wp2_with fail
  go_end0
  refine⟨rfl,updB Fs i F',HT3.out,?_,?_⟩
  ·refine(Off.of (F:=TpF gT gM Fs) HB.out).trans ((Off.of (F:=TpF gT gM Fs) HB1.out).trans ((HO2.out.mono fun k _ hk=>TpF.sub hi hk).trans ((Off.of (F:=TpF gT gM Fs) HBZ.out).trans (HO3.out.mono fun k _ hk=> .inr (.inl hk)))))
  ·exact TpF.upd hi fun k hk=>(HF2.out k hk).imp_right fun h=>by have h1:=HB.out.size;have h2:=HB1.out.size;have h3:=HHX.out;omega
end Go.Proofs.YthagdonmijhpdaaGreat
namespace Corr
open Go Go.RowKit
theorem TpQq.more {Rep:RepT} {w:World} {p:Value} {F:Nat→Prop} {n n':Nat} {Q:It→Prop}(h:TpQq Rep w p F n Q)(hn:n≤n'):TpQq Rep w p F n' Q:=by
 obtain⟨gT,gM,q,Fs,l,m,h1,h2,h3,h4,h5,h6⟩:=h
 exact⟨gT,gM,q,Fs,l,m,h1,h2,h3,h4,h5,fun i hi=>Nat.le_trans (h6 i hi) hn⟩
end Corr
namespace Go.Proofs.YthagdonmijhpdaaGreat
open Go.RowKit Corr
theorem tpq_keepq {Rep:RepT}(K:TrK Rep) {w:World} {p:Value} {F:Nat→Prop} {n:Nat} {Q:It→Prop}(H:TpQq Rep w p F n Q)(hn:n≤1000)(x:It)(h1:1≤x.1)(h2:x.1<x.2.1)(h3:x.2.1≤3652060)(hf: ∀y,Q y→¬y.1=x.1):
  Calls Tryz.prog 93 #[p,.agg #[.int .i64 x.1,.int .i64 x.2.1,.int .i64 (numP x.2.2),.int .i64 (sinP x.2.2),.int .i64 (valP x.2.2)]] w fun e w'=>∃F',e= .returned (.tuple #[])∧TpQq Rep w' p F' (n+1) (fun y=>Q y∨y=x)∧Off F w w'∧∀k,F' k→F k∨w.heap.size≤k:=by
 obtain⟨gT,gM,q,Fs,l,m,rfl,HT,rfl,k1,k2,k3⟩:=H
 obtain⟨i,hi,hs,_⟩:=shr_lt h1 (by omega)
 refine(tpkeep_anyq K gT gM q Fs l m x.1 x.2.1 x.2.2 w i HT hi hs (Nat.le_trans (k3 i hi) hn) ?_).mono fun e w' hr=> ?_
 ·cases hm:m x.1 with
  | none=>rfl
  | some v=>
   obtain⟨b,hb⟩:=(k2 x.1 v).1 hm
   exact absurd rfl (hf (x.1,b,v) hb)
 ·obtain⟨he,Fs',g1,g2,g3⟩:=hr
  refine⟨_,he,⟨gT,gM,q,Fs',_,_,rfl,g1,rfl,k1.keep hi hs h2 (by have:=k3 i hi;omega),k2.keep hf,fun j hj=> ?_⟩,g2,g3⟩
  unfold updL
  split
  ·have h4:=insL_len 1000000 (x.1,x.2.1,0) (l i)
   have:=k3 i hi;omega
  ·have:=k3 j hj;omega
theorem tpq_dropq {Rep:RepT}(K:TrK Rep) {w:World} {p:Value} {F:Nat→Prop} {n:Nat} {Q:It→Prop}(H:TpQq Rep w p F n Q)(hn:n≤1000)(x:It)(hq:SubQ Q)(hx:Q x):
  Calls Tryz.prog 92 #[p,.agg #[.int .i64 x.1,.int .i64 x.2.1,.int .i64 (numP x.2.2),.int .i64 (sinP x.2.2),.int .i64 (valP x.2.2)]] w fun e w'=>∃F',e= .returned (.tuple #[])∧TpQq Rep w' p F' n (fun y=>Q y∧¬y=x)∧Off F w w'∧∀k,F' k→F k∨w.heap.size≤k:=by
 obtain⟨gT,gM,q,Fs,l,m,rfl,HT,rfl,k1,k2,k3⟩:=H
 obtain⟨g,hg⟩:=hq
 have px:=hg x hx
 obtain⟨i,hi,hs,_⟩:=shr_lt px.lo (by have:=px.lt;have:=px.hi;omega)
 refine(tpdrop_anyq K gT gM q Fs l m x.1 x.2.1 x.2.2 w i HT hi hs (Nat.le_trans (k3 i hi) hn) ((k2 _ _).2 ⟨_,hx⟩)).mono fun e w' hr=> ?_
 obtain⟨he,Fs',g1,g2,g3⟩:=hr
 refine⟨_,he,⟨gT,gM,q,Fs',_,_,rfl,g1,rfl,k1.drop ⟨g,hg⟩ hi hs hx,k2.drop ⟨g,hg⟩ hx,fun j hj=> ?_⟩,g2,g3⟩
 unfold updL
 split
 ·have h4:=delL_len (x.1,x.2.1,0) (l i)
  have:=k3 i hi;omega
 ·exact k3 j hj
section
variable {Rep:RepT} {F0:Nat→Prop} {w0 w:World} {ts:List Thing} {i n:Nat} {p:Value} {Q:It→Prop}
theorem sepf_keepq (K:TrK Rep)(h:SepF F0 w0 ts w)(hi:ts[i]? =some (tpTq K.toRepOk p n Q))(hn:n≤1000)(x:It)(h1:1≤x.1)(h2:x.1<x.2.1)(h3:x.2.1≤3652060)(hf: ∀y,Q y→¬y.1=x.1):
  Calls Tryz.prog 93 #[p,.agg #[.int .i64 x.1,.int .i64 x.2.1,.int .i64 (numP x.2.2),.int .i64 (sinP x.2.2),.int .i64 (valP x.2.2)]] w fun e w'=>e= .returned (.tuple #[])∧SepF F0 w0 (ts.set i (tpTq K.toRepOk p (n+1) (fun y=>Q y∨y=x))) w':=by
 obtain⟨F,hp,_,hu⟩:=h.get hi
 refine(tpq_keepq K hp hn x h1 h2 h3 hf).mono fun e w' hq=> ?_
 obtain⟨F',he,g1,g2,g3⟩:=hq
 exact⟨he,hu w' F' _ g2 g1 g3⟩
theorem sepf_dropq (K:TrK Rep)(h:SepF F0 w0 ts w)(hi:ts[i]? =some (tpTq K.toRepOk p n Q))(hn:n≤1000)(x:It)(hq:SubQ Q)(hx:Q x):
  Calls Tryz.prog 92 #[p,.agg #[.int .i64 x.1,.int .i64 x.2.1,.int .i64 (numP x.2.2),.int .i64 (sinP x.2.2),.int .i64 (valP x.2.2)]] w fun e w'=>e= .returned (.tuple #[])∧SepF F0 w0 (ts.set i (tpTq K.toRepOk p n (fun y=>Q y∧¬y=x))) w':=by
 obtain⟨F,hp,_,hu⟩:=h.get hi
 refine(tpq_dropq K hp hn x hq hx).mono fun e w' hr=> ?_
 obtain⟨F',he,g1,g2,g3⟩:=hr
 exact⟨he,hu w' F' _ g2 g1 g3⟩
theorem sepf_piecesq (K:TrK Rep)(h:SepF F0 w0 ts w)(hi:ts[i]? =some (tpTq K.toRepOk p n Q))(hn:n≤1000)(hq:SubQ Q)(a b:Int):Calls Tryz.prog 66 #[p,.agg #[.int .i64 a,.int .i64 b]] w (RetPcq 128 w Q n a b):=by
 obtain⟨F,hp,_,_⟩:=h.get hi
 exact ζ4s K hp hn hq a b
end
theorem ne_put_no (y:Int)(h:y=0)(w:World):(binOp BinOp.neq 78 (.agg #[.int .i64 (numP y),.int .i64 (sinP y),.int .i64 (valP y)]) (.agg #[.int .i64 0,.int .i64 0,.int .i64 0])).run Tryz.prog w= .ok (.bool false) w:=by
 have h1:numP y=0:=by rw [h];exact c_zero.1
 have h2:sinP y=0:=by rw [h];exact c_zero.2.1
 have h3:valP y=0:=by rw [h];exact c_zero.2.2
 clear h
 go_simp
theorem ne_put_yes (y:Int)(h: ¬y=0)(w:World):(binOp BinOp.neq 78 (.agg #[.int .i64 (numP y),.int .i64 (sinP y),.int .i64 (valP y)]) (.agg #[.int .i64 0,.int .i64 0,.int .i64 0])).run Tryz.prog w= .ok (.bool true) w:=by
 have h0: ¬(numP y=0∧sinP y=0∧valP y=0):=fun e=>h (c_inj (e.1.trans c_zero.1.symm) (e.2.1.trans c_zero.2.1.symm) (e.2.2.trans c_zero.2.2.symm))
 go_simp
 by_cases h1:numP y=0 <;> by_cases h2:sinP y=0 <;> by_cases h3:valP y=0 <;> simp_all
set_option maxRecDepth 100000 in
theorem tpput_yesq {Rep:RepT}(K:TrK Rep)(gT:Nat)(F:Nat→Prop)(n:Nat)(f:Int→Int)(a b v:Int)(w:World)(H:TpQq Rep w (.pointer (some ⟨gT,0,none⟩)) F n (pcI f))(ho:offF f)(hn:n≤900)(hm:mayB a b=true):Calls Tryz.prog 71 #[.pointer (some ⟨gT,0,none⟩),.agg #[.int .i64 a,.int .i64 b],.agg #[.int .i64 (numP v),.int .i64 (sinP v),.int .i64 (valP v)]] w fun e w'=>
  ∃F':Nat→Prop,e= .returned (.int .i64 0)∧TpQq Rep w' (.pointer (some ⟨gT,0,none⟩)) F' (n+3) (pcI (updF f a b v))∧Off F w w'∧∀k,F' k→F k∨w.heap.size≤k:=by
 obtain⟨m1,m2,m3⟩:=mayB_iff.1 hm
 have HK:=hid K
 have HM:=hid hm
 have HOF:=hid ho
 obtain⟨gM,hc⟩:=H.map_at
 have hb:=Joins.below_alloc2 w (.cells #[.int .i64 a,.int .i64 b] 24) (.cells #[.int .i64 (numP v),.int .i64 (sinP v),.int .i64 (valP v)] 78)
 have HC:=hid ((Below.cell (p:=⟨gT,4,none⟩) hb (World.block_lt_of_cell? _ _ hc)).trans hc)
 have hs0:=((SepF.start (t:=tpTq HK.out.toRepOk (.pointer (some ⟨gT,0,none⟩)) n (pcI f)) H).push #[.int .i64 a,.int .i64 b] 24).push #[.int .i64 (numP v),.int .i64 (sinP v),.int .i64 (valP v)] 78
 rw [ζd]at hs0
 have HS0:=hid (show SepF F w [tpTq HK.out.toRepOk (.pointer (some ⟨gT,0,none⟩)) n (pcI f),blkT w.heap.size #[.int .i64 a,.int .i64 b],blkT (w.heap.size+1) #[.int .i64 (numP v),.int .i64 (sinP v),.int .i64 (valP v)]] _ from hs0)
 have x0:=(HS0.out.b 1 rfl).get 0 rfl
 have x1:=(HS0.out.b 1 rfl).get 1 rfl
 clear K H ho hm hb hc hs0
 go_enter Tryz.func71,Tryz.ntmps71
 go_wp2_with fail
 refine(ζ3a gT gM _ HC.out).mono ?_
 rintro e w1 ⟨rfl,rfl⟩
 go_wp2_with fail
 refine(ζ1u a b _).mono ?_
 rintro e w2 ⟨rfl,b2⟩
 rw [HM.out]
 have hs2:=HS0.out.keep b2
 have HS2:=hid hs2
 have x0:=(hs2.b 1 rfl).get 0 rfl
 have x1:=(hs2.b 1 rfl).get 1 rfl
 clear b2 hs2 HS0 HC
 go_wp2_with fail
 refine(sepf_piecesq HK.out HS2.out (i:=0) rfl (by omega) ⟨f,fun _ h=>h⟩ (a-1) (b+1)).mono ?_
 rintro e w4 ⟨L,A,N,c,rfl,r1,r2,r3,r4,b4⟩
 have HR1:=hid r1
 have HR2:=hid (show ∀x,x∈L↔pcI f x∧tchI a b x from fun x=>by
  rw [r2 x]
  constructor
  ·rintro⟨p,_,p2,p3⟩;exact⟨p,by omega,by omega⟩
  ·rintro⟨p,p2,p3⟩;exact⟨p,by omega,by omega,by omega⟩)
 have HPP:=hid (put_pc (v:=v) HOF.out HM.out HR1.out HR2.out)
 have HLN:=hid (ζ3c r4)
 have hNL:N≤3600:=by have:=ζ3c r4;omega
 have hs4:=HS2.out.addRow r4 (ζ1c r4) b4
 have HS4:=hid (show SepF F w [tpTq HK.out.toRepOk (.pointer (some ⟨gT,0,none⟩)) n (pcI f),blkT w.heap.size #[.int .i64 a,.int .i64 b],blkT (w.heap.size+1) #[.int .i64 (numP v),.int .i64 (sinP v),.int .i64 (valP v)],rowT w2.heap.size 128 5 A N c (ζ7 L)] w4 from hs4)
 clear r1 r2 r3 r4 b4 x0 x1 HS2 hs4
 go_wp2_with fail
 refine(layto_anyq _ _).mono ?_
 rintro e w5 ⟨rfl,rfl⟩
 have hs5:=HS4.out.layq 128 71 126
 have HS5:=hid (show SepF F w [tpTq HK.out.toRepOk (.pointer (some ⟨gT,0,none⟩)) n (pcI f),blkT w.heap.size #[.int .i64 a,.int .i64 b],blkT (w.heap.size+1) #[.int .i64 (numP v),.int .i64 (sinP v),.int .i64 (valP v)],rowT w2.heap.size 128 5 A N c (ζ7 L),layTq 128 (w4.heap.size+1) w4.heap.size []] _ from hs5)
 have hz5:(w4.alloc (.cells #[.slice none 0 0] 71)).heap.size=w4.heap.size+1:=by simp
 rw [hz5]
 generalize (w4.alloc (.cells #[.slice none 0 0] 71)).alloc (.cells #[.pointer (some ⟨w4.heap.size,0,none⟩)] 126)=w5 at*
 obtain⟨gB,hgB⟩: ∃k,w4.heap.size+1=k:=⟨_,rfl⟩
 obtain⟨gL,hgL⟩: ∃k,w4.heap.size=k:=⟨_,rfl⟩
 obtain⟨B2,hB2⟩: ∃k,w2.heap.size=k:=⟨_,rfl⟩
 obtain⟨gv,hgv⟩: ∃k,w.heap.size+1=k:=⟨_,rfl⟩
 obtain⟨gs,hgs⟩: ∃k,w.heap.size=k:=⟨_,rfl⟩
 rw [hgB]at HS5 ⊢
 rw [hgL]at HS5 ⊢
 rw [hB2,hgv,hgs]at HS5
 rw [hgv,hgs]
 have HGS:=hid hgs
 clear hs5 hz5 HS4 hgB hgL hB2 hgs hgv
 go_wp2_with fail
 go_loopw [35] (fun u wr=>∃k:Nat,u= .int .i64 (k:Int)∧k≤N∧Hid (SepF F w [tpTq HK.out.toRepOk (.pointer (some ⟨gT,0,none⟩)) n (fun y=>pcI f y∧¬y∈L.take k),blkT gs #[.int .i64 a,.int .i64 b],blkT gv #[.int .i64 (numP v),.int .i64 (sinP v),.int .i64 (valP v)],rowT B2 128 5 A N c (ζ7 L),layTq 128 gB gL ((L.take k).foldl (fun l x=>layL l x.1 a x.2.2) [])] wr)) (fun u _=>(N-intOf u).toNat)
 case atStart=>
  refine⟨0,rfl,by omega,hid ?_⟩
  have e:(fun y=>pcI f y∧¬y∈L.take 0)=pcI f:=by
   funext y
   rw [List.take_zero]
   exact propext ⟨fun h=>h.1,fun h=>⟨h,List.not_mem_nil⟩⟩
  rw [e]
  exact HS5.out
 case round=>
  obtain⟨k,rfl,hk,HS⟩:=hrel
  clear HS5
  have x0:=(HS.out.b 1 rfl).get 0 rfl
  have x1:=(HS.out.b 1 rfl).get 1 rfl
  by_cases hlt:k<N
  ·obtain⟨g,⟨y1,y2,y3⟩,rfl,hx,k0,k1,k2,k3,k4⟩:=ζ2u (HS.out.row 3 rfl) hlt
   have HX:=hid hx
   have hs6:=HS.out.push #[.int .i64 y1,.int .i64 y2,.int .i64 (numP y3),.int .i64 (sinP y3),.int .i64 (valP y3)] 128
   have HS6:=hid hs6
   have z0:=(hs6.b 5 rfl).get 0 rfl
   have z1:=(hs6.b 5 rfl).get 1 rfl
   have z2:=(hs6.b 5 rfl).get 2 rfl
   have z3:=(hs6.b 5 rfl).get 3 rfl
   have z4:=(hs6.b 5 rfl).get 4 rfl
   have hQx:(fun y=>pcI f y∧¬y∈L.take k) (y1,y2,y3):=⟨((HR2.out _).1 (List.mem_of_getElem? hx)).1,rise_not HR1.out hx⟩
   have HDR:=hid (sepf_dropq HK.out HS6.out (i:=0) rfl (by omega) (y1,y2,y3) ⟨f,fun _ h=>h.1⟩ hQx)
   clear hx hs6 hQx
   go_wp2_with fail
   refine HDR.out.mono ?_
   rintro e w7 ⟨rfl,hs7⟩
   rw [drop_step HX.out]at hs7
   have HS7:=hid hs7
   have z0:=(hs7.b 5 rfl).get 0 rfl
   have z2:=(hs7.b 5 rfl).get 2 rfl
   have z3:=(hs7.b 5 rfl).get 3 rfl
   have z4:=(hs7.b 5 rfl).get 4 rfl
   have u0:=(hs7.b 1 rfl).get 0 rfl
   clear hs7 HDR
   go_wp2_with fail
   refine(ζ2y HS7.out (i:=4) rfl (by have:=ζs a (L.take k) [];rw [List.length_take]at this;have:([]:ItL).length=0:=rfl;omega) y1 a y3).mono ?_
   rintro e w8 ⟨rfl,hs8⟩
   have hs8:=hs8.take 5
   have HE:=hid (ζ1n (g:=fun l x=>layL l x.1 a x.2.2) (z:= []) HX.out)
   have HS8:=hid hs8
   clear hs8
   go_wp2_with fail
   go_roundw
   case rel=>exact⟨k+1,by go_num,by omega,hid (by rw [HE.out];exact HS8.out)⟩
   case measure=>simp [intOf];omega
  ·have hkN:k=N:=by omega
   have HTK:=hid (show L.take k=L from List.take_of_length_le (by rw [HLN.out];omega))
   have HS6:=hid (show SepF F w [tpTq HK.out.toRepOk (.pointer (some ⟨gT,0,none⟩)) n (fun y=>pcI f y∧¬y∈L),blkT gs #[.int .i64 a,.int .i64 b],blkT gv #[.int .i64 (numP v),.int .i64 (sinP v),.int .i64 (valP v)],rowT B2 128 5 A N c (ζ7 L),layTq 128 gB gL (leftL a L)] wr by have:=HS.out;rw [HTK.out]at this;exact this)
   clear HS hkN
   have xv0:=(HS6.out.b 2 rfl).get 0 rfl
   have xv1:=(HS6.out.b 2 rfl).get 1 rfl
   have xv2:=(HS6.out.b 2 rfl).get 2 rfl
   go_wp2_with fail
   refine(ζ2y HS6.out (i:=4) rfl (by have:(leftL a L).length≤([]:ItL).length+L.length:=ζs a L [];have h2:=HLN.out;have h3:([]:ItL).length=0:=rfl;omega) a b v).mono ?_
   rintro e w7 ⟨rfl,hs7⟩
   have HS7:=hid (show SepF F w [tpTq HK.out.toRepOk (.pointer (some ⟨gT,0,none⟩)) n (fun y=>pcI f y∧¬y∈L),blkT gs #[.int .i64 a,.int .i64 b],blkT gv #[.int .i64 (numP v),.int .i64 (sinP v),.int .i64 (valP v)],rowT B2 128 5 A N c (ζ7 L),layTq 128 gB gL (midL a b v L)] w7 from hs7)
   clear hs7 HS6 x0 x1 hlt xv0 xv1 xv2
   go_wp2_with fail
   go_loopw [60] (fun u wr=>∃k:Nat,u= .int .i64 (k:Int)∧k≤N∧Hid (SepF F w [tpTq HK.out.toRepOk (.pointer (some ⟨gT,0,none⟩)) n (fun y=>pcI f y∧¬y∈L),blkT gs #[.int .i64 a,.int .i64 b],blkT gv #[.int .i64 (numP v),.int .i64 (sinP v),.int .i64 (valP v)],rowT B2 128 5 A N c (ζ7 L),layTq 128 gB gL ((L.take k).foldl (fun l x=>layL l b x.2.1 x.2.2) (midL a b v L))] wr)) (fun u _=>(N-intOf u).toNat)
   case atStart=>exact⟨0,rfl,by omega,hid (by rw [List.take_zero];exact HS7.out)⟩
   case round=>
    obtain⟨k,rfl,hk,HS⟩:=hrel
    clear HS7
    have HML:=hid (show (midL a b v L).length≤3601 by
     have h1:(leftL a L).length≤([]:ItL).length+L.length:=ζs a L []
     have h2:=ζ1j (leftL a L) a b v
     have h3:=HLN.out
     have h4:([]:ItL).length=0:=rfl
     have h5:(midL a b v L).length=(layL (leftL a L) a b v).length:=rfl
     omega)
    have x0:=(HS.out.b 1 rfl).get 0 rfl
    have x1:=(HS.out.b 1 rfl).get 1 rfl
    by_cases hlt:k<N
    ·obtain⟨g,⟨y1,y2,y3⟩,rfl,hx,k0,k1,k2,k3,k4⟩:=ζ2u (HS.out.row 3 rfl) hlt
     have HX:=hid hx
     have hs6:=HS.out.push #[.int .i64 y1,.int .i64 y2,.int .i64 (numP y3),.int .i64 (sinP y3),.int .i64 (valP y3)] 128
     have HS6:=hid hs6
     have z0:=(hs6.b 5 rfl).get 0 rfl
     have z1:=(hs6.b 5 rfl).get 1 rfl
     have z2:=(hs6.b 5 rfl).get 2 rfl
     have z3:=(hs6.b 5 rfl).get 3 rfl
     have z4:=(hs6.b 5 rfl).get 4 rfl
     have u1:=(hs6.b 1 rfl).get 1 rfl
     clear hx hs6
     go_wp2_with fail
     refine(ζ2y HS6.out (i:=4) rfl (by have:=ζ3e b (L.take k) (midL a b v L);rw [List.length_take]at this;have:=HML.out;omega) b y2 y3).mono ?_
     rintro e w8 ⟨rfl,hs8⟩
     have hs8:=hs8.take 5
     have HE:=hid (ζ1n (g:=fun l x=>layL l b x.2.1 x.2.2) (z:=midL a b v L) HX.out)
     have HS8:=hid hs8
     clear hs8
     go_wp2_with fail
     go_roundw
     case rel=>exact⟨k+1,by go_num,by omega,hid (by rw [HE.out];exact HS8.out)⟩
     case measure=>simp [intOf];omega
    ·have hkN:k=N:=by omega
     have HTK:=hid (show L.take k=L from List.take_of_length_le (by rw [HLN.out];omega))
     have hs6:SepF F w [tpTq HK.out.toRepOk (.pointer (some ⟨gT,0,none⟩)) n (fun y=>pcI f y∧¬y∈L),blkT gs #[.int .i64 a,.int .i64 b],blkT gv #[.int .i64 (numP v),.int .i64 (sinP v),.int .i64 (valP v)],rowT B2 128 5 A N c (ζ7 L),layTq 128 gB gL (putO a b v L)] wr:=by have:=HS.out;rw [HTK.out]at this;exact this
     obtain⟨A6,n6,c6,t0,t3,hs7⟩:=sepf_rowq hs6 (i:=4) rfl
     have HS6:=hid (show SepF F w [tpTq HK.out.toRepOk (.pointer (some ⟨gT,0,none⟩)) n (fun y=>pcI f y∧¬y∈L),blkT gs #[.int .i64 a,.int .i64 b],blkT gv #[.int .i64 (numP v),.int .i64 (sinP v),.int .i64 (valP v)],rowT B2 128 5 A N c (ζ7 L),rowT 0 128 5 A6 n6 c6 (ζ7 (putO a b v L))] wr from hs7)
     have hn6:n6≤3:=by have:=HPP.out.2.1;omega
     have HN6:=hid t3
     have hzb:=(Below.refl wr.heap.size wr).alloc (Nat.le_refl _) (.cells #[.int .i64 0,.int .i64 0,.int .i64 0] 78)
     have t0z:=(Below.cell (p:=⟨gL,0,none⟩) hzb (World.block_lt_of_cell? _ _ t0)).trans t0
     obtain⟨gz,hgz⟩: ∃k,wr.heap.size=k:=⟨_,rfl⟩
     have hs6z:=HS6.out.push #[.int .i64 0,.int .i64 0,.int .i64 0] 78
     rw [hgz]at hs6z
     have HS6:=hid hs6z
     have HGZ:=hid hgz
     clear HS hkN hs6 hs7 hs6z hzb hgz t3 x0 x1 t0
     go_wp2_with fail
     rw [HGZ.out]
     clear t0z hlt
     go_loopw [75] (fun u wr=>∃k:Nat,u= .int .i64 (k:Int)∧k≤n6∧Hid (SepF F w [tpTq HK.out.toRepOk (.pointer (some ⟨gT,0,none⟩)) (n+k) (keptQ (fun y=>pcI f y∧¬y∈L) (putO a b v L) k),blkT gs #[.int .i64 a,.int .i64 b],blkT gv #[.int .i64 (numP v),.int .i64 (sinP v),.int .i64 (valP v)],rowT B2 128 5 A N c (ζ7 L),rowT 0 128 5 A6 n6 c6 (ζ7 (putO a b v L)),blkT gz #[.int .i64 0,.int .i64 0,.int .i64 0]] wr)) (fun u _=>(n6-intOf u).toNat)
     case atStart=>exact⟨0,rfl,by omega,hid (by rw [keptQ_zero];exact HS6.out)⟩
     case round=>
      obtain⟨k,rfl,hk,HS⟩:=hrel
      clear HS6
      by_cases hlt:k<n6
      ·obtain⟨g,⟨y1,y2,y3⟩,rfl,hx,k0,k1,k2,k3,k4⟩:=ζ2u (HS.out.row 4 rfl) hlt
       have HX:=hid hx
       have hs6:=HS.out.push #[.int .i64 y1,.int .i64 y2,.int .i64 (numP y3),.int .i64 (sinP y3),.int .i64 (valP y3)] 128
       have HS6:=hid hs6
       have z0:=(hs6.b 6 rfl).get 0 rfl
       have z1:=(hs6.b 6 rfl).get 1 rfl
       have z2:=(hs6.b 6 rfl).get 2 rfl
       have z3:=(hs6.b 6 rfl).get 3 rfl
       have z4:=(hs6.b 6 rfl).get 4 rfl
       have zz0:=(hs6.b 5 rfl).get 0 rfl
       have zz1:=(hs6.b 5 rfl).get 1 rfl
       have zz2:=(hs6.b 5 rfl).get 2 rfl
       have hmem:=List.mem_of_getElem? hx
       have HBD:=hid (HPP.out.2.2.1 _ hmem)
       clear hs6 hx hmem
       by_cases hz:y3=0
       ·have d0:=fun w=>ne_put_no y3 hz w
        have HEQ:=hid (keptQ_no (Q:=fun y=>pcI f y∧¬y∈L) HX.out hz)
        have HS7:=hid ((HS6.out.take 6).as (i:=0) rfl (tpTq HK.out.toRepOk (.pointer (some ⟨gT,0,none⟩)) (n+(k+1)) (keptQ (fun y=>pcI f y∧¬y∈L) (putO a b v L) (k+1))) (fun F' h=>⟨F',by rw [←HEQ.out];exact TpQq.more h (by omega),fun _ h=>h⟩))
        clear hz
        go_wp2_with fail
        go_roundw
        case rel=>exact⟨k+1,by go_num,by omega,HS7⟩
        case measure=>simp [intOf];omega
       ·have d0:=fun w=>ne_put_yes y3 hz w
        have HEQ:=hid (keptQ_yes (Q:=fun y=>pcI f y∧¬y∈L) HX.out hz)
        have HKP:=hid (sepf_keepq HK.out HS6.out (i:=0) rfl (by omega) (y1,y2,y3) HBD.out.1 HBD.out.2.1 HBD.out.2.2 (fun y hy=>kept_new HPP.out.1 HPP.out.2.2.2.1 HPP.out.2.2.2.2 HX.out hz hy))
        clear hz
        go_wp2_with fail
        refine HKP.out.mono ?_
        rintro e w7 ⟨rfl,hs7⟩
        rw [HEQ.out]at hs7
        have HS7:=hid (hs7.take 6)
        clear hs7 HKP
        go_wp2_with fail
        go_roundw
        case rel=>exact⟨k+1,by go_num,by omega,HS7⟩
        case measure=>simp [intOf];omega
      ·obtain rfl:k=n6:=by omega
       have HEQ:=hid (keptQ_all (k:=k) (Nat.le_of_eq HN6.out) HPP.out.2.2.2.2)
       go_wp2_with fail
       go_ret
       obtain⟨F',h1,h2,h3⟩:=HS.out.fst
       have h1:TpQq Rep wr (.pointer (some ⟨gT,0,none⟩)) F' (n+k) (keptQ (fun y=>pcI f y∧¬y∈L) (putO a b v L) k):=h1
       rw [HEQ.out]at h1
       exact⟨F',rfl,h1.more (by omega),h3,fun k hk=>h2 k hk⟩
end Go.Proofs.YthagdonmijhpdaaGreat
