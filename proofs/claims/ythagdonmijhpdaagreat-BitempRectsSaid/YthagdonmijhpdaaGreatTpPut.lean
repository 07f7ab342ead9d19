/- Contracts of package timeline -/
import Derived.Test.YthagdonmijhpdaaGreatTpLay2
import Derived.Test.YthagdonmijhpdaaGreatRelVal
import Derived.Deep.RegionWith
import Derived.Test.YthagdonmijhpdaaGreatTpSegs
open Go.Lib (hid)
set_option linter.unusedSimpArgs false
set_option linter.unusedVariables false
set_option maxHeartbeats 8000000
set_option maxRecDepth 8000
namespace Go.Proofs.YthagdonmijhpdaaGreat
open Go.RowKit Corr
theorem ζ4t (gT i:Nat)(x1 x2 x3:Int)(a:Addr)(w:World)(hi:i<4)(hs:inShr i x1)(hc:w.cell? ⟨gT,i,none⟩=some (.pointer (some a))):Calls Tryz.prog 98 #[.pointer (some ⟨gT,0,none⟩),.agg #[.int .i64 x1,.int .i64 x2,.int .i64 x3]] w fun e w'=>
  e= .returned (.tuple #[.pointer (some a),.agg #[.int .i64 x1,.int .i64 x2,.int .i64 0]])∧Below w.heap.size w w':=by
 have HX:=hid ((Blk.new w #[.int .i64 x1,.int .i64 x2,.int .i64 x3] 89).alloc (.cells #[.int .i64 0,.int .i64 0,.int .i64 0] 141))
 have HR:=hid (Blk.new (w.alloc (.cells #[.int .i64 x1,.int .i64 x2,.int .i64 x3] 89)) #[.int .i64 0,.int .i64 0,.int .i64 0] 141)
 have HB:=hid (Joins.below_alloc2 w (.cells #[.int .i64 x1,.int .i64 x2,.int .i64 x3] 89) (.cells #[.int .i64 0,.int .i64 0,.int .i64 0] 141))
 have hgt:=World.block_lt_of_cell? _ _ hc
 have HC:=hid ((Below.cell (p:=⟨gT,i,none⟩) HB.out hgt).trans hc)
 clear hc hgt
 go_enter Tryz.func98,Tryz.ntmps98
 go_upto_region 1 with fail
 simp only [ζd]at HR
 generalize (w.alloc (.cells #[.int .i64 x1,.int .i64 x2,.int .i64 x3] 89)).alloc (.cells #[.int .i64 0,.int .i64 0,.int .i64 0] 141)=wq at*
 generalize hhx:w.heap.size=hx at HX HR ⊢
 have x0:=HX.out.get 0 rfl
 have x1':=HX.out.get 1 rfl
 have x2':=HX.out.get 2 rfl
 have r0:=HR.out.get 0 rfl
 have r1:=HR.out.get 1 rfl
 have r2:=HR.out.get 2 rfl
 have f0:=HR.out.f 0
 have f1:=HR.out.f 1
 have f2:=HR.out.f 2
 have c0:wq.cell? ⟨gT,((x1-1) / 1000000).toNat,none⟩=some (.pointer (some a)):=by rw [show ((x1-1) / 1000000).toNat=i by have h1:=hs.1;have h2:=hs.2;omega];exact HC.out
 go_region
 have HX2:=hid (((HR.out.set 0 (.int .i64 x1)).set 1 (.int .i64 x2)).set 2 (.int .i64 0))
 have HF:=hid ((((HB.out.setCell (p:=⟨hx+1,0,none⟩) (by show w.heap.size≤hx+1;omega) (.int .i64 x1)).setCell (p:=⟨hx+1,1,none⟩) (by show w.heap.size≤hx+1;omega) (.int .i64 x2)).setCell (p:=⟨hx+1,2,none⟩) (by show w.heap.size≤hx+1;omega) (.int .i64 0)).drew)
 clear r0 r1 r2 f0 f1 f2 x0 x1' x2' c0
 go_wp2_with fail
 have r0:=HX2.out.get 0 (v:= .int .i64 x1) rfl
 have r1:=HX2.out.get 1 (v:= .int .i64 x2) rfl
 have r2:=HX2.out.get 2 (v:= .int .i64 0) rfl
 refine bodyPost_ret (v:= .tuple #[.pointer (some a),.agg #[.int .i64 x1,.int .i64 x2,.int .i64 0]]) (by simp [results,Tryz.results98,go_sem,r0,r1,r2]) rfl ⟨rfl,HF.out⟩
theorem tpkeep_any {Rep:RepT}(K:TrK Rep)(gT gM:Nat)(q:Nat→Value)(Fs:Nat→Nat→Prop)(l:Nat→ItL)(m:Int→Option Int)(x1 x2 x3:Int)(w:World)(i:Nat)(H:Tp Rep w gT gM q Fs l m)(hi:i<4)(hs:inShr i x1)(hl:(l i).length≤1000)(hm:m x1=none):
  Calls Tryz.prog 83 #[.pointer (some ⟨gT,0,none⟩),.agg #[.int .i64 x1,.int .i64 x2,.int .i64 x3]] w fun e w'=>
  e= .returned (.tuple #[])∧∃Fs',Tp Rep w' gT gM q Fs' (updL l i (insL 1000000 (x1,x2,0) (l i))) (updM m x1 (some x3))∧Off (TpF gT gM Fs) w w'∧∀k,TpF gT gM Fs' k→TpF gT gM Fs k∨w.heap.size≤k:=by
 have HK:=hid K
 have HX:=hid (Blk.new w #[.int .i64 x1,.int .i64 x2,.int .i64 x3] 89)
 have HB:=hid ((Below.refl w.heap.size w).alloc (Nat.le_refl _) (.cells #[.int .i64 x1,.int .i64 x2,.int .i64 x3] 89))
 have HT:=hid (H.keep K.toRepOk HB.out)
 have HLT:=hid (H.lt K.toRepOk)
 have HL:=hid hl
 have HM:=hid hm
 obtain⟨a,hqa,hca⟩:=HT.out.cells hi
 have HQA:=hid hqa
 have HP:=hid (ζ4t gT i x1 x2 x3 a _ hi hs hca)
 have x0:=HX.out.get 0 rfl
 have y1:=HX.out.get 1 rfl
 have y2:=HX.out.get 2 rfl
 clear K H hl hm hqa hca
 go_enter Tryz.func83,Tryz.ntmps83
 go_wp2_with fail
 generalize w.alloc (.cells #[.int .i64 x1,.int .i64 x2,.int .i64 x3] 89)=wq at*
 generalize hhx:w.heap.size=hx at HX x0 y1 y2 ⊢
 have HHX:=hid hhx
 clear hhx
 refine HP.out.mono ?_
 rintro e w1 ⟨rfl,b1⟩
 have HB1:=hid (b1.alloc b1.size (.cells #[.int .i64 x1,.int .i64 x2,.int .i64 0] 141))
 have HI1:=Blk.new w1 #[.int .i64 x1,.int .i64 x2,.int .i64 0] 141
 have i0:=HI1.get 0 rfl
 have i1:=HI1.get 1 rfl
 have i2:=HI1.get 2 rfl
 have HT1:=hid (HT.out.keep HK.out.toRepOk HB1.out)
 have HX1:=hid (HX.out.keep HB1.out)
 have HS1:=hid HX.out.sz
 have HIN:=hid (HK.out.insert _ (q i) (Fs i) 1000000 (l i) (x1,x2,0) (HT1.out.tr i hi) HL.out)
 rw [HQA.out]at HIN
 clear b1 HI1 x0 y1 y2 HP
 go_wp2_with fail
 refine HIN.out.mono ?_
 rintro e w2 ⟨F',rfl,hr2,ho2,hF2⟩
 have HT2:=hid (HT1.out.tree HK.out.toRepOk hi (by rw [HQA.out];exact hr2) ho2 hF2)
 have HO2:=hid ho2
 have HF2:=hid hF2
 have HX2:=hid (ho2.blk HX1.out (fun e=>by have h1:=HLT.out hx (TpF.sub hi e);have h2:=HHX.out;omega))
 have c4:=HT2.out.map_cell
 have x0:=HX2.out.get 0 rfl
 have x2':=HX2.out.get 2 rfl
 clear HIN hr2 ho2 hF2 i0 i1 i2
 go_upto_region 3 with fail
 refine ζ3 9 (fun S val wx=>VVs 9 [(· = .pointer (some ⟨gT,0,none⟩)),(· = .pointer (some ⟨gT,0,none⟩)),(· = .pointer (some ⟨gT,4,none⟩)),(· = .map (some gM)),(· = .pointer (some ⟨hx,0,none⟩)),(· = .int .i64 x1),(· = .pointer (some ⟨hx,2,none⟩)),(· = .int .i64 x3),(· = .agg #[.int .i64 x3])] S val∧Clo [[],[0],[1],[2],[],[4],[],[6],[7]] S∧wx=w2.drew) [0,1,2,4,6,8] (by kernel_rfl) (by kernel_rfl) ⟨VVs.start,Clo.start,rfl⟩ ⟨?_,?_,?_,?_,?_,?_,?_,?_,?_,trivial⟩ ?_
 ·exact qU [0]
 ·exact qU []
 ·exact qU []
 ·refine qM fun ev wv S val hE hV hK hw hS hd=> ?_
  have kx:wv.cell? ⟨gT,4,none⟩=some (.map (some gM)):=by rw [hw];exact HT2.out.map_cell
  exact qE [] hE hV hd
 ·exact qU [3]
 ·refine qM fun ev wv S val hE hV hK hw hS hd=> ?_
  have kx:wv.cell? ⟨hx,0,none⟩=some (.int .i64 x1):=by rw [hw];exact HX2.out.get 0 rfl
  exact qE [] hE hV hd
 ·exact qU [3]
 ·refine qM fun ev wv S val hE hV hK hw hS hd=> ?_
  have kx:wv.cell? ⟨hx,2,none⟩=some (.int .i64 x3):=by rw [hw];exact HX2.out.get 2 rfl
  exact qE [] hE hV hd
 ·exact qU []
 ·rintro S val wz hS ⟨hV,hK,hw⟩
  have e1:val 1= .pointer (some ⟨gT,0,none⟩):=hV 1 (by decide) (hS 1 (by decide))
  have e2:val 2= .pointer (some ⟨gT,4,none⟩):=hV 2 (by decide) (hS 2 (by decide))
  have e3:val 3= .map (some gM):=hV 3 (by decide) (hS 3 (by decide))
  refine finL hV hS ?_
  rintro _ ⟨-,rfl⟩-v1 ⟨h1,-⟩-v2 ⟨h2,-⟩-v3 ⟨h3,-⟩-
  iterate 5 rintro _ ⟨-,rfl⟩-
  simp only [zA]
  simp only [h1.trans e1,h2.trans e2,h3.trans e3]
  clear hV h1 e1 v1 h2 e2 v2 h3 e3 v3
  change wpList Tryz.prog _ _ _ _ wz
  have hmp:MapI wz gM m:=by rw [hw];exact HT2.out.mp.of_eq rfl
  have HTZ:=hid (HT2.out.keep HK.out.toRepOk (w':=wz) (by rw [hw];exact(Below.refl _ _).drew))
  have HBZ:=hid (show Below w2.heap.size w2 wz by rw [hw];exact(Below.refl _ _).drew)
  refine wpl_mapput rfl _ _ _ rfl x1 x3 rfl hmp HM.out rfl rfl ?_
  intro w3 hm3 ho3 hs3
  have HT3:=hid (HTZ.out.map_ HK.out.toRepOk hm3 ho3)
  have HO3:=hid ho3
  clear hm3 ho3 hw hmp hS hK
  refine ζ2 ?_
  simp only [Act.put]
  go_wp2_with fail
  go_end0
  refine⟨rfl,updB Fs i F',HT3.out,?_,?_⟩
  ·refine(Off.of (F:=TpF gT gM Fs) HB.out).trans ((Off.of (F:=TpF gT gM Fs) HB1.out).trans ((HO2.out.mono fun k _ hk=>TpF.sub hi hk).trans ((Off.of (F:=TpF gT gM Fs) HBZ.out).trans (HO3.out.mono fun k _ hk=> .inr (.inl hk)))))
  ·exact TpF.upd hi fun k hk=>(HF2.out k hk).imp_right fun h=>by have h1:=HB.out.size;have h2:=HB1.out.size;have h3:=HHX.out;omega
theorem tpdrop_any {Rep:RepT}(K:TrK Rep)(gT gM:Nat)(q:Nat→Value)(Fs:Nat→Nat→Prop)(l:Nat→ItL)(m:Int→Option Int)(x1 x2 x3:Int)(w:World)(i:Nat)(H:Tp Rep w gT gM q Fs l m)(hi:i<4)(hs:inShr i x1)(hl:(l i).length≤1000)(hm:m x1=some x3):
  Calls Tryz.prog 82 #[.pointer (some ⟨gT,0,none⟩),.agg #[.int .i64 x1,.int .i64 x2,.int .i64 x3]] w fun e w'=>
  e= .returned (.tuple #[])∧∃Fs',Tp Rep w' gT gM q Fs' (updL l i (delL (x1,x2,0) (l i))) (updM m x1 none)∧Off (TpF gT gM Fs) w w'∧∀k,TpF gT gM Fs' k→TpF gT gM Fs k∨w.heap.size≤k:=by
 have HK:=hid K
 have HX:=hid (Blk.new w #[.int .i64 x1,.int .i64 x2,.int .i64 x3] 89)
 have HB:=hid ((Below.refl w.heap.size w).alloc (Nat.le_refl _) (.cells #[.int .i64 x1,.int .i64 x2,.int .i64 x3] 89))
 have HT:=hid (H.keep K.toRepOk HB.out)
 have HLT:=hid (H.lt K.toRepOk)
 have HL:=hid hl
 have HM:=hid hm
 obtain⟨a,hqa,hca⟩:=HT.out.cells hi
 have HQA:=hid hqa
 have HP:=hid (ζ4t gT i x1 x2 x3 a _ hi hs hca)
 have x0:=HX.out.get 0 rfl
 have y1:=HX.out.get 1 rfl
 have y2:=HX.out.get 2 rfl
 clear K H hl hm hqa hca
 go_enter Tryz.func82,Tryz.ntmps82
 go_wp2_with fail
 generalize w.alloc (.cells #[.int .i64 x1,.int .i64 x2,.int .i64 x3] 89)=wq at*
 generalize hhx:w.heap.size=hx at HX x0 y1 y2 ⊢
 have HHX:=hid hhx
 clear hhx
 refine HP.out.mono ?_
 rintro e w1 ⟨rfl,b1⟩
 have HB1:=hid (b1.alloc b1.size (.cells #[.int .i64 x1,.int .i64 x2,.int .i64 0] 141))
 have HI1:=Blk.new w1 #[.int .i64 x1,.int .i64 x2,.int .i64 0] 141
 have i0:=HI1.get 0 rfl
 have i1:=HI1.get 1 rfl
 have i2:=HI1.get 2 rfl
 have HT1:=hid (HT.out.keep HK.out.toRepOk HB1.out)
 have HX1:=hid (HX.out.keep HB1.out)
 have HS1:=hid HX.out.sz
 have HIN:=hid (HK.out.delete _ (q i) (Fs i) 1000000 (l i) (x1,x2,0) (HT1.out.tr i hi) HL.out)
 rw [HQA.out]at HIN
 clear b1 HI1 x0 y1 y2 HP
 go_wp2_with fail
 refine HIN.out.mono ?_
 rintro e w2 ⟨F',rfl,hr2,ho2,hF2⟩
 have HT2:=hid (HT1.out.tree HK.out.toRepOk hi (by rw [HQA.out];exact hr2) ho2 hF2)
 have HO2:=hid ho2
 have HF2:=hid hF2
 have HX2:=hid (ho2.blk HX1.out (fun e=>by have h1:=HLT.out hx (TpF.sub hi e);have h2:=HHX.out;omega))
 have c4:=HT2.out.map_cell
 have x0:=HX2.out.get 0 rfl
 have x2':=HX2.out.get 2 rfl
 clear HIN hr2 ho2 hF2 i0 i1 i2
 go_upto_region 3 with fail
 refine ζ3 6 (fun S val wx=>VVs 6 [(· = .pointer (some ⟨gT,0,none⟩)),(· = .pointer (some ⟨gT,0,none⟩)),(· = .pointer (some ⟨gT,4,none⟩)),(· = .map (some gM)),(· = .pointer (some ⟨hx,0,none⟩)),(· = .int .i64 x1)] S val∧Clo [[],[0],[1],[2],[],[4]] S∧wx=w2.drew) [0,1,2,4] (by kernel_rfl) (by kernel_rfl) ⟨VVs.start,Clo.start,rfl⟩ ⟨?_,?_,?_,?_,?_,?_,trivial⟩ ?_
 ·exact qU [0]
 ·exact qU []
 ·exact qU []
 ·refine qM fun ev wv S val hE hV hK hw hS hd=> ?_
  have kx:wv.cell? ⟨gT,4,none⟩=some (.map (some gM)):=by rw [hw];exact HT2.out.map_cell
  exact qE [] hE hV hd
 ·exact qU [3]
 ·refine qM fun ev wv S val hE hV hK hw hS hd=> ?_
  have kx:wv.cell? ⟨hx,0,none⟩=some (.int .i64 x1):=by rw [hw];exact HX2.out.get 0 rfl
  exact qE [] hE hV hd
 ·rintro S val wz hS ⟨hV,hK,hw⟩
  have e1:val 1= .pointer (some ⟨gT,0,none⟩):=hV 1 (by decide) (hS 1 (by decide))
  have e2:val 2= .pointer (some ⟨gT,4,none⟩):=hV 2 (by decide) (hS 2 (by decide))
  have e3:val 3= .map (some gM):=hV 3 (by decide) (hS 3 (by decide))
  refine finL hV hS ?_
  rintro _ ⟨-,rfl⟩-v1 ⟨h1,-⟩-v2 ⟨h2,-⟩-v3 ⟨h3,-⟩-_ ⟨-,rfl⟩-_ ⟨-,rfl⟩-
  simp only [zA]
  simp only [h1.trans e1,h2.trans e2,h3.trans e3]
  clear hV h1 e1 v1 h2 e2 v2 h3 e3 v3
  change wpList Tryz.prog _ _ _ _ wz
  have hmp:MapI wz gM m:=by rw [hw];exact HT2.out.mp.of_eq rfl
  have HTZ:=hid (HT2.out.keep HK.out.toRepOk (w':=wz) (by rw [hw];exact(Below.refl _ _).drew))
  have HBZ:=hid (show Below w2.heap.size w2 wz by rw [hw];exact(Below.refl _ _).drew)
  refine wpl_mapdel rfl _ _ rfl x1 x3 rfl hmp HM.out rfl ?_
  intro w3 hm3 ho3 hs3
  have HT3:=hid (HTZ.out.map_ HK.out.toRepOk hm3 ho3)
  have HO3:=hid ho3
  clear hm3 ho3 hw hmp hS hK
  refine ζ2 ?_
  simp only [Act.put]
  go_wp2_with fail
  go_end0
  refine⟨rfl,updB Fs i F',HT3.out,?_,?_⟩
  ·refine(Off.of (F:=TpF gT gM Fs) HB.out).trans ((Off.of (F:=TpF gT gM Fs) HB1.out).trans ((HO2.out.mono fun k _ hk=>TpF.sub hi hk).trans ((Off.of (F:=TpF gT gM Fs) HBZ.out).trans (HO3.out.mono fun k _ hk=> .inr (.inl hk)))))
  ·exact TpF.upd hi fun k hk=>(HF2.out k hk).imp_right fun h=>by have h1:=HB.out.size;have h2:=HB1.out.size;have h3:=HHX.out;omega
end Go.Proofs.YthagdonmijhpdaaGreat
namespace Corr
open Go Go.RowKit
theorem rise_not {L:ItL}(h:rise L) {k:Nat} {x:It}(hx:L[k]? =some x): ¬x∈L.take k:=by
 have hk:=(List.getElem?_eq_some_iff.1 hx).1
 have e:L=L.take k++x :: L.drop (k+1):=by
  rw [←(List.getElem?_eq_some_iff.1 hx).2,←List.drop_eq_getElem_cons hk,List.take_append_drop]
 intro hm
 rw [e]at h
 have:=(List.pairwise_append.1 h).2.2 x hm x List.mem_cons_self
 omega
theorem take_mem {L:ItL} {k:Nat} {x y:It}(hx:L[k]? =some x):y∈L.take (k+1)↔y∈L.take k∨y=x:=by
 rw [List.take_add_one,hx,List.mem_append]
 simp
theorem drop_step {f:Int→Int} {L:ItL} {k:Nat} {x:It}(hx:L[k]? =some x):(fun y=>(pcI f y∧¬y∈L.take k)∧¬y=x)=fun y=>pcI f y∧¬y∈L.take (k+1):=by
 funext y
 rw [take_mem hx]
 exact propext ⟨fun⟨⟨h1,h2⟩,h3⟩=>⟨h1,fun h=>h.elim h2 h3⟩,fun⟨h1,h2⟩=>⟨⟨h1,fun h=>h2 (.inl h)⟩,fun h=>h2 (.inr h)⟩⟩
def keptQ (Q:It→Prop)(O:ItL)(k:Nat):It→Prop:=fun y=>Q y∨(y∈O.take k∧¬y.2.2=0)
theorem keptQ_zero (Q:It→Prop)(O:ItL):keptQ Q O 0=Q:=by
 funext y
 unfold keptQ
 rw [List.take_zero]
 exact propext ⟨fun h=>h.elim id fun h=>absurd h.1 List.not_mem_nil,.inl⟩
theorem keptQ_yes {Q:It→Prop} {O:ItL} {k:Nat} {x:It}(hx:O[k]? =some x)(hz: ¬x.2.2=0):(fun y=>keptQ Q O k y∨y=x)=keptQ Q O (k+1):=by
 funext y
 unfold keptQ
 rw [take_mem hx]
 refine propext ⟨?_,?_⟩
 ·rintro((h | h) | rfl)
  ·exact .inl h
  ·exact .inr ⟨.inl h.1,h.2⟩
  ·exact .inr ⟨.inr rfl,hz⟩
 ·rintro(h | ⟨h | rfl,h2⟩)
  ·exact .inl (.inl h)
  ·exact .inl (.inr ⟨h,h2⟩)
  ·exact .inr rfl
theorem keptQ_no {Q:It→Prop} {O:ItL} {k:Nat} {x:It}(hx:O[k]? =some x)(hz:x.2.2=0):keptQ Q O k=keptQ Q O (k+1):=by
 funext y
 unfold keptQ
 rw [take_mem hx]
 refine propext ⟨?_,?_⟩
 ·rintro(h | h)
  ·exact .inl h
  ·exact .inr ⟨.inl h.1,h.2⟩
 ·rintro(h | ⟨h | rfl,h2⟩)
  ·exact .inl h
  ·exact .inr ⟨h,h2⟩
  ·exact absurd hz h2
theorem kept_new {f g:Int→Int} {L O:ItL} {k:Nat} {x y:It}(hr:rise O)(h1: ∀x∈O,pcI f x→x∈L)(h2: ∀x,pcI g x↔(pcI f x∧¬x∈L)∨(x∈O∧¬x.2.2=0))(hx:O[k]? =some x)(hz: ¬x.2.2=0)(hy:keptQ (fun x=>pcI f x∧¬x∈L) O k y): ¬y.1=x.1:=by
 intro e
 have hxO:=List.mem_of_getElem? hx
 have px:=(h2 x).2 (.inr ⟨hxO,hz⟩)
 have py:=(h2 y).2 (hy.imp id fun h=>⟨List.mem_of_mem_take h.1,h.2⟩)
 have e:=pc_from py px e
 subst e
 rcases hy with hy | hy
 ·exact hy.2 (h1 y hxO hy.1)
 ·exact rise_not hr hx hy.1
theorem keptQ_all {f g:Int→Int} {L O:ItL} {k:Nat}(hk:O.length≤k)(h2: ∀x,pcI g x↔(pcI f x∧¬x∈L)∨(x∈O∧¬x.2.2=0)):keptQ (fun x=>pcI f x∧¬x∈L) O k=pcI g:=by
 funext y
 unfold keptQ
 rw [List.take_of_length_le hk]
 exact propext (h2 y).symm
theorem ζ3e (b:Int): ∀(L z:ItL),(L.foldl (fun l x=>layL l b x.2.1 x.2.2) z).length≤z.length+L.length
 | [],z=>by simp
 | x :: r,z=>by
  rw [List.foldl_cons]
  have h1:=ζ3e b r (layL z b x.2.1 x.2.2)
  have h2:=ζ1j z b x.2.1 x.2.2
  rw [List.length_cons];omega
theorem ζs (a:Int): ∀(L z:ItL),(L.foldl (fun l x=>layL l x.1 a x.2.2) z).length≤z.length+L.length
 | [],z=>by simp
 | x :: r,z=>by
  rw [List.foldl_cons]
  have h1:=ζs a r (layL z x.1 a x.2.2)
  have h2:=ζ1j z x.1 a x.2.2
  rw [List.length_cons];omega
theorem TpQ.more {Rep:RepT} {w:World} {p:Value} {F:Nat→Prop} {n n':Nat} {Q:It→Prop}(h:TpQ Rep w p F n Q)(hn:n≤n'):TpQ Rep w p F n' Q:=by
 obtain⟨gT,gM,q,Fs,l,m,h1,h2,h3,h4,h5,h6⟩:=h
 exact⟨gT,gM,q,Fs,l,m,h1,h2,h3,h4,h5,fun i hi=>Nat.le_trans (h6 i hi) hn⟩
end Corr
namespace Go.Proofs.YthagdonmijhpdaaGreat
open Go.RowKit Corr
theorem tpq_keep {Rep:RepT}(K:TrK Rep) {w:World} {p:Value} {F:Nat→Prop} {n:Nat} {Q:It→Prop}(H:TpQ Rep w p F n Q)(hn:n≤1000)(x:It)(h1:1≤x.1)(h2:x.1<x.2.1)(h3:x.2.1≤3652060)(hf: ∀y,Q y→¬y.1=x.1):
  Calls Tryz.prog 83 #[p,.agg #[.int .i64 x.1,.int .i64 x.2.1,.int .i64 x.2.2]] w fun e w'=>∃F',e= .returned (.tuple #[])∧TpQ Rep w' p F' (n+1) (fun y=>Q y∨y=x)∧Off F w w'∧∀k,F' k→F k∨w.heap.size≤k:=by
 obtain⟨gT,gM,q,Fs,l,m,rfl,HT,rfl,k1,k2,k3⟩:=H
 obtain⟨i,hi,hs,_⟩:=shr_lt h1 (by omega)
 refine(tpkeep_any K gT gM q Fs l m x.1 x.2.1 x.2.2 w i HT hi hs (Nat.le_trans (k3 i hi) hn) ?_).mono fun e w' hr=> ?_
 ·cases hm:m x.1 with
  | none=>rfl
  | some v=>
   obtain⟨b,hb⟩:=(k2 x.1 v).1 hm
   exact absurd rfl (hf (x.1,b,v) hb)
 ·obtain⟨he,Fs',g1,g2,g3⟩:=hr
  refine⟨_,he,⟨gT,gM,q,Fs',_,_,rfl,g1,rfl,k1.keep hi hs h2 (by have:=k3 i hi;omega),k2.keep hf,fun j hj=> ?_⟩,g2,g3⟩
  unfold updL
  split
  ·have h4:=insL_len 1000000 (x.1,x.2.1,0) (l i)
   have:=k3 i hi;omega
  ·have:=k3 j hj;omega
theorem tpq_drop {Rep:RepT}(K:TrK Rep) {w:World} {p:Value} {F:Nat→Prop} {n:Nat} {Q:It→Prop}(H:TpQ Rep w p F n Q)(hn:n≤1000)(x:It)(hq:SubQ Q)(hx:Q x):
  Calls Tryz.prog 82 #[p,.agg #[.int .i64 x.1,.int .i64 x.2.1,.int .i64 x.2.2]] w fun e w'=>∃F',e= .returned (.tuple #[])∧TpQ Rep w' p F' n (fun y=>Q y∧¬y=x)∧Off F w w'∧∀k,F' k→F k∨w.heap.size≤k:=by
 obtain⟨gT,gM,q,Fs,l,m,rfl,HT,rfl,k1,k2,k3⟩:=H
 obtain⟨g,hg⟩:=hq
 have px:=hg x hx
 obtain⟨i,hi,hs,_⟩:=shr_lt px.lo (by have:=px.lt;have:=px.hi;omega)
 refine(tpdrop_any K gT gM q Fs l m x.1 x.2.1 x.2.2 w i HT hi hs (Nat.le_trans (k3 i hi) hn) ((k2 _ _).2 ⟨_,hx⟩)).mono fun e w' hr=> ?_
 obtain⟨he,Fs',g1,g2,g3⟩:=hr
 refine⟨_,he,⟨gT,gM,q,Fs',_,_,rfl,g1,rfl,k1.drop ⟨g,hg⟩ hi hs hx,k2.drop ⟨g,hg⟩ hx,fun j hj=> ?_⟩,g2,g3⟩
 unfold updL
 split
 ·have h4:=delL_len (x.1,x.2.1,0) (l i)
  have:=k3 i hi;omega
 ·exact k3 j hj
section
variable {Rep:RepT} {F0:Nat→Prop} {w0 w:World} {ts:List Thing} {i n:Nat} {p:Value} {Q:It→Prop}
theorem sepf_keep (K:TrK Rep)(h:SepF F0 w0 ts w)(hi:ts[i]? =some (tpT K.toRepOk p n Q))(hn:n≤1000)(x:It)(h1:1≤x.1)(h2:x.1<x.2.1)(h3:x.2.1≤3652060)(hf: ∀y,Q y→¬y.1=x.1):
  Calls Tryz.prog 83 #[p,.agg #[.int .i64 x.1,.int .i64 x.2.1,.int .i64 x.2.2]] w fun e w'=>e= .returned (.tuple #[])∧SepF F0 w0 (ts.set i (tpT K.toRepOk p (n+1) (fun y=>Q y∨y=x))) w':=by
 obtain⟨F,hp,_,hu⟩:=h.get hi
 refine(tpq_keep K hp hn x h1 h2 h3 hf).mono fun e w' hq=> ?_
 obtain⟨F',he,g1,g2,g3⟩:=hq
 exact⟨he,hu w' F' _ g2 g1 g3⟩
theorem sepf_drop (K:TrK Rep)(h:SepF F0 w0 ts w)(hi:ts[i]? =some (tpT K.toRepOk p n Q))(hn:n≤1000)(x:It)(hq:SubQ Q)(hx:Q x):
  Calls Tryz.prog 82 #[p,.agg #[.int .i64 x.1,.int .i64 x.2.1,.int .i64 x.2.2]] w fun e w'=>e= .returned (.tuple #[])∧SepF F0 w0 (ts.set i (tpT K.toRepOk p n (fun y=>Q y∧¬y=x))) w':=by
 obtain⟨F,hp,_,hu⟩:=h.get hi
 refine(tpq_drop K hp hn x hq hx).mono fun e w' hr=> ?_
 obtain⟨F',he,g1,g2,g3⟩:=hr
 exact⟨he,hu w' F' _ g2 g1 g3⟩
theorem sepf_pieces (K:TrK Rep)(h:SepF F0 w0 ts w)(hi:ts[i]? =some (tpT K.toRepOk p n Q))(hn:n≤1000)(hq:SubQ Q)(a b:Int):Calls Tryz.prog 46 #[p,.agg #[.int .i64 a,.int .i64 b]] w (RetPc 89 w Q n a b):=by
 obtain⟨F,hp,_,_⟩:=h.get hi
 exact tpq_pieces K hp hn hq a b
end
theorem tpput_no (gT gM:Nat)(a b v:Int)(w:World)(hc:w.cell? ⟨gT,4,none⟩=some (.map (some gM)))(hm:mayB a b=false):Calls Tryz.prog 53 #[.pointer (some ⟨gT,0,none⟩),.agg #[.int .i64 a,.int .i64 b],.int .i64 v] w fun e w'=>e= .returned (.int .i64 15)∧Below w.heap.size w w':=by
 have hb:=(Below.refl w.heap.size w).alloc (Nat.le_refl _) (.cells #[.int .i64 a,.int .i64 b] 24)
 have HB:=hid hb
 have h1:=Blk.new w #[.int .i64 a,.int .i64 b] 24
 have x0:=h1.get 0 rfl
 have x1:=h1.get 1 rfl
 have HC:=hid ((Below.cell (p:=⟨gT,4,none⟩) hb (World.block_lt_of_cell? _ _ hc)).trans hc)
 clear hb h1 hc
 go_enter Tryz.func53,Tryz.ntmps53
 go_wp2_with fail
 refine(ζ28 gT gM _ HC.out).mono ?_
 rintro e w1 ⟨rfl,rfl⟩
 go_wp2_with fail
 refine(ζ1u a b _).mono ?_
 rintro e w2 ⟨rfl,b2⟩
 rw [hm]
 have HB2:=hid (HB.out.trans (b2.mono HB.out.size))
 clear b2
 go_wp2_with fail
 go_ret
 exact⟨rfl,HB2.out⟩
set_option maxRecDepth 100000 in
theorem tpput_yes {Rep:RepT}(K:TrK Rep)(gT:Nat)(F:Nat→Prop)(n:Nat)(f:Int→Int)(a b v:Int)(w:World)(H:TpQ Rep w (.pointer (some ⟨gT,0,none⟩)) F n (pcI f))(ho:offF f)(hn:n≤900)(hm:mayB a b=true):Calls Tryz.prog 53 #[.pointer (some ⟨gT,0,none⟩),.agg #[.int .i64 a,.int .i64 b],.int .i64 v] w fun e w'=>
  ∃F':Nat→Prop,e= .returned (.int .i64 0)∧TpQ Rep w' (.pointer (some ⟨gT,0,none⟩)) F' (n+3) (pcI (updF f a b v))∧Off F w w'∧∀k,F' k→F k∨w.heap.size≤k:=by
 obtain⟨m1,m2,m3⟩:=mayB_iff.1 hm
 have HK:=hid K
 have HM:=hid hm
 have HOF:=hid ho
 obtain⟨gM,hc⟩:=H.map_at
 have hb:=(Below.refl w.heap.size w).alloc (Nat.le_refl _) (.cells #[.int .i64 a,.int .i64 b] 24)
 have HC:=hid ((Below.cell (p:=⟨gT,4,none⟩) hb (World.block_lt_of_cell? _ _ hc)).trans hc)
 have HS0:=hid (show SepF F w [tpT HK.out.toRepOk (.pointer (some ⟨gT,0,none⟩)) n (pcI f),blkT w.heap.size #[.int .i64 a,.int .i64 b]] _ from(SepF.start (t:=tpT HK.out.toRepOk (.pointer (some ⟨gT,0,none⟩)) n (pcI f)) H).push #[.int .i64 a,.int .i64 b] 24)
 have x0:=(HS0.out.b 1 rfl).get 0 rfl
 have x1:=(HS0.out.b 1 rfl).get 1 rfl
 clear K H ho hm hb hc
 go_enter Tryz.func53,Tryz.ntmps53
 go_wp2_with fail
 refine(ζ28 gT gM _ HC.out).mono ?_
 rintro e w1 ⟨rfl,rfl⟩
 go_wp2_with fail
 refine(ζ1u a b _).mono ?_
 rintro e w2 ⟨rfl,b2⟩
 rw [HM.out]
 have hs2:=HS0.out.keep b2
 have HS2:=hid hs2
 have x0:=(hs2.b 1 rfl).get 0 rfl
 have x1:=(hs2.b 1 rfl).get 1 rfl
 clear b2 hs2 HS0 HC
 go_wp2_with fail
 refine(sepf_pieces HK.out HS2.out (i:=0) rfl (by omega) ⟨f,fun _ h=>h⟩ (a-1) (b+1)).mono ?_
 rintro e w4 ⟨L,A,N,c,rfl,r1,r2,r3,r4,b4⟩
 have HR1:=hid r1
 have HR2:=hid (show ∀x,x∈L↔pcI f x∧tchI a b x from fun x=>by
  rw [r2 x]
  constructor
  ·rintro⟨p,_,p2,p3⟩;exact⟨p,by omega,by omega⟩
  ·rintro⟨p,p2,p3⟩;exact⟨p,by omega,by omega,by omega⟩)
 have HPP:=hid (put_pc (v:=v) HOF.out HM.out HR1.out HR2.out)
 have HLN:=hid (ζ3p r4)
 have hNL:N≤3600:=by have:=ζ3p r4;omega
 have hs4:=HS2.out.addRow r4 (ζ1c r4) b4
 have HS4:=hid (show SepF F w [tpT HK.out.toRepOk (.pointer (some ⟨gT,0,none⟩)) n (pcI f),blkT w.heap.size #[.int .i64 a,.int .i64 b],rowT w2.heap.size 89 3 A N c (ζ5 L)] w4 from hs4)
 clear r1 r2 r3 r4 b4 x0 x1 HS2 hs4
 go_wp2_with fail
 refine(layto_any _ _).mono ?_
 rintro e w5 ⟨rfl,rfl⟩
 have hs5:=HS4.out.lay 89 38 97
 have HS5:=hid (show SepF F w [tpT HK.out.toRepOk (.pointer (some ⟨gT,0,none⟩)) n (pcI f),blkT w.heap.size #[.int .i64 a,.int .i64 b],rowT w2.heap.size 89 3 A N c (ζ5 L),layT 89 (w4.heap.size+1) w4.heap.size []] _ from hs5)
 have hz5:(w4.alloc (.cells #[.slice none 0 0] 38)).heap.size=w4.heap.size+1:=by simp
 rw [hz5]
 generalize (w4.alloc (.cells #[.slice none 0 0] 38)).alloc (.cells #[.pointer (some ⟨w4.heap.size,0,none⟩)] 97)=w5 at*
 obtain⟨gB,hgB⟩: ∃k,w4.heap.size+1=k:=⟨_,rfl⟩
 obtain⟨gL,hgL⟩: ∃k,w4.heap.size=k:=⟨_,rfl⟩
 obtain⟨B2,hB2⟩: ∃k,w2.heap.size=k:=⟨_,rfl⟩
 obtain⟨gs,hgs⟩: ∃k,w.heap.size=k:=⟨_,rfl⟩
 rw [hgB]at HS5 ⊢
 rw [hgL]at HS5 ⊢
 rw [hB2,hgs]at HS5
 rw [hgs]
 have HGS:=hid hgs
 clear hs5 hz5 HS4 hgB hgL hB2 hgs
 go_wp2_with fail
 go_loopw [35] (fun u wr=>∃k:Nat,u= .int .i64 (k:Int)∧k≤N∧Hid (SepF F w [tpT HK.out.toRepOk (.pointer (some ⟨gT,0,none⟩)) n (fun y=>pcI f y∧¬y∈L.take k),blkT gs #[.int .i64 a,.int .i64 b],rowT B2 89 3 A N c (ζ5 L),layT 89 gB gL ((L.take k).foldl (fun l x=>layL l x.1 a x.2.2) [])] wr)) (fun u _=>(N-intOf u).toNat)
 case atStart=>
  refine⟨0,rfl,by omega,hid ?_⟩
  have e:(fun y=>pcI f y∧¬y∈L.take 0)=pcI f:=by
   funext y
   rw [List.take_zero]
   exact propext ⟨fun h=>h.1,fun h=>⟨h,List.not_mem_nil⟩⟩
  rw [e]
  exact HS5.out
 case round=>
  obtain⟨k,rfl,hk,HS⟩:=hrel
  clear HS5
  have x0:=(HS.out.b 1 rfl).get 0 rfl
  have x1:=(HS.out.b 1 rfl).get 1 rfl
  by_cases hlt:k<N
  ·obtain⟨g,⟨y1,y2,y3⟩,rfl,hx,c0,c1,c2⟩:=own_get (HS.out.row 2 rfl) hlt
   have HX:=hid hx
   have hs6:=HS.out.push #[.int .i64 y1,.int .i64 y2,.int .i64 y3] 89
   have HS6:=hid hs6
   have z0:=(hs6.b 4 rfl).get 0 rfl
   have z1:=(hs6.b 4 rfl).get 1 rfl
   have z2:=(hs6.b 4 rfl).get 2 rfl
   have hQx:(fun y=>pcI f y∧¬y∈L.take k) (y1,y2,y3):=⟨((HR2.out _).1 (List.mem_of_getElem? hx)).1,rise_not HR1.out hx⟩
   have HDR:=hid (sepf_drop HK.out HS6.out (i:=0) rfl (by omega) (y1,y2,y3) ⟨f,fun _ h=>h.1⟩ hQx)
   clear hx hs6 hQx
   go_wp2_with fail
   refine HDR.out.mono ?_
   rintro e w7 ⟨rfl,hs7⟩
   rw [drop_step HX.out]at hs7
   have HS7:=hid hs7
   have z0:=(hs7.b 4 rfl).get 0 rfl
   have z2:=(hs7.b 4 rfl).get 2 rfl
   have u0:=(hs7.b 1 rfl).get 0 rfl
   clear hs7 HDR
   go_wp2_with fail
   refine(ζ3b HS7.out (i:=3) rfl (by have:=ζs a (L.take k) [];rw [List.length_take]at this;have:([]:ItL).length=0:=rfl;omega) y1 a y3).mono ?_
   rintro e w8 ⟨rfl,hs8⟩
   have hs8:=hs8.take 4
   have HE:=hid (ζ1n (g:=fun l x=>layL l x.1 a x.2.2) (z:= []) HX.out)
   have HS8:=hid hs8
   clear hs8
   go_wp2_with fail
   go_roundw
   case rel=>exact⟨k+1,by go_num,by omega,hid (by rw [HE.out];exact HS8.out)⟩
   case measure=>simp [intOf];omega
  ·have hkN:k=N:=by omega
   have HTK:=hid (show L.take k=L from List.take_of_length_le (by rw [HLN.out];omega))
   have HS6:=hid (show SepF F w [tpT HK.out.toRepOk (.pointer (some ⟨gT,0,none⟩)) n (fun y=>pcI f y∧¬y∈L),blkT gs #[.int .i64 a,.int .i64 b],rowT B2 89 3 A N c (ζ5 L),layT 89 gB gL (leftL a L)] wr by have:=HS.out;rw [HTK.out]at this;exact this)
   clear HS hkN
   go_wp2_with fail
   refine(ζ3b HS6.out (i:=3) rfl (by have:(leftL a L).length≤([]:ItL).length+L.length:=ζs a L [];have h2:=HLN.out;have h3:([]:ItL).length=0:=rfl;omega) a b v).mono ?_
   rintro e w7 ⟨rfl,hs7⟩
   have HS7:=hid (show SepF F w [tpT HK.out.toRepOk (.pointer (some ⟨gT,0,none⟩)) n (fun y=>pcI f y∧¬y∈L),blkT gs #[.int .i64 a,.int .i64 b],rowT B2 89 3 A N c (ζ5 L),layT 89 gB gL (midL a b v L)] w7 from hs7)
   clear hs7 HS6 x0 x1 hlt
   go_wp2_with fail
   go_loopw [60] (fun u wr=>∃k:Nat,u= .int .i64 (k:Int)∧k≤N∧Hid (SepF F w [tpT HK.out.toRepOk (.pointer (some ⟨gT,0,none⟩)) n (fun y=>pcI f y∧¬y∈L),blkT gs #[.int .i64 a,.int .i64 b],rowT B2 89 3 A N c (ζ5 L),layT 89 gB gL ((L.take k).foldl (fun l x=>layL l b x.2.1 x.2.2) (midL a b v L))] wr)) (fun u _=>(N-intOf u).toNat)
   case atStart=>exact⟨0,rfl,by omega,hid (by rw [List.take_zero];exact HS7.out)⟩
   case round=>
    obtain⟨k,rfl,hk,HS⟩:=hrel
    clear HS7
    have HML:=hid (show (midL a b v L).length≤3601 by
     have h1:(leftL a L).length≤([]:ItL).length+L.length:=ζs a L []
     have h2:=ζ1j (leftL a L) a b v
     have h3:=HLN.out
     have h4:([]:ItL).length=0:=rfl
     have h5:(midL a b v L).length=(layL (leftL a L) a b v).length:=rfl
     omega)
    have x0:=(HS.out.b 1 rfl).get 0 rfl
    have x1:=(HS.out.b 1 rfl).get 1 rfl
    by_cases hlt:k<N
    ·obtain⟨g,⟨y1,y2,y3⟩,rfl,hx,c0,c1,c2⟩:=own_get (HS.out.row 2 rfl) hlt
     have HX:=hid hx
     have hs6:=HS.out.push #[.int .i64 y1,.int .i64 y2,.int .i64 y3] 89
     have HS6:=hid hs6
     have z0:=(hs6.b 4 rfl).get 0 rfl
     have z1:=(hs6.b 4 rfl).get 1 rfl
     have z2:=(hs6.b 4 rfl).get 2 rfl
     have u1:=(hs6.b 1 rfl).get 1 rfl
     clear hx hs6
     go_wp2_with fail
     refine(ζ3b HS6.out (i:=3) rfl (by have:=ζ3e b (L.take k) (midL a b v L);rw [List.length_take]at this;have:=HML.out;omega) b y2 y3).mono ?_
     rintro e w8 ⟨rfl,hs8⟩
     have hs8:=hs8.take 4
     have HE:=hid (ζ1n (g:=fun l x=>layL l b x.2.1 x.2.2) (z:=midL a b v L) HX.out)
     have HS8:=hid hs8
     clear hs8
     go_wp2_with fail
     go_roundw
     case rel=>exact⟨k+1,by go_num,by omega,hid (by rw [HE.out];exact HS8.out)⟩
     case measure=>simp [intOf];omega
    ·have hkN:k=N:=by omega
     have HTK:=hid (show L.take k=L from List.take_of_length_le (by rw [HLN.out];omega))
     have hs6:SepF F w [tpT HK.out.toRepOk (.pointer (some ⟨gT,0,none⟩)) n (fun y=>pcI f y∧¬y∈L),blkT gs #[.int .i64 a,.int .i64 b],rowT B2 89 3 A N c (ζ5 L),layT 89 gB gL (putO a b v L)] wr:=by have:=HS.out;rw [HTK.out]at this;exact this
     obtain⟨A6,n6,c6,t0,t3,hs7⟩:=sepf_row hs6 (i:=3) rfl
     have HS6:=hid (show SepF F w [tpT HK.out.toRepOk (.pointer (some ⟨gT,0,none⟩)) n (fun y=>pcI f y∧¬y∈L),blkT gs #[.int .i64 a,.int .i64 b],rowT B2 89 3 A N c (ζ5 L),rowT 0 89 3 A6 n6 c6 (ζ5 (putO a b v L))] wr from hs7)
     have hn6:n6≤3:=by have:=HPP.out.2.1;omega
     have HN6:=hid t3
     clear HS hkN hs6 hs7 t3 x0 x1
     go_wp2_with fail
     clear t0 hlt
     go_loopw [75] (fun u wr=>∃k:Nat,u= .int .i64 (k:Int)∧k≤n6∧Hid (SepF F w [tpT HK.out.toRepOk (.pointer (some ⟨gT,0,none⟩)) (n+k) (keptQ (fun y=>pcI f y∧¬y∈L) (putO a b v L) k),blkT gs #[.int .i64 a,.int .i64 b],rowT B2 89 3 A N c (ζ5 L),rowT 0 89 3 A6 n6 c6 (ζ5 (putO a b v L))] wr)) (fun u _=>(n6-intOf u).toNat)
     case atStart=>exact⟨0,rfl,by omega,hid (by rw [keptQ_zero];exact HS6.out)⟩
     case round=>
      obtain⟨k,rfl,hk,HS⟩:=hrel
      clear HS6
      by_cases hlt:k<n6
      ·obtain⟨g,⟨y1,y2,y3⟩,rfl,hx,c0,c1,c2⟩:=own_get (HS.out.row 3 rfl) hlt
       have HX:=hid hx
       have hs6:=HS.out.push #[.int .i64 y1,.int .i64 y2,.int .i64 y3] 89
       have HS6:=hid hs6
       have z0:=(hs6.b 4 rfl).get 0 rfl
       have z1:=(hs6.b 4 rfl).get 1 rfl
       have z2:=(hs6.b 4 rfl).get 2 rfl
       have hmem:=List.mem_of_getElem? hx
       have HBD:=hid (HPP.out.2.2.1 _ hmem)
       clear hs6 hx hmem
       by_cases hz:y3=0
       ·have d0:(y3 != 0)=false:=by simpa using hz
        have HEQ:=hid (keptQ_no (Q:=fun y=>pcI f y∧¬y∈L) HX.out hz)
        have HS7:=hid ((HS6.out.take 4).as (i:=0) rfl (tpT HK.out.toRepOk (.pointer (some ⟨gT,0,none⟩)) (n+(k+1)) (keptQ (fun y=>pcI f y∧¬y∈L) (putO a b v L) (k+1))) (fun F' h=>⟨F',by rw [←HEQ.out];exact TpQ.more h (by omega),fun _ h=>h⟩))
        clear hz
        go_wp2_with fail
        go_roundw
        case rel=>exact⟨k+1,by go_num,by omega,HS7⟩
        case measure=>simp [intOf];omega
       ·have d0:(y3 != 0)=true:=by simpa using hz
        have HEQ:=hid (keptQ_yes (Q:=fun y=>pcI f y∧¬y∈L) HX.out hz)
        have HKP:=hid (sepf_keep HK.out HS6.out (i:=0) rfl (by omega) (y1,y2,y3) HBD.out.1 HBD.out.2.1 HBD.out.2.2 (fun y hy=>kept_new HPP.out.1 HPP.out.2.2.2.1 HPP.out.2.2.2.2 HX.out hz hy))
        clear hz
        go_wp2_with fail
        refine HKP.out.mono ?_
        rintro e w7 ⟨rfl,hs7⟩
        rw [HEQ.out]at hs7
        have HS7:=hid (hs7.take 4)
        clear hs7 HKP
        go_wp2_with fail
        go_roundw
        case rel=>exact⟨k+1,by go_num,by omega,HS7⟩
        case measure=>simp [intOf];omega
      ·obtain rfl:k=n6:=by omega
       have HEQ:=hid (keptQ_all (k:=k) (Nat.le_of_eq HN6.out) HPP.out.2.2.2.2)
       go_wp2_with fail
       go_ret
       obtain⟨F',h1,h2,h3⟩:=HS.out.fst
       have h1:TpQ Rep wr (.pointer (some ⟨gT,0,none⟩)) F' (n+k) (keptQ (fun y=>pcI f y∧¬y∈L) (putO a b v L) k):=h1
       rw [HEQ.out]at h1
       exact⟨F',rfl,h1.more (by omega),h3,fun k hk=>h2 k hk⟩
end Go.Proofs.YthagdonmijhpdaaGreat
