/- Contracts of package avl -/
import Derived.Test.YthagdonmijhpdaaGreatAk15
import Derived.Test.YthagdonmijhpdaaGreatAk17
import Derived.Test.YthagdonmijhpdaaGreatRowRel
import Derived.Test.YthagdonmijhpdaaGreatRelVal
import Derived.Deep.RegionWith
import Derived.Deep.AppendLies
open Go.Lib (hid)
set_option linter.unusedSimpArgs false
set_option linter.unusedVariables false
set_option maxHeartbeats 8000000
set_option maxRecDepth 8000
namespace Corr
open Go Go.RowKit
def VF (l:WyL)(res:Int)(v:Value)(_:World):Prop:=∃vs,v= .tuple #[.agg vs,.int .i64 res]∧WayV vs l
def VG (l:WyL)(v:Value)(_:World):Prop:=∃vs,v= .agg vs∧WayV vs l
theorem ζ1i (l:WyL)(res:Int):stays (VF l res):=fun _ _ _ h _=>h
theorem ζ44 (l:WyL):stays (VG l):=fun _ _ _ h _=>h
end Corr
namespace Go.Proofs.YthagdonmijhpdaaGreat
open Go.RowKit Corr
theorem ins_bad (gT g n c:Nat)(M:Int)(A:Option Addr)(K:KnL)(t:PT)(l:ItL)(x:It)(w:World)(H:TreeR 221 w gT g n c M A K t l)(hn:n≤1001)(hb:x.2.1≤x.1):Calls Tryz.prog 100 #[.pointer (some ⟨gT,0,none⟩),itV x] w fun e w'=>e= .returned (.int .i64 2)∧Below w.heap.size w w':=by
 obtain⟨x1,x2,x3⟩:=x
 have HT:=hid H
 have HS:=hid ((Mem.start w).push #[.int .i64 x1,.int .i64 x2,.int .i64 x3] 141)
 have HTL:=hid H.lt
 have HB0:=hid (show Ext w _ from(Below.refl _ w).alloc (Nat.le_refl _) (.cells #[.int .i64 x1,.int .i64 x2,.int .i64 x3] 141))
 have HM:=hid (ζ2v gT g _ (H.keep HB0.out).tp)
 have d1:decide (x1≥x2)=true:=decide_eq_true hb
 clear hb
 clear H
 go_enter Tryz.func100,Tryz.ntmps100
 go_upto_region 1 with fail
 generalize w.heap.size=hx at HS ⊢
 generalize w.alloc (.cells #[.int .i64 x1,.int .i64 x2,.int .i64 x3] 141)=wq at*
 go_wp2_with fail
 refine HM.out.mono ?_
 rintro e w1 ⟨rfl,hw1⟩
 subst w1
 have x0:=HS.out.c 0 0 rfl rfl
 have x1':=HS.out.c 0 1 rfl rfl
 go_wp2_with fail
 go_ret
 exact⟨rfl,HB0.out⟩
theorem ins_twice (gT g n c:Nat)(M:Int)(A:Option Addr)(K:KnL)(t:PT)(l:ItL)(x:It)(w:World)(H:TreeR 221 w gT g n c M A K t l)(hn:n≤1001)(wy:WyL)(res:Int)(P:Pth K x t.root wy res)(hl:wy.length≤28)(hb:x.1<x.2.1)(hr:(res != -1)=true):Calls Tryz.prog 100 #[.pointer (some ⟨gT,0,none⟩),itV x] w fun e w'=>e= .returned (.int .i64 6)∧Below w.heap.size w w':=by
 obtain⟨x1,x2,x3⟩:=x
 have HT:=hid H
 have HS:=hid ((Mem.start w).push #[.int .i64 x1,.int .i64 x2,.int .i64 x3] 141)
 have HTL:=hid H.lt
 have HB0:=hid (show Ext w _ from(Below.refl _ w).alloc (Nat.le_refl _) (.cells #[.int .i64 x1,.int .i64 x2,.int .i64 x3] 141))
 have HM:=hid (ζ2v gT g _ (H.keep HB0.out).tp)
 have HP:=hid P
 clear P
 have d1:decide (x1≥x2)=false:=decide_eq_false (by have:x1<x2:=hb;omega)
 clear hb
 clear H
 go_enter Tryz.func100,Tryz.ntmps100
 go_upto_region 1 with fail
 generalize w.heap.size=hx at HS ⊢
 generalize w.alloc (.cells #[.int .i64 x1,.int .i64 x2,.int .i64 x3] 141)=wq at*
 go_wp2_with fail
 refine HM.out.mono ?_
 rintro e w1 ⟨rfl,hw1⟩
 subst w1
 have x0:=HS.out.c 0 0 rfl rfl
 have x1':=HS.out.c 0 1 rfl rfl
 go_upto_region 5 with fail
 refine ζ4 10 (MemAt w wq.heap.size [(hx,#[.int .i64 x1,.int .i64 x2,.int .i64 x3])] [])
  (fun i=>List.getD [VE (.pointer (some ⟨gT,0,none⟩)),VE (.pointer (some ⟨gT,0,none⟩)),VE (.pointer (some ⟨gT,0,none⟩)),VE (.pointer (some ⟨g,0,none⟩)),VE (.agg #[.int .i64 x1,.int .i64 x2,.int .i64 x3]),VF (wy) (res),VF (wy) (res),VG (wy),VE (.int .i64 res),VA (wq.heap.size) ζc] i (fun _ _=>False)) [9] [0,1,2,6,7,8] (by kernel_rfl) (by kernel_rfl) HS.out.at (fun _ _ h hb=>h.grow hb)
  (ζb (ζ0 (ζ1 _) (ζ0 (ζ1 _) (ζ0 (ζ1 _) (ζ0 (ζ1 _) (ζ0 (ζ1 _) (ζ0 (ζ1i _ _) (ζ0 (ζ1i _ _) (ζ0 (ζ44 _) (ζ0 (ζ1 _) (ζ0 (ζ45 _ _) ζa))))))))))) ⟨?_,?_,?_,?_,?_,?_,?_,?_,?_,?_,trivial⟩ ?_
 ·exact rU [0]
 ·exact rU []
 ·exact rU []
 ·exact rL [] fun hw=>(HT.out.keep hw.m.bl).tp.get 0 rfl
 ·exact rL [3] fun hw=>And.intro (hw.m.c 0 0 rfl rfl) (And.intro (hw.m.c 0 1 rfl rfl) (hw.m.c 0 2 rfl rfl))
 ·intro ev wv hE hw hd
  refine rC (f:=129) (args:= #[.pointer (some ⟨g,0,none⟩),.agg #[.int .i64 x1,.int .i64 x2,.int .i64 x3]]) [] hE hd ((ζ3j g n c A M t.root K (x1,x2,x3) wy res _ (HT.out.ar.keep hw.m.bl) HP.out hl (by omega))) ?_
  rintro e w' ⟨vs,rfl,hv,hb⟩
  exact⟨_,rfl,hb,⟨vs,rfl,hv⟩,fun h=>by cases h⟩
 ·intro ev wv hE hw hd
  refine ifw rfl (ifw rfl ?_)
  refine⟨ev (.tmp 21),fun w=> ?_,hd 5 (by decide)⟩
  clear hE hd hw
  go_simp
 ·intro ev wv hE hw hd
  refine ifw rfl (ifw rfl ?_)
  obtain⟨xv6,v15,xh6⟩:VF (wy) (res) (ev (.tmp 15)) wv:=hd 6 (by decide)
  refine⟨.agg xv6,fun w=> ?_,⟨xv6,rfl,xh6⟩⟩
  have e1:=hE.const;clear hE hd hw
  go_simp
 ·intro ev wv hE hw hd
  refine ifw rfl (ifw rfl ?_)
  obtain⟨xv6,v15,xh6⟩:VF (wy) (res) (ev (.tmp 15)) wv:=hd 6 (by decide)
  refine⟨.int .i64 res,fun w=> ?_,rfl⟩
  have e1:=hE.const;clear hE hd hw
  go_simp
 ·intro ev wv hE hw hd
  refine ifw rfl (ifn rfl ?_)
  refine ζ4a (u:= .pointer (some ⟨wv.heap.size,0,none⟩)) (w':=wv.alloc (.cells ζc 203)) ?_ ((Below.refl _ _).alloc (Nat.le_refl _) _) ⟨⟨_,rfl,Blk.new _ _ _,hw.h⟩,fun _=>⟨_,rfl,Nat.le_refl _,by simp⟩⟩
  clear hE hd hw
  go_simp
  rfl
 ·intro wz hw
  intro v0 h0 _ v1 h1 _ v2 h2 _ v3 h3 _ v4 h4 _ v5 h5 _ v6 h6 _ v7 h7 _ v8 h8 _ v9 h9 n9
  simp only [zA]
  obtain rfl:v0=_:=h0
  obtain rfl:v1=_:=h1
  obtain rfl:v2=_:=h2
  obtain rfl:v3=_:=h3
  obtain rfl:v4=_:=h4
  obtain⟨xv5,rfl,xh5⟩:VF (wy) (res) v5 wz:=h5
  obtain⟨xv6,rfl,xh6⟩:VF (wy) (res) v6 wz:=h6
  obtain⟨xv7,rfl,xh7⟩:VG (wy) v7 wz:=h7
  obtain rfl:v8=_:=h8
  obtain⟨xg9,rfl,xB9,xl9⟩:VA (wq.heap.size) ζc v9 wz:=h9
  change wpList Tryz.prog _ _ _ _ wz
  have HM1:=hid hw.m
  have hB0:=xB9
  obtain⟨TR,BR⟩:=hB0.blk
  have hBR:=hid BR
  have hV:=hid xh7
  have HLO:=hid (Nat.le_trans HS.out.bl.size xl9)
  clear BR hB0 hw n9
  go_wp2_with (refine wpList_store_row rfl 203 _ _ rfl xg9 xv7 rfl rfl TR ζc hBR.out (by rw [hV.out.sz];exact ζ14) (by rw [hV.out.sz];rfl) hV.out.one ?_)
  refine ζ2 ?_
  have HO5:=hid (ζ2c (Off.refl (· =xg9) wz) (g:=xg9) (.inl rfl) xv7)
  have HB5:=hid (show Below w.heap.size w _ from ζt HM1.out.bl HLO.out xv7)
  have HW5:=hid (show WayM (wz.setRow xg9 xv7) xg9 wy from⟨xv7,⟨TR,setRow_heap wz xg9 _ xv7 TR (0,0) hBR.out⟩,hV.out⟩)
  have HX5:=hid (HO5.out.blk (HM1.out.b 0 rfl) (fun e=>by have h1:=(HS.out.b 0 rfl).sz;have h2:=xl9;omega))
  clear HO5 hBR hV HM1 x0 x1'
  generalize wz.setRow xg9 xv7=w5 at*
  obtain⟨gW,hgW⟩: ∃k,xg9=k:=⟨_,rfl⟩
  rw [hgW]at HW5 HLO ⊢
  clear hgW
  go_wp2_with fail
  go_ret
  exact⟨rfl,HB5.out⟩
theorem len_b (gT g n c:Nat)(M:Int)(A:Option Addr)(K:KnL)(t:PT)(l:ItL)(w:World)(H:TreeR 221 w gT g n c M A K t l):Calls Tryz.prog 131 #[.pointer (some ⟨gT,0,none⟩)] w fun e w'=>e= .returned (.int .i64 (n:Int))∧Below w.heap.size w w':=
 (len_any gT g n c M A K t l w H).mono fun e w' h=>⟨h.1,by rw [h.2];exact Below.refl _ _⟩
theorem ins_full (gT g n c:Nat)(M:Int)(A:Option Addr)(K:KnL)(t:PT)(l:ItL)(x:It)(w:World)(H:TreeR 221 w gT g n c M A K t l)(hn:n≤1001)(wy:WyL)(res:Int)(P:Pth K x t.root wy res)(hl:wy.length≤28)(hb:x.1<x.2.1)(hr:(res != -1)=false)(hf:(n:Int)=M):Calls Tryz.prog 100 #[.pointer (some ⟨gT,0,none⟩),itV x] w fun e w'=>e= .returned (.int .i64 7)∧Below w.heap.size w w':=by
 obtain⟨x1,x2,x3⟩:=x
 have HT:=hid H
 have HS:=hid ((Mem.start w).push #[.int .i64 x1,.int .i64 x2,.int .i64 x3] 141)
 have HTL:=hid H.lt
 have HB0:=hid (show Ext w _ from(Below.refl _ w).alloc (Nat.le_refl _) (.cells #[.int .i64 x1,.int .i64 x2,.int .i64 x3] 141))
 have HM:=hid (ζ2v gT g _ (H.keep HB0.out).tp)
 have HP:=hid P
 clear P
 have d1:decide (x1≥x2)=false:=decide_eq_false (by have:x1<x2:=hb;omega)
 clear hb
 have df:((n:Int) == M)=true:=by simpa using hf
 clear hf
 clear H
 go_enter Tryz.func100,Tryz.ntmps100
 go_upto_region 1 with fail
 generalize w.heap.size=hx at HS ⊢
 generalize w.alloc (.cells #[.int .i64 x1,.int .i64 x2,.int .i64 x3] 141)=wq at*
 go_wp2_with fail
 refine HM.out.mono ?_
 rintro e w1 ⟨rfl,hw1⟩
 subst w1
 have x0:=HS.out.c 0 0 rfl rfl
 have x1':=HS.out.c 0 1 rfl rfl
 go_upto_region 5 with fail
 refine ζ4 10 (MemAt w wq.heap.size [(hx,#[.int .i64 x1,.int .i64 x2,.int .i64 x3])] [])
  (fun i=>List.getD [VE (.pointer (some ⟨gT,0,none⟩)),VE (.pointer (some ⟨gT,0,none⟩)),VE (.pointer (some ⟨gT,0,none⟩)),VE (.pointer (some ⟨g,0,none⟩)),VE (.agg #[.int .i64 x1,.int .i64 x2,.int .i64 x3]),VF (wy) (res),VF (wy) (res),VG (wy),VE (.int .i64 res),VA (wq.heap.size) ζc] i (fun _ _=>False)) [9] [0,1,2,6,7,8] (by kernel_rfl) (by kernel_rfl) HS.out.at (fun _ _ h hb=>h.grow hb)
  (ζb (ζ0 (ζ1 _) (ζ0 (ζ1 _) (ζ0 (ζ1 _) (ζ0 (ζ1 _) (ζ0 (ζ1 _) (ζ0 (ζ1i _ _) (ζ0 (ζ1i _ _) (ζ0 (ζ44 _) (ζ0 (ζ1 _) (ζ0 (ζ45 _ _) ζa))))))))))) ⟨?_,?_,?_,?_,?_,?_,?_,?_,?_,?_,trivial⟩ ?_
 ·exact rU [0]
 ·exact rU []
 ·exact rU []
 ·exact rL [] fun hw=>(HT.out.keep hw.m.bl).tp.get 0 rfl
 ·exact rL [3] fun hw=>And.intro (hw.m.c 0 0 rfl rfl) (And.intro (hw.m.c 0 1 rfl rfl) (hw.m.c 0 2 rfl rfl))
 ·intro ev wv hE hw hd
  refine rC (f:=129) (args:= #[.pointer (some ⟨g,0,none⟩),.agg #[.int .i64 x1,.int .i64 x2,.int .i64 x3]]) [] hE hd ((ζ3j g n c A M t.root K (x1,x2,x3) wy res _ (HT.out.ar.keep hw.m.bl) HP.out hl (by omega))) ?_
  rintro e w' ⟨vs,rfl,hv,hb⟩
  exact⟨_,rfl,hb,⟨vs,rfl,hv⟩,fun h=>by cases h⟩
 ·intro ev wv hE hw hd
  refine ifw rfl (ifw rfl ?_)
  refine⟨ev (.tmp 21),fun w=> ?_,hd 5 (by decide)⟩
  clear hE hd hw
  go_simp
 ·intro ev wv hE hw hd
  refine ifw rfl (ifw rfl ?_)
  obtain⟨xv6,v15,xh6⟩:VF (wy) (res) (ev (.tmp 15)) wv:=hd 6 (by decide)
  refine⟨.agg xv6,fun w=> ?_,⟨xv6,rfl,xh6⟩⟩
  have e1:=hE.const;clear hE hd hw
  go_simp
 ·intro ev wv hE hw hd
  refine ifw rfl (ifw rfl ?_)
  obtain⟨xv6,v15,xh6⟩:VF (wy) (res) (ev (.tmp 15)) wv:=hd 6 (by decide)
  refine⟨.int .i64 res,fun w=> ?_,rfl⟩
  have e1:=hE.const;clear hE hd hw
  go_simp
 ·intro ev wv hE hw hd
  refine ifw rfl (ifn rfl ?_)
  refine ζ4a (u:= .pointer (some ⟨wv.heap.size,0,none⟩)) (w':=wv.alloc (.cells ζc 203)) ?_ ((Below.refl _ _).alloc (Nat.le_refl _) _) ⟨⟨_,rfl,Blk.new _ _ _,hw.h⟩,fun _=>⟨_,rfl,Nat.le_refl _,by simp⟩⟩
  clear hE hd hw
  go_simp
  rfl
 ·intro wz hw
  intro v0 h0 _ v1 h1 _ v2 h2 _ v3 h3 _ v4 h4 _ v5 h5 _ v6 h6 _ v7 h7 _ v8 h8 _ v9 h9 n9
  simp only [zA]
  obtain rfl:v0=_:=h0
  obtain rfl:v1=_:=h1
  obtain rfl:v2=_:=h2
  obtain rfl:v3=_:=h3
  obtain rfl:v4=_:=h4
  obtain⟨xv5,rfl,xh5⟩:VF (wy) (res) v5 wz:=h5
  obtain⟨xv6,rfl,xh6⟩:VF (wy) (res) v6 wz:=h6
  obtain⟨xv7,rfl,xh7⟩:VG (wy) v7 wz:=h7
  obtain rfl:v8=_:=h8
  obtain⟨xg9,rfl,xB9,xl9⟩:VA (wq.heap.size) ζc v9 wz:=h9
  change wpList Tryz.prog _ _ _ _ wz
  have HM1:=hid hw.m
  have hB0:=xB9
  obtain⟨TR,BR⟩:=hB0.blk
  have hBR:=hid BR
  have hV:=hid xh7
  have HLO:=hid (Nat.le_trans HS.out.bl.size xl9)
  clear BR hB0 hw n9
  go_wp2_with (refine wpList_store_row rfl 203 _ _ rfl xg9 xv7 rfl rfl TR ζc hBR.out (by rw [hV.out.sz];exact ζ14) (by rw [hV.out.sz];rfl) hV.out.one ?_)
  refine ζ2 ?_
  have HO5:=hid (ζ2c (Off.refl (· =xg9) wz) (g:=xg9) (.inl rfl) xv7)
  have HB5:=hid (show Below w.heap.size w _ from ζt HM1.out.bl HLO.out xv7)
  have HW5:=hid (show WayM (wz.setRow xg9 xv7) xg9 wy from⟨xv7,⟨TR,setRow_heap wz xg9 _ xv7 TR (0,0) hBR.out⟩,hV.out⟩)
  have HX5:=hid (HO5.out.blk (HM1.out.b 0 rfl) (fun e=>by have h1:=(HS.out.b 0 rfl).sz;have h2:=xl9;omega))
  clear HO5 hBR hV HM1 x0 x1'
  generalize wz.setRow xg9 xv7=w5 at*
  obtain⟨gW,hgW⟩: ∃k,xg9=k:=⟨_,rfl⟩
  rw [hgW]at HW5 HLO ⊢
  clear hgW
  go_wp2_with fail
  go_upto_region 8 with fail
  refine ζ4 11 (Ext w5)
   (fun i=>List.getD [VE (.pointer (some ⟨gT,0,none⟩)),VE (.int .i64 (n:Int)),VE (.pointer (some ⟨gT,0,none⟩)),VE (.pointer (some ⟨gT,0,none⟩)),VE (.pointer (some ⟨gT,0,none⟩)),VE (.pointer (some ⟨g,0,none⟩)),VE (.pointer (some ⟨g,0,none⟩)),VE (.pointer (some ⟨g,0,none⟩)),VE (.int .i64 M),VE (.bool true),VE (.bool true)] i (fun _ _=>False)) [] [0,2,3,4,6,7,9,10] (by kernel_rfl) (by kernel_rfl) (Ext.start w5) (fun _ _ h hb=>h.grow hb)
   stA ⟨?_,?_,?_,?_,?_,?_,?_,?_,?_,?_,?_,trivial⟩ ?_
  ·exact rU [0]
  ·intro ev wv hE hw hd
   refine rC (f:=131) (args:= #[.pointer (some ⟨gT,0,none⟩)]) [] hE hd (len_b gT g n c M A K t l _ (HT.out.keep (Below.trans HB5.out (Below.mono hw HB5.out.size)))) ?_
   rintro e w' ⟨rfl,hb⟩
   exact⟨_,rfl,hb,rfl,fun h=>by cases h⟩
  ·exact rU [0]
  ·exact rU []
  ·exact rU []
  ·exact rL [] fun hw=>(HT.out.keep (Below.trans HB5.out (Below.mono hw HB5.out.size))).tp.get 0 rfl
  ·exact rU []
  ·exact rU []
  ·exact rL [] fun hw=>(HT.out.keep (Below.trans HB5.out (Below.mono hw HB5.out.size))).ar.b.get 0 rfl
  ·exact rU []
  ·exact rU []
  ·intro w6 hw
   iterate 11 rintro _ rfl _
   simp only [zA]
   change wpList Tryz.prog _ _ _ _ w6
   have HB6:=hid (Below.trans HB5.out (Below.mono hw HB5.out.size))
   clear hw
   go_wp2_with fail
   refine ζ2 ?_
   go_wp2_with fail
   go_ret
   exact⟨rfl,HB6.out⟩
theorem ins_ok (gT g n c:Nat)(M:Int)(A:Option Addr)(K:KnL)(t:PT)(l:ItL)(x:It)(w:World)(H:TreeR 221 w gT g n c M A K t l)(hn:n≤1001)(cx:Cx)(hplug:cx.plug .nil=t)(P:Pth K x t.root cx.way (-1))(hl:cx.way.length≤28)(hb:x.1<x.2.1)(hf: ¬(n:Int)=M)(hb1: ∀y∈cx.bef,lessB y x=true)(hb2: ∀y∈cx.aft,lessB x y=true):Calls Tryz.prog 100 #[.pointer (some ⟨gT,0,none⟩),itV x] w fun e w'=>e= .returned (.int .i64 0)∧∃A' c' K' t',TreeR 221 w' gT g (n+1) c' M A' K' t' (insI x l)∧Off (inTr gT g A n c) w w'∧∀k,inRow A' (n+1) c' k→inRow A n c k∨w.heap.size≤k:=by
 obtain⟨x1,x2,x3⟩:=x
 have HT:=hid H
 have HS:=hid ((Mem.start w).push #[.int .i64 x1,.int .i64 x2,.int .i64 x3] 141)
 have HTL:=hid H.lt
 have HB0:=hid (show Ext w _ from(Below.refl _ w).alloc (Nat.le_refl _) (.cells #[.int .i64 x1,.int .i64 x2,.int .i64 x3] 141))
 have HM:=hid (ζ2v gT g _ (H.keep HB0.out).tp)
 have HP:=hid P
 have HPL:=hid hplug
 have HF:=hid (And.intro hb1 hb2)
 have hr:((-1:Int) != -1)=false:=rfl
 have df:((n:Int) == M)=false:=by simpa using hf
 clear P hplug hb1 hb2 hf
 have d1:decide (x1≥x2)=false:=decide_eq_false (by have:x1<x2:=hb;omega)
 clear hb
 clear H
 go_enter Tryz.func100,Tryz.ntmps100
 go_upto_region 1 with fail
 generalize w.heap.size=hx at HS ⊢
 generalize w.alloc (.cells #[.int .i64 x1,.int .i64 x2,.int .i64 x3] 141)=wq at*
 go_wp2_with fail
 refine HM.out.mono ?_
 rintro e w1 ⟨rfl,hw1⟩
 subst w1
 have x0:=HS.out.c 0 0 rfl rfl
 have x1':=HS.out.c 0 1 rfl rfl
 go_upto_region 5 with fail
 refine ζ4 10 (MemAt w wq.heap.size [(hx,#[.int .i64 x1,.int .i64 x2,.int .i64 x3])] [])
  (fun i=>List.getD [VE (.pointer (some ⟨gT,0,none⟩)),VE (.pointer (some ⟨gT,0,none⟩)),VE (.pointer (some ⟨gT,0,none⟩)),VE (.pointer (some ⟨g,0,none⟩)),VE (.agg #[.int .i64 x1,.int .i64 x2,.int .i64 x3]),VF (cx.way) ((-1)),VF (cx.way) ((-1)),VG (cx.way),VE (.int .i64 (-1)),VA (wq.heap.size) ζc] i (fun _ _=>False)) [9] [0,1,2,6,7,8] (by kernel_rfl) (by kernel_rfl) HS.out.at (fun _ _ h hb=>h.grow hb)
  (ζb (ζ0 (ζ1 _) (ζ0 (ζ1 _) (ζ0 (ζ1 _) (ζ0 (ζ1 _) (ζ0 (ζ1 _) (ζ0 (ζ1i _ _) (ζ0 (ζ1i _ _) (ζ0 (ζ44 _) (ζ0 (ζ1 _) (ζ0 (ζ45 _ _) ζa))))))))))) ⟨?_,?_,?_,?_,?_,?_,?_,?_,?_,?_,trivial⟩ ?_
 ·exact rU [0]
 ·exact rU []
 ·exact rU []
 ·exact rL [] fun hw=>(HT.out.keep hw.m.bl).tp.get 0 rfl
 ·exact rL [3] fun hw=>And.intro (hw.m.c 0 0 rfl rfl) (And.intro (hw.m.c 0 1 rfl rfl) (hw.m.c 0 2 rfl rfl))
 ·intro ev wv hE hw hd
  refine rC (f:=129) (args:= #[.pointer (some ⟨g,0,none⟩),.agg #[.int .i64 x1,.int .i64 x2,.int .i64 x3]]) [] hE hd ((ζ3j g n c A M t.root K (x1,x2,x3) cx.way (-1) _ (HT.out.ar.keep hw.m.bl) HP.out hl (by omega))) ?_
  rintro e w' ⟨vs,rfl,hv,hb⟩
  exact⟨_,rfl,hb,⟨vs,rfl,hv⟩,fun h=>by cases h⟩
 ·intro ev wv hE hw hd
  refine ifw rfl (ifw rfl ?_)
  refine⟨ev (.tmp 21),fun w=> ?_,hd 5 (by decide)⟩
  clear hE hd hw
  go_simp
 ·intro ev wv hE hw hd
  refine ifw rfl (ifw rfl ?_)
  obtain⟨xv6,v15,xh6⟩:VF (cx.way) ((-1)) (ev (.tmp 15)) wv:=hd 6 (by decide)
  refine⟨.agg xv6,fun w=> ?_,⟨xv6,rfl,xh6⟩⟩
  have e1:=hE.const;clear hE hd hw
  go_simp
 ·intro ev wv hE hw hd
  refine ifw rfl (ifw rfl ?_)
  obtain⟨xv6,v15,xh6⟩:VF (cx.way) ((-1)) (ev (.tmp 15)) wv:=hd 6 (by decide)
  refine⟨.int .i64 (-1),fun w=> ?_,rfl⟩
  have e1:=hE.const;clear hE hd hw
  go_simp
 ·intro ev wv hE hw hd
  refine ifw rfl (ifn rfl ?_)
  refine ζ4a (u:= .pointer (some ⟨wv.heap.size,0,none⟩)) (w':=wv.alloc (.cells ζc 203)) ?_ ((Below.refl _ _).alloc (Nat.le_refl _) _) ⟨⟨_,rfl,Blk.new _ _ _,hw.h⟩,fun _=>⟨_,rfl,Nat.le_refl _,by simp⟩⟩
  clear hE hd hw
  go_simp
  rfl
 ·intro wz hw
  intro v0 h0 _ v1 h1 _ v2 h2 _ v3 h3 _ v4 h4 _ v5 h5 _ v6 h6 _ v7 h7 _ v8 h8 _ v9 h9 n9
  simp only [zA]
  obtain rfl:v0=_:=h0
  obtain rfl:v1=_:=h1
  obtain rfl:v2=_:=h2
  obtain rfl:v3=_:=h3
  obtain rfl:v4=_:=h4
  obtain⟨xv5,rfl,xh5⟩:VF (cx.way) ((-1)) v5 wz:=h5
  obtain⟨xv6,rfl,xh6⟩:VF (cx.way) ((-1)) v6 wz:=h6
  obtain⟨xv7,rfl,xh7⟩:VG (cx.way) v7 wz:=h7
  obtain rfl:v8=_:=h8
  obtain⟨xg9,rfl,xB9,xl9⟩:VA (wq.heap.size) ζc v9 wz:=h9
  change wpList Tryz.prog _ _ _ _ wz
  have HM1:=hid hw.m
  have hB0:=xB9
  obtain⟨TR,BR⟩:=hB0.blk
  have hBR:=hid BR
  have hV:=hid xh7
  have HLO:=hid (Nat.le_trans HS.out.bl.size xl9)
  clear BR hB0 hw n9
  go_wp2_with (refine wpList_store_row rfl 203 _ _ rfl xg9 xv7 rfl rfl TR ζc hBR.out (by rw [hV.out.sz];exact ζ14) (by rw [hV.out.sz];rfl) hV.out.one ?_)
  refine ζ2 ?_
  have HO5:=hid (ζ2c (Off.refl (· =xg9) wz) (g:=xg9) (.inl rfl) xv7)
  have HB5:=hid (show Below w.heap.size w _ from ζt HM1.out.bl HLO.out xv7)
  have HW5:=hid (show WayM (wz.setRow xg9 xv7) xg9 cx.way from⟨xv7,⟨TR,setRow_heap wz xg9 _ xv7 TR (0,0) hBR.out⟩,hV.out⟩)
  have HX5:=hid (HO5.out.blk (HM1.out.b 0 rfl) (fun e=>by have h1:=(HS.out.b 0 rfl).sz;have h2:=xl9;omega))
  clear HO5 hBR hV HM1 x0 x1'
  generalize wz.setRow xg9 xv7=w5 at*
  obtain⟨gW,hgW⟩: ∃k,xg9=k:=⟨_,rfl⟩
  rw [hgW]at HW5 HLO ⊢
  clear hgW
  go_wp2_with fail
  go_upto_region 8 with fail
  refine ζ4 11 (Ext w5)
   (fun i=>List.getD [VE (.pointer (some ⟨gT,0,none⟩)),VE (.int .i64 (n:Int)),VE (.pointer (some ⟨gT,0,none⟩)),VE (.pointer (some ⟨gT,0,none⟩)),VE (.pointer (some ⟨gT,0,none⟩)),VE (.pointer (some ⟨g,0,none⟩)),VE (.pointer (some ⟨g,0,none⟩)),VE (.pointer (some ⟨g,0,none⟩)),VE (.int .i64 M),VE (.bool false),VE (.bool false)] i (fun _ _=>False)) [] [0,2,3,4,6,7,9,10] (by kernel_rfl) (by kernel_rfl) (Ext.start w5) (fun _ _ h hb=>h.grow hb)
   stA ⟨?_,?_,?_,?_,?_,?_,?_,?_,?_,?_,?_,trivial⟩ ?_
  ·exact rU [0]
  ·intro ev wv hE hw hd
   refine rC (f:=131) (args:= #[.pointer (some ⟨gT,0,none⟩)]) [] hE hd (len_b gT g n c M A K t l _ (HT.out.keep (Below.trans HB5.out (Below.mono hw HB5.out.size)))) ?_
   rintro e w' ⟨rfl,hb⟩
   exact⟨_,rfl,hb,rfl,fun h=>by cases h⟩
  ·exact rU [0]
  ·exact rU []
  ·exact rU []
  ·exact rL [] fun hw=>(HT.out.keep (Below.trans HB5.out (Below.mono hw HB5.out.size))).tp.get 0 rfl
  ·exact rU []
  ·exact rU []
  ·exact rL [] fun hw=>(HT.out.keep (Below.trans HB5.out (Below.mono hw HB5.out.size))).ar.b.get 0 rfl
  ·exact rU []
  ·exact rU []
  ·intro w6 hw
   iterate 11 rintro _ rfl _
   simp only [zA]
   change wpList Tryz.prog _ _ _ _ w6
   have HB6:=hid (Below.trans HB5.out (Below.mono hw HB5.out.size))
   have HX6:=hid (HX5.out.keep hw)
   have HW6:=hid (HW5.out.keep hw)
   clear hw
   go_wp2_with fail
   refine ζ2 ?_
   go_upto_region 10 with fail
   refine ζ4 5 (Ext w6)
    (fun i=>List.getD [VE (.pointer (some ⟨gT,0,none⟩)),VE (.pointer (some ⟨gT,0,none⟩)),VE (.pointer (some ⟨gT,0,none⟩)),VE (.pointer (some ⟨g,0,none⟩)),VE (.agg #[.int .i64 x1,.int .i64 x2,.int .i64 x3])] i (fun _ _=>False)) [] [0,1,2] (by kernel_rfl) (by kernel_rfl) (Ext.start w6) (fun _ _ h hb=>h.grow hb)
    stA ⟨?_,?_,?_,?_,?_,trivial⟩ ?_
   ·exact rU [0]
   ·exact rU []
   ·exact rU []
   ·exact rL [] fun hw=>(HT.out.keep (Below.trans HB6.out (Below.mono hw HB6.out.size))).tp.get 0 rfl
   ·exact rL [3] fun hw=>And.intro ((HX6.out.keep hw).get 0 rfl) (And.intro ((HX6.out.keep hw).get 1 rfl) ((HX6.out.keep hw).get 2 rfl))
   ·intro w7 hw
    iterate 5 rintro _ rfl _
    simp only [zA]
    change wpList Tryz.prog _ _ _ _ w7
    have HB7:=hid (Below.trans HB6.out (Below.mono hw HB6.out.size))
    have HW7:=hid (HW6.out.keep hw)
    have HT7:=hid (HT.out.keep HB7.out)
    clear hw
    have HNE:=hid (show ¬inAr g A n c gW from fun e=>by have h1:=HTL.out gW (.inr e);have h2:=HLO.out;omega)
    have HTG:=hid (show gT≠gW from fun e=>by have h1:=HTL.out gT (.inl rfl);have h2:=HLO.out;omega)
    have hrc:RpC K t.root cx (-1):=by
     have h1:=(RpC.of cx .nil (by rw [HPL.out];exact HT.out.rp)).2
     rw [HPL.out]at h1;exact h1
    have hok:okC cx 0:=(okC.of cx .nil (by rw [HPL.out];exact HT.out.bal)).2
    have hpm:t.places.Perm cx.places:=by have:=cx.perm .nil;rw [HPL.out]at this;exact this
    have hit:cx.bef++cx.aft=l:=by have:=cx.items .nil;rw [HPL.out,HT.out.it]at this;exact this.symm
    have hlen:(cx.bef++(x1,x2,x3) :: cx.aft).length≤1500:=by
     have h1:=congrArg List.length hit
     rw [HT.out.num]at h1
     simp at h1 ⊢;omega
    have HPM:=hid hpm
    have HIT:=hid hit
    go_wp2_with fail
    refine(put_any g gW n c A M t.root K cx (x1,x2,x3) w7 HT7.out.ar HW7.out HNE.out hrc (hpm.nodup_iff.1 HT.out.nd) hok hlen (by omega)).mono ?_
    rintro e w8 ⟨A',c',t',K',h0,rfl,hA8,hR8,hF8,hU8⟩
    have HA8:=hid hA8
    have HR8:=hid hR8
    have HF8:=hid hF8
    have HU8:=hid hU8
    clear hA8 hR8 hF8 hU8 hrc hok hpm hit hlen
    go_wp2_with fail
    refine ζ2 ?_
    go_wp2_with fail
    go_ret
    have hsp:=ins_split (x:=(x1,x2,x3)) (by rw [HIT.out];exact HT.out.srt) HF.out.1 HF.out.2
    rw [HIT.out]at hsp
    have hpm8:t'.places.Perm (n :: cx.places):=by have:=HR8.out.pm;rwa [Cx.places,List.append_nil]at this
    have hlo: ∀k,inRow A' (n+1) c' k→inRow A n c k∨w.heap.size≤k:=fun k hk=>(HU8.out k hk).imp_right fun h=>Nat.le_trans HB7.out.size h
    refine⟨rfl,A',c',K',t',⟨HF8.out.blk HT7.out.tp ?_,HA8.out,HR8.out.rp,HR8.out.bal,?_,?_,?_,?_,HT.out.ne.1,?_⟩,?_,hlo⟩
    ·rintro((e | e) | e)
     ·exact HT.out.ne.1 e
     ·exact HT.out.ne.2 e
     ·exact HTG.out e
    ·have:=HR8.out.nd;rwa [Cx.places,List.append_nil]at this
    ·rw [hpm8.length_eq,List.length_cons,←HPM.out.length_eq,HT.out.len]
    ·rw [hsp.1];exact HR8.out.it
    ·exact ins_srt HT.out.srt hsp.2
    ·intro e
     rcases hlo gT e with h | h
     ·exact HT.out.ne.2 h
     ·have:=HTL.out gT (.inl rfl);omega
    ·refine((Off.of HB7.out).trans HF8.out).less fun k hk=> ?_
     rcases hk with h | h
     ·exact .inl (.inr h)
     ·right;rw [h];exact HLO.out
theorem del_no (gT g n c:Nat)(M:Int)(A:Option Addr)(K:KnL)(t:PT)(l:ItL)(x:It)(w:World)(H:TreeR 221 w gT g n c M A K t l)(hn:n≤1001)(wy:WyL)(res:Int)(P:Pth K x t.root wy res)(hl:wy.length≤28)(hr:(res == -1)=true):Calls Tryz.prog 99 #[.pointer (some ⟨gT,0,none⟩),itV x] w fun e w'=>e= .returned (.int .i64 5)∧Below w.heap.size w w':=by
 obtain⟨x1,x2,x3⟩:=x
 have HT:=hid H
 have HS:=hid ((Mem.start w).push #[.int .i64 x1,.int .i64 x2,.int .i64 x3] 141)
 have HTL:=hid H.lt
 have HB0:=hid (show Ext w _ from(Below.refl _ w).alloc (Nat.le_refl _) (.cells #[.int .i64 x1,.int .i64 x2,.int .i64 x3] 141))
 have HM:=hid (ζ2v gT g _ (H.keep HB0.out).tp)
 have HP:=hid P
 clear P
 clear H
 go_enter Tryz.func99,Tryz.ntmps99
 go_upto_region 1 with fail
 generalize w.heap.size=hx at HS ⊢
 generalize w.alloc (.cells #[.int .i64 x1,.int .i64 x2,.int .i64 x3] 141)=wq at*
 go_wp2_with fail
 refine HM.out.mono ?_
 rintro e w1 ⟨rfl,hw1⟩
 subst w1
 have x0:=HS.out.c 0 0 rfl rfl
 have x1':=HS.out.c 0 1 rfl rfl
 go_upto_region 3 with fail
 refine ζ4 10 (MemAt w wq.heap.size [(hx,#[.int .i64 x1,.int .i64 x2,.int .i64 x3])] [])
  (fun i=>List.getD [VE (.pointer (some ⟨gT,0,none⟩)),VE (.pointer (some ⟨gT,0,none⟩)),VE (.pointer (some ⟨gT,0,none⟩)),VE (.pointer (some ⟨g,0,none⟩)),VE (.agg #[.int .i64 x1,.int .i64 x2,.int .i64 x3]),VF (wy) (res),VF (wy) (res),VG (wy),VE (.int .i64 res),VA (wq.heap.size) ζc] i (fun _ _=>False)) [9] [0,1,2,6,7,8] (by kernel_rfl) (by kernel_rfl) HS.out.at (fun _ _ h hb=>h.grow hb)
  (ζb (ζ0 (ζ1 _) (ζ0 (ζ1 _) (ζ0 (ζ1 _) (ζ0 (ζ1 _) (ζ0 (ζ1 _) (ζ0 (ζ1i _ _) (ζ0 (ζ1i _ _) (ζ0 (ζ44 _) (ζ0 (ζ1 _) (ζ0 (ζ45 _ _) ζa))))))))))) ⟨?_,?_,?_,?_,?_,?_,?_,?_,?_,?_,trivial⟩ ?_
 ·exact rU [0]
 ·exact rU []
 ·exact rU []
 ·exact rL [] fun hw=>(HT.out.keep hw.m.bl).tp.get 0 rfl
 ·exact rL [3] fun hw=>And.intro (hw.m.c 0 0 rfl rfl) (And.intro (hw.m.c 0 1 rfl rfl) (hw.m.c 0 2 rfl rfl))
 ·intro ev wv hE hw hd
  refine rC (f:=129) (args:= #[.pointer (some ⟨g,0,none⟩),.agg #[.int .i64 x1,.int .i64 x2,.int .i64 x3]]) [] hE hd ((ζ3j g n c A M t.root K (x1,x2,x3) wy res _ (HT.out.ar.keep hw.m.bl) HP.out hl (by omega))) ?_
  rintro e w' ⟨vs,rfl,hv,hb⟩
  exact⟨_,rfl,hb,⟨vs,rfl,hv⟩,fun h=>by cases h⟩
 ·intro ev wv hE hw hd
  refine ifw rfl (ifw rfl ?_)
  refine⟨ev (.tmp 16),fun w=> ?_,hd 5 (by decide)⟩
  clear hE hd hw
  go_simp
 ·intro ev wv hE hw hd
  refine ifw rfl (ifw rfl ?_)
  obtain⟨xv6,v10,xh6⟩:VF (wy) (res) (ev (.tmp 10)) wv:=hd 6 (by decide)
  refine⟨.agg xv6,fun w=> ?_,⟨xv6,rfl,xh6⟩⟩
  have e1:=hE.const;clear hE hd hw
  go_simp
 ·intro ev wv hE hw hd
  refine ifw rfl (ifw rfl ?_)
  obtain⟨xv6,v10,xh6⟩:VF (wy) (res) (ev (.tmp 10)) wv:=hd 6 (by decide)
  refine⟨.int .i64 res,fun w=> ?_,rfl⟩
  have e1:=hE.const;clear hE hd hw
  go_simp
 ·intro ev wv hE hw hd
  refine ifw rfl (ifn rfl ?_)
  refine ζ4a (u:= .pointer (some ⟨wv.heap.size,0,none⟩)) (w':=wv.alloc (.cells ζc 203)) ?_ ((Below.refl _ _).alloc (Nat.le_refl _) _) ⟨⟨_,rfl,Blk.new _ _ _,hw.h⟩,fun _=>⟨_,rfl,Nat.le_refl _,by simp⟩⟩
  clear hE hd hw
  go_simp
  rfl
 ·intro wz hw
  intro v0 h0 _ v1 h1 _ v2 h2 _ v3 h3 _ v4 h4 _ v5 h5 _ v6 h6 _ v7 h7 _ v8 h8 _ v9 h9 n9
  simp only [zA]
  obtain rfl:v0=_:=h0
  obtain rfl:v1=_:=h1
  obtain rfl:v2=_:=h2
  obtain rfl:v3=_:=h3
  obtain rfl:v4=_:=h4
  obtain⟨xv5,rfl,xh5⟩:VF (wy) (res) v5 wz:=h5
  obtain⟨xv6,rfl,xh6⟩:VF (wy) (res) v6 wz:=h6
  obtain⟨xv7,rfl,xh7⟩:VG (wy) v7 wz:=h7
  obtain rfl:v8=_:=h8
  obtain⟨xg9,rfl,xB9,xl9⟩:VA (wq.heap.size) ζc v9 wz:=h9
  change wpList Tryz.prog _ _ _ _ wz
  have HM1:=hid hw.m
  have hB0:=xB9
  obtain⟨TR,BR⟩:=hB0.blk
  have hBR:=hid BR
  have hV:=hid xh7
  have HLO:=hid (Nat.le_trans HS.out.bl.size xl9)
  clear BR hB0 hw n9
  go_wp2_with (refine wpList_store_row rfl 203 _ _ rfl xg9 xv7 rfl rfl TR ζc hBR.out (by rw [hV.out.sz];exact ζ14) (by rw [hV.out.sz];rfl) hV.out.one ?_)
  refine ζ2 ?_
  have HO5:=hid (ζ2c (Off.refl (· =xg9) wz) (g:=xg9) (.inl rfl) xv7)
  have HB5:=hid (show Below w.heap.size w _ from ζt HM1.out.bl HLO.out xv7)
  have HW5:=hid (show WayM (wz.setRow xg9 xv7) xg9 wy from⟨xv7,⟨TR,setRow_heap wz xg9 _ xv7 TR (0,0) hBR.out⟩,hV.out⟩)
  have HX5:=hid (HO5.out.blk (HM1.out.b 0 rfl) (fun e=>by have h1:=(HS.out.b 0 rfl).sz;have h2:=xl9;omega))
  clear HO5 hBR hV HM1 x0 x1'
  generalize wz.setRow xg9 xv7=w5 at*
  obtain⟨gW,hgW⟩: ∃k,xg9=k:=⟨_,rfl⟩
  rw [hgW]at HW5 HLO ⊢
  clear hgW
  go_wp2_with fail
  go_ret
  exact⟨rfl,HB5.out⟩
theorem del_ok (gT g n c:Nat)(M:Int)(A:Option Addr)(K:KnL)(t:PT)(l:ItL)(x:It)(w:World)(H:TreeR 221 w gT g n c M A K t l)(hn:n≤1001)(m:Nat)(hm:n=m+1)(cx:Cx)(l1:PT)(p:Nat)(r1:PT)(hplug:cx.plug (.node l1 p x r1)=t)(P:Pth K x t.root cx.way (p:Int))(hl:cx.way.length≤28):Calls Tryz.prog 99 #[.pointer (some ⟨gT,0,none⟩),itV x] w fun e w'=>e= .returned (.int .i64 0)∧∃K' t',TreeR 221 w' gT g m c M A K' t' (delI x l)∧Off (inTr gT g A n c) w w':=by
 obtain⟨x1,x2,x3⟩:=x
 have HT:=hid H
 have HS:=hid ((Mem.start w).push #[.int .i64 x1,.int .i64 x2,.int .i64 x3] 141)
 have HTL:=hid H.lt
 have HB0:=hid (show Ext w _ from(Below.refl _ w).alloc (Nat.le_refl _) (.cells #[.int .i64 x1,.int .i64 x2,.int .i64 x3] 141))
 have HM:=hid (ζ2v gT g _ (H.keep HB0.out).tp)
 have HP:=hid P
 have HPL:=hid hplug
 have hr:((p:Int) == -1)=false:=by simp
 clear P hplug
 clear H
 go_enter Tryz.func99,Tryz.ntmps99
 go_upto_region 1 with fail
 generalize w.heap.size=hx at HS ⊢
 generalize w.alloc (.cells #[.int .i64 x1,.int .i64 x2,.int .i64 x3] 141)=wq at*
 go_wp2_with fail
 refine HM.out.mono ?_
 rintro e w1 ⟨rfl,hw1⟩
 subst w1
 have x0:=HS.out.c 0 0 rfl rfl
 have x1':=HS.out.c 0 1 rfl rfl
 go_upto_region 3 with fail
 refine ζ4 10 (MemAt w wq.heap.size [(hx,#[.int .i64 x1,.int .i64 x2,.int .i64 x3])] [])
  (fun i=>List.getD [VE (.pointer (some ⟨gT,0,none⟩)),VE (.pointer (some ⟨gT,0,none⟩)),VE (.pointer (some ⟨gT,0,none⟩)),VE (.pointer (some ⟨g,0,none⟩)),VE (.agg #[.int .i64 x1,.int .i64 x2,.int .i64 x3]),VF (cx.way) ((p:Int)),VF (cx.way) ((p:Int)),VG (cx.way),VE (.int .i64 (p:Int)),VA (wq.heap.size) ζc] i (fun _ _=>False)) [9] [0,1,2,6,7,8] (by kernel_rfl) (by kernel_rfl) HS.out.at (fun _ _ h hb=>h.grow hb)
  (ζb (ζ0 (ζ1 _) (ζ0 (ζ1 _) (ζ0 (ζ1 _) (ζ0 (ζ1 _) (ζ0 (ζ1 _) (ζ0 (ζ1i _ _) (ζ0 (ζ1i _ _) (ζ0 (ζ44 _) (ζ0 (ζ1 _) (ζ0 (ζ45 _ _) ζa))))))))))) ⟨?_,?_,?_,?_,?_,?_,?_,?_,?_,?_,trivial⟩ ?_
 ·exact rU [0]
 ·exact rU []
 ·exact rU []
 ·exact rL [] fun hw=>(HT.out.keep hw.m.bl).tp.get 0 rfl
 ·exact rL [3] fun hw=>And.intro (hw.m.c 0 0 rfl rfl) (And.intro (hw.m.c 0 1 rfl rfl) (hw.m.c 0 2 rfl rfl))
 ·intro ev wv hE hw hd
  refine rC (f:=129) (args:= #[.pointer (some ⟨g,0,none⟩),.agg #[.int .i64 x1,.int .i64 x2,.int .i64 x3]]) [] hE hd ((ζ3j g n c A M t.root K (x1,x2,x3) cx.way (p:Int) _ (HT.out.ar.keep hw.m.bl) HP.out hl (by omega))) ?_
  rintro e w' ⟨vs,rfl,hv,hb⟩
  exact⟨_,rfl,hb,⟨vs,rfl,hv⟩,fun h=>by cases h⟩
 ·intro ev wv hE hw hd
  refine ifw rfl (ifw rfl ?_)
  refine⟨ev (.tmp 16),fun w=> ?_,hd 5 (by decide)⟩
  clear hE hd hw
  go_simp
 ·intro ev wv hE hw hd
  refine ifw rfl (ifw rfl ?_)
  obtain⟨xv6,v10,xh6⟩:VF (cx.way) ((p:Int)) (ev (.tmp 10)) wv:=hd 6 (by decide)
  refine⟨.agg xv6,fun w=> ?_,⟨xv6,rfl,xh6⟩⟩
  have e1:=hE.const;clear hE hd hw
  go_simp
 ·intro ev wv hE hw hd
  refine ifw rfl (ifw rfl ?_)
  obtain⟨xv6,v10,xh6⟩:VF (cx.way) ((p:Int)) (ev (.tmp 10)) wv:=hd 6 (by decide)
  refine⟨.int .i64 (p:Int),fun w=> ?_,rfl⟩
  have e1:=hE.const;clear hE hd hw
  go_simp
 ·intro ev wv hE hw hd
  refine ifw rfl (ifn rfl ?_)
  refine ζ4a (u:= .pointer (some ⟨wv.heap.size,0,none⟩)) (w':=wv.alloc (.cells ζc 203)) ?_ ((Below.refl _ _).alloc (Nat.le_refl _) _) ⟨⟨_,rfl,Blk.new _ _ _,hw.h⟩,fun _=>⟨_,rfl,Nat.le_refl _,by simp⟩⟩
  clear hE hd hw
  go_simp
  rfl
 ·intro wz hw
  intro v0 h0 _ v1 h1 _ v2 h2 _ v3 h3 _ v4 h4 _ v5 h5 _ v6 h6 _ v7 h7 _ v8 h8 _ v9 h9 n9
  simp only [zA]
  obtain rfl:v0=_:=h0
  obtain rfl:v1=_:=h1
  obtain rfl:v2=_:=h2
  obtain rfl:v3=_:=h3
  obtain rfl:v4=_:=h4
  obtain⟨xv5,rfl,xh5⟩:VF (cx.way) ((p:Int)) v5 wz:=h5
  obtain⟨xv6,rfl,xh6⟩:VF (cx.way) ((p:Int)) v6 wz:=h6
  obtain⟨xv7,rfl,xh7⟩:VG (cx.way) v7 wz:=h7
  obtain rfl:v8=_:=h8
  obtain⟨xg9,rfl,xB9,xl9⟩:VA (wq.heap.size) ζc v9 wz:=h9
  change wpList Tryz.prog _ _ _ _ wz
  have HM1:=hid hw.m
  have hB0:=xB9
  obtain⟨TR,BR⟩:=hB0.blk
  have hBR:=hid BR
  have hV:=hid xh7
  have HLO:=hid (Nat.le_trans HS.out.bl.size xl9)
  clear BR hB0 hw n9
  go_wp2_with (refine wpList_store_row rfl 203 _ _ rfl xg9 xv7 rfl rfl TR ζc hBR.out (by rw [hV.out.sz];exact ζ14) (by rw [hV.out.sz];rfl) hV.out.one ?_)
  refine ζ2 ?_
  have HO5:=hid (ζ2c (Off.refl (· =xg9) wz) (g:=xg9) (.inl rfl) xv7)
  have HB5:=hid (show Below w.heap.size w _ from ζt HM1.out.bl HLO.out xv7)
  have HW5:=hid (show WayM (wz.setRow xg9 xv7) xg9 cx.way from⟨xv7,⟨TR,setRow_heap wz xg9 _ xv7 TR (0,0) hBR.out⟩,hV.out⟩)
  have HX5:=hid (HO5.out.blk (HM1.out.b 0 rfl) (fun e=>by have h1:=(HS.out.b 0 rfl).sz;have h2:=xl9;omega))
  clear HO5 hBR hV HM1 x0 x1'
  generalize wz.setRow xg9 xv7=w5 at*
  obtain⟨gW,hgW⟩: ∃k,xg9=k:=⟨_,rfl⟩
  rw [hgW]at HW5 HLO ⊢
  clear hgW
  have HNE:=hid (show ¬inAr g A n c gW from fun e=>by have h1:=HTL.out gW (.inr e);have h2:=HLO.out;omega)
  have HTG:=hid (show gT≠gW from fun e=>by have h1:=HTL.out gT (.inl rfl);have h2:=HLO.out;omega)
  have HT5:=hid (HT.out.keep HB5.out)
  subst hm
  obtain⟨gK,rfl,_,_⟩:=HT5.out.ar.addr (by omega)
  have c0:=HT5.out.tp.get 0 rfl
  have hwh:Whole0 K (cx.plug (.node l1 p (x1,x2,x3) r1)):=by rw [HPL.out];exact⟨HT.out.rp,HT.out.bal,HT.out.nd,by rw [HT.out.len,HT.out.ar.len]⟩
  have HWH:=hid hwh
  have har:Ar 221 w5 g M (cx.plug (.node l1 p (x1,x2,x3) r1)).root (some ⟨gK,0,none⟩) (m+1) c K:=by rw [HPL.out];exact HT5.out.ar
  have HAR:=hid har
  have hsr:srt (cx.plug (.node l1 p (x1,x2,x3) r1)).items:=by rw [HPL.out,HT.out.it];exact HT.out.srt
  have HSR:=hid hsr
  clear hwh har hsr
  go_wp2_with fail
  refine(take_any g gW m c gK M K cx l1 r1 p (x1,x2,x3) w5 HAR.out HW5.out HNE.out HWH.out HSR.out (by omega)).mono ?_
  rintro e w8 ⟨K',t',rfl,hA8,hW8,hF8⟩
  have HA8:=hid hA8
  have HW8:=hid hW8
  have HF8:=hid hF8
  clear hA8 hW8 hF8 c0
  go_wp2_with fail
  go_ret
  have hit:l=cx.bef++(l1.items++(x1,x2,x3) :: (r1.items++cx.aft)):=by
   rw [←HT.out.it,←HPL.out,Cx.items];simp [PT.items]
  have hsp:=del_split (x:=(x1,x2,x3)) (a:=cx.bef++l1.items) (b:=r1.items++cx.aft) (by rw [List.append_assoc,←hit];exact HT.out.srt)
  rw [List.append_assoc cx.bef l1.items ((x1,x2,x3) :: (r1.items++cx.aft)),←hit]at hsp
  have hdl:delI (x1,x2,x3) l=cx.bef++((l1.items++r1.items)++cx.aft):=by rw [hsp.1];simp
  refine⟨rfl,K',t',⟨HF8.out.blk HT5.out.tp ?_,HA8.out,HW8.out.rp,HW8.out.bal,HW8.out.nd,by rw [HW8.out.len,HA8.out.len],by rw [hdl];exact HW8.out.it,del_srt HT.out.srt,HT.out.ne.1,HT.out.ne.2⟩,?_⟩
  ·rintro((e | e) | e)
   ·exact HT.out.ne.1 e
   ·exact HT.out.ne.2 e
   ·exact HTG.out e
  ·refine((Off.of HB5.out).trans HF8.out).less fun k hk=> ?_
   rcases hk with h | h
   ·exact .inl (.inr h)
   ·right;rw [h];exact HLO.out
end Go.Proofs.YthagdonmijhpdaaGreat
namespace Corr
open Go Go.RowKit
end Corr
namespace Go.Proofs.YthagdonmijhpdaaGreat
open Go.RowKit Corr
end Go.Proofs.YthagdonmijhpdaaGreat
