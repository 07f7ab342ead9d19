/- Contracts of corrodyref13 -/
import Derived.Test.YthagdonmijhpdaaGreatBt1
import Derived.Test.YthagdonmijhpdaaGreatTlKnown
import Derived.Test.YthagdonmijhpdaaGreatRelVal
import Derived.Test.YthagdonmijhpdaaGreatTl4
open Go.Lib (hid)
set_option linter.unusedSimpArgs false
set_option linter.unusedVariables false
set_option maxHeartbeats 8000000
set_option maxRecDepth 8000
namespace Go.Proofs.YthagdonmijhpdaaGreat
open Go.RowKit Corr
theorem putL_yes {l:ItL} {a b v:Int}(h:mayB a b=true):putL l a b v=l++ [(a,b,v)]:=by unfold putL;rw [if_pos h]
theorem line13_any (g n c:Nat)(A:Option Addr)(L:ClL)(t:Int)(w:World)(T:RSt w g A n c L)(hn:n≤300)(hm:goodS L):Calls Tryz.prog 18 #[.pointer (some ⟨g,0,none⟩),.int .i64 t] w fun e w'=>e= .returned (.pointer (some ⟨w.heap.size,0,none⟩))∧Sep w [dT w.heap.size (lineL L t)] w':=by
 have HT:=hid T
 have HC:=hid (Cls.count T.i)
 have HM:=hid hm.may
 have cT:=T.s
 have hgl:=T.lt
 have HS0:=hid ((Sep.nil w).addDoc 90 93)
 clear T hm
 go_enter Tryz.func18,Tryz.ntmps18
 go_wp2_with fail
 go_loopg [6] n (fun kk v wr=>∃k:Nat,v= .int .i64 (k:Int)∧k≤n∧Hid (kk=n-k)∧Hid (Sep w [dT w.heap.size (lineL (L.take k) t)] wr))
 case atStart=>exact⟨0,rfl,by omega,hid rfl,HS0⟩
 case round=>
  obtain⟨k,rfl,hk,HK,HP⟩:=hrel
  have hbr:=Sep.bl HP.out
  have cR:=(Below.cell (p:=⟨g,0,none⟩) hbr hgl).trans cT
  by_cases hlt:k<n
  ·obtain⟨g1,off,y,rfl,hy,hg,c0,c1,c2,c3⟩:=Cls.get HT.out.i hlt
   have HMY:=hid (HM.out y (List.mem_of_getElem? hy))
   have HLN:=hid (Nat.le_trans (ζ3x (L.take k) t) (by rw [List.length_take];omega:(L.take k).length≤300))
   obtain⟨y1,y2,y3,y4⟩:=y
   have HY:=hid hy
   have r0:=(Below.cell (p:=⟨g1,off+k*4,none⟩) hbr hg).trans c0
   simp only []at HMY r0 c1 c2 c3
   clear hy c0 hbr
   by_cases p:y1≤t
   ·have HT1:=hid p
    have d:=decide_eq_true p
    go_upto_region 6 with fail
    clear r0 cR d p
    refine ζ24 18 (fun S wx=>Sep w [dT w.heap.size (cond (S 17) (lineL (L.take k) t++ [(y2,y3,y4)]) (lineL (L.take k) t))] wx) (fun i=>List.getD [.pointer (some ⟨w.heap.size,0,none⟩),.pointer (some ⟨g,0,none⟩),.pointer (some ⟨g,0,none⟩),.pointer (some ⟨g,0,none⟩),.slice (some ⟨g1,off,none⟩) n c,.int .i64 (k:Int),.pointer (some ⟨g1,off+k*4,none⟩),.pointer (some ⟨g1,off+k*4+1,none⟩),.agg #[.int .i64 y2,.int .i64 y3],.pointer (some ⟨g,0,none⟩),.pointer (some ⟨g,0,none⟩),.pointer (some ⟨g,0,none⟩),.slice (some ⟨g1,off,none⟩) n c,.int .i64 (k:Int),.pointer (some ⟨g1,off+k*4,none⟩),.pointer (some ⟨g1,off+k*4+3,none⟩),.int .i64 y4,.int .i64 0] i undef) [0,1,2,3,5,6,7,9,10,11,13,14,15] (by kernel_rfl) (by kernel_rfl) (HP.out.keep ((Below.refl _ _).drew)) ⟨?_,?_,?_,?_,?_,?_,?_,?_,?_,?_,?_,?_,?_,?_,?_,?_,?_,?_,trivial⟩ ?_
    ·exact sU [5]
    ·exact sU [0]
    ·exact sU []
    ·exact sU []
    ·refine sM fun ev wv S hE hw hS hd=> ?_
     have hbv:Below w.heap.size w wv:=Sep.bl hw
     have kx:=(Below.cell (p:=⟨g,0,none⟩) hbv hgl).trans cT
     exact sE [] hE hd
    ·exact sU [6]
    ·exact sU []
    ·exact sU []
    ·refine sM fun ev wv S hE hw hS hd=> ?_
     have hbv:Below w.heap.size w wv:=Sep.bl hw
     have kx:=(Below.cell (p:=⟨g1,off+k*4+1,none⟩) hbv hg).trans c1
     have ky:=(Below.cell (p:=⟨g1,off+k*4+2,none⟩) hbv hg).trans c2
     exact sE [] hE hd
    ·exact sU [0]
    ·exact sU []
    ·exact sU []
    ·refine sM fun ev wv S hE hw hS hd=> ?_
     have hbv:Below w.heap.size w wv:=Sep.bl hw
     have kx:=(Below.cell (p:=⟨g,0,none⟩) hbv hgl).trans cT
     exact sE [] hE hd
    ·exact sU [6]
    ·exact sU []
    ·exact sU []
    ·refine sM fun ev wv S hE hw hS hd=> ?_
     have hbv:Below w.heap.size w wv:=Sep.bl hw
     have kx:=(Below.cell (p:=⟨g1,off+k*4+3,none⟩) hbv hg).trans c3
     exact sE [] hE hd
    ·intro ev wv S hE hw hS hd
     refine ifw rfl (ifn rfl ?_)
     have v28:ev (.tmp 28)= .pointer (some ⟨w.heap.size,0,none⟩):=(hd 0 (by decide)).2
     have v36:ev (.tmp 36)= .agg #[.int .i64 y2,.int .i64 y3]:=(hd 8 (by decide)).2
     have v44:ev (.tmp 44)= .int .i64 y4:=(hd 16 (by decide)).2
     have hw0:Sep w [dT w.heap.size (cond (S 17) (lineL (L.take k) t++ [(y2,y3,y4)]) (lineL (L.take k) t))] wv:=hw
     rw [show S 17=false from hS]at hw0
     have hw1:Sep w [dT w.heap.size (lineL (L.take k) t)] wv:=hw0
     clear hw0
     refine set_call (f:=40) (args:= #[.pointer (some ⟨w.heap.size,0,none⟩),.agg #[.int .i64 y2,.int .i64 y3],.int .i64 y4]) ?_ (sep_dput hw1 (i:=0) rfl (by have:=HLN.out;omega) y2 y3 y4) ?_
     ·obtain⟨e1,-,e0,-⟩:=hE;clear hd hw hS
      go_simp
     ·rintro e w' ⟨rfl,hs⟩
      exact⟨.int .i64 0,by unfold putR;rw [if_pos HMY.out],rfl,(by rw [putL_yes HMY.out]at hs;exact hs)⟩
    ·intro S wz hS hw
     intro v0 h0 _ v1 h1 _ v2 h2 _ v3 h3 _ v4 h4 _ v5 h5 _ v6 h6 _ v7 h7 _ v8 h8 _ v9 h9 _ v10 h10 _ v11 h11 _ v12 h12 _ v13 h13 _ v14 h14 _ v15 h15 _ v16 h16 _ v17 h17 _
     simp only [zA]
     obtain rfl:v0= .pointer (some ⟨w.heap.size,0,none⟩):=h0
     obtain rfl:v1= .pointer (some ⟨g,0,none⟩):=h1
     obtain rfl:v2= .pointer (some ⟨g,0,none⟩):=h2
     obtain rfl:v3= .pointer (some ⟨g,0,none⟩):=h3
     obtain rfl:v4= .slice (some ⟨g1,off,none⟩) n c:=h4
     obtain rfl:v5= .int .i64 (k:Int):=h5
     obtain rfl:v6= .pointer (some ⟨g1,off+k*4,none⟩):=h6
     obtain rfl:v7= .pointer (some ⟨g1,off+k*4+1,none⟩):=h7
     obtain rfl:v8= .agg #[.int .i64 y2,.int .i64 y3]:=h8
     obtain rfl:v9= .pointer (some ⟨g,0,none⟩):=h9
     obtain rfl:v10= .pointer (some ⟨g,0,none⟩):=h10
     obtain rfl:v11= .pointer (some ⟨g,0,none⟩):=h11
     obtain rfl:v12= .slice (some ⟨g1,off,none⟩) n c:=h12
     obtain rfl:v13= .int .i64 (k:Int):=h13
     obtain rfl:v14= .pointer (some ⟨g1,off+k*4,none⟩):=h14
     obtain rfl:v15= .pointer (some ⟨g1,off+k*4+3,none⟩):=h15
     obtain rfl:v16= .int .i64 y4:=h16
     obtain rfl:v17= .int .i64 0:=h17
     change wpList Tryz.prog _ _ _ _ wz
     have hw:Sep w [dT w.heap.size (cond (S 17) (lineL (L.take k) t++ [(y2,y3,y4)]) (lineL (L.take k) t))] wz:=hw
     rw [show S 17=true from hS 17 (by decide)]at hw
     have HZ:=hid (show Sep w [dT w.heap.size (lineL (L.take (k+1)) t)] wz by rw [lineL_yes HY.out HT1.out];exact hw)
     clear hw HP HMY
     go_wp2_with fail
     refine ζ2 ?_
     go_wp2_with fail
     go_roundg (n-(k+1))
     case measure=>rw [HK.out];omega
     case rel=>exact⟨k+1,val_int (by omega),by omega,hid rfl,HZ⟩
   ·have HZ:=hid (show Sep w [dT w.heap.size (lineL (L.take (k+1)) t)] wr by rw [lineL_no HY.out p];exact HP.out)
    have d:=decide_eq_false p
    clear p HP c1 c2 c3
    go_wp2_with fail
    go_roundg (n-(k+1))
    case measure=>rw [HK.out];omega
    case rel=>exact⟨k+1,val_int (by omega),by omega,hid rfl,HZ⟩
  ·have HF:=hid (show Sep w [dT w.heap.size (lineL L t)] wr by have:=HP.out;rwa [List.take_of_length_le (by rw [HC.out];omega)]at this)
   clear HP hbr
   go_wp2_with fail
   go_ret
   exact⟨rfl,HF.out⟩
theorem at13_any (g n c:Nat)(A:Option Addr)(L:ClL)(t d:Int)(w:World)(T:RSt w g A n c L)(hn:n≤300)(hm:goodS L):Calls Tryz.prog 15 #[.pointer (some ⟨g,0,none⟩),.int .i64 t,.int .i64 d] w fun e w'=>e= .returned (.int .i64 (valS L t d))∧Below w.heap.size w w':=by
 have HL:=hid (line13_any g n c A L t w T hn hm)
 have HN:=hid (Nat.le_trans (ζ3x L t) (by rw [Cls.count T.i];exact hn:L.length≤300))
 clear T hm
 go_enter Tryz.func15,Tryz.ntmps15
 go_wp2_with fail
 refine HL.out.mono ?_
 rintro e w1 ⟨rfl,hs⟩
 have HA:=hid (sep_dat hs (i:=0) rfl (by have:=HN.out;omega) d (r:=valS L t d) rfl)
 have HB:=hid (Sep.bl hs)
 clear hs HL
 go_wp2_with fail
 refine HA.out.mono ?_
 rintro e w2 ⟨rfl,hb⟩
 have HB2:=hid (HB.out.trans (hb.mono HB.out.size))
 clear hb HA
 go_wp2_with fail
 go_ret
 exact⟨rfl,HB2.out⟩
end Go.Proofs.YthagdonmijhpdaaGreat
namespace Corr
open Go Go.RowKit
def RetHist (T:TypeId)(w:World)(L:ClL)(d:Int)(e:Ending)(w':World):Prop:=∃A n c,e= .returned (.slice A n c)∧w'.ownsRow w.heap.size T 2 (.slice A n c) n (ζ1q (histL L d))∧Below w.heap.size w w'
end Corr
namespace Go.Proofs.YthagdonmijhpdaaGreat
open Go.RowKit Corr
theorem elem_ver:Elem Tryz.prog 49 52 (.agg #[.int .i64 0,.int .i64 0]) 2 16:=by
 obtain⟨i,h0,h1,h2,h3⟩:=info_parts (show (Tryz.prog.info? 52).map (fun i=>(i.zero,i.size,i.bytes))=some (some (.agg #[.int .i64 0,.int .i64 0]),2,16) by kernel_rfl)
 exact⟨Tryz.underlying49,⟨i,h0,h1,h2,h3⟩,rfl,by decide⟩
end Go.Proofs.YthagdonmijhpdaaGreat
namespace Corr
open Go Go.RowKit
theorem ζ3t: ∀l m:ClL,ζz (l++m)=ζz l++ζz m
 | [],_=>rfl
 | s :: r,m=>by simp only [ζz,List.cons_append];rw [ζ3t r m]
theorem ζ1p: ∀l:ClL,∀v∈ζz l,v.oneCell'=true
 | [],_,h=>by cases h
 | s :: r,v,h=>by
  simp only [ζz,List.mem_cons]at h
  rcases h with rfl | rfl | rfl | rfl | h
  ·rfl
  ·rfl
  ·rfl
  ·rfl
  ·exact ζ1p r v h
structure RStW (T:TypeId)(w:World)(g:Nat)(A:Option Addr)(n c:Nat)(L:ClL):Prop where
 b:Blk w g #[.slice A n c]
 o:w.ownsRow 0 T 4 (.slice A n c) n (ζz L)
section
variable {T:TypeId} {w w':World} {g n c:Nat} {A:Option Addr} {L:ClL}
theorem RStW.r (h:RStW T w g A n c L):RSt w g A n c L:=⟨h.b.get 0 rfl,ζv h.o⟩
theorem RStW.keep (h:RStW T w g A n c L)(hb:Below w.heap.size w w'):RStW T w' g A n c L:=⟨h.b.keep hb,ζg h.o hb⟩
theorem RStW.sz (h:RStW T w g A n c L):g<w.heap.size:=h.b.sz
theorem RStW.len (h:RStW T w g A n c L):L.length=n:=Cls.count h.r.i
end
def RetPutS (T:TypeId)(g:Nat)(w:World)(L:ClL)(e:Ending)(w':World):Prop:=
 ∃A n c w1,e= .returned (.int .i64 0)∧Below w.heap.size w w1∧w1.ownsRow w.heap.size T 4 (.slice A n c) n (ζz L)∧w'=w1.setCell ⟨g,0,none⟩ (.slice A n c)
end Corr
namespace Go.Proofs.YthagdonmijhpdaaGreat
open Go.RowKit Corr
theorem ζ4h:Elem Tryz.prog 22 32 (.agg #[.int .i64 0,.int .i64 0,.int .i64 0,.int .i64 0]) 4 32:=by
 obtain⟨i,h0,h1,h2,h3⟩:=info_parts (show (Tryz.prog.info? 32).map (fun i=>(i.zero,i.size,i.bytes))=some (some (.agg #[.int .i64 0,.int .i64 0,.int .i64 0,.int .i64 0]),4,32) by kernel_rfl)
 exact⟨Tryz.underlying22,⟨i,h0,h1,h2,h3⟩,rfl,by decide⟩
theorem put13_low (p:Value)(t a b v:Int)(w:World)(h:t<1):Calls Tryz.prog 11 #[p,.int .i64 t,.agg #[.int .i64 a,.int .i64 b],.int .i64 v] w fun e w'=>e= .returned (.int .i64 2)∧Below w.heap.size w w':=by
 have HB0:=hid ((Below.refl w.heap.size w).alloc (Nat.le_refl _) (.cells #[.int .i64 a,.int .i64 b] 24))
 have d0:decide (t<1)=true:=decide_eq_true h
 go_enter Tryz.func11,Tryz.ntmps11
 go_wp2_with fail
 go_ret
 exact⟨rfl,HB0.out⟩
theorem put13_late (g n c:Nat)(A:Option Addr)(L:ClL)(t a b v:Int)(w:World)(T:RSt w g A n c L)(hn:n≤100000)(h1: ¬t<1)(h:t<lastL L):Calls Tryz.prog 11 #[.pointer (some ⟨g,0,none⟩),.int .i64 t,.agg #[.int .i64 a,.int .i64 b],.int .i64 v] w fun e w'=>e= .returned (.int .i64 2)∧Below w.heap.size w w':=by
 have HB0:=hid ((Below.refl w.heap.size w).alloc (Nat.le_refl _) (.cells #[.int .i64 a,.int .i64 b] 24))
 have HL:=hid (ζ30 g n c A L (w.alloc (.cells #[.int .i64 a,.int .i64 b] 24)) (T.keep ((Below.refl _ _).alloc (Nat.le_refl _) _)) hn)
 have d0:decide (t<1)=false:=decide_eq_false h1
 have d1:decide (t<lastL L)=true:=decide_eq_true h
 generalize lastL L=z at*
 clear T h h1
 go_enter Tryz.func11,Tryz.ntmps11
 go_wp2_with fail
 refine HL.out.mono ?_
 rintro e w1 ⟨rfl,hb⟩
 have HB:=hid (HB0.out.trans (hb.mono HB0.out.size))
 clear hb HL
 go_wp2_with fail
 go_ret
 exact⟨rfl,HB.out⟩
theorem put13_span (g n c:Nat)(A:Option Addr)(L:ClL)(t a b v:Int)(w:World)(T:RSt w g A n c L)(hn:n≤100000)(h1: ¬t<1)(h2: ¬t<lastL L)(h:mayB a b=false):Calls Tryz.prog 11 #[.pointer (some ⟨g,0,none⟩),.int .i64 t,.agg #[.int .i64 a,.int .i64 b],.int .i64 v] w fun e w'=>e= .returned (.int .i64 15)∧Below w.heap.size w w':=by
 have HB0:=hid ((Below.refl w.heap.size w).alloc (Nat.le_refl _) (.cells #[.int .i64 a,.int .i64 b] 24))
 have HX0:=hid (Blk.new w #[.int .i64 a,.int .i64 b] 24)
 have HL:=hid (ζ30 g n c A L (w.alloc (.cells #[.int .i64 a,.int .i64 b] 24)) (T.keep ((Below.refl _ _).alloc (Nat.le_refl _) _)) hn)
 have HM:=hid (fun w=>ζ2k a b w)
 rw [h]at HM
 have d0:decide (t<1)=false:=decide_eq_false h1
 have d1:decide (t<lastL L)=false:=decide_eq_false h2
 generalize lastL L=z at*
 clear T h h1 h2
 go_enter Tryz.func11,Tryz.ntmps11
 go_wp2_with fail
 refine HL.out.mono ?_
 rintro e w1 ⟨rfl,hb⟩
 have HB:=hid (HB0.out.trans (hb.mono HB0.out.size))
 have q0:=(HX0.out.keep hb).get 0 rfl
 have q1:=(HX0.out.keep hb).get 1 rfl
 clear hb HL
 go_wp2_with fail
 refine(HM.out _).mono ?_
 rintro e w2 ⟨rfl,hb⟩
 have HB2:=hid (HB.out.trans (hb.mono HB.out.size))
 clear hb HM q0 q1
 go_wp2_with fail
 go_ret
 exact⟨rfl,HB2.out⟩
theorem put13_yes (g n c:Nat)(A:Option Addr)(L:ClL)(t a b v:Int)(w:World)(T:RStW 32 w g A n c L)(hn:n≤100000)(h1: ¬t<1)(h2: ¬t<lastL L)(h:mayB a b=true):Calls Tryz.prog 11 #[.pointer (some ⟨g,0,none⟩),.int .i64 t,.agg #[.int .i64 a,.int .i64 b],.int .i64 v] w (RetPutS 32 g w (L++ [(t,a,b,v)])):=by
 have HM:=hid (fun w=>ζ2k a b w)
 rw [h]at HM
 have HL:=hid (ζ30 g n c A L (w.alloc (.cells #[.int .i64 a,.int .i64 b] 24)) (T.r.keep ((Below.refl _ _).alloc (Nat.le_refl _) _)) hn)
 have d0:decide (t<1)=false:=decide_eq_false h1
 have d1:decide (t<lastL L)=false:=decide_eq_false h2
 have HB0:=hid ((Below.refl w.heap.size w).alloc (Nat.le_refl _) (.cells #[.int .i64 a,.int .i64 b] 24))
 have HX0:=hid (Blk.new w #[.int .i64 a,.int .i64 b] 24)
 have HLEN:=hid T.len
 have HTW:=hid T
 obtain⟨z,hz⟩: ∃z,lastL L=z:=⟨_,rfl⟩
 rw [hz]at HL d1
 clear h T h1 h2 hz
 go_enter Tryz.func11,Tryz.ntmps11
 go_wp2_with fail
 refine HL.out.mono ?_
 rintro e w0 ⟨rfl,hb⟩
 have HBZ:=hid (HB0.out.trans (hb.mono HB0.out.size))
 have HXZ:=hid (HX0.out.keep hb)
 have q0:=HXZ.out.get 0 rfl
 have q1:=HXZ.out.get 1 rfl
 clear hb HL HB0 HX0 d0
 go_wp2_with fail
 refine(HM.out _).mono ?_
 rintro e w1 ⟨rfl,hb⟩
 have HB:=hid (HBZ.out.trans (hb.mono HBZ.out.size))
 have HT1:=hid (HTW.out.keep HB.out)
 have HX1:=hid (HXZ.out.keep hb)
 clear q0 q1
 have c1:=HT1.out.b.get 0 rfl
 have f1:=HT1.out.b.f 0
 have hgq:=HT1.out.sz
 have hq:=HB.out.size
 have q0:=HX1.out.get 0 rfl
 have q1:=HX1.out.get 1 rfl
 have hqx:=HX1.out.sz
 have hgx: ¬g=w.heap.size:=by have:=HTW.out.sz;omega
 have hgy: ¬w.heap.size=g:=by omega
 clear hb HBZ HXZ HM
 have hs1:(w1.alloc (.cells #[] 32)).heap.size=w1.heap.size+1:=by simp
 have hs2:(w1.alloc (.cells #[.int .i64 t,.int .i64 a,.int .i64 b,.int .i64 v] 32)).heap.size=w1.heap.size+1:=by simp
 have OA:=hid (show ((w1.alloc (.cells #[] 32)).drew).ownsRow w.heap.size 32 4 (.slice (some ⟨w1.heap.size,0,none⟩) 0 0) 0 []from(ζ2i w1 32 4 w.heap.size hq).drew)
 have OB:=hid (show (((w1.alloc (.cells #[] 32)).alloc (.cells #[.int .i64 t,.int .i64 a,.int .i64 b,.int .i64 v] 32)).drew).ownsRow w.heap.size 32 4 (.slice (some ⟨w1.heap.size,0,none⟩) 0 0) 0 []from((ζ2i w1 32 4 w.heap.size hq).alloc _).drew)
 have OC:=hid (show (((w1.alloc (.cells #[.int .i64 t,.int .i64 a,.int .i64 b,.int .i64 v] 32)).alloc (.cells #[] 32)).drew).ownsRow w.heap.size 32 4 (.slice (some ⟨w1.heap.size+1,0,none⟩) 0 0) 0 []from by have:=ζ2i (w1.alloc (.cells #[.int .i64 t,.int .i64 a,.int .i64 b,.int .i64 v] 32)) 32 4 w.heap.size (by rw [hs2];omega);rw [hs2]at this;exact this.drew)
 have QA:=hid (show Below w1.heap.size w1 ((w1.alloc (.cells #[] 32)).drew)from((Below.refl _ w1).alloc (Nat.le_refl _) _).drew)
 have QB:=hid (show Below w1.heap.size w1 (((w1.alloc (.cells #[] 32)).alloc (.cells #[.int .i64 t,.int .i64 a,.int .i64 b,.int .i64 v] 32)).drew)from(((Below.refl _ w1).alloc (Nat.le_refl _) (.cells #[] 32)).alloc (by rw [hs1];omega) _).drew)
 have QC:=hid (show Below w1.heap.size w1 (((w1.alloc (.cells #[.int .i64 t,.int .i64 a,.int .i64 b,.int .i64 v] 32)).alloc (.cells #[] 32)).drew)from(((Below.refl _ w1).alloc (Nat.le_refl _) (.cells #[.int .i64 t,.int .i64 a,.int .i64 b,.int .i64 v] 32)).alloc (by rw [hs2];omega) _).drew)
 have SB:=hid (show (((w1.alloc (.cells #[] 32)).alloc (.cells #[.int .i64 t,.int .i64 a,.int .i64 b,.int .i64 v] 32)).drew).heap[w1.heap.size+1]? =some (.cells (ζz [(t,a,b,v)]).toArray 32 (0,0)) by rw [←hs1];exact ζw _ _)
 have SC:=hid (show (((w1.alloc (.cells #[.int .i64 t,.int .i64 a,.int .i64 b,.int .i64 v] 32)).alloc (.cells #[] 32)).drew).heap[w1.heap.size]? =some (.cells (ζz [(t,a,b,v)]).toArray 32 (0,0))from((Below.block ((Below.refl _ (w1.alloc (.cells #[.int .i64 t,.int .i64 a,.int .i64 b,.int .i64 v] 32))).alloc (Nat.le_refl _) (.cells #[] 32)) w1.heap.size (by rw [hs2];omega)).trans (ζw w1 _)))
 have GA:=hid (show ∀k,(Value.slice (some ⟨w1.heap.size,0,none⟩) 0 0).ownBlock=some k→w1.heap.size≤k from new_ge w1 0 0)
 have GC:=hid (show ∀k,(Value.slice (some ⟨w1.heap.size+1,0,none⟩) 0 0).ownBlock=some k→w1.heap.size≤k from fun k h=>by have:=own_is h;omega)
 have NB:=hid (show ¬(Value.slice (some ⟨w1.heap.size,0,none⟩) 0 0).ownBlock=some (w1.heap.size+1) by intro h;have:=own_is h;omega)
 have NC:=hid (show ¬(Value.slice (some ⟨w1.heap.size+1,0,none⟩) 0 0).ownBlock=some w1.heap.size by intro h;have:=own_is h;omega)
 clear hs1 hs2
 go_upto_region 5 with fail
 go_region_law ((first
   |(refine ζ1h (by rfl) _ _ 22 (by rfl) (ζz L) ζ4h (by rfl) OA.out (by rfl) (by rw [ζ2f,HLEN.out]) (fun h=>((ζv HT1.out.o).keep QA.out).src h) (ζ1p _) (by omega) (by unfold maxLen;omega) (Nat.le_trans hq QA.out.size) ?_;intro v2 w2 hown2 hg2;have HQ2:=hid (Below.grown QA.out hg2 QA.out.size GA.out);have HB2:=hid (HB.out.trans (HQ2.out.mono hq));have c2:=(HTW.out.keep HB2.out).b.get 0 rfl;have f2:=(HTW.out.keep HB2.out).b.f 0;have HO2:=hid (ζ1c hown2);have r0:=(HX1.out.keep HQ2.out).get 0 rfl;have r1:=(HX1.out.keep HQ2.out).get 1 rfl;have hw2:=(HX1.out.keep HQ2.out).sz;have hg2s:=(HTW.out.keep HB2.out).sz)
   |(refine ζ1h (by rfl) _ _ 22 (by rfl) (ζz L) ζ4h (by rfl) OB.out (by rfl) (by rw [ζ2f,HLEN.out]) (fun h=>((ζv HT1.out.o).keep QB.out).src h) (ζ1p _) (by omega) (by unfold maxLen;omega) (Nat.le_trans hq QB.out.size) ?_;intro v2 w2 hown2 hg2;have HQ2:=hid (Below.grown QB.out hg2 QB.out.size GA.out);have HB2:=hid (HB.out.trans (HQ2.out.mono hq));have c2:=(HTW.out.keep HB2.out).b.get 0 rfl;have f2:=(HTW.out.keep HB2.out).b.f 0;have HO2:=hid (ζ1c hown2);have r0:=(HX1.out.keep HQ2.out).get 0 rfl;have r1:=(HX1.out.keep HQ2.out).get 1 rfl;have hw2:=(HX1.out.keep HQ2.out).sz;have hg2s:=(HTW.out.keep HB2.out).sz;have hsrc:=ζ40 (ys:=ζz [(t,a,b,v)]) SB.out hg2 NB.out)
   |(refine ζ1h (by rfl) _ _ 22 (by rfl) (ζz L) ζ4h (by rfl) OC.out (by rfl) (by rw [ζ2f,HLEN.out]) (fun h=>((ζv HT1.out.o).keep QC.out).src h) (ζ1p _) (by omega) (by unfold maxLen;omega) (Nat.le_trans hq QC.out.size) ?_;intro v2 w2 hown2 hg2;have HQ2:=hid (Below.grown QC.out hg2 QC.out.size GC.out);have HB2:=hid (HB.out.trans (HQ2.out.mono hq));have c2:=(HTW.out.keep HB2.out).b.get 0 rfl;have f2:=(HTW.out.keep HB2.out).b.f 0;have HO2:=hid (ζ1c hown2);have r0:=(HX1.out.keep HQ2.out).get 0 rfl;have r1:=(HX1.out.keep HQ2.out).get 1 rfl;have hw2:=(HX1.out.keep HQ2.out).sz;have hg2s:=(HTW.out.keep HB2.out).sz;have hsrc:=ζ40 (ys:=ζz [(t,a,b,v)]) SC.out hg2 NC.out)
   |(refine ζ1h (by rfl) _ _ 22 (by rfl) (ζz [(t,a,b,v)]) ζ4h (by rfl) hown2 (by rfl) rfl (fun _=>⟨_,rfl,hsrc⟩) (ζ1p _) (by omega) (by unfold maxLen;omega) HB2.out.size ?_;intro v3 w3 hown3 hg3;have HB3:=hid (Below.grown HB2.out hg3 HB2.out.size HO2.out);have c3:=(HTW.out.keep HB3.out).b.get 0 rfl;have f3:=(HTW.out.keep HB3.out).b.f 0;have HO3:=hid hown3;obtain⟨A4,d4,rfl,L4⟩:=Lies.of_own hown3 (by have:=hown3.1;exact this))
   |(refine ζ1h (by rfl) _ _ 22 (by rfl) (ζz [(t,a,b,v)]) ζ4h (by rfl) (hown2.alloc _) (by rfl) rfl (fun _=>⟨_,rfl,ζ2j w2 (ζz [(t,a,b,v)]) 32⟩) (ζ1p _) (by omega) (by unfold maxLen;omega) (HB2.out.alloc HB2.out.size (.cells #[.int .i64 t,.int .i64 a,.int .i64 b,.int .i64 v] 32)).size ?_;intro v3 w3 hown3 hg3;have HB3:=hid (Below.grown (HB2.out.alloc HB2.out.size (.cells #[.int .i64 t,.int .i64 a,.int .i64 b,.int .i64 v] 32)) hg3 (HB2.out.alloc HB2.out.size (.cells #[.int .i64 t,.int .i64 a,.int .i64 b,.int .i64 v] 32)).size HO2.out);have c3:=(HTW.out.keep HB3.out).b.get 0 rfl;have f3:=(HTW.out.keep HB3.out).b.f 0;have HO3:=hid hown3;obtain⟨A4,d4,rfl,L4⟩:=Lies.of_own hown3 (by have:=hown3.1;exact this))))
 all_goals
  clear L4 hg2 hg3 hown2 hown3
  go_wp2_with fail
  go_ret
  exact⟨A4,_,d4,w3,rfl,HB3.out,by
   have:=HO3.out
   rw [ζ3t]
   simpa using this,rfl⟩
end Go.Proofs.YthagdonmijhpdaaGreat
