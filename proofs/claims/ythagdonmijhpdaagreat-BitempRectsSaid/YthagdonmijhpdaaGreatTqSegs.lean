/- TpSegs' words, for values of three numbers. -/
import Derived.Test.YthagdonmijhpdaaGreatTqLay
import Derived.Test.YthagdonmijhpdaaGreatTpSegs
open Go.Lib (hid)
set_option linter.unusedSimpArgs false
set_option linter.unusedVariables false
set_option maxHeartbeats 8000000
set_option maxRecDepth 8000
namespace Corr
open Go Go.RowKit
def PcIq (T:TypeId)(gl:Nat)(Z:Nat→Prop)(w6:World)(G:Nat→Prop)(xs:List Value)(W:World):Prop:=∃A n c,Blk W gl #[.slice A n c]∧W.ownsRow 0 T 5 (.slice A n c) n xs∧(∀k,rowK A n c k→k≠gl∧¬G k∧Z k)∧Off Z w6 W∧∀k,G k→w6.heap.size≤k∧k<W.heap.size
section
variable {T:TypeId} {gl:Nat} {Z G:Nat→Prop} {w6 W W':World} {xs:List Value}
theorem PcIq.grow (h:PcIq T gl Z w6 G xs W)(hgl:gl<w6.heap.size)(hZ: ∀k,w6.heap.size≤k→Z k)(ho:Off G W W'):PcIq T gl Z w6 (madeG G W W') xs W':=by
 obtain⟨A,n,c,h1,h2,h3,h4,h5⟩:=h
 refine⟨A,n,c,ho.blk h1 fun e=>by have:=(h5 _ e).1;omega,ho.own h2 fun k hk=>(h3 k hk).2.1,fun k hk=>⟨(h3 k hk).1,fun e=> ?_,(h3 k hk).2.2⟩,h4.trans (ho.mono fun k _ hk=>hZ k (h5 k hk).1),fun k hk=> ?_⟩
 ·rcases e with e | e
  ·exact(h3 k hk).2.1 e
  ·have:=ζk h2 hk;omega
 ·rcases hk with hk | hk
  ·exact⟨(h5 k hk).1,Nat.lt_of_lt_of_le (h5 k hk).2 ho.size⟩
  ·have:=h4.size;exact⟨by omega,hk.2⟩
theorem PcIq.obj (h:PcIq T gl Z w6 G xs W)(hgl:gl<w6.heap.size)(hZ: ∀k,w6.heap.size≤k→Z k) {l:Nat} {o o':Obj}(hl:w6.heap.size≤l)(hk:W.heap[l]? =some o)(hc:o.isCells=false):PcIq T gl Z w6 G xs (W.putObj l o'):=by
 obtain⟨A,n,c,h1,h2,h3,h4,h5⟩:=h
 have ho:Off (· =l) W (W.putObj l o'):=ζl o' rfl hk
 refine⟨A,n,c,ho.blk h1 (by omega),ho.own h2 fun k hk' e=> ?_,h3,h4.trans (ho.mono fun k _ e=>hZ k (by omega)),fun k hk=>by rw [World.putObj_size];exact h5 k hk⟩
 subst e
 rw [ζ1w h2 hk' hk]at hc;cases hc
theorem PcIq.keep (h:PcIq T gl Z w6 G xs W)(hb:Below W.heap.size W W'):PcIq T gl Z w6 G xs W':=by
 obtain⟨A,n,c,h1,h2,h3,h4,h5⟩:=h
 exact⟨A,n,c,h1.keep hb,ζg h2 hb,h3,h4.later hb,fun k hk=>⟨(h5 k hk).1,Nat.lt_of_lt_of_le (h5 k hk).2 hb.size⟩⟩
theorem PcIq.free (h:PcIq T gl Z w6 G xs W):PcIq T gl Z w6 (fun _=>False) xs W:=by
 obtain⟨A,n,c,h1,h2,h3,h4,h5⟩:=h
 exact⟨A,n,c,h1,h2,fun k hk=>⟨(h3 k hk).1,fun e=>e,(h3 k hk).2.2⟩,h4,fun _ e=>e.elim⟩
theorem PcIq.app {A A':Option Addr} {n c c':Nat} {ys:List Value} {vB:Value} {bB:Bool} {wz:World}(hgl:gl<w6.heap.size)(hZl:Z gl)(hZ: ∀k,w6.heap.size≤k→Z k)(h1:Blk W gl #[.slice A n c])(h2:W.ownsRow 0 T 5 (.slice A n c) n xs)(h3: ∀k,rowK A n c k→k≠gl∧¬G k∧Z k)(h4:Off Z w6 W)(h5: ∀k,G k→w6.heap.size≤k∧k<W.heap.size)
  (hD:AppD T A n c 0 xs ys 5 W bB true vB (.slice A' (n+1) c') wz):PcIq T gl Z w6 G (xs++ys) (wz.setCell ⟨gl,0,none⟩ (.slice A' (n+1) c'))∧KeepsFrom w6.heap.size W (wz.setCell ⟨gl,0,none⟩ (.slice A' (n+1) c'))∧KpOff Z G W (wz.setCell ⟨gl,0,none⟩ (.slice A' (n+1) c')):=by
 obtain⟨ho,g2,g3⟩:=hD.done
 have hs:=h4.size
 have hgz:gl<W.heap.size:=h1.sz
 have hoff:Off (· =gl) wz (wz.setCell ⟨gl,0,none⟩ (.slice A' (n+1) c')):=Off.set (F:=(· =gl)) (a:=⟨gl,0,none⟩) rfl _
 have n3: ∀k,rowK A' (n+1) c' k→k≠gl∧¬G k∧Z k:=fun k hk=>by
  rcases g3 k hk with h | h
  ·exact h3 k h
  ·exact⟨by omega,fun e=>by have:=(h5 k e).2;omega,hZ k (by omega)⟩
 have hall:Off (fun k=>k=gl∨rowK A n c k) W (wz.setCell ⟨gl,0,none⟩ (.slice A' (n+1) c')):=(ho.mono fun k _ hk=> .inr hk).trans (hoff.mono fun k _ hk=> .inl hk)
 have hZa:Off Z W (wz.setCell ⟨gl,0,none⟩ (.slice A' (n+1) c')):=hall.mono fun k _ hk=>by
  rcases hk with rfl | hk
  ·exact hZl
  ·exact(h3 k hk).2.2
 refine⟨⟨A',n+1,c',?_,hoff.own g2 fun k hk e=>(n3 k hk).1 e,n3,h4.trans hZa,fun k hk=>⟨(h5 k hk).1,Nat.lt_of_lt_of_le (h5 k hk).2 hall.size⟩⟩,keeps_off hall fun k o hk hk'=> ?_,hZa,fun k hk=>hall.block k (h5 k hk).2 fun e=> ?_⟩
 ·have:=(ho.blk h1 fun e=>(h3 _ e).1 rfl).set 0 (.slice A' (n+1) c')
  simpa using this
 ·rcases hk with rfl | hk
  ·exact blk_cells h1 hk'
  ·exact ζ1w h2 hk hk'
 ·rcases e with rfl | e
  ·have:=(h5 _ hk).1;omega
  ·exact(h3 k e).2.1 hk
end
def PsIq (T:TypeId)(gl:Nat)(wq:World)(xs:List Value)(Ds:List Nat)(wr:World):Prop:=∃A n c,Blk wr gl #[.slice A n c]∧wr.ownsRow 0 T 5 (.slice A n c) n xs∧(∀k,rowK A n c k→gl<k)∧Below gl wq wr∧Marks (gl+1) Ds wr
def RetItemsq (T:TypeId)(w:World)(l:ItL)(e:Ending)(w':World):Prop:=∃A n c,e= .returned (.slice A n c)∧w'.ownsRow w.heap.size T 5 (.slice A n c) n (ζ7 l)∧Below w.heap.size w w'
end Corr
namespace Go.Proofs.YthagdonmijhpdaaGreat
open Go.RowKit Corr
attribute [local go_sem] Oper.semAt_some
set_option maxRecDepth 100000 in
theorem tppieces_anyq {Rep:RepT}(K:TrK Rep)(gT gM:Nat)(q:Nat→Value)(Fs:Nat→Nat→Prop)(l:Nat→ItL)(m:Int→Option Int)(a b:Int)(w:World)(H:Tpq Rep w gT gM q Fs l m)(hl: ∀i,i<4→(l i).length≤1000)(ho: ∀i,i<4→∀y∈l i,-9223372036854775808≤y.1∧y.1<y.2.1):
  Calls Tryz.prog 66 #[.pointer (some ⟨gT,0,none⟩),.agg #[.int .i64 a,.int .i64 b]] w (RetItemsq 128 w (pcsK m a b l 4)):=by
 have HK:=hid K
 have HLE:=hid hl
 have HOK:=hid ho
 obtain⟨wq,hwq⟩: ∃wq,((w.alloc (.cells #[.pointer (some ⟨gT,0,none⟩)] 72)).alloc (.cells #[.int .i64 a,.int .i64 b] 24)).alloc (.cells #[.slice none 0 0] 71)=wq:=⟨_,rfl⟩
 have h0:=((Blk.new w #[.pointer (some ⟨gT,0,none⟩)] 72).alloc (.cells #[.int .i64 a,.int .i64 b] 24)).alloc (.cells #[.slice none 0 0] 71)
 have h1:=(Blk.new (w.alloc (.cells #[.pointer (some ⟨gT,0,none⟩)] 72)) #[.int .i64 a,.int .i64 b] 24).alloc (.cells #[.slice none 0 0] 71)
 have h2:=Blk.new ((w.alloc (.cells #[.pointer (some ⟨gT,0,none⟩)] 72)).alloc (.cells #[.int .i64 a,.int .i64 b] 24)) #[.slice none 0 0] 71
 have h3:=Joins.below_alloc3 w (.cells #[.pointer (some ⟨gT,0,none⟩)] 72) (.cells #[.int .i64 a,.int .i64 b] 24) (.cells #[.slice none 0 0] 71)
 simp only [ζd]at h1 h2
 rw [hwq]at h0 h1 h2 h3
 have hgs:wq.heap.size=w.heap.size+1+1+1:=by rw [←hwq];simp
 have hlt:=H.lt K.toRepOk
 have hTq:=H.keep K.toRepOk h3
 have HSZ:=hid hgs
 have HT:=hid hTq
 have HLT:=hid hlt
 have HX0:=hid h0
 have HX1:=hid h1
 have HX2:=hid h2
 have HB:=hid h3
 have c0:=h0.get 0 rfl
 have c1:=h1.get 0 rfl
 have c2:=h1.get 1 rfl
 have t0:wq.cell? ⟨gT,0,none⟩=some (q 0):=hTq.b.get 0 rfl
 have t1:wq.cell? ⟨gT,1,none⟩=some (q 1):=hTq.b.get 1 rfl
 have t2:wq.cell? ⟨gT,2,none⟩=some (q 2):=hTq.b.get 2 rfl
 have t3:wq.cell? ⟨gT,3,none⟩=some (q 3):=hTq.b.get 3 rfl
 clear K H hl ho h0 h1 h2 h3 hTq hlt hgs
 refine ζr Tryz.func66 rfl ?_
 simp only [Tryz.ntmps66,List.size_toArray,List.length_cons,List.length_nil,Nat.reduceAdd,Nat.reduceSub,Array.replicate_succ,Array.replicate_zero,List.push_toArray,List.append_toArray,List.nil_append,List.cons_append]
 go_wp2_with fail
 clear hwq
 obtain⟨gt,hgt⟩: ∃k,w.heap.size=k:=⟨_,rfl⟩
 rw [hgt]
 obtain⟨gs,hgs⟩: ∃k,gt+1=k:=⟨_,rfl⟩
 rw [hgs]
 obtain⟨gl,hgl⟩: ∃k,gs+1=k:=⟨_,rfl⟩
 rw [hgl]
 have HN:=hid (show gt=w.heap.size∧gs=w.heap.size+1∧gl=w.heap.size+2∧wq.heap.size=gl+1 from⟨hgt.symm,by omega,by omega,by have:=HSZ.out;omega⟩)
 have HX0:=hid (show Blk wq gt _ from hgt▸HX0.out)
 have HX1:=hid (show Blk wq gs #[.int .i64 a,.int .i64 b] by rw [←hgs,←hgt];exact HX1.out)
 have HX2:=hid (show Blk wq gl #[.slice none 0 0] by rw [←hgl,←hgs,←hgt];exact HX2.out)
 clear hgt hgs hgl c0 c1 c2 t0 t1 t2 t3
 obtain⟨R,hR⟩: ∃R:Act→World→Prop,R=(fun ac wr=>∃(i:Nat) (Ds:List Nat) (v7 v14 v15 v16 v17 v18 v36:Value),ac= { tmps:=(.pointer (some ⟨gT,0,none⟩) :: .agg #[.int .i64 a,.int .i64 b] :: .pointer (some ⟨gt,0,none⟩) :: .pointer (some ⟨gs,0,none⟩) :: .slice none 0 0 :: .pointer (some ⟨gl,0,none⟩) :: undef :: v7 :: undef :: .pointer (some ⟨gT,0,none⟩) :: .pointer (some ⟨gT,0,none⟩) :: .pointer (some ⟨gT,0,none⟩) :: .agg #[q 0,q 1,q 2,q 3] :: .int .i64 (i:Int) :: v14 :: v15 :: v16 :: v17 :: v18 :: undef :: undef :: undef :: undef :: undef :: undef :: undef :: undef :: undef :: undef :: undef :: undef :: undef :: undef :: undef :: undef :: undef :: v36 :: undef :: []).toArray,defers:=Ds.map markD }∧i≤4∧PsIq 128 gl wq (ζ7 (pcsK m a b l i)) Ds wr):=⟨_,rfl⟩
 have HR:=hid hR
 clear hR
 refine wp_loop R (fun ac _=>(4-intOf (ac.tmps.getD 13 undef)).toNat) ?start ?round
 case start=>
  rw [HR.out]
  refine⟨0,[],_,_,_,_,_,_,_,rfl,by omega,none,0,0,HX2.out,World.ownsRow_nil _ _ _ _,fun k hk=>(by cases hk),Below.refl _ _,Marks.nil _ _⟩
 case round=>
  intro ac wr hrel
  rw [HR.out]at hrel
  obtain⟨i,Ds,v7,v14,v15,v16,v17,v18,v36,rfl,hi,A,n,c,p1,p2,p3,p4,p5⟩:=hrel
  have HP1:=hid p1
  have HP2:=hid p2
  have HP3:=hid p3
  have HP4:=hid p4
  have HP5:=hid p5
  have HT2:=hid (HT.out.off HK.out.toRepOk (ζ1y p4 (by have:=HN.out;omega)) fun k hk=>by have h1:=HLT.out k hk;have h2:=HN.out;omega)
  have hs4:=p4.size
  clear p1 p2 p3 p5
  rcases Nat.lt_or_ge i 4 with h4 | h4
  ·have hix:=fun w=>idx4 q w h4
   have d0:decide ((i:Int)<4)=true:=decide_eq_true (by omega)
   have HOW:=hid (ζ1y HP4.out (by have:=HN.out;omega))
   have s0:=(HOW.out.blk HX1.out (by have:=HN.out;omega)).get 0 rfl
   have s1:=(HOW.out.blk HX1.out (by have:=HN.out;omega)).get 1 rfl
   have HALL:=hid (HK.out.all wr (q i) (Fs i) 1000000 (l i) a b (HT2.out.tr i h4) (HLE.out i h4) (HOK.out i h4))
   have H4:=hid h4
   clear p4
   go_wp2_with fail
   refine HALL.out.mono ?_
   rintro e w6 ⟨gf,lb,rfl,b6,enters,hall⟩
   obtain⟨Z,hZ⟩: ∃Z:Nat→Prop,Z=fun k=>k=gl∨rowK A n c k∨w6.heap.size≤k:=⟨_,rfl⟩
   have hsw:=HP1.out.sz
   have hs6:=b6.size
   have HZ1:=hid (show Z gl by rw [hZ];exact .inl rfl)
   have HZ2:=hid (show ∀k,w6.heap.size≤k→Z k by rw [hZ];exact fun k hk=> .inr (.inr hk))
   have HZ3:=hid (show ∀k,rowK A n c k→Z k by rw [hZ];exact fun k hk=> .inr (.inl hk))
   have HZ4:=hid (show ∀k,Z k→gl≤k by
    rw [hZ]
    rintro k (h | h | h)
    ·omega
    ·have:=HP3.out k h;omega
    ·omega)
   have HZ5:=hid (show ∀k,wr.heap.size≤k→k<w6.heap.size→¬Z k by
    rw [hZ]
    rintro k h1 h2 (h | h | h)
    ·omega
    ·have:=ζk HP2.out h;omega
    ·omega)
   have HZ6:=hid (show ∀k,Z k→k=gl∨rowK A n c k∨w6.heap.size≤k by rw [hZ];exact fun k hk=>hk)
   clear hZ
   have HSQ:=hid (hall Z HZ2.out (fun k hk e=>by have h1:=HLT.out k (TpF.sub H4.out hk);have h2:=HZ4.out k e;have h3:=HN.out;omega) HZ5.out)
   have HG6:=hid (show gl<w6.heap.size by omega)
   have HB6:=hid b6
   have HP0:=hid (show PcIq 128 gl Z w6 (fun _=>False) (ζ7 (pcsK m a b l i)) w6 from⟨A,n,c,HP1.out.keep b6,ζg HP2.out b6,fun k hk=>⟨by have:=HP3.out k hk;omega,fun e=>e,HZ3.out k hk⟩,Off.refl _ _,fun _ e=>e.elim⟩)
   have HTA:=hid (show (∀k,TpF gT gM Fs k→¬Z k)∧¬Z gt from⟨fun k hk e=>by have h1:=HLT.out k hk;have h2:=HZ4.out k e;have h3:=HN.out;omega,fun e=>by have h2:=HZ4.out _ e;have h3:=HN.out;omega⟩)
   have HT6:=hid (HT2.out.keep HK.out.toRepOk b6)
   have HX6:=hid ((HOW.out.blk HX0.out (by have:=HN.out;omega)).keep b6)
   clear hall hsw hs6 s0 s1 b6 hs4
   go_wp2_with fail
   refine ζ3o (fun D W=>w6.heap.size≤D∧W.heap[D]? =some (.deferred (some []))∧PcIq 128 gl Z w6 (fun _=>False) (ζ7 (pcsK m a b l (i+1))) W) ?loop ?rest
   case loop=>
    refine ζ25 (gf:=gf) (lb:=lb) rfl enters HZ2.out HSQ.out (fun _=>rfl)
     (fun G (pre:ItL) W=>PcIq 128 gl Z w6 G (ζ7 (pcsK m a b l i++pre.map fun y=>(y.1,y.2.1,valM m y.1))) W) (fun _ _ _=>False)
     (fun G pre W W' h ho=>h.grow HG6.out HZ2.out ho)
     (fun G s W l o o' h h1 h2 h3 h4=>h.obj HG6.out HZ2.out h1 h3 h4)
     (fun _ _ _ _ _ _ h _ _ _ _=>h)
     ?start (fun x a' W=>∃Bx:Nat,W.heap[Bx]? =some (.cells #[.int .i64 x.1,.int .i64 x.2.1,.int .i64 x.2.2] 141 (0,0))∧a'= { tmps:=(.pointer (some ⟨gT,0,none⟩) :: .agg #[.int .i64 a,.int .i64 b] :: .pointer (some ⟨gt,0,none⟩) :: .pointer (some ⟨gs,0,none⟩) :: .slice none 0 0 :: .pointer (some ⟨gl,0,none⟩) :: undef :: q i :: .pointer (some ⟨Bx,0,none⟩) :: .pointer (some ⟨gT,0,none⟩) :: .pointer (some ⟨gT,0,none⟩) :: .pointer (some ⟨gT,0,none⟩) :: .agg #[q 0,q 1,q 2,q 3] :: .int .i64 (i:Int) :: .bool true :: q i :: q i :: .agg #[.int .i64 a,.int .i64 b] :: .func (.func gf) #[] lb :: itV x :: undef :: undef :: undef :: undef :: undef :: undef :: undef :: undef :: undef :: undef :: undef :: undef :: undef :: undef :: undef :: undef :: v36 :: undef :: []).toArray,defers:= [] }) ?ax ?assign ?body ?done ?stop
    case start=>
     intro W hb
     rw [List.map_nil,List.append_nil]
     exact HP0.out.keep hb
    case ax=>
     rintro x a' _ W l o o' ⟨Bx,h1,h2⟩ _ _ ho hc
     refine⟨Bx,(World.putObj_heap_other fun e=> ?_).trans h1,h2⟩
     subst e
     rw [h1]at ho;cases ho;cases hc
    case assign=>
     intro l' G pre y W K hsz hi hK
     obtain⟨y1,y2,y3⟩:=y
     gi_wp2
     have ha:Below W.heap.size W (W.alloc (.cells #[.int .i64 y1,.int .i64 y2,.int .i64 y3] 141)):=(Below.refl _ W).alloc (Nat.le_refl _) _
     refine hK _ _ ((KeepsOthers.alloc _ _).from _) ⟨Off.of ha,fun k hk=> ?_⟩ (hi.keep ha) ⟨W.heap.size,ζw W _,rfl⟩
     obtain⟨_,_,_,_,_,_,_,g5⟩:=hi
     exact ha.block k (g5 k hk).2
    case body=>
     rintro l' G pre ⟨y1,y2,y3⟩ a' W hl hsz ⟨A2,n2,c2,k1,k2,k3,k4,k5⟩ ⟨Bx,hBx,rfl⟩ hpn
     have HG:=hid k1
     have HO:=hid k2
     have H3:=hid k3
     have HF4:=hid k4
     have H5:=hid k5
     have HXB:=hid (show Blk W Bx #[.int .i64 y1,.int .i64 y2,.int .i64 y3]from⟨_,hBx⟩)
     have HTW:=hid (HT6.out.off HK.out.toRepOk k4 HTA.out.1)
     have HXW:=hid (k4.blk HX6.out HTA.out.2)
     have HRW:=hid (show ∀k,rowK A2 n2 c2 k→k≠gl∧k≠Bx∧k≠gt∧k≠gT∧k≠gM from fun k hk=>⟨(k3 k hk).1,row_ne k2 (by decide) hBx hk,fun e=>HTA.out.2 (e▸(k3 k hk).2.2),fun e=>HTA.out.1 gT (.inl rfl) (e▸(k3 k hk).2.2),fun e=>HTA.out.1 gM (.inr (.inl rfl)) (e▸(k3 k hk).2.2)⟩)
     have HLR:=hid (fun k (hk:rowK A2 n2 c2 k)=>ζk k2 hk)
     have hn2:n2≤100000:=by
      have h1:=k2.1
      rw [ζx,List.length_append,List.length_map]at h1
      have h2:=ζ4c m a b l 1000 HLE.out i (by omega)
      have h3:=List.length_filter_le (overB a b) (l i)
      have h5:=HLE.out i H4.out
      omega
     have HPN:=hid hpn
     clear k1 k2 k3 k4 k5 hBx hpn
     gi_wp2_with fail
     refine ζ1g 16 (fun S val wx=>VVs 16 [(· = .slice A2 n2 c2),(· = .pointer (some ⟨Bx,0,none⟩)),(· = .int .i64 y1),(· = .pointer (some ⟨Bx,1,none⟩)),(· = .int .i64 y2),(· = .pointer (some ⟨gT,0,none⟩)),(· = .pointer (some ⟨gT,0,none⟩)),(· = .pointer (some ⟨gT,4,none⟩)),(· = .map (some gM)),(· = .pointer (some ⟨Bx,0,none⟩)),(· = .int .i64 y1),(· = .agg #[.int .i64 (numP (valM m y1)),.int .i64 (sinP (valM m y1)),.int .i64 (valP (valM m y1))]),(· = .agg #[.int .i64 (numP (valM m y1)),.int .i64 (sinP (valM m y1)),.int .i64 (valP (valM m y1))]),(· = .agg #[.int .i64 y1,.int .i64 y2,.int .i64 (numP (valM m y1)),.int .i64 (sinP (valM m y1)),.int .i64 (valP (valM m y1))]),(fun vv=>∃kb,vv= .slice (some ⟨kb,0,none⟩) 1 1),(fun vv=>∃Av cv,vv= .slice Av (n2+1) cv)] S val∧Clo [[],[],[1],[],[3],[],[5],[6],[7],[],[9],[8,10],[11],[2,4,12],[13],[0,14]] S∧AppD 128 A2 n2 c2 0 (ζ7 (pcsK m a b l i++List.map (fun y=>(y.1,y.2.1,valM m y.1)) pre)) (ζ7 [(y1,y2,valM m y1)]) 5 W (S 14) (S 15) (val 14) (val 15) wx) [1,3,6,7,9,12,13] (by kernel_rfl) (by kernel_rfl) (by kernel_rfl) ⟨VVs.start,Clo.start,AppD.start HO.out⟩ ⟨?_,?_,?_,?_,?_,?_,?_,?_,?_,?_,?_,?_,?_,?_,?_,?_,trivial⟩ ?_
     ·exact qL [5] fun hw=>(hw.1.blk HG.out (fun e=>(HRW.out _ e).1 rfl)).get 0 rfl
     ·exact qU [8]
     ·exact qL [] fun hw=>(hw.1.blk HXB.out (fun e=>(HRW.out _ e).2.1 rfl)).get 0 rfl
     ·exact qU [8]
     ·exact qL [] fun hw=>(hw.1.blk HXB.out (fun e=>(HRW.out _ e).2.1 rfl)).get 1 rfl
     ·exact qL [2] fun hw=>(hw.1.blk HXW.out (fun e=>(HRW.out _ e).2.2.1 rfl)).get 0 rfl
     ·exact qU []
     ·exact qU []
     ·exact qL [] fun hw=>(hw.1.blk HTW.out.b (fun e=>(HRW.out _ e).2.2.2.1 rfl)).get 4 rfl
     ·exact qU [8]
     ·exact qL [] fun hw=>(hw.1.blk HXB.out (fun e=>(HRW.out _ e).2.1 rfl)).get 0 rfl
     ·exact qL [] fun hw=>look_intq y1 (HTW.out.mp.off hw.1 (fun e=>(HRW.out _ e).2.2.2.2 rfl))
     ·rintro ev wv S val hE ⟨hV,hK,hw⟩ hS hd
      have v31:ev (.tmp 31)= .agg #[.int .i64 (numP (valM m y1)),.int .i64 (sinP (valM m y1)),.int .i64 (valP (valM m y1))]:=vd (hd 11 (by decide)) (hV 11 (by decide))
      refine ifw rfl (ifw rfl ⟨.agg #[.int .i64 (numP (valM m y1)),.int .i64 (sinP (valM m y1)),.int .i64 (valP (valM m y1))],fun w9=> ?_,VVs.add hV rfl,ζi hK rfl hd,hw⟩)
      obtain⟨e1,-,e2,-⟩:=hE;clear hd hw hS hV hK
      have hfl:(Instr.field 166 (.agg #[.int .i64 (numP (valM m y1)),.int .i64 (sinP (valM m y1)),.int .i64 (valP (valM m y1))]) 0).run Tryz.prog w9= .ok (.agg #[.int .i64 (numP (valM m y1)),.int .i64 (sinP (valM m y1)),.int .i64 (valP (valM m y1))]) w9:=by kernel_rfl
      show _=Result.ok (Next.value (.agg #[.int .i64 (numP (valM m y1)),.int .i64 (sinP (valM m y1)),.int .i64 (valP (valM m y1))])) w9
      go_simp
     ·exact qU []
     ·rintro ev wv S val hE ⟨hV,hK,hw⟩ hS hd
      have v33:ev (.tmp 33)= .agg #[.int .i64 y1,.int .i64 y2,.int .i64 (numP (valM m y1)),.int .i64 (sinP (valM m y1)),.int .i64 (valP (valM m y1))]:=vd (hd 13 (by decide)) (hV 13 (by decide))
      refine ifw rfl (ifn rfl ?_)
      refine ζn (u:= .slice (some ⟨wv.heap.size,0,none⟩) 1 1) (w':=wv.alloc (.cells (ζ7 [(y1,y2,valM m y1)]).toArray 128)) ?_ ⟨VVs.add hV ⟨_,rfl⟩,ζi hK rfl hd,(show AppD _ _ _ _ _ _ _ _ _ (addS S 14 14) (addS S 14 15) (addV val 14 _ 14) (addV val 14 _ 15) _ from by simpa [addS,addV]using hw.build 128)⟩
      have e1:=hE.const;clear hE hd hw hS hV hK
      go_simp;rfl
     ·rintro ev wv S val hE ⟨hV,hK,hw⟩ hS hd
      have v20:ev (.tmp 20)= .slice A2 n2 c2:=vd (hd 0 (by decide)) (hV 0 (by decide))
      obtain⟨kb14,g14⟩:=hV 14 (by decide) (hd 14 (by decide)).1
      have v34:ev (.tmp 34)= .slice (some ⟨kb14,0,none⟩) 1 1:=(hd 14 (by decide)).2.trans g14
      have hwA:=hw
      rw [(hd 14 (by decide)).1,hS,g14]at hwA
      obtain⟨A9,c9,w9,hr9,hD9⟩:=AppD.run (P:=Tryz.prog) (t:=71) (ty:=71) elem_sgiq hwA HLR.out (by rfl) (ζ35 _) (by omega) (by unfold maxLen;omega) (Nat.zero_le _)
      refine ifw rfl (ifn rfl ?_)
      refine ζn (u:= .slice A9 (n2+1) c9) (w':=w9) ?_ ⟨VVs.add hV ⟨A9,c9,rfl⟩,ζi hK rfl hd,(by simpa [addS,addV,(hd 14 (by decide)).1,g14]using hD9)⟩
      have e1:=hE.const;clear hE hd hw hS hV hK
      unfold execOp
      simp only [resolve,invoke,builtin,Sem.run_bind,Sem.run_pure,Result.andThen_ok,List.map_toArray,List.map_cons,List.map_nil,v20,v34,hr9]
     ·rintro S val wz hS ⟨hV,hK,hw⟩
      obtain⟨kb14,e14⟩:=hV 14 (by decide) (hS 14 (by decide))
      obtain⟨Av15,cv15,e15⟩:=hV 15 (by decide) (hS 15 (by decide))
      refine finL hV hS ?_
      iterate 14 rintro _ ⟨-,rfl⟩-
      rintro v14 ⟨h14,-⟩-v15 ⟨h15,-⟩-
      simp only [zA]
      simp only [h14.trans e14,h15.trans e15]
      clear hV h14 v14 h15 v15
      change wpList Tryz.prog _ _ _ _ wz
      rw [hS 14 (by decide),hS 15 (by decide),e14,e15]at hw
      have HD:=hid hw
      have hxz:=hw.1.blk HG.out (fun e=>(HRW.out _ e).1 rfl)
      have y0:=hxz.get 0 rfl
      have z0:=hxz.f 0
      clear hw hxz hS hK e14 e15 val S
      go_wp2_with fail
      refine ζ3f ?_
      have hq:=PcIq.app HG6.out HZ1.out HZ2.out HG.out HO.out H3.out HF4.out H5.out HD.out
      rw [←ζ1d,List.append_assoc]at hq
      refine⟨hq.2.1,hq.2.2,?_⟩
      show PcIq _ _ _ _ _ (ζ7 (pcsK m a b l i++List.map _ (pre++ [(y1,y2,y3)]))) _
      rw [List.map_append]
      exact hq.1
    case done=>
     rintro D G xs W hD rfl hi hK
     exact⟨.inl rfl,D,rfl,hD,hK,hi.free⟩
    case stop=>exact fun _ _ _ _ _ _ h _=>h.elim
   case rest=>
    rintro D W ⟨hD,hK,A2,n2,c2,k1,k2,k3,k4,_⟩
    have HD:=hid hD
    have HKD:=hid hK
    have HQ1:=hid k1
    have HQ2:=hid k2
    have HQ3:=hid k3
    have HQ4:=hid k4
    clear hD hK k1 k2 k3 k4
    go_wp2_with fail
    have hs4:=HP4.out.size
    have hs6:=HB6.out.size
    have hn:=HN.out
    have h6:Below gl wq w6:=HP4.out.trans (HB6.out.mono (by omega))
    rw [HR.out]
    refine⟨⟨i+1,D :: Ds,_,_,_,_,_,_,_,rfl,by omega,A2,n2,c2,HQ1.out,HQ2.out,fun k hk=> ?_,h6.trans (HQ4.out.below (by have:=HG6.out;omega) HZ4.out),?_⟩,?_⟩
    ·have h1:=HZ4.out k (HQ3.out k hk).2.2
     have h2:=(HQ3.out k hk).1
     omega
    ·have hm6:Marks (gl+1) Ds w6:=HP5.out.later HB6.out
     refine Marks.cons (hm6.keep fun E hE=>HQ4.out.block E (hm6.lt hE) fun e=> ?_) (by have:=HG6.out;have:=HD.out;omega) HKD.out fun hE=>by have:=hm6.lt hE;have:=HD.out;omega
     rcases HZ6.out E e with h | h | h
     ·have:=(hm6.at_ E hE).1;omega
     ·exact ζ4f (ζg HP2.out HB6.out) (hm6.at_ E hE).2 h rfl
     ·have:=hm6.lt hE;omega
    ·simp [intOf];omega
  ·obtain rfl:i=4:=by omega
   have d0:decide (((4:Nat):Int)<4)=false:=decide_eq_false (by omega)
   have x0:=HP1.out.get 0 rfl
   clear p4
   go_wp2_with fail
   refine ζ1b (Z:=fun k=>k∈Ds) (fun W hb=>⟨_,results_tmp rfl _ _ _,A,n,c,rfl,?_,?_⟩) Ds wr HP5.out (fun D hD=>hD) (Off.refl _ _)
   ·have ho:=hb.own HP2.out fun k hk e=>ζ4f HP2.out (HP5.out.at_ k e).2 hk rfl
    have hn:=HN.out
    exact ζ3d ho fun k hk=>by have:=HP3.out k hk;omega
   ·have hn:=HN.out
    exact((HB.out.trans (HP4.out.mono (by omega))).trans (hb.below (by have:=HP4.out.size;omega) fun k hk=>by have:=(HP5.out.at_ k hk).1;omega))
end Go.Proofs.YthagdonmijhpdaaGreat
namespace Corr
open Go Go.RowKit
theorem ζ2u {W:World} {B n c k:Nat} {T:TypeId} {A:Option Addr} {L:ItL}(h:W.ownsRow B T 5 (.slice A n c) n (ζ7 L))(hk:k<n): ∃g x,A=some ⟨g,0,none⟩∧L[k]? =some x∧W.cell? ⟨g,k*5,none⟩=some (.int .i64 x.1)∧W.cell? ⟨g,k*5+1,none⟩=some (.int .i64 x.2.1)∧W.cell? ⟨g,k*5+2,none⟩=some (.int .i64 (numP x.2.2))∧W.cell? ⟨g,k*5+3,none⟩=some (.int .i64 (sinP x.2.2))∧W.cell? ⟨g,k*5+4,none⟩=some (.int .i64 (valP x.2.2)):=by
 have hl:L.length=n:=by have:=h.1;rw [ζx]at this;omega
 rcases Joins.ownsRow_forms h with⟨_,h0⟩ | ⟨g,d,hv⟩
 ·omega
 ·injection hv with e1 _ e3
  subst e1 e3
  have hx:L[k]? =some (L[k]'(by omega)):=List.getElem?_eq_getElem (by omega)
  have h3:=ζ2q hx
  exact⟨g,_,rfl,hx,by rw [h.cellAt _ (by omega)];exact h3.1,by rw [h.cellAt _ (by omega)];exact h3.2.1,by rw [h.cellAt _ (by omega)];exact h3.2.2.1,by rw [h.cellAt _ (by omega)];exact h3.2.2.2.1,by rw [h.cellAt _ (by omega)];exact h3.2.2.2.2⟩
theorem ζ3c {W:World} {B n c:Nat} {T:TypeId} {A:Option Addr} {L:ItL}(h:W.ownsRow B T 5 (.slice A n c) n (ζ7 L)):L.length=n:=by have:=h.1;rw [ζx]at this;omega
theorem lay_newq (T U V:TypeId)(w:World):(layTq T (w.heap.size+1) w.heap.size []).P ((w.alloc (.cells #[.slice none 0 0] U)).alloc (.cells #[.pointer (some ⟨w.heap.size,0,none⟩)] V)) (fun k=>k=w.heap.size+1∨k=w.heap.size∨rowK none 0 0 k):=by
 refine⟨?_,by omega,none,0,0,(Blk.new w #[.slice none 0 0] U).alloc _,World.ownsRow_nil _ _ _ _,fun h=>(by cases h),fun h=>(by cases h),fun _=>Iff.rfl⟩
 have:=Blk.new (w.alloc (.cells #[.slice none 0 0] U)) #[.pointer (some ⟨w.heap.size,0,none⟩)] V
 simpa using this
theorem SepF.layq {F0:Nat→Prop} {w0 w:World} {ts:List Thing}(h:SepF F0 w0 ts w)(T U V:TypeId):SepF F0 w0 (ts++ [layTq T (w.heap.size+1) w.heap.size []]) ((w.alloc (.cells #[.slice none 0 0] U)).alloc (.cells #[.pointer (some ⟨w.heap.size,0,none⟩)] V)):=
 h.add (((Below.refl _ w).alloc (Nat.le_refl _) _).alloc (by simp) _) (t:=layTq T (w.heap.size+1) w.heap.size []) (lay_newq T U V w) (by
  rintro k (hk | hk | hk)
  ·omega
  ·omega
  ·cases hk)
theorem TpQq.keep {Rep:RepT}(R:RepOk Rep) {w w':World} {p:Value} {F:Nat→Prop} {n:Nat} {Q:It→Prop}(h:TpQq Rep w p F n Q)(hb:Below w.heap.size w w'):TpQq Rep w' p F n Q:=(tpTq R p n Q).keep h (Off.of (F:=fun _=>False) hb) (fun _ _ e=>e)
theorem TpQq.map_at {Rep:RepT} {w:World} {gT:Nat} {F:Nat→Prop} {n:Nat} {Q:It→Prop}(h:TpQq Rep w (.pointer (some ⟨gT,0,none⟩)) F n Q): ∃gM,w.cell? ⟨gT,4,none⟩=some (.map (some gM)):=by
 obtain⟨gT',gM,q,Fs,l,m,e,h,_⟩:=h
 injection e with e
 injection e with e
 injection e with e _ _
 subst e
 exact⟨gM,h.map_cell⟩
theorem TpQq.ptr {Rep:RepT} {w:World} {p:Value} {F:Nat→Prop} {n:Nat} {Q:It→Prop}(h:TpQq Rep w p F n Q): ∃gT,p= .pointer (some ⟨gT,0,none⟩):=by
 obtain⟨gT,_,_,_,_,_,e,_⟩:=h
 exact⟨gT,e⟩
def RetPcq (T:TypeId)(w:World)(Q:It→Prop)(n:Nat)(a b:Int)(e:Ending)(w':World):Prop:=∃L A k c,e= .returned (.slice A k c)∧rise L∧(∀x,x∈L↔Q x∧a<b∧x.1<b∧a<x.2.1)∧L.length≤4*n∧w'.ownsRow w.heap.size T 5 (.slice A k c) k (ζ7 L)∧Below w.heap.size w w'
def RetSegFq (T:TypeId)(w:World)(f:Int→Int)(a b:Int)(e:Ending)(w':World):Prop:=∃out A n c,e= .returned (.slice A n c)∧segF f a b out∧w'.ownsRow w.heap.size T 5 (.slice A n c) n (ζ7 out)∧Below w.heap.size w w'
end Corr
namespace Go.Proofs.YthagdonmijhpdaaGreat
open Go.RowKit Corr
theorem ζ4s {Rep:RepT}(K:TrK Rep) {w:World} {p:Value} {F:Nat→Prop} {n:Nat} {Q:It→Prop}(H:TpQq Rep w p F n Q)(hn:n≤1000)(hq:SubQ Q)(a b:Int):Calls Tryz.prog 66 #[p,.agg #[.int .i64 a,.int .i64 b]] w (RetPcq 128 w Q n a b):=by
 obtain⟨gT,gM,q,Fs,l,m,rfl,HT,rfl,h1,h2,h3⟩:=H
 refine(tppieces_anyq K gT gM q Fs l m a b w HT (fun i hi=>Nat.le_trans (h3 i hi) hn) fun i hi y hy=> ?_).mono fun e w' hr=> ?_
 ·obtain⟨_,h4,_,v,h5⟩:=((h1 i hi).2 y).1 hy
  obtain⟨g,hg⟩:=hq
  have:=hg _ h5
  exact⟨by have:=this.lo;simp only at this;omega,this.lt⟩
 ·obtain⟨A,k,c,he,hr,hb⟩:=hr
  obtain⟨r1,r2⟩:=pcs_all h1 h2 hq a b
  exact⟨_,A,k,c,he,r1,r2,ζ4c m a b l n h3 4 (Nat.le_refl _),hr,hb⟩
theorem ζ2y {F0:Nat→Prop} {w0 w:World} {ts:List Thing}(h:SepF F0 w0 ts w) {i gB gL:Nat} {L:ItL}(hi:ts[i]? =some (layTq 128 gB gL L))(hL:L.length≤100000)(a b v:Int):
  Calls Tryz.prog 89 #[.int .i64 a,.int .i64 b,.agg #[.int .i64 (numP v),.int .i64 (sinP v),.int .i64 (valP v)],.pointer (some ⟨gB,0,none⟩)] w fun e w'=>e= .returned (.tuple #[])∧SepF F0 w0 (ts.set i (layTq 128 gB gL (layL L a b v))) w':=by
 obtain⟨F,hp,_,hu⟩:=h.get hi
 refine(lay_anyq gB gL L a b v w F hp hL).mono fun e w' hq=> ?_
 obtain⟨F',he,h1,h2,h3⟩:=hq
 exact⟨he,hu w' F' _ h2 h1 h3⟩
theorem sepf_toldq {F0:Nat→Prop} {w0 w:World} {ts:List Thing}(h:SepF F0 w0 ts w) {i gB gL:Nat} {L:ItL} {T:TypeId}(hi:ts[i]? =some (layTq T gB gL L)): ∃A n c,w.cell? ⟨gL,0,none⟩=some (.slice A n c)∧w.ownsRow 0 T 5 (.slice A n c) n (ζ7 L)∧(∀k,rowK A n c k→F0 k∨w0.heap.size≤k)∧L.length=n:=by
 obtain⟨F,⟨_,_,A,n,c,h2,h3,_,_,hF⟩,h6,_⟩:=h.get hi
 exact⟨A,n,c,h2.get 0 rfl,h3,fun k hk=>h6 k ((hF k).2 (.inr (.inr hk))),ζ3c h3⟩
theorem sepf_rowq {F0:Nat→Prop} {w0 w:World} {ts:List Thing}(h:SepF F0 w0 ts w) {i gB gL:Nat} {L:ItL} {T:TypeId}(hi:ts[i]? =some (layTq T gB gL L)): ∃A n c,w.cell? ⟨gL,0,none⟩=some (.slice A n c)∧L.length=n∧SepF F0 w0 (ts.set i (rowT 0 T 5 A n c (ζ7 L))) w:=by
 obtain⟨F,⟨_,_,A,n,c,h2,h3,_,_,hF⟩,_,hu⟩:=h.get hi
 refine⟨A,n,c,h2.get 0 rfl,ζ3c h3,hu w (fun k=>(Value.slice A n c).ownBlock=some k) _ (Off.refl _ _) ⟨h3,fun _=>Iff.rfl⟩ fun k hk=> .inl ((hF k).2 (.inr (.inr hk)))⟩
theorem tpsegs_noq {Rep:RepT}(K:TrK Rep)(gT gM:Nat)(a b:Int)(w:World)(hc:w.cell? ⟨gT,4,none⟩=some (.map (some gM)))(hm:mayB a b=false):Calls Tryz.prog 32 #[.pointer (some ⟨gT,0,none⟩),.agg #[.int .i64 a,.int .i64 b]] w fun e w'=>e= .returned (.slice none 0 0)∧Below w.heap.size w w':=by
 have hb:=(Below.refl w.heap.size w).alloc (Nat.le_refl _) (.cells #[.int .i64 a,.int .i64 b] 24)
 have HB:=hid hb
 have h1:=Blk.new w #[.int .i64 a,.int .i64 b] 24
 have x0:=h1.get 0 rfl
 have x1:=h1.get 1 rfl
 have HC:=hid ((Below.cell (p:=⟨gT,4,none⟩) hb (World.block_lt_of_cell? _ _ hc)).trans hc)
 clear hb h1 hc
 go_enter Tryz.func32,Tryz.ntmps32
 go_wp2_with fail
 refine(ζ3a gT gM _ HC.out).mono ?_
 rintro e w1 ⟨rfl,rfl⟩
 go_wp2_with fail
 refine(ζ1u a b _).mono ?_
 rintro e w2 ⟨rfl,b2⟩
 rw [hm]
 have HB2:=hid (HB.out.trans (b2.mono HB.out.size))
 clear b2
 go_wp2_with fail
 go_ret
 exact⟨rfl,HB2.out⟩
theorem sepf_lay0 {F0:Nat→Prop} {w0 w:World} {ts:List Thing}(h:SepF F0 w0 ts w) {i gB gL:Nat} {L:ItL}(hi:ts[i]? =some (layTq 128 gB gL L))(hL:L.length≤100000)(a b:Int):
  Calls Tryz.prog 89 #[.int .i64 a,.int .i64 b,.agg #[.int .i64 0,.int .i64 0,.int .i64 0],.pointer (some ⟨gB,0,none⟩)] w fun e w'=>e= .returned (.tuple #[])∧SepF F0 w0 (ts.set i (layTq 128 gB gL (layL L a b 0))) w':=by
 have:=ζ2y h hi hL a b 0
 rwa [c_zero.1,c_zero.2.1,c_zero.2.2]at this
end Go.Proofs.YthagdonmijhpdaaGreat
namespace Corr
open Go Go.RowKit
theorem SepF.add2 {F0:Nat→Prop} {w0 w w':World} {ts:List Thing}(h:SepF F0 w0 ts w)(hb:Below w.heap.size w w') {t1 t2:Thing} {F1 F2:Nat→Prop}(p1:t1.P w' F1)(p2:t2.P w' F2)(h1: ∀k,F1 k→w.heap.size≤k)(h2: ∀k,F2 k→w.heap.size≤k)(hd: ∀k,F1 k→¬F2 k):SepF F0 w0 (ts++ [t1,t2]) w':=by
 obtain⟨Fs0,g1,g2,g3,g4⟩:=h
 have hlt: ∀i,i<ts.length→∀k,Fs0 i k→k<w.heap.size:=fun i hi k hk=>(ts[i]).lt (g1 i _ (List.getElem?_eq_getElem hi)) k hk
 have hF: ∀j,j≤ts.length+1→¬j<ts.length→∀k,(if j=ts.length then F1 else F2) k→w.heap.size≤k:=fun j _ _ k hk=>by
  split at hk
  ·exact h1 k hk
  ·exact h2 k hk
 refine⟨fun j=>if j<ts.length then Fs0 j else if j=ts.length then F1 else F2,fun j u hj=> ?_,fun j k hj hk hjk b=> ?_,fun j hj k=> ?_,g4.later hb⟩
 ·have hjl:=ζh hj
  simp at hjl
  by_cases e:j<ts.length
  ·rw [List.getElem?_append_left e]at hj
   have:=u.keep (g1 j u hj) (Off.of (F:=fun _=>False) hb) (fun _ _ e=>e)
   simpa [e]using this
  ·rw [List.getElem?_append_right (by omega)]at hj
   by_cases e2:j=ts.length
   ·subst e2
    simp only [Nat.sub_self,List.getElem?_cons_zero,Option.some.injEq]at hj
    subst hj
    simpa using p1
   ·obtain rfl:j=ts.length+1:=by omega
    rw [Nat.add_sub_cancel_left]at hj
    simp only [List.getElem?_cons_succ,List.getElem?_cons_zero,Option.some.injEq]at hj
    subst hj
    have e3: ¬ts.length+1<ts.length:=by omega
    have e4: ¬ts.length+1=ts.length:=by omega
    simpa [e3,e4]using p2
 ·simp only [List.length_append,List.length_cons,List.length_nil]at hj hk
  by_cases ej:j<ts.length
  ·by_cases ek:k<ts.length
   ·simp only [ej,ek,if_true]
    exact g2 j k ej ek hjk b
   ·simp only [ej,ek,if_true,if_false]
    intro a c
    have:=hF k (by omega) ek b c;have:=hlt j ej b a;omega
  ·by_cases ek:k<ts.length
   ·simp only [ej,ek,if_true,if_false]
    intro a c
    have:=hF j (by omega) ej b a;have:=hlt k ek b c;omega
   ·by_cases e1:j=ts.length
    ·have e2: ¬k=ts.length:=by omega
     simp only [ek,e1,e2,if_true,if_false,Nat.lt_irrefl]
     exact hd b
    ·have e2:k=ts.length:=by omega
     simp only [ej,e1,e2,if_true,if_false,Nat.lt_irrefl]
     exact fun a c=>hd b c a
 ·simp only [List.length_append,List.length_cons,List.length_nil]at hj
  by_cases ej:j<ts.length
  ·simp only [ej,if_true]
   exact g3 j ej k
  ·simp only [ej,if_false]
   intro h
   exact .inr (Nat.le_trans g4.size (hF j (by omega) ej k h))
theorem SepF.layz {F0:Nat→Prop} {w0 w:World} {ts:List Thing}(h:SepF F0 w0 ts w)(T U X V:TypeId):SepF F0 w0 (ts++ [layTq T (w.heap.size+1+1) w.heap.size [],blkT (w.heap.size+1) #[.int .i64 0,.int .i64 0,.int .i64 0]]) (((w.alloc (.cells #[.slice none 0 0] U)).alloc (.cells #[.int .i64 0,.int .i64 0,.int .i64 0] X)).alloc (.cells #[.pointer (some ⟨w.heap.size,0,none⟩)] V)):=by
 refine h.add2 (Joins.below_alloc3 w _ _ _) (t1:=layTq T (w.heap.size+1+1) w.heap.size []) (t2:=blkT (w.heap.size+1) #[.int .i64 0,.int .i64 0,.int .i64 0]) (F1:=fun k=>k=w.heap.size+1+1∨k=w.heap.size∨rowK none 0 0 k) (F2:=(· =w.heap.size+1)) ?_ ?_ ?_ (fun k hk=>by omega) ?_
 ·refine⟨?_,by omega,none,0,0,((Blk.new w #[.slice none 0 0] U).alloc _).alloc _,World.ownsRow_nil _ _ _ _,fun h=>(by cases h),fun h=>(by cases h),fun _=>Iff.rfl⟩
  have:=Blk.new ((w.alloc (.cells #[.slice none 0 0] U)).alloc (.cells #[.int .i64 0,.int .i64 0,.int .i64 0] X)) #[.pointer (some ⟨w.heap.size,0,none⟩)] V
  simpa using this
 ·refine⟨?_,fun _=>Iff.rfl⟩
  have:=(Blk.new (w.alloc (.cells #[.slice none 0 0] U)) #[.int .i64 0,.int .i64 0,.int .i64 0] X).alloc (.cells #[.pointer (some ⟨w.heap.size,0,none⟩)] V)
  simpa using this
 ·rintro k (hk | hk | hk)
  ·omega
  ·omega
  ·cases hk
 ·rintro k (hk | hk | hk) e
  ·omega
  ·omega
  ·cases hk
end Corr
namespace Go.Proofs.YthagdonmijhpdaaGreat
open Go.RowKit Corr
theorem tpsegs_yesq {Rep:RepT}(K:TrK Rep)(gT:Nat)(F:Nat→Prop)(n:Nat)(f:Int→Int)(a b:Int)(w:World)(H:TpQq Rep w (.pointer (some ⟨gT,0,none⟩)) F n (pcI f))(ho:offF f)(hn:n≤1000)(hm:mayB a b=true):Calls Tryz.prog 32 #[.pointer (some ⟨gT,0,none⟩),.agg #[.int .i64 a,.int .i64 b]] w (RetSegFq 128 w f a b):=by
 have HK:=hid K
 have HM:=hid hm
 have HO:=hid ho
 have HNN:=hid hn
 have hb:=(Below.refl w.heap.size w).alloc (Nat.le_refl _) (.cells #[.int .i64 a,.int .i64 b] 24)
 have HQ:=hid (H.keep K.toRepOk hb)
 have HS0:=hid (show SepF (fun _=>False) w [blkT w.heap.size #[.int .i64 a,.int .i64 b]] _ from(SepF.nil w).push #[.int .i64 a,.int .i64 b] 24)
 have HB:=hid hb
 obtain⟨gM,hc⟩:=HQ.out.map_at
 have HC:=hid hc
 have x0:=(HS0.out.b 0 rfl).get 0 rfl
 have x1:=(HS0.out.b 0 rfl).get 1 rfl
 have hmx:=fun t ty x y w=>run_max2 (P:=Tryz.prog) t ty x y w
 have hmn:=fun t ty x y w=>run_min2 (P:=Tryz.prog) t ty x y w
 clear K H ho hn hm hb hc
 go_enter Tryz.func32,Tryz.ntmps32
 go_wp2_with fail
 refine(ζ3a gT gM _ HC.out).mono ?_
 rintro e w1 ⟨rfl,rfl⟩
 go_wp2_with fail
 refine(ζ1u a b _).mono ?_
 rintro e w2 ⟨rfl,b2⟩
 rw [HM.out]
 have HS2:=hid (HS0.out.keep b2)
 have HQ2:=hid (HQ.out.keep HK.out.toRepOk b2)
 clear b2 x0 x1
 go_wp2_with fail
 refine(layto_anyq _ _).mono ?_
 rintro e w3 ⟨rfl,rfl⟩
 have hs3:=HS2.out.layz 128 71 78 126
 have HS3:=hid hs3
 have HQ3:=hid (HQ2.out.keep HK.out.toRepOk (Joins.below_alloc3 w2 (.cells #[.slice none 0 0] 71) (.cells #[.int .i64 0,.int .i64 0,.int .i64 0] 78) (.cells #[.pointer (some ⟨w2.heap.size,0,none⟩)] 126)))
 have x0:=(hs3.b 0 rfl).get 0 rfl
 have x1:=(hs3.b 0 rfl).get 1 rfl
 have hz3:((w2.alloc (.cells #[.slice none 0 0] 71)).alloc (.cells #[.int .i64 0,.int .i64 0,.int .i64 0] 78)).heap.size=w2.heap.size+1+1:=by simp
 rw [hz3]
 generalize ((w2.alloc (.cells #[.slice none 0 0] 71)).alloc (.cells #[.int .i64 0,.int .i64 0,.int .i64 0] 78)).alloc (.cells #[.pointer (some ⟨w2.heap.size,0,none⟩)] 126)=w3 at*
 obtain⟨gB,hgB⟩: ∃k,w2.heap.size+1+1=k:=⟨_,rfl⟩
 obtain⟨gz,hgz⟩: ∃k,w2.heap.size+1=k:=⟨_,rfl⟩
 obtain⟨gL,hgL⟩: ∃k,w2.heap.size=k:=⟨_,rfl⟩
 rw [hgB]at HS3 ⊢
 rw [hgz]at HS3 ⊢
 rw [hgL]at HS3 ⊢
 clear hs3 hz3 HS2 HQ2 hgB hgz hgL
 go_wp2_with fail
 refine(ζ4s HK.out HQ3.out HNN.out ⟨f,fun _ h=>h⟩ a b).mono ?_
 rintro e w4 ⟨L,A,N,c,rfl,r1,r2,r3,r4,b4⟩
 have HR1:=hid r1
 have HR2:=hid r2
 have HLN:=hid (ζ3c r4)
 have hNL:N≤4000:=by have:=ζ3c r4;have:=HNN.out;omega
 have HS4:=hid (show SepF (fun _=>False) w [blkT w.heap.size #[.int .i64 a,.int .i64 b],layTq 128 gB gL [],blkT gz #[.int .i64 0,.int .i64 0,.int .i64 0],rowT w3.heap.size 128 5 A N c (ζ7 L)] w4 from HS3.out.addRow r4 (ζ1c r4) b4)
 have hs4:=HS4.out
 clear r1 r2 r3 r4 b4 x0 x1 HS3
 have x0:=(hs4.b 0 rfl).get 0 rfl
 have x1:=(hs4.b 0 rfl).get 1 rfl
 clear hs4
 go_wp2_with fail
 go_loopw [8,26] (fun v8 v26 wr=>∃(k:Nat) (day:Int) (out:ItL),v8= .int .i64 day∧v26= .int .i64 (k:Int)∧k≤N∧Hid (ζ2a a b (L.take k)=(out,day))∧Hid (SepF (fun _=>False) w [blkT w.heap.size #[.int .i64 a,.int .i64 b],layTq 128 gB gL out,blkT gz #[.int .i64 0,.int .i64 0,.int .i64 0],rowT w3.heap.size 128 5 A N c (ζ7 L)] wr)) (fun _ v26 _=>(N-intOf v26).toNat)
 case atStart=>exact⟨0,a,[],rfl,rfl,by omega,hid rfl,HS4⟩
 case round=>
  obtain⟨k,day,out,rfl,rfl,hk,HE,HS⟩:=hrel
  clear HS4 x0 x1
  have zz0:=(HS.out.b 2 rfl).get 0 rfl
  have zz1:=(HS.out.b 2 rfl).get 1 rfl
  have zz2:=(HS.out.b 2 rfl).get 2 rfl
  have hol:out.length≤8000:=by
   have h1:out.length≤2*(L.take k).length:=by
    have h1:=ζ4w a b (L.take k)
    rw [HE.out]at h1
    exact h1
   rw [List.length_take]at h1
   omega
  have x0:=(HS.out.b 0 rfl).get 0 rfl
  have x1:=(HS.out.b 0 rfl).get 1 rfl
  by_cases hlt:k<N
  ·obtain⟨g,⟨y1,y2,y3⟩,rfl,hx,k0,k1,k2,k3,k4⟩:=ζ2u (HS.out.row 3 rfl) hlt
   have HX:=hid hx
   have hs5:=HS.out.push #[.int .i64 y1,.int .i64 y2,.int .i64 (numP y3),.int .i64 (sinP y3),.int .i64 (valP y3)] 128
   have HS5:=hid hs5
   have z0:=(hs5.b 4 rfl).get 0 rfl
   have z1:=(hs5.b 4 rfl).get 1 rfl
   have z2:=(hs5.b 4 rfl).get 2 rfl
   have z3:=(hs5.b 4 rfl).get 3 rfl
   have z4:=(hs5.b 4 rfl).get 4 rfl
   have zz0:=(hs5.b 2 rfl).get 0 rfl
   have zz1:=(hs5.b 2 rfl).get 1 rfl
   have zz2:=(hs5.b 2 rfl).get 2 rfl
   have u0:=(hs5.b 0 rfl).get 0 rfl
   have u1:=(hs5.b 0 rfl).get 1 rfl
   clear hx hs5
   go_wp2_with fail
   refine(sepf_lay0 HS5.out (i:=1) rfl (by omega) day y1).mono ?_
   rintro e w6 ⟨rfl,hs6⟩
   have HS6:=hid hs6
   have z0:=(hs6.b 4 rfl).get 0 rfl
   have z1:=(hs6.b 4 rfl).get 1 rfl
   have z2:=(hs6.b 4 rfl).get 2 rfl
   have z3:=(hs6.b 4 rfl).get 3 rfl
   have z4:=(hs6.b 4 rfl).get 4 rfl
   have zz0:=(hs6.b 2 rfl).get 0 rfl
   have zz1:=(hs6.b 2 rfl).get 1 rfl
   have zz2:=(hs6.b 2 rfl).get 2 rfl
   have u0:=(hs6.b 0 rfl).get 0 rfl
   have u1:=(hs6.b 0 rfl).get 1 rfl
   clear hs6
   go_wp2_with fail
   refine(ζ2y HS6.out (i:=1) rfl (by have:=ζ1j out day y1 0;omega) (max y1 a) (min y2 b) y3).mono ?_
   rintro e w7 ⟨rfl,hs7⟩
   have HS7:=hid (hs7.take 4)
   have z1:=(hs7.b 4 rfl).get 1 rfl
   clear hs7
   go_wp2_with fail
   go_roundw
   case rel=>exact⟨k+1,y2,_,rfl,by go_num,by omega,hid (by unfold ζ2a at HE ⊢;rw [ζ1n HX.out,HE.out];rfl),HS7⟩
   case measure=>simp [intOf];omega
  ·have HE2:=hid (show ζ2a a b L=(out,day) by rw [←HE.out,List.take_of_length_le (by rw [HLN.out];omega)])
   go_wp2_with fail
   refine(sepf_lay0 HS.out (i:=1) rfl (by omega) day b).mono ?_
   rintro e w6 ⟨rfl,hs6⟩
   obtain⟨A6,n6,c6,t0,t1,t2,t3⟩:=sepf_toldq hs6 (i:=1) rfl
   have HT1:=hid t1
   have HT2:=hid t2
   have HS6:=hid hs6
   clear hs6 t1 t2 x0 x1
   go_wp2_with fail
   go_ret
   refine⟨segO a b L,A6,n6,c6,rfl,?_,?_,HS6.out.bl⟩
   ·unfold segF
    rw [if_pos HM.out]
    exact seg_cov HO.out (mayB_iff.1 HM.out).2.1 HR1.out fun x=>by
     rw [HR2.out x]
     have h1:=(mayB_iff.1 HM.out).2.1
     constructor
     ·rintro⟨p,_,p2,p3⟩;exact⟨p,p3,p2⟩
     ·rintro⟨p,p3,p2⟩;exact⟨p,h1,p2,p3⟩
   ·unfold segO
    rw [HE2.out]
    exact ζ3d HT1.out fun k hk=>by
     rcases HT2.out k hk with h | h
     ·exact h.elim
     ·exact h
end Go.Proofs.YthagdonmijhpdaaGreat
