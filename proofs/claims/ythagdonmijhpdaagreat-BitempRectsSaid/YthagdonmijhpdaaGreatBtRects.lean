/- The law BitempRects. (Written by wip/gen/genbtrects.py.) -/
import Derived.Test.YthagdonmijhpdaaGreatFramePuts
open Go.Lib (hid)
set_option linter.unusedSimpArgs false
set_option linter.unusedVariables false
set_option maxHeartbeats 8000000
set_option maxRecDepth 8000
namespace Corr
open Go Go.RowKit
theorem ζ5b {α:Type} {P:α→α→Prop} : ∀ {l:List α},l.Pairwise P→∀ {i j:Nat} {x y:α},l[i]? =some x→l[j]? =some y→i<j→P x y
 | [],_,i,j,x,y,h,_,_=>by simp at h
 | a :: l,h,0,j+1,x,y,hx,hy,_=>by
  have:a=x:=by simpa using hx
  subst this
  exact(List.pairwise_cons.1 h).1 y (List.mem_of_getElem? (by simpa using hy))
 | a :: l,h,i+1,j+1,x,y,hx,hy,hij=>ζ5b (List.pairwise_cons.1 h).2 (i:=i) (j:=j) (by simpa using hx) (by simpa using hy) (by omega)
def wantS (L:ClL)(R:List Rc)(v d:Int)(j:Nat)(want:Int):Prop:=(want=0∧∀(i:Nat) r,i<j→R[i]? =some r→¬inRc r v d)∨want=valS L v d
theorem ζ5f (L:ClL)(R:List Rc)(v d:Int):wantS L R v d 0 0:= .inl ⟨rfl,fun _ _ h=>absurd h (by omega)⟩
theorem ζ59 {L:ClL} {R:List Rc} {v d:Int} {j:Nat} {want:Int} {r:Rc}(h:wantS L R v d j want)(hr:R[j]? =some r)(hn: ¬inRc r v d):wantS L R v d (j+1) want:=by
 rcases h with⟨h0,h1⟩ | h
 ·refine .inl ⟨h0,fun i r' hi hr'=> ?_⟩
  by_cases e:i=j
  ·subst e
   obtain rfl:r=r':=Option.some.inj (hr.symm.trans hr')
   exact hn
  ·exact h1 i r' (by omega) hr'
 ·exact .inr h
theorem ζ5g {L:ClL} {R:List Rc} {v d:Int} {j:Nat} {want:Int} {r:Rc}(hR:rectsS L R)(hv:v≤lastL L)(h:wantS L R v d j want)(hr:R[j]? =some r)(hn:inRc r v d):wantS L R v d (j+1) r.2.2.2.2:=
 .inr (hR.has r (List.mem_of_getElem? hr) v d hv hn).symm
theorem wantS_end {L:ClL} {R:List Rc} {v d:Int} {j:Nat} {want:Int}(hR:rectsS L R)(h0:0≤v)(hv:v≤lastL L)(hj:R.length≤j)(h:wantS L R v d j want):want=valS L v d:=by
 rcases h with⟨h0',h1⟩ | h
 ·rw [h0',hR.none v d h0 hv fun r hr=> ?_]
  obtain⟨i,hi⟩:=List.getElem?_of_mem hr
  exact h1 i r (by have:=(List.getElem?_eq_some_iff.1 hi).1;omega) hi
 ·exact h
theorem own_maxLen {w:World} {base n size:Nat} {e:TypeId} {v:Value} {xs:List Value}(h:w.ownsRow base e size v n xs):n≤9223372036854775807:=by
 obtain⟨_,⟨_,h⟩ | ⟨g,cap,cur,_,_,_,h1,h2,_⟩⟩:=h
 ·omega
 ·unfold maxLen at h2;omega
end Corr
namespace Go.Proofs.YthagdonmijhpdaaGreat
open Go.RowKit Corr
theorem btrects_long {RL:RepL} {RB:RepB}(K:BtK RL RB)(A:Option Addr)(N c:Nat)(l:ClL)(A':Option Addr)(N' c':Nat)(l':SpL)(w:World)(Rl:Cls w A N c l)(Rl':Spn w A' N' c' l')(ol:okC13 l)(ol':okD13 l')(hN: ¬(N≤40∧N'≤40)):Calls Tryz.prog 6 #[.slice A N c,.slice A' N' c'] w fun e w'=>e= .returned (.bool true)∧Below w.heap.size w w':=by
 have HK:=hid K
 clear Rl Rl' ol ol'
 by_cases h1:N≤40
 ·have d0:decide ((N:Int) > 40)=false:=decide_eq_false (by omega)
  have d1:decide ((N':Int) > 40)=true:=decide_eq_true (by omega)
  clear K hN h1
  go_enter Tryz.func6,Tryz.ntmps6
  go_wp2_with fail
  refine(ζ54 HK.out _).mono ?_
  rintro e w1 ⟨rfl,b1⟩
  have HB1:=hid b1
  clear b1
  go_wp2_with fail
  go_ret
  exact⟨rfl,HB1.out⟩
 ·have d0:decide ((N:Int) > 40)=true:=decide_eq_true (by omega)
  clear K hN h1
  go_enter Tryz.func6,Tryz.ntmps6
  go_wp2_with fail
  refine(ζ54 HK.out _).mono ?_
  rintro e w1 ⟨rfl,b1⟩
  have HB1:=hid b1
  clear b1
  go_wp2_with fail
  go_ret
  exact⟨rfl,HB1.out⟩
set_option maxRecDepth 100000 in
theorem btrects_main {RL:RepL} {RB:RepB}(K:BtK RL RB)(A:Option Addr)(N c:Nat)(l:ClL)(A':Option Addr)(N' c':Nat)(l':SpL)(w:World)(Rl:Cls w A N c l)(Rl':Spn w A' N' c' l')(ol:okC13 l)(ol':okD13 l')(hN:N≤40)(hN':N'≤40):Calls Tryz.prog 6 #[.slice A N c,.slice A' N' c'] w fun e w'=>e= .returned (.bool true)∧Below w.heap.size w w':=by
 have d0:decide ((N:Int) > 40)=false:=decide_eq_false (by omega)
 have d1:decide ((N':Int) > 40)=false:=decide_eq_false (by omega)
 have HK:=hid K
 have HR:=hid Rl
 have HR':=hid Rl'
 have HL:=hid ol
 have HL':=hid ol'
 have HN:=hid (And.intro hN hN')
 clear K Rl Rl' ol ol'
 go_enter Tryz.func6,Tryz.ntmps6
 go_wp2_with fail
 refine(sep_bmake HK.out (Sep.nil w)).mono ?_
 rintro e w1 ⟨q,rfl,s1⟩
 have HS1:=hid (show Sep w [btT HK.out.toBtOk (.pointer (some q)) []] w1 from s1)
 clear s1
 go_wp2_with fail
 go_loopw [33] (fun u wr=>∃(k:Nat) (L:ClL),u= .int .i64 (k:Int)∧k≤N∧Hid (goodS L)∧Hid (L.length≤k)∧Hid (Sep w [btT HK.out.toBtOk (.pointer (some q)) L] wr)) (fun u _=>(N-intOf u).toNat)
 case atStart=>exact⟨0,[],rfl,by omega,hid goodS_nil,hid (Nat.le_refl _),HS1⟩
 case round=>
  obtain⟨k,L,rfl,hk,HG,HLE,HS⟩:=hrel
  by_cases hlt:k<N
  ·obtain⟨ga,off,s,rfl,hs,hga,c0,c1,c2,c3⟩:=Cls.get (HR.out.keep HS.out.bl) hlt
   obtain⟨x0,x1,x2,x3⟩:=s
   have HO:=hid (HL.out _ (List.mem_of_getElem? hs))
   have HP:=hid (HS.out.push #[.int .i64 x0,.int .i64 x1,.int .i64 x2,.int .i64 x3] 32)
   have B9:=Blk.new wr #[.int .i64 x0,.int .i64 x1,.int .i64 x2,.int .i64 x3] 32
   have y0:=B9.get 0 rfl;have y1:=B9.get 1 rfl;have y2:=B9.get 2 rfl;have y3:=B9.get 3 rfl
   simp only []at HO c0 c1 c2 c3
   clear hs B9
   go_wp2_with fail
   refine(sep_bput HK.out HP.out (i:=0) rfl HG.out (by have:=HLE.out;have:=HN.out.1;omega) x0 x1 x2 x3 HO.out.1 HO.out.2).mono ?_
   rintro e w5 ⟨rfl,s5⟩
   have HS5:=hid (show Sep w [btT HK.out.toBtOk (.pointer (some q)) (bputL L x0 x1 x2 x3)] w5 from s5.take 1)
   clear s5
   go_wp2_with fail
   go_roundw
   case rel=>exact⟨k+1,_,by go_num,by omega,hid (goodS_put HG.out x0 x1 x2 x3),hid (Nat.le_trans (bputL_len _ _ _ _ _) (Nat.succ_le_succ HLE.out)),HS5⟩
   case measure=>simp [intOf];omega
  ·have HL40:=hid (show L.length≤40 by have:=HLE.out;have:=HN.out.1;omega)
   obtain⟨z,hz⟩: ∃z,lastL L=z:=⟨_,rfl⟩
   have hz0:0≤z:=by rw [←hz];exact lastL_zero HG.out
   have HZ:=hid hz
   clear hz
   go_wp2_with fail
   refine(sep_brects HK.out HS.out (i:=0) rfl HG.out (by have:=HL40.out;omega)).mono ?_
   rintro e w2 ⟨R,AR,nR,cR,rfl,hrs,oR0,b2⟩
   have HS2:=hid (HS.out.keep b2)
   have HRR:=hid (show Rcs w2 AR nR cR R from ζv oR0)
   have HRS:=hid hrs
   have HRN:=hid (Rcs.count HRR.out)
   have hnR:=own_maxLen oR0
   clear b2 oR0 hrs HS
   generalize 0=zzz at hlt
   go_wp2_with fail
   go_loopw [50] (fun u wr=>∃i:Nat,u= .int .i64 (i:Int)∧i≤nR∧Hid (Below w2.heap.size w2 wr)) (fun u _=>(nR-intOf u).toNat)
   case atStart=>exact⟨0,rfl,by omega,hid (Below.refl _ _)⟩
   case round=>
    clear hlt
    obtain⟨i,rfl,hi,HBW⟩:=hrel
    by_cases hit:i<nR
    ·obtain⟨gR,oR,r,rfl,hr,hgR,k0,k1,k2,k3,k4⟩:=Rcs.get (HRR.out.keep HBW.out) hit
     have HFO:=hid (HRS.out.form r (List.mem_of_getElem? hr))
     obtain⟨r0,r1,r2,r3,r4⟩:=r
     simp only []at HFO k0 k1 k2 k3 k4
     have HRW:=hid (HRR.out.keep HBW.out)
     have HBQ1:=hid ((Below.refl wr.heap.size wr).alloc (Nat.le_refl _) (.cells #[.int .i64 r0,.int .i64 r1,.int .i64 r2,.int .i64 r3,.int .i64 r4] 62))
     have HW1:=hid ((HS2.out.keep HBW.out).keep HBQ1.out)
     have HRW1:=hid (HRW.out.keep HBQ1.out)
     have B10:=Blk.new wr #[.int .i64 r0,.int .i64 r1,.int .i64 r2,.int .i64 r3,.int .i64 r4] 62
     have y0:=B10.get 0 rfl;have y1:=B10.get 1 rfl;have y2:=B10.get 2 rfl;have y3:=B10.get 3 rfl;have y4:=B10.get 4 rfl
     have hlt1:=B10.sz
     have hgR1:=HBQ1.out.size
     have HPV:=hid (show ∀jj,i=jj+1→∃p,R[jj]? =some p∧¬p.1 > r0∧(wr.alloc (.cells #[.int .i64 r0,.int .i64 r1,.int .i64 r2,.int .i64 r3,.int .i64 r4] 62)).cell? ⟨gR,oR+jj*5,none⟩=some (.int .i64 p.1)from fun jj e=>by
      obtain⟨g',o',p,hA,hp,_,q0,_⟩:=Rcs.get HRW1.out (show jj<nR by omega)
      injection hA with hA
      injection hA with h1 h2
      subst h1 h2
      have:=ζ5b HRS.out.order hp hr (by omega)
      exact⟨p,hp,by simp only []at this;omega,q0⟩)
     have q4:(r4 == 0)=false:=by simpa using HFO.out.1
     have q01:decide (r0≥r1)=false:=decide_eq_false (by have:=HFO.out.2.1;omega)
     have q2:decide (r2<1)=false:=decide_eq_false (by have:=HFO.out.2.2.1;omega)
     have q5:decide (r2 > z)=false:=decide_eq_false (by have:=HFO.out.2.2.2.2;have:=HZ.out;omega)
     have hin:(i:Int)<(nR:Int):=by omega
     clear B10
     by_cases hu:r3=0
     ·have q3:(r3 != 0)=false:=by simpa using hu
      clear hu
      by_cases hip:i=0
      ·have q6:decide ((i:Int) > 0)=false:=decide_eq_false (by omega)
       have hpi:=hid hip
       clear hip
       have hicR:(i:Int)≤(cR:Int):=by have:=HRW1.out.cap;omega
       go_upto_region 15 with fail
       clear k0 k1 k2 k3 k4
       as_aux_lemma=>
        refine ζ4 49 (Ext (wr.alloc (.cells #[.int .i64 r0,.int .i64 r1,.int .i64 r2,.int .i64 r3,.int .i64 r4] 62)))
         (fun iV=>List.getD (VE (.pointer (some ⟨wr.heap.size,4,none⟩)) :: VE (.int .i64 r4) :: VE (.bool false) :: VE (.bool false) :: VE (.pointer (some ⟨wr.heap.size,0,none⟩)) :: VE (.int .i64 r0) :: VE (.pointer (some ⟨wr.heap.size,1,none⟩)) :: VE (.int .i64 r1) :: VE (.bool false) :: VE (.bool false) :: VE (.bool false) :: VE (.pointer (some ⟨wr.heap.size,2,none⟩)) :: VE (.int .i64 r2) :: VE (.bool false) :: VE (.bool false) :: VE (.bool false) :: VE (.pointer (some ⟨wr.heap.size,3,none⟩)) :: VE (.int .i64 r3) :: VE (.bool false) :: VE (.bool false) :: VE (undef) :: VE (undef) :: VE (undef) :: VE (undef) :: VE (undef) :: VE (.bool false) :: VE (.bool false) :: VE (.bool false) :: VE (.pointer (some ⟨wr.heap.size,2,none⟩)) :: VE (.int .i64 r2) :: VE (.pointer (some q)) :: VE (.int .i64 z) :: VE (.bool false) :: VE (.bool false) :: VE (.bool false) :: VE (.int .i64 (i:Int)) :: VE (.bool false) :: VE (.bool false) :: VE (undef) :: VE (undef) :: VE (undef) :: VE (undef) :: VE (undef) :: VE (undef) :: VE (undef) :: VE (undef) :: VE (undef) :: VE (.bool false) :: VE (.bool false) :: []) iV (fun _ _=>False)) [] [0,2,3,4,6,8,9,10,11,13,14,15,16,18,19,20,21,22,23,24,25,26,27,28,30,32,33,34,35,36,37,38,39,40,41,42,43,44,45,46,47,48] (by kernel_rfl) (by kernel_rfl) (Ext.start _) (fun _ _ h hb=>h.grow hb)
         (ζ5e (Vs:=(VE (.pointer (some ⟨wr.heap.size,4,none⟩)) :: VE (.int .i64 r4) :: VE (.bool false) :: VE (.bool false) :: VE (.pointer (some ⟨wr.heap.size,0,none⟩)) :: VE (.int .i64 r0) :: VE (.pointer (some ⟨wr.heap.size,1,none⟩)) :: VE (.int .i64 r1) :: VE (.bool false) :: VE (.bool false) :: VE (.bool false) :: VE (.pointer (some ⟨wr.heap.size,2,none⟩)) :: VE (.int .i64 r2) :: VE (.bool false) :: VE (.bool false) :: VE (.bool false) :: VE (.pointer (some ⟨wr.heap.size,3,none⟩)) :: VE (.int .i64 r3) :: VE (.bool false) :: VE (.bool false) :: VE (undef) :: VE (undef) :: VE (undef) :: VE (undef) :: VE (undef) :: VE (.bool false) :: VE (.bool false) :: VE (.bool false) :: VE (.pointer (some ⟨wr.heap.size,2,none⟩)) :: VE (.int .i64 r2) :: VE (.pointer (some q)) :: VE (.int .i64 z) :: VE (.bool false) :: VE (.bool false) :: VE (.bool false) :: VE (.int .i64 (i:Int)) :: VE (.bool false) :: VE (.bool false) :: VE (undef) :: VE (undef) :: VE (undef) :: VE (undef) :: VE (undef) :: VE (undef) :: VE (undef) :: VE (undef) :: VE (undef) :: VE (.bool false) :: VE (.bool false) :: [])) (ζ0 (ζ1 _) (ζ0 (ζ1 _) (ζ0 (ζ1 _) (ζ0 (ζ1 _) (ζ0 (ζ1 _) (ζ0 (ζ1 _) (ζ0 (ζ1 _) (ζ0 (ζ1 _) (ζ0 (ζ1 _) (ζ0 (ζ1 _) (ζ0 (ζ1 _) (ζ0 (ζ1 _) (ζ0 (ζ1 _) (ζ0 (ζ1 _) (ζ0 (ζ1 _) (ζ0 (ζ1 _) (ζ0 (ζ1 _) (ζ0 (ζ1 _) (ζ0 (ζ1 _) (ζ0 (ζ1 _) (ζ0 (ζ1 _) (ζ0 (ζ1 _) (ζ0 (ζ1 _) (ζ0 (ζ1 _) (ζ0 (ζ1 _) (ζ0 (ζ1 _) (ζ0 (ζ1 _) (ζ0 (ζ1 _) (ζ0 (ζ1 _) (ζ0 (ζ1 _) (ζ0 (ζ1 _) (ζ0 (ζ1 _) (ζ0 (ζ1 _) (ζ0 (ζ1 _) (ζ0 (ζ1 _) (ζ0 (ζ1 _) (ζ0 (ζ1 _) (ζ0 (ζ1 _) (ζ0 (ζ1 _) (ζ0 (ζ1 _) (ζ0 (ζ1 _) (ζ0 (ζ1 _) (ζ0 (ζ1 _) (ζ0 (ζ1 _) (ζ0 (ζ1 _) (ζ0 (ζ1 _) (ζ0 (ζ1 _) (ζ0 (ζ1 _) (ζ0 (ζ1 _) ζa))))))))))))))))))))))))))))))))))))))))))))))))) rfl) ⟨?_,?_,?_,?_,?_,?_,?_,?_,?_,?_,?_,?_,?_,?_,?_,?_,?_,?_,?_,?_,?_,?_,?_,?_,?_,?_,?_,?_,?_,?_,?_,?_,?_,?_,?_,?_,?_,?_,?_,?_,?_,?_,?_,?_,?_,?_,?_,?_,?_,trivial⟩ ?_
        ·exact rU [10]
        ·exact rL [] fun hw=>(Below.cell (p:=⟨wr.heap.size,4,none⟩) hw hlt1).trans y4
        ·exact rU []
        ·exact rU []
        ·exact rG [10]
        ·intro ev wv hE hw hd
         have kx:=(Below.cell (p:=⟨wr.heap.size,0,none⟩) hw hlt1).trans y0
         exact rM [] hE hd
        ·exact rG [10]
        ·intro ev wv hE hw hd
         have kx:=(Below.cell (p:=⟨wr.heap.size,1,none⟩) hw hlt1).trans y1
         exact rM [] hE hd
        ·exact rG []
        ·exact rU []
        ·exact rU []
        ·exact rG [10]
        ·intro ev wv hE hw hd
         have kx:=(Below.cell (p:=⟨wr.heap.size,2,none⟩) hw hlt1).trans y2
         exact rM [] hE hd
        ·exact rG []
        ·exact rU []
        ·exact rU []
        ·exact rG [10]
        ·intro ev wv hE hw hd
         have kx:=(Below.cell (p:=⟨wr.heap.size,3,none⟩) hw hlt1).trans y3
         exact rM [] hE hd
        ·exact rG []
        ·exact rG []
        ·exact rS
        ·exact rS
        ·exact rS
        ·exact rS
        ·exact rS
        ·exact rG []
        ·exact rU []
        ·exact rU []
        ·exact rG [10]
        ·intro ev wv hE hw hd
         have kx:=(Below.cell (p:=⟨wr.heap.size,2,none⟩) hw hlt1).trans y2
         exact rM [] hE hd
        ·exact rG [5]
        ·intro ev wv hE hw hd
         refine rC (f:=12) (args:= #[.pointer (some q)]) [] hE hd (ζ5a HK.out (HW1.out.keep hw) (i:=0) rfl HG.out (by have:=HL40.out;omega) HZ.out) ?_
         rintro e w' ⟨rfl,hb⟩
         exact⟨_,rfl,hb,rfl,fun h=>by cases h⟩
        ·exact rG []
        ·exact rU []
        ·exact rU []
        ·exact rG [9]
        ·intro ev wv hE hw hd
         have vg:ev (.tmp 89)= .bool false:=hd 34 (by decide)
         refine ifw (by show (yv (ev (.tmp 89)) == some false)=true;rw [vg];rfl) (ifw rfl ?_)
         clear vg
         have v90:ev (.tmp 90)= .int .i64 (i:Int):=hd 35 (by decide)
         refine⟨.bool false,fun w=> ?_,rfl⟩
         obtain⟨e1,-,e2,-⟩:=hE;clear hd hw
         go_simp
         exact hpi.out
        ·exact rG []
        ·exact rS
        ·exact rS
        ·exact rS
        ·exact rS
        ·exact rS
        ·exact rS
        ·exact rS
        ·exact rS
        ·exact rS
        ·exact rG []
        ·exact rU []
        ·intro wz hw
         iterate 49 rintro _ rfl _
         simp only [zA]
         change wpList Tryz.prog _ _ _ _ wz
         have HBZ:=hid (show Below (wr.alloc (.cells #[.int .i64 r0,.int .i64 r1,.int .i64 r2,.int .i64 r3,.int .i64 r4] 62)).heap.size (wr.alloc (.cells #[.int .i64 r0,.int .i64 r1,.int .i64 r2,.int .i64 r3,.int .i64 r4] 62)) wz from hw)
         clear hw
         go_wp2_with fail
         refine ζ2 ?_
         go_wp2_with fail
         go_loopw [108] (fun u wq=>∃j:Nat,u= .int .i64 (j:Int)∧j≤i∧Hid (Below (wr.alloc (.cells #[.int .i64 r0,.int .i64 r1,.int .i64 r2,.int .i64 r3,.int .i64 r4] 62)).heap.size (wr.alloc (.cells #[.int .i64 r0,.int .i64 r1,.int .i64 r2,.int .i64 r3,.int .i64 r4] 62)) wq)) (fun u _=>(i-intOf u).toNat)
         case atStart=>exact⟨0,rfl,by omega,HBZ⟩
         case round=>
          obtain⟨j,rfl,hj,HBQ⟩:=hrel
          clear HBZ
          by_cases hjt:j<i
          ·obtain⟨gx,ox,x,hAx,hx,hgx,u0,u1,u2,u3,u4⟩:=Rcs.get (HRW1.out.keep HBQ.out) (show j<nR by omega)
           injection hAx with hAx
           injection hAx with hA1 hA2
           subst hA1 hA2
           have HAP:=hid (ζ5b HRS.out.apart hx hr (by omega))
           obtain⟨x0,x1,x2,x3,x4⟩:=x
           have HBA:=hid (HBQ.out.alloc HBQ.out.size (.cells #[.int .i64 x0,.int .i64 x1,.int .i64 x2,.int .i64 x3,.int .i64 x4] 62))
           have y0:=ζ58 HBA.out hlt1 y0;have y1:=ζ58 HBA.out hlt1 y1;have y2:=ζ58 HBA.out hlt1 y2;have y3:=ζ58 HBA.out hlt1 y3
           have B12:=Blk.new wr #[.int .i64 x0,.int .i64 x1,.int .i64 x2,.int .i64 x3,.int .i64 x4] 62
           have v0:=B12.get 0 rfl;have v1:=B12.get 1 rfl;have v2:=B12.get 2 rfl;have v3:=B12.get 3 rfl
           have hji:(j:Int)<(i:Int):=by omega
           simp only []at u0 u1 u2 u3 u4
           clear hx B12
           have hap: ¬(x0<r1∧r0<x1∧(r3=0∨x2<r3)∧(x3=0∨r2<x3)):=HAP.out
           clear HAP
           by_cases hA:x0<r1
           ·have dhA:decide (x0<r1)=true:=decide_eq_true (by assumption)
            by_cases hB:r0<x1
            ·have dhB:decide (r0<x1)=true:=decide_eq_true (by assumption)
             by_cases hC:r3=0
             ·have dhC:(r3 == 0)=true:=by simpa using(by assumption:r3=0)
              have hCH:=hid hC
              clear hC
              have hCC:=hid (show r3=0∨x2<r3 from .inl hCH.out)
              have dD1:(x3 == 0)=false:=by simp;intro e;exact hap ⟨hA,hB,hCC.out,.inl e⟩
              have dD2:decide (r2<x3)=false:=decide_eq_false (fun e=>hap ⟨hA,hB,hCC.out,.inr e⟩)
              clear hap
              go_wp2_with fail
              go_roundw
              case rel=>exact⟨j+1,by go_num,by omega,HBA⟩
              case measure=>simp [intOf];omega
             ·have dhC:(r3 == 0)=false:=by simpa using(by assumption: ¬r3=0)
              by_cases hE:x2<r3
              ·have dhE:decide (x2<r3)=true:=decide_eq_true (by assumption)
               have hCC:=hid (show r3=0∨x2<r3 from .inr hE)
               have dD1:(x3 == 0)=false:=by simp;intro e;exact hap ⟨hA,hB,hCC.out,.inl e⟩
               have dD2:decide (r2<x3)=false:=decide_eq_false (fun e=>hap ⟨hA,hB,hCC.out,.inr e⟩)
               clear hap
               go_wp2_with fail
               go_roundw
               case rel=>exact⟨j+1,by go_num,by omega,HBA⟩
               case measure=>simp [intOf];omega
              ·have dhE:decide (x2<r3)=false:=decide_eq_false (by assumption)
               go_wp2_with fail
               go_roundw
               case rel=>exact⟨j+1,by go_num,by omega,HBA⟩
               case measure=>simp [intOf];omega
            ·have dhB:decide (r0<x1)=false:=decide_eq_false (by assumption)
             go_wp2_with fail
             go_roundw
             case rel=>exact⟨j+1,by go_num,by omega,HBA⟩
             case measure=>simp [intOf];omega
           ·have dhA:decide (x0<r1)=false:=decide_eq_false (by assumption)
            go_wp2_with fail
            go_roundw
            case rel=>exact⟨j+1,by go_num,by omega,HBA⟩
            case measure=>simp [intOf];omega
          ·have HBX:=hid (HBW.out.trans (HBQ1.out.trans (HBQ.out.mono HBQ1.out.size) |>.mono HBW.out.size))
           have hi1:(i:Int)<(nR:Int):=by omega
           clear HBQ y0 y1 y2 y3 y4
           go_wp2_with fail
           go_roundw
           case rel=>exact⟨i+1,by go_num,by omega,HBX⟩
           case measure=>simp [intOf];omega
      ·obtain⟨jj,hjj⟩: ∃jj,i=jj+1:=⟨i-1,by omega⟩
       obtain⟨p,hp,hpr,pv⟩:=HPV.out jj hjj
       have hpi:=hid (show 0<i by omega)
       have hicR:(i:Int)≤(cR:Int):=by have:=HRW1.out.cap;omega
       have q6:decide ((i:Int) > 0)=true:=decide_eq_true (by omega)
       have q8:decide (p.1 > r0)=false:=decide_eq_false hpr
       have q9:IntKind.i64.wrap ((i:Int)-1)=(jj:Int):=by rw [show (i:Int)-1=(jj:Int) by omega];exact IntWalk.i64_in _ (by omega)
       have q10:(i:Int)-1=(jj:Int):=by omega
       have hjn:(jj:Int)<(nR:Int):=by omega
       have hgp:gR<(wr.alloc (.cells #[.int .i64 r0,.int .i64 r1,.int .i64 r2,.int .i64 r3,.int .i64 r4] 62)).heap.size:=by omega
       obtain⟨p0,p1,p2,p3,p4⟩:=p
       simp only []at q8 pv
       clear hp hpr HPV hjj hip q10
       go_upto_region 15 with fail
       clear k0 k1 k2 k3 k4
       as_aux_lemma=>
        refine ζ4 49 (Ext (wr.alloc (.cells #[.int .i64 r0,.int .i64 r1,.int .i64 r2,.int .i64 r3,.int .i64 r4] 62)))
         (fun iV=>List.getD (VE (.pointer (some ⟨wr.heap.size,4,none⟩)) :: VE (.int .i64 r4) :: VE (.bool false) :: VE (.bool false) :: VE (.pointer (some ⟨wr.heap.size,0,none⟩)) :: VE (.int .i64 r0) :: VE (.pointer (some ⟨wr.heap.size,1,none⟩)) :: VE (.int .i64 r1) :: VE (.bool false) :: VE (.bool false) :: VE (.bool false) :: VE (.pointer (some ⟨wr.heap.size,2,none⟩)) :: VE (.int .i64 r2) :: VE (.bool false) :: VE (.bool false) :: VE (.bool false) :: VE (.pointer (some ⟨wr.heap.size,3,none⟩)) :: VE (.int .i64 r3) :: VE (.bool false) :: VE (.bool false) :: VE (undef) :: VE (undef) :: VE (undef) :: VE (undef) :: VE (undef) :: VE (.bool false) :: VE (.bool false) :: VE (.bool false) :: VE (.pointer (some ⟨wr.heap.size,2,none⟩)) :: VE (.int .i64 r2) :: VE (.pointer (some q)) :: VE (.int .i64 z) :: VE (.bool false) :: VE (.bool false) :: VE (.bool false) :: VE (.int .i64 (i:Int)) :: VE (.bool true) :: VE (.bool true) :: VE (.slice (some ⟨gR,oR,none⟩) nR cR) :: VE (.int .i64 (i:Int)) :: VE (.int .i64 (jj:Int)) :: VE (.pointer (some ⟨gR,oR+jj*5,none⟩)) :: VE (.pointer (some ⟨gR,oR+jj*5,none⟩)) :: VE (.int .i64 p0) :: VE (.pointer (some ⟨wr.heap.size,0,none⟩)) :: VE (.int .i64 r0) :: VE (.bool false) :: VE (.bool false) :: VE (.bool false) :: []) iV (fun _ _=>False)) [] [0,2,3,4,6,8,9,10,11,13,14,15,16,18,19,20,21,22,23,24,25,26,27,28,30,32,33,34,35,36,37,38,39,40,41,42,44,46,47,48] (by kernel_rfl) (by kernel_rfl) (Ext.start _) (fun _ _ h hb=>h.grow hb)
         (ζ5e (Vs:=(VE (.pointer (some ⟨wr.heap.size,4,none⟩)) :: VE (.int .i64 r4) :: VE (.bool false) :: VE (.bool false) :: VE (.pointer (some ⟨wr.heap.size,0,none⟩)) :: VE (.int .i64 r0) :: VE (.pointer (some ⟨wr.heap.size,1,none⟩)) :: VE (.int .i64 r1) :: VE (.bool false) :: VE (.bool false) :: VE (.bool false) :: VE (.pointer (some ⟨wr.heap.size,2,none⟩)) :: VE (.int .i64 r2) :: VE (.bool false) :: VE (.bool false) :: VE (.bool false) :: VE (.pointer (some ⟨wr.heap.size,3,none⟩)) :: VE (.int .i64 r3) :: VE (.bool false) :: VE (.bool false) :: VE (undef) :: VE (undef) :: VE (undef) :: VE (undef) :: VE (undef) :: VE (.bool false) :: VE (.bool false) :: VE (.bool false) :: VE (.pointer (some ⟨wr.heap.size,2,none⟩)) :: VE (.int .i64 r2) :: VE (.pointer (some q)) :: VE (.int .i64 z) :: VE (.bool false) :: VE (.bool false) :: VE (.bool false) :: VE (.int .i64 (i:Int)) :: VE (.bool true) :: VE (.bool true) :: VE (.slice (some ⟨gR,oR,none⟩) nR cR) :: VE (.int .i64 (i:Int)) :: VE (.int .i64 (jj:Int)) :: VE (.pointer (some ⟨gR,oR+jj*5,none⟩)) :: VE (.pointer (some ⟨gR,oR+jj*5,none⟩)) :: VE (.int .i64 p0) :: VE (.pointer (some ⟨wr.heap.size,0,none⟩)) :: VE (.int .i64 r0) :: VE (.bool false) :: VE (.bool false) :: VE (.bool false) :: [])) (ζ0 (ζ1 _) (ζ0 (ζ1 _) (ζ0 (ζ1 _) (ζ0 (ζ1 _) (ζ0 (ζ1 _) (ζ0 (ζ1 _) (ζ0 (ζ1 _) (ζ0 (ζ1 _) (ζ0 (ζ1 _) (ζ0 (ζ1 _) (ζ0 (ζ1 _) (ζ0 (ζ1 _) (ζ0 (ζ1 _) (ζ0 (ζ1 _) (ζ0 (ζ1 _) (ζ0 (ζ1 _) (ζ0 (ζ1 _) (ζ0 (ζ1 _) (ζ0 (ζ1 _) (ζ0 (ζ1 _) (ζ0 (ζ1 _) (ζ0 (ζ1 _) (ζ0 (ζ1 _) (ζ0 (ζ1 _) (ζ0 (ζ1 _) (ζ0 (ζ1 _) (ζ0 (ζ1 _) (ζ0 (ζ1 _) (ζ0 (ζ1 _) (ζ0 (ζ1 _) (ζ0 (ζ1 _) (ζ0 (ζ1 _) (ζ0 (ζ1 _) (ζ0 (ζ1 _) (ζ0 (ζ1 _) (ζ0 (ζ1 _) (ζ0 (ζ1 _) (ζ0 (ζ1 _) (ζ0 (ζ1 _) (ζ0 (ζ1 _) (ζ0 (ζ1 _) (ζ0 (ζ1 _) (ζ0 (ζ1 _) (ζ0 (ζ1 _) (ζ0 (ζ1 _) (ζ0 (ζ1 _) (ζ0 (ζ1 _) (ζ0 (ζ1 _) (ζ0 (ζ1 _) ζa))))))))))))))))))))))))))))))))))))))))))))))))) rfl) ⟨?_,?_,?_,?_,?_,?_,?_,?_,?_,?_,?_,?_,?_,?_,?_,?_,?_,?_,?_,?_,?_,?_,?_,?_,?_,?_,?_,?_,?_,?_,?_,?_,?_,?_,?_,?_,?_,?_,?_,?_,?_,?_,?_,?_,?_,?_,?_,?_,?_,trivial⟩ ?_
        ·exact rU [10]
        ·exact rL [] fun hw=>(Below.cell (p:=⟨wr.heap.size,4,none⟩) hw hlt1).trans y4
        ·exact rU []
        ·exact rU []
        ·exact rG [10]
        ·intro ev wv hE hw hd
         have kx:=(Below.cell (p:=⟨wr.heap.size,0,none⟩) hw hlt1).trans y0
         exact rM [] hE hd
        ·exact rG [10]
        ·intro ev wv hE hw hd
         have kx:=(Below.cell (p:=⟨wr.heap.size,1,none⟩) hw hlt1).trans y1
         exact rM [] hE hd
        ·exact rG []
        ·exact rU []
        ·exact rU []
        ·exact rG [10]
        ·intro ev wv hE hw hd
         have kx:=(Below.cell (p:=⟨wr.heap.size,2,none⟩) hw hlt1).trans y2
         exact rM [] hE hd
        ·exact rG []
        ·exact rU []
        ·exact rU []
        ·exact rG [10]
        ·intro ev wv hE hw hd
         have kx:=(Below.cell (p:=⟨wr.heap.size,3,none⟩) hw hlt1).trans y3
         exact rM [] hE hd
        ·exact rG []
        ·exact rG []
        ·exact rS
        ·exact rS
        ·exact rS
        ·exact rS
        ·exact rS
        ·exact rG []
        ·exact rU []
        ·exact rU []
        ·exact rG [10]
        ·intro ev wv hE hw hd
         have kx:=(Below.cell (p:=⟨wr.heap.size,2,none⟩) hw hlt1).trans y2
         exact rM [] hE hd
        ·exact rG [5]
        ·intro ev wv hE hw hd
         refine rC (f:=12) (args:= #[.pointer (some q)]) [] hE hd (ζ5a HK.out (HW1.out.keep hw) (i:=0) rfl HG.out (by have:=HL40.out;omega) HZ.out) ?_
         rintro e w' ⟨rfl,hb⟩
         exact⟨_,rfl,hb,rfl,fun h=>by cases h⟩
        ·exact rG []
        ·exact rU []
        ·exact rU []
        ·exact rG [9]
        ·intro ev wv hE hw hd
         have vg:ev (.tmp 89)= .bool false:=hd 34 (by decide)
         refine ifw (by show (yv (ev (.tmp 89)) == some false)=true;rw [vg];rfl) (ifw rfl ?_)
         clear vg
         have v90:ev (.tmp 90)= .int .i64 (i:Int):=hd 35 (by decide)
         refine⟨.bool true,fun w=> ?_,rfl⟩
         obtain⟨e1,-,e2,-⟩:=hE;clear hd hw
         go_simp
         exact hpi.out
        ·exact rG []
        ·exact rG [8]
        ·exact rG [9]
        ·exact rG []
        ·exact rG []
        ·exact rG []
        ·intro ev wv hE hw hd
         have kx:=(Below.cell (p:=⟨gR,oR+jj*5,none⟩) hw hgp).trans pv
         exact rM [] hE hd
        ·exact rG [10]
        ·intro ev wv hE hw hd
         have kx:=(Below.cell (p:=⟨wr.heap.size,0,none⟩) hw hlt1).trans y0
         exact rM [] hE hd
        ·exact rG []
        ·exact rG []
        ·exact rU []
        ·intro wz hw
         iterate 49 rintro _ rfl _
         simp only [zA]
         change wpList Tryz.prog _ _ _ _ wz
         have HBZ:=hid (show Below (wr.alloc (.cells #[.int .i64 r0,.int .i64 r1,.int .i64 r2,.int .i64 r3,.int .i64 r4] 62)).heap.size (wr.alloc (.cells #[.int .i64 r0,.int .i64 r1,.int .i64 r2,.int .i64 r3,.int .i64 r4] 62)) wz from hw)
         clear hw
         go_wp2_with fail
         refine ζ2 ?_
         go_wp2_with fail
         go_loopw [108] (fun u wq=>∃j:Nat,u= .int .i64 (j:Int)∧j≤i∧Hid (Below (wr.alloc (.cells #[.int .i64 r0,.int .i64 r1,.int .i64 r2,.int .i64 r3,.int .i64 r4] 62)).heap.size (wr.alloc (.cells #[.int .i64 r0,.int .i64 r1,.int .i64 r2,.int .i64 r3,.int .i64 r4] 62)) wq)) (fun u _=>(i-intOf u).toNat)
         case atStart=>exact⟨0,rfl,by omega,HBZ⟩
         case round=>
          obtain⟨j,rfl,hj,HBQ⟩:=hrel
          clear HBZ
          by_cases hjt:j<i
          ·obtain⟨gx,ox,x,hAx,hx,hgx,u0,u1,u2,u3,u4⟩:=Rcs.get (HRW1.out.keep HBQ.out) (show j<nR by omega)
           injection hAx with hAx
           injection hAx with hA1 hA2
           subst hA1 hA2
           have HAP:=hid (ζ5b HRS.out.apart hx hr (by omega))
           obtain⟨x0,x1,x2,x3,x4⟩:=x
           have HBA:=hid (HBQ.out.alloc HBQ.out.size (.cells #[.int .i64 x0,.int .i64 x1,.int .i64 x2,.int .i64 x3,.int .i64 x4] 62))
           have y0:=ζ58 HBA.out hlt1 y0;have y1:=ζ58 HBA.out hlt1 y1;have y2:=ζ58 HBA.out hlt1 y2;have y3:=ζ58 HBA.out hlt1 y3
           have B12:=Blk.new wr #[.int .i64 x0,.int .i64 x1,.int .i64 x2,.int .i64 x3,.int .i64 x4] 62
           have v0:=B12.get 0 rfl;have v1:=B12.get 1 rfl;have v2:=B12.get 2 rfl;have v3:=B12.get 3 rfl
           have hji:(j:Int)<(i:Int):=by omega
           simp only []at u0 u1 u2 u3 u4
           clear hx B12
           have hap: ¬(x0<r1∧r0<x1∧(r3=0∨x2<r3)∧(x3=0∨r2<x3)):=HAP.out
           clear HAP
           by_cases hA:x0<r1
           ·have dhA:decide (x0<r1)=true:=decide_eq_true (by assumption)
            by_cases hB:r0<x1
            ·have dhB:decide (r0<x1)=true:=decide_eq_true (by assumption)
             by_cases hC:r3=0
             ·have dhC:(r3 == 0)=true:=by simpa using(by assumption:r3=0)
              have hCH:=hid hC
              clear hC
              have hCC:=hid (show r3=0∨x2<r3 from .inl hCH.out)
              have dD1:(x3 == 0)=false:=by simp;intro e;exact hap ⟨hA,hB,hCC.out,.inl e⟩
              have dD2:decide (r2<x3)=false:=decide_eq_false (fun e=>hap ⟨hA,hB,hCC.out,.inr e⟩)
              clear hap
              go_wp2_with fail
              go_roundw
              case rel=>exact⟨j+1,by go_num,by omega,HBA⟩
              case measure=>simp [intOf];omega
             ·have dhC:(r3 == 0)=false:=by simpa using(by assumption: ¬r3=0)
              by_cases hE:x2<r3
              ·have dhE:decide (x2<r3)=true:=decide_eq_true (by assumption)
               have hCC:=hid (show r3=0∨x2<r3 from .inr hE)
               have dD1:(x3 == 0)=false:=by simp;intro e;exact hap ⟨hA,hB,hCC.out,.inl e⟩
               have dD2:decide (r2<x3)=false:=decide_eq_false (fun e=>hap ⟨hA,hB,hCC.out,.inr e⟩)
               clear hap
               go_wp2_with fail
               go_roundw
               case rel=>exact⟨j+1,by go_num,by omega,HBA⟩
               case measure=>simp [intOf];omega
              ·have dhE:decide (x2<r3)=false:=decide_eq_false (by assumption)
               go_wp2_with fail
               go_roundw
               case rel=>exact⟨j+1,by go_num,by omega,HBA⟩
               case measure=>simp [intOf];omega
            ·have dhB:decide (r0<x1)=false:=decide_eq_false (by assumption)
             go_wp2_with fail
             go_roundw
             case rel=>exact⟨j+1,by go_num,by omega,HBA⟩
             case measure=>simp [intOf];omega
           ·have dhA:decide (x0<r1)=false:=decide_eq_false (by assumption)
            go_wp2_with fail
            go_roundw
            case rel=>exact⟨j+1,by go_num,by omega,HBA⟩
            case measure=>simp [intOf];omega
          ·have HBX:=hid (HBW.out.trans (HBQ1.out.trans (HBQ.out.mono HBQ1.out.size) |>.mono HBW.out.size))
           have hi1:(i:Int)<(nR:Int):=by omega
           clear HBQ y0 y1 y2 y3 y4
           go_wp2_with fail
           go_roundw
           case rel=>exact⟨i+1,by go_num,by omega,HBX⟩
           case measure=>simp [intOf];omega
     ·have q3:(r3 != 0)=true:=by simpa using hu
      have q7:decide (r3≤r2)=false:=decide_eq_false (by have:=HFO.out.2.2.2.1;omega)
      by_cases hip:i=0
      ·have q6:decide ((i:Int) > 0)=false:=decide_eq_false (by omega)
       have hpi:=hid hip
       clear hip
       have hicR:(i:Int)≤(cR:Int):=by have:=HRW1.out.cap;omega
       go_upto_region 15 with fail
       clear k0 k1 k2 k3 k4
       as_aux_lemma=>
        refine ζ4 49 (Ext (wr.alloc (.cells #[.int .i64 r0,.int .i64 r1,.int .i64 r2,.int .i64 r3,.int .i64 r4] 62)))
         (fun iV=>List.getD (VE (.pointer (some ⟨wr.heap.size,4,none⟩)) :: VE (.int .i64 r4) :: VE (.bool false) :: VE (.bool false) :: VE (.pointer (some ⟨wr.heap.size,0,none⟩)) :: VE (.int .i64 r0) :: VE (.pointer (some ⟨wr.heap.size,1,none⟩)) :: VE (.int .i64 r1) :: VE (.bool false) :: VE (.bool false) :: VE (.bool false) :: VE (.pointer (some ⟨wr.heap.size,2,none⟩)) :: VE (.int .i64 r2) :: VE (.bool false) :: VE (.bool false) :: VE (.bool false) :: VE (.pointer (some ⟨wr.heap.size,3,none⟩)) :: VE (.int .i64 r3) :: VE (.bool true) :: VE (.bool true) :: VE (.pointer (some ⟨wr.heap.size,3,none⟩)) :: VE (.int .i64 r3) :: VE (.pointer (some ⟨wr.heap.size,2,none⟩)) :: VE (.int .i64 r2) :: VE (.bool false) :: VE (.bool false) :: VE (.bool false) :: VE (.bool false) :: VE (.pointer (some ⟨wr.heap.size,2,none⟩)) :: VE (.int .i64 r2) :: VE (.pointer (some q)) :: VE (.int .i64 z) :: VE (.bool false) :: VE (.bool false) :: VE (.bool false) :: VE (.int .i64 (i:Int)) :: VE (.bool false) :: VE (.bool false) :: VE (undef) :: VE (undef) :: VE (undef) :: VE (undef) :: VE (undef) :: VE (undef) :: VE (undef) :: VE (undef) :: VE (undef) :: VE (.bool false) :: VE (.bool false) :: []) iV (fun _ _=>False)) [] [0,2,3,4,6,8,9,10,11,13,14,15,16,18,19,20,22,24,25,26,27,28,30,32,33,34,35,36,37,38,39,40,41,42,43,44,45,46,47,48] (by kernel_rfl) (by kernel_rfl) (Ext.start _) (fun _ _ h hb=>h.grow hb)
         (ζ5e (Vs:=(VE (.pointer (some ⟨wr.heap.size,4,none⟩)) :: VE (.int .i64 r4) :: VE (.bool false) :: VE (.bool false) :: VE (.pointer (some ⟨wr.heap.size,0,none⟩)) :: VE (.int .i64 r0) :: VE (.pointer (some ⟨wr.heap.size,1,none⟩)) :: VE (.int .i64 r1) :: VE (.bool false) :: VE (.bool false) :: VE (.bool false) :: VE (.pointer (some ⟨wr.heap.size,2,none⟩)) :: VE (.int .i64 r2) :: VE (.bool false) :: VE (.bool false) :: VE (.bool false) :: VE (.pointer (some ⟨wr.heap.size,3,none⟩)) :: VE (.int .i64 r3) :: VE (.bool true) :: VE (.bool true) :: VE (.pointer (some ⟨wr.heap.size,3,none⟩)) :: VE (.int .i64 r3) :: VE (.pointer (some ⟨wr.heap.size,2,none⟩)) :: VE (.int .i64 r2) :: VE (.bool false) :: VE (.bool false) :: VE (.bool false) :: VE (.bool false) :: VE (.pointer (some ⟨wr.heap.size,2,none⟩)) :: VE (.int .i64 r2) :: VE (.pointer (some q)) :: VE (.int .i64 z) :: VE (.bool false) :: VE (.bool false) :: VE (.bool false) :: VE (.int .i64 (i:Int)) :: VE (.bool false) :: VE (.bool false) :: VE (undef) :: VE (undef) :: VE (undef) :: VE (undef) :: VE (undef) :: VE (undef) :: VE (undef) :: VE (undef) :: VE (undef) :: VE (.bool false) :: VE (.bool false) :: [])) (ζ0 (ζ1 _) (ζ0 (ζ1 _) (ζ0 (ζ1 _) (ζ0 (ζ1 _) (ζ0 (ζ1 _) (ζ0 (ζ1 _) (ζ0 (ζ1 _) (ζ0 (ζ1 _) (ζ0 (ζ1 _) (ζ0 (ζ1 _) (ζ0 (ζ1 _) (ζ0 (ζ1 _) (ζ0 (ζ1 _) (ζ0 (ζ1 _) (ζ0 (ζ1 _) (ζ0 (ζ1 _) (ζ0 (ζ1 _) (ζ0 (ζ1 _) (ζ0 (ζ1 _) (ζ0 (ζ1 _) (ζ0 (ζ1 _) (ζ0 (ζ1 _) (ζ0 (ζ1 _) (ζ0 (ζ1 _) (ζ0 (ζ1 _) (ζ0 (ζ1 _) (ζ0 (ζ1 _) (ζ0 (ζ1 _) (ζ0 (ζ1 _) (ζ0 (ζ1 _) (ζ0 (ζ1 _) (ζ0 (ζ1 _) (ζ0 (ζ1 _) (ζ0 (ζ1 _) (ζ0 (ζ1 _) (ζ0 (ζ1 _) (ζ0 (ζ1 _) (ζ0 (ζ1 _) (ζ0 (ζ1 _) (ζ0 (ζ1 _) (ζ0 (ζ1 _) (ζ0 (ζ1 _) (ζ0 (ζ1 _) (ζ0 (ζ1 _) (ζ0 (ζ1 _) (ζ0 (ζ1 _) (ζ0 (ζ1 _) (ζ0 (ζ1 _) (ζ0 (ζ1 _) ζa))))))))))))))))))))))))))))))))))))))))))))))))) rfl) ⟨?_,?_,?_,?_,?_,?_,?_,?_,?_,?_,?_,?_,?_,?_,?_,?_,?_,?_,?_,?_,?_,?_,?_,?_,?_,?_,?_,?_,?_,?_,?_,?_,?_,?_,?_,?_,?_,?_,?_,?_,?_,?_,?_,?_,?_,?_,?_,?_,?_,trivial⟩ ?_
        ·exact rU [10]
        ·exact rL [] fun hw=>(Below.cell (p:=⟨wr.heap.size,4,none⟩) hw hlt1).trans y4
        ·exact rU []
        ·exact rU []
        ·exact rG [10]
        ·intro ev wv hE hw hd
         have kx:=(Below.cell (p:=⟨wr.heap.size,0,none⟩) hw hlt1).trans y0
         exact rM [] hE hd
        ·exact rG [10]
        ·intro ev wv hE hw hd
         have kx:=(Below.cell (p:=⟨wr.heap.size,1,none⟩) hw hlt1).trans y1
         exact rM [] hE hd
        ·exact rG []
        ·exact rU []
        ·exact rU []
        ·exact rG [10]
        ·intro ev wv hE hw hd
         have kx:=(Below.cell (p:=⟨wr.heap.size,2,none⟩) hw hlt1).trans y2
         exact rM [] hE hd
        ·exact rG []
        ·exact rU []
        ·exact rU []
        ·exact rG [10]
        ·intro ev wv hE hw hd
         have kx:=(Below.cell (p:=⟨wr.heap.size,3,none⟩) hw hlt1).trans y3
         exact rM [] hE hd
        ·exact rG []
        ·exact rG []
        ·exact rG [10]
        ·intro ev wv hE hw hd
         have kx:=(Below.cell (p:=⟨wr.heap.size,3,none⟩) hw hlt1).trans y3
         exact rM [] hE hd
        ·exact rG [10]
        ·intro ev wv hE hw hd
         have kx:=(Below.cell (p:=⟨wr.heap.size,2,none⟩) hw hlt1).trans y2
         exact rM [] hE hd
        ·exact rG []
        ·exact rG []
        ·exact rU []
        ·exact rU []
        ·exact rG [10]
        ·intro ev wv hE hw hd
         have kx:=(Below.cell (p:=⟨wr.heap.size,2,none⟩) hw hlt1).trans y2
         exact rM [] hE hd
        ·exact rG [5]
        ·intro ev wv hE hw hd
         refine rC (f:=12) (args:= #[.pointer (some q)]) [] hE hd (ζ5a HK.out (HW1.out.keep hw) (i:=0) rfl HG.out (by have:=HL40.out;omega) HZ.out) ?_
         rintro e w' ⟨rfl,hb⟩
         exact⟨_,rfl,hb,rfl,fun h=>by cases h⟩
        ·exact rG []
        ·exact rU []
        ·exact rU []
        ·exact rG [9]
        ·intro ev wv hE hw hd
         have vg:ev (.tmp 89)= .bool false:=hd 34 (by decide)
         refine ifw (by show (yv (ev (.tmp 89)) == some false)=true;rw [vg];rfl) (ifw rfl ?_)
         clear vg
         have v90:ev (.tmp 90)= .int .i64 (i:Int):=hd 35 (by decide)
         refine⟨.bool false,fun w=> ?_,rfl⟩
         obtain⟨e1,-,e2,-⟩:=hE;clear hd hw
         go_simp
         exact hpi.out
        ·exact rG []
        ·exact rS
        ·exact rS
        ·exact rS
        ·exact rS
        ·exact rS
        ·exact rS
        ·exact rS
        ·exact rS
        ·exact rS
        ·exact rG []
        ·exact rU []
        ·intro wz hw
         iterate 49 rintro _ rfl _
         simp only [zA]
         change wpList Tryz.prog _ _ _ _ wz
         have HBZ:=hid (show Below (wr.alloc (.cells #[.int .i64 r0,.int .i64 r1,.int .i64 r2,.int .i64 r3,.int .i64 r4] 62)).heap.size (wr.alloc (.cells #[.int .i64 r0,.int .i64 r1,.int .i64 r2,.int .i64 r3,.int .i64 r4] 62)) wz from hw)
         clear hw
         go_wp2_with fail
         refine ζ2 ?_
         go_wp2_with fail
         go_loopw [108] (fun u wq=>∃j:Nat,u= .int .i64 (j:Int)∧j≤i∧Hid (Below (wr.alloc (.cells #[.int .i64 r0,.int .i64 r1,.int .i64 r2,.int .i64 r3,.int .i64 r4] 62)).heap.size (wr.alloc (.cells #[.int .i64 r0,.int .i64 r1,.int .i64 r2,.int .i64 r3,.int .i64 r4] 62)) wq)) (fun u _=>(i-intOf u).toNat)
         case atStart=>exact⟨0,rfl,by omega,HBZ⟩
         case round=>
          obtain⟨j,rfl,hj,HBQ⟩:=hrel
          clear HBZ
          by_cases hjt:j<i
          ·obtain⟨gx,ox,x,hAx,hx,hgx,u0,u1,u2,u3,u4⟩:=Rcs.get (HRW1.out.keep HBQ.out) (show j<nR by omega)
           injection hAx with hAx
           injection hAx with hA1 hA2
           subst hA1 hA2
           have HAP:=hid (ζ5b HRS.out.apart hx hr (by omega))
           obtain⟨x0,x1,x2,x3,x4⟩:=x
           have HBA:=hid (HBQ.out.alloc HBQ.out.size (.cells #[.int .i64 x0,.int .i64 x1,.int .i64 x2,.int .i64 x3,.int .i64 x4] 62))
           have y0:=ζ58 HBA.out hlt1 y0;have y1:=ζ58 HBA.out hlt1 y1;have y2:=ζ58 HBA.out hlt1 y2;have y3:=ζ58 HBA.out hlt1 y3
           have B12:=Blk.new wr #[.int .i64 x0,.int .i64 x1,.int .i64 x2,.int .i64 x3,.int .i64 x4] 62
           have v0:=B12.get 0 rfl;have v1:=B12.get 1 rfl;have v2:=B12.get 2 rfl;have v3:=B12.get 3 rfl
           have hji:(j:Int)<(i:Int):=by omega
           simp only []at u0 u1 u2 u3 u4
           clear hx B12
           have hap: ¬(x0<r1∧r0<x1∧(r3=0∨x2<r3)∧(x3=0∨r2<x3)):=HAP.out
           clear HAP
           by_cases hA:x0<r1
           ·have dhA:decide (x0<r1)=true:=decide_eq_true (by assumption)
            by_cases hB:r0<x1
            ·have dhB:decide (r0<x1)=true:=decide_eq_true (by assumption)
             by_cases hC:r3=0
             ·have dhC:(r3 == 0)=true:=by simpa using(by assumption:r3=0)
              have hCH:=hid hC
              clear hC
              have hCC:=hid (show r3=0∨x2<r3 from .inl hCH.out)
              have dD1:(x3 == 0)=false:=by simp;intro e;exact hap ⟨hA,hB,hCC.out,.inl e⟩
              have dD2:decide (r2<x3)=false:=decide_eq_false (fun e=>hap ⟨hA,hB,hCC.out,.inr e⟩)
              clear hap
              go_wp2_with fail
              go_roundw
              case rel=>exact⟨j+1,by go_num,by omega,HBA⟩
              case measure=>simp [intOf];omega
             ·have dhC:(r3 == 0)=false:=by simpa using(by assumption: ¬r3=0)
              by_cases hE:x2<r3
              ·have dhE:decide (x2<r3)=true:=decide_eq_true (by assumption)
               have hCC:=hid (show r3=0∨x2<r3 from .inr hE)
               have dD1:(x3 == 0)=false:=by simp;intro e;exact hap ⟨hA,hB,hCC.out,.inl e⟩
               have dD2:decide (r2<x3)=false:=decide_eq_false (fun e=>hap ⟨hA,hB,hCC.out,.inr e⟩)
               clear hap
               go_wp2_with fail
               go_roundw
               case rel=>exact⟨j+1,by go_num,by omega,HBA⟩
               case measure=>simp [intOf];omega
              ·have dhE:decide (x2<r3)=false:=decide_eq_false (by assumption)
               go_wp2_with fail
               go_roundw
               case rel=>exact⟨j+1,by go_num,by omega,HBA⟩
               case measure=>simp [intOf];omega
            ·have dhB:decide (r0<x1)=false:=decide_eq_false (by assumption)
             go_wp2_with fail
             go_roundw
             case rel=>exact⟨j+1,by go_num,by omega,HBA⟩
             case measure=>simp [intOf];omega
           ·have dhA:decide (x0<r1)=false:=decide_eq_false (by assumption)
            go_wp2_with fail
            go_roundw
            case rel=>exact⟨j+1,by go_num,by omega,HBA⟩
            case measure=>simp [intOf];omega
          ·have HBX:=hid (HBW.out.trans (HBQ1.out.trans (HBQ.out.mono HBQ1.out.size) |>.mono HBW.out.size))
           have hi1:(i:Int)<(nR:Int):=by omega
           clear HBQ y0 y1 y2 y3 y4
           go_wp2_with fail
           go_roundw
           case rel=>exact⟨i+1,by go_num,by omega,HBX⟩
           case measure=>simp [intOf];omega
      ·obtain⟨jj,hjj⟩: ∃jj,i=jj+1:=⟨i-1,by omega⟩
       obtain⟨p,hp,hpr,pv⟩:=HPV.out jj hjj
       have hpi:=hid (show 0<i by omega)
       have hicR:(i:Int)≤(cR:Int):=by have:=HRW1.out.cap;omega
       have q6:decide ((i:Int) > 0)=true:=decide_eq_true (by omega)
       have q8:decide (p.1 > r0)=false:=decide_eq_false hpr
       have q9:IntKind.i64.wrap ((i:Int)-1)=(jj:Int):=by rw [show (i:Int)-1=(jj:Int) by omega];exact IntWalk.i64_in _ (by omega)
       have q10:(i:Int)-1=(jj:Int):=by omega
       have hjn:(jj:Int)<(nR:Int):=by omega
       have hgp:gR<(wr.alloc (.cells #[.int .i64 r0,.int .i64 r1,.int .i64 r2,.int .i64 r3,.int .i64 r4] 62)).heap.size:=by omega
       obtain⟨p0,p1,p2,p3,p4⟩:=p
       simp only []at q8 pv
       clear hp hpr HPV hjj hip q10
       go_upto_region 15 with fail
       clear k0 k1 k2 k3 k4
       as_aux_lemma=>
        refine ζ4 49 (Ext (wr.alloc (.cells #[.int .i64 r0,.int .i64 r1,.int .i64 r2,.int .i64 r3,.int .i64 r4] 62)))
         (fun iV=>List.getD (VE (.pointer (some ⟨wr.heap.size,4,none⟩)) :: VE (.int .i64 r4) :: VE (.bool false) :: VE (.bool false) :: VE (.pointer (some ⟨wr.heap.size,0,none⟩)) :: VE (.int .i64 r0) :: VE (.pointer (some ⟨wr.heap.size,1,none⟩)) :: VE (.int .i64 r1) :: VE (.bool false) :: VE (.bool false) :: VE (.bool false) :: VE (.pointer (some ⟨wr.heap.size,2,none⟩)) :: VE (.int .i64 r2) :: VE (.bool false) :: VE (.bool false) :: VE (.bool false) :: VE (.pointer (some ⟨wr.heap.size,3,none⟩)) :: VE (.int .i64 r3) :: VE (.bool true) :: VE (.bool true) :: VE (.pointer (some ⟨wr.heap.size,3,none⟩)) :: VE (.int .i64 r3) :: VE (.pointer (some ⟨wr.heap.size,2,none⟩)) :: VE (.int .i64 r2) :: VE (.bool false) :: VE (.bool false) :: VE (.bool false) :: VE (.bool false) :: VE (.pointer (some ⟨wr.heap.size,2,none⟩)) :: VE (.int .i64 r2) :: VE (.pointer (some q)) :: VE (.int .i64 z) :: VE (.bool false) :: VE (.bool false) :: VE (.bool false) :: VE (.int .i64 (i:Int)) :: VE (.bool true) :: VE (.bool true) :: VE (.slice (some ⟨gR,oR,none⟩) nR cR) :: VE (.int .i64 (i:Int)) :: VE (.int .i64 (jj:Int)) :: VE (.pointer (some ⟨gR,oR+jj*5,none⟩)) :: VE (.pointer (some ⟨gR,oR+jj*5,none⟩)) :: VE (.int .i64 p0) :: VE (.pointer (some ⟨wr.heap.size,0,none⟩)) :: VE (.int .i64 r0) :: VE (.bool false) :: VE (.bool false) :: VE (.bool false) :: []) iV (fun _ _=>False)) [] [0,2,3,4,6,8,9,10,11,13,14,15,16,18,19,20,22,24,25,26,27,28,30,32,33,34,35,36,37,38,39,40,41,42,44,46,47,48] (by kernel_rfl) (by kernel_rfl) (Ext.start _) (fun _ _ h hb=>h.grow hb)
         (ζ5e (Vs:=(VE (.pointer (some ⟨wr.heap.size,4,none⟩)) :: VE (.int .i64 r4) :: VE (.bool false) :: VE (.bool false) :: VE (.pointer (some ⟨wr.heap.size,0,none⟩)) :: VE (.int .i64 r0) :: VE (.pointer (some ⟨wr.heap.size,1,none⟩)) :: VE (.int .i64 r1) :: VE (.bool false) :: VE (.bool false) :: VE (.bool false) :: VE (.pointer (some ⟨wr.heap.size,2,none⟩)) :: VE (.int .i64 r2) :: VE (.bool false) :: VE (.bool false) :: VE (.bool false) :: VE (.pointer (some ⟨wr.heap.size,3,none⟩)) :: VE (.int .i64 r3) :: VE (.bool true) :: VE (.bool true) :: VE (.pointer (some ⟨wr.heap.size,3,none⟩)) :: VE (.int .i64 r3) :: VE (.pointer (some ⟨wr.heap.size,2,none⟩)) :: VE (.int .i64 r2) :: VE (.bool false) :: VE (.bool false) :: VE (.bool false) :: VE (.bool false) :: VE (.pointer (some ⟨wr.heap.size,2,none⟩)) :: VE (.int .i64 r2) :: VE (.pointer (some q)) :: VE (.int .i64 z) :: VE (.bool false) :: VE (.bool false) :: VE (.bool false) :: VE (.int .i64 (i:Int)) :: VE (.bool true) :: VE (.bool true) :: VE (.slice (some ⟨gR,oR,none⟩) nR cR) :: VE (.int .i64 (i:Int)) :: VE (.int .i64 (jj:Int)) :: VE (.pointer (some ⟨gR,oR+jj*5,none⟩)) :: VE (.pointer (some ⟨gR,oR+jj*5,none⟩)) :: VE (.int .i64 p0) :: VE (.pointer (some ⟨wr.heap.size,0,none⟩)) :: VE (.int .i64 r0) :: VE (.bool false) :: VE (.bool false) :: VE (.bool false) :: [])) (ζ0 (ζ1 _) (ζ0 (ζ1 _) (ζ0 (ζ1 _) (ζ0 (ζ1 _) (ζ0 (ζ1 _) (ζ0 (ζ1 _) (ζ0 (ζ1 _) (ζ0 (ζ1 _) (ζ0 (ζ1 _) (ζ0 (ζ1 _) (ζ0 (ζ1 _) (ζ0 (ζ1 _) (ζ0 (ζ1 _) (ζ0 (ζ1 _) (ζ0 (ζ1 _) (ζ0 (ζ1 _) (ζ0 (ζ1 _) (ζ0 (ζ1 _) (ζ0 (ζ1 _) (ζ0 (ζ1 _) (ζ0 (ζ1 _) (ζ0 (ζ1 _) (ζ0 (ζ1 _) (ζ0 (ζ1 _) (ζ0 (ζ1 _) (ζ0 (ζ1 _) (ζ0 (ζ1 _) (ζ0 (ζ1 _) (ζ0 (ζ1 _) (ζ0 (ζ1 _) (ζ0 (ζ1 _) (ζ0 (ζ1 _) (ζ0 (ζ1 _) (ζ0 (ζ1 _) (ζ0 (ζ1 _) (ζ0 (ζ1 _) (ζ0 (ζ1 _) (ζ0 (ζ1 _) (ζ0 (ζ1 _) (ζ0 (ζ1 _) (ζ0 (ζ1 _) (ζ0 (ζ1 _) (ζ0 (ζ1 _) (ζ0 (ζ1 _) (ζ0 (ζ1 _) (ζ0 (ζ1 _) (ζ0 (ζ1 _) (ζ0 (ζ1 _) (ζ0 (ζ1 _) ζa))))))))))))))))))))))))))))))))))))))))))))))))) rfl) ⟨?_,?_,?_,?_,?_,?_,?_,?_,?_,?_,?_,?_,?_,?_,?_,?_,?_,?_,?_,?_,?_,?_,?_,?_,?_,?_,?_,?_,?_,?_,?_,?_,?_,?_,?_,?_,?_,?_,?_,?_,?_,?_,?_,?_,?_,?_,?_,?_,?_,trivial⟩ ?_
        ·exact rU [10]
        ·exact rL [] fun hw=>(Below.cell (p:=⟨wr.heap.size,4,none⟩) hw hlt1).trans y4
        ·exact rU []
        ·exact rU []
        ·exact rG [10]
        ·intro ev wv hE hw hd
         have kx:=(Below.cell (p:=⟨wr.heap.size,0,none⟩) hw hlt1).trans y0
         exact rM [] hE hd
        ·exact rG [10]
        ·intro ev wv hE hw hd
         have kx:=(Below.cell (p:=⟨wr.heap.size,1,none⟩) hw hlt1).trans y1
         exact rM [] hE hd
        ·exact rG []
        ·exact rU []
        ·exact rU []
        ·exact rG [10]
        ·intro ev wv hE hw hd
         have kx:=(Below.cell (p:=⟨wr.heap.size,2,none⟩) hw hlt1).trans y2
         exact rM [] hE hd
        ·exact rG []
        ·exact rU []
        ·exact rU []
        ·exact rG [10]
        ·intro ev wv hE hw hd
         have kx:=(Below.cell (p:=⟨wr.heap.size,3,none⟩) hw hlt1).trans y3
         exact rM [] hE hd
        ·exact rG []
        ·exact rG []
        ·exact rG [10]
        ·intro ev wv hE hw hd
         have kx:=(Below.cell (p:=⟨wr.heap.size,3,none⟩) hw hlt1).trans y3
         exact rM [] hE hd
        ·exact rG [10]
        ·intro ev wv hE hw hd
         have kx:=(Below.cell (p:=⟨wr.heap.size,2,none⟩) hw hlt1).trans y2
         exact rM [] hE hd
        ·exact rG []
        ·exact rG []
        ·exact rU []
        ·exact rU []
        ·exact rG [10]
        ·intro ev wv hE hw hd
         have kx:=(Below.cell (p:=⟨wr.heap.size,2,none⟩) hw hlt1).trans y2
         exact rM [] hE hd
        ·exact rG [5]
        ·intro ev wv hE hw hd
         refine rC (f:=12) (args:= #[.pointer (some q)]) [] hE hd (ζ5a HK.out (HW1.out.keep hw) (i:=0) rfl HG.out (by have:=HL40.out;omega) HZ.out) ?_
         rintro e w' ⟨rfl,hb⟩
         exact⟨_,rfl,hb,rfl,fun h=>by cases h⟩
        ·exact rG []
        ·exact rU []
        ·exact rU []
        ·exact rG [9]
        ·intro ev wv hE hw hd
         have vg:ev (.tmp 89)= .bool false:=hd 34 (by decide)
         refine ifw (by show (yv (ev (.tmp 89)) == some false)=true;rw [vg];rfl) (ifw rfl ?_)
         clear vg
         have v90:ev (.tmp 90)= .int .i64 (i:Int):=hd 35 (by decide)
         refine⟨.bool true,fun w=> ?_,rfl⟩
         obtain⟨e1,-,e2,-⟩:=hE;clear hd hw
         go_simp
         exact hpi.out
        ·exact rG []
        ·exact rG [8]
        ·exact rG [9]
        ·exact rG []
        ·exact rG []
        ·exact rG []
        ·intro ev wv hE hw hd
         have kx:=(Below.cell (p:=⟨gR,oR+jj*5,none⟩) hw hgp).trans pv
         exact rM [] hE hd
        ·exact rG [10]
        ·intro ev wv hE hw hd
         have kx:=(Below.cell (p:=⟨wr.heap.size,0,none⟩) hw hlt1).trans y0
         exact rM [] hE hd
        ·exact rG []
        ·exact rG []
        ·exact rU []
        ·intro wz hw
         iterate 49 rintro _ rfl _
         simp only [zA]
         change wpList Tryz.prog _ _ _ _ wz
         have HBZ:=hid (show Below (wr.alloc (.cells #[.int .i64 r0,.int .i64 r1,.int .i64 r2,.int .i64 r3,.int .i64 r4] 62)).heap.size (wr.alloc (.cells #[.int .i64 r0,.int .i64 r1,.int .i64 r2,.int .i64 r3,.int .i64 r4] 62)) wz from hw)
         clear hw
         go_wp2_with fail
         refine ζ2 ?_
         go_wp2_with fail
         go_loopw [108] (fun u wq=>∃j:Nat,u= .int .i64 (j:Int)∧j≤i∧Hid (Below (wr.alloc (.cells #[.int .i64 r0,.int .i64 r1,.int .i64 r2,.int .i64 r3,.int .i64 r4] 62)).heap.size (wr.alloc (.cells #[.int .i64 r0,.int .i64 r1,.int .i64 r2,.int .i64 r3,.int .i64 r4] 62)) wq)) (fun u _=>(i-intOf u).toNat)
         case atStart=>exact⟨0,rfl,by omega,HBZ⟩
         case round=>
          obtain⟨j,rfl,hj,HBQ⟩:=hrel
          clear HBZ
          by_cases hjt:j<i
          ·obtain⟨gx,ox,x,hAx,hx,hgx,u0,u1,u2,u3,u4⟩:=Rcs.get (HRW1.out.keep HBQ.out) (show j<nR by omega)
           injection hAx with hAx
           injection hAx with hA1 hA2
           subst hA1 hA2
           have HAP:=hid (ζ5b HRS.out.apart hx hr (by omega))
           obtain⟨x0,x1,x2,x3,x4⟩:=x
           have HBA:=hid (HBQ.out.alloc HBQ.out.size (.cells #[.int .i64 x0,.int .i64 x1,.int .i64 x2,.int .i64 x3,.int .i64 x4] 62))
           have y0:=ζ58 HBA.out hlt1 y0;have y1:=ζ58 HBA.out hlt1 y1;have y2:=ζ58 HBA.out hlt1 y2;have y3:=ζ58 HBA.out hlt1 y3
           have B12:=Blk.new wr #[.int .i64 x0,.int .i64 x1,.int .i64 x2,.int .i64 x3,.int .i64 x4] 62
           have v0:=B12.get 0 rfl;have v1:=B12.get 1 rfl;have v2:=B12.get 2 rfl;have v3:=B12.get 3 rfl
           have hji:(j:Int)<(i:Int):=by omega
           simp only []at u0 u1 u2 u3 u4
           clear hx B12
           have hap: ¬(x0<r1∧r0<x1∧(r3=0∨x2<r3)∧(x3=0∨r2<x3)):=HAP.out
           clear HAP
           by_cases hA:x0<r1
           ·have dhA:decide (x0<r1)=true:=decide_eq_true (by assumption)
            by_cases hB:r0<x1
            ·have dhB:decide (r0<x1)=true:=decide_eq_true (by assumption)
             by_cases hC:r3=0
             ·have dhC:(r3 == 0)=true:=by simpa using(by assumption:r3=0)
              have hCH:=hid hC
              clear hC
              have hCC:=hid (show r3=0∨x2<r3 from .inl hCH.out)
              have dD1:(x3 == 0)=false:=by simp;intro e;exact hap ⟨hA,hB,hCC.out,.inl e⟩
              have dD2:decide (r2<x3)=false:=decide_eq_false (fun e=>hap ⟨hA,hB,hCC.out,.inr e⟩)
              clear hap
              go_wp2_with fail
              go_roundw
              case rel=>exact⟨j+1,by go_num,by omega,HBA⟩
              case measure=>simp [intOf];omega
             ·have dhC:(r3 == 0)=false:=by simpa using(by assumption: ¬r3=0)
              by_cases hE:x2<r3
              ·have dhE:decide (x2<r3)=true:=decide_eq_true (by assumption)
               have hCC:=hid (show r3=0∨x2<r3 from .inr hE)
               have dD1:(x3 == 0)=false:=by simp;intro e;exact hap ⟨hA,hB,hCC.out,.inl e⟩
               have dD2:decide (r2<x3)=false:=decide_eq_false (fun e=>hap ⟨hA,hB,hCC.out,.inr e⟩)
               clear hap
               go_wp2_with fail
               go_roundw
               case rel=>exact⟨j+1,by go_num,by omega,HBA⟩
               case measure=>simp [intOf];omega
              ·have dhE:decide (x2<r3)=false:=decide_eq_false (by assumption)
               go_wp2_with fail
               go_roundw
               case rel=>exact⟨j+1,by go_num,by omega,HBA⟩
               case measure=>simp [intOf];omega
            ·have dhB:decide (r0<x1)=false:=decide_eq_false (by assumption)
             go_wp2_with fail
             go_roundw
             case rel=>exact⟨j+1,by go_num,by omega,HBA⟩
             case measure=>simp [intOf];omega
           ·have dhA:decide (x0<r1)=false:=decide_eq_false (by assumption)
            go_wp2_with fail
            go_roundw
            case rel=>exact⟨j+1,by go_num,by omega,HBA⟩
            case measure=>simp [intOf];omega
          ·have HBX:=hid (HBW.out.trans (HBQ1.out.trans (HBQ.out.mono HBQ1.out.size) |>.mono HBW.out.size))
           have hi1:(i:Int)<(nR:Int):=by omega
           clear HBQ y0 y1 y2 y3 y4
           go_wp2_with fail
           go_roundw
           case rel=>exact⟨i+1,by go_num,by omega,HBX⟩
           case measure=>simp [intOf];omega
    ·have HSW:=hid (HS2.out.keep HBW.out)
     have HRW:=hid (HRR.out.keep HBW.out)
     have HBW0:=HBW
     clear HBW
     go_wp2_with fail
     go_loopw [152] (fun u wr=>∃k:Nat,u= .int .i64 (k:Int)∧k≤N'∧Hid (Below w2.heap.size w2 wr)) (fun u _=>(N'-intOf u).toNat)
     case atStart=>exact⟨0,rfl,by omega,HBW0⟩
     case round=>
      clear hit HSW HRW HBW0 hk HLE
      obtain⟨k,rfl,hk,HBW⟩:=hrel
      have HSW:=hid (HS2.out.keep HBW.out)
      by_cases hkt:k<N'
      ·obtain⟨gd,od,s,rfl,hs,hgd,k0,k1⟩:=Spn.get (HR'.out.keep HSW.out.bl) hkt
       have HD:=hid (HL'.out s (List.mem_of_getElem? hs))
       obtain⟨d1,d2⟩:=s
       have HBQ1:=hid ((Below.refl wr.heap.size wr).alloc (Nat.le_refl _) (.cells #[.int .i64 d1,.int .i64 d2] 24))
       have HBW4:=hid (HBW.out.trans (HBQ1.out.mono HBW.out.size))
       have HW4:=hid (HSW.out.keep HBQ1.out)
       have HRW4:=hid (HRR.out.keep HBW4.out)
       have B14:=Blk.new wr #[.int .i64 d1,.int .i64 d2] 24
       have e0:=B14.get 0 rfl;have e1:=B14.get 1 rfl
       have hlt4:=B14.sz
       have hkn:(k:Int)<(N':Int):=by omega
       simp only []at HD k0 k1
       clear hs B14
       by_cases p0:d1<0
       ·have p1: ¬z<0:=by omega
        have p2:(0:Int) > d1:=p0
        go_upto_region 27 with fail
        clear k0 k1
        as_aux_lemma=>
         refine ζ4 8 (Ext (wr.alloc (.cells #[.int .i64 d1,.int .i64 d2] 24)))
          (fun iV=>List.getD [VE (.pointer (some ⟨wr.heap.size,0,none⟩)),VE (.int .i64 d1),VE (.int .i64 (0)),VE (.pointer (some q)),VE (.int .i64 z),VE (.int .i64 (0)),VE (.int .i64 (0)),VE (.int .i64 0)] iV (fun _ _=>False)) [] [0,2,3,5,6,7] (by kernel_rfl) (by kernel_rfl) (Ext.start _) (fun _ _ h hb=>h.grow hb)
          stA ⟨?_,?_,?_,?_,?_,?_,?_,?_,trivial⟩ ?_
         ·exact rU [14]
         ·exact rL [] fun hw=>(Below.cell (p:=⟨wr.heap.size,0,none⟩) hw hlt4).trans e0
         ·exact rU []
         ·exact rU [5]
         ·intro ev wv hE hw hd
          refine rC (f:=12) (args:= #[.pointer (some q)]) [] hE hd (ζ5a HK.out (HW4.out.keep hw) (i:=0) rfl HG.out (by have:=HL40.out;omega) HZ.out) ?_
          rintro e w' ⟨rfl,hb⟩
          exact⟨_,rfl,hb,rfl,fun h=>by cases h⟩
         ·exact rU []
         ·exact rU []
         ·exact rU []
         ·intro wz hw
          iterate 8 rintro _ rfl _
          simp only [zA]
          change wpList Tryz.prog _ _ _ _ wz
          have HBZ:=hid (show Below (wr.alloc (.cells #[.int .i64 d1,.int .i64 d2] 24)).heap.size (wr.alloc (.cells #[.int .i64 d1,.int .i64 d2] 24)) wz from hw)
          clear hw
          go_wp2_with fail
          refine ζ2 ?_
          have HV:=hid (show 0≤(0:Int)∧(0:Int)≤lastL L by rw [HZ.out];omega)
          have HVV:=hid (show valS L d1 d2=valS L 0 d2 by rw [ζ26 HG.out (show d1<1 by omega),ζ26 HG.out (show (0:Int)<1 by decide)])
          go_wp2_with fail
          go_loopw [164,16] (fun u s wq=>∃(j:Nat) (want:Int),s= .int .i64 want∧u= .int .i64 (j:Int)∧j≤nR∧Hid (wantS L R (0) d2 j want)∧Hid (Below (wr.alloc (.cells #[.int .i64 d1,.int .i64 d2] 24)).heap.size (wr.alloc (.cells #[.int .i64 d1,.int .i64 d2] 24)) wq)) (fun u _ _=>(nR-intOf u).toNat)
          case atStart=>exact⟨0,0,rfl,rfl,by omega,hid (ζ5f _ _ _ _),HBZ⟩
          case round=>
           obtain⟨j,want,rfl,rfl,hj,HWS,HBQ⟩:=hrel
           clear HBZ
           by_cases hjt:j<nR
           ·obtain⟨gx,ox,x,rfl,hx,hgx,u0,u1,u2,u3,u4⟩:=Rcs.get (HRW4.out.keep HBQ.out) hjt
            obtain⟨x0,x1,x2,x3,x4⟩:=x
            have HBA:=hid (HBQ.out.alloc HBQ.out.size (.cells #[.int .i64 x0,.int .i64 x1,.int .i64 x2,.int .i64 x3,.int .i64 x4] 62))
            have e1:=ζ58 HBA.out hlt4 e1
            have B18:=Blk.new wr #[.int .i64 x0,.int .i64 x1,.int .i64 x2,.int .i64 x3,.int .i64 x4] 62
            have v0:=B18.get 0 rfl;have v1:=B18.get 1 rfl;have v2:=B18.get 2 rfl;have v3:=B18.get 3 rfl;have v4:=B18.get 4 rfl
            simp only []at u0 u1 u2 u3 u4
            clear B18
            by_cases hA:x0≤d2
            ·have dhA:decide (x0≤d2)=true:=decide_eq_true (by assumption)
             by_cases hB:d2<x1
             ·have dhB:decide (d2<x1)=true:=decide_eq_true (by assumption)
              by_cases hC:x2≤0
              ·have dhC:decide (x2≤0)=true:=decide_eq_true (by assumption)
               by_cases hD:x3=0
               ·have dhD:(x3 == 0)=true:=by simpa using(by assumption:x3=0)
                have hDH:=hid hD
                clear hD
                have HW2:=hid (ζ5g HRS.out HV.out.2 HWS.out hx (show inRc (x0,x1,x2,x3,x4) (0) d2 from⟨hA,hB,hC,.inl hDH.out⟩))
                clear HWS hx
                go_wp2_with fail
                go_roundw
                case rel=>exact⟨j+1,_,rfl,by go_num,by omega,HW2,HBA⟩
                case measure=>simp [intOf];omega
               ·have dhD:(x3 == 0)=false:=by simpa using(by assumption: ¬x3=0)
                by_cases hE:0<x3
                ·have dhE:decide (0<x3)=true:=decide_eq_true (by assumption)
                 have HW2:=hid (ζ5g HRS.out HV.out.2 HWS.out hx (show inRc (x0,x1,x2,x3,x4) (0) d2 from⟨hA,hB,hC,.inr hE⟩))
                 clear HWS hx
                 go_wp2_with fail
                 go_roundw
                 case rel=>exact⟨j+1,_,rfl,by go_num,by omega,HW2,HBA⟩
                 case measure=>simp [intOf];omega
                ·have dhE:decide (0<x3)=false:=decide_eq_false (by assumption)
                 have HW2:=hid (ζ59 HWS.out hx (show ¬inRc (x0,x1,x2,x3,x4) (0) d2 from fun e=>by rcases e.2.2.2 with h | h;exact hD h;exact hE h))
                 clear HWS hx
                 go_wp2_with fail
                 go_roundw
                 case rel=>exact⟨j+1,_,rfl,by go_num,by omega,HW2,HBA⟩
                 case measure=>simp [intOf];omega
              ·have dhC:decide (x2≤0)=false:=decide_eq_false (by assumption)
               have HW2:=hid (ζ59 HWS.out hx (show ¬inRc (x0,x1,x2,x3,x4) (0) d2 from fun e=>hC e.2.2.1))
               clear HWS hx
               go_wp2_with fail
               go_roundw
               case rel=>exact⟨j+1,_,rfl,by go_num,by omega,HW2,HBA⟩
               case measure=>simp [intOf];omega
             ·have dhB:decide (d2<x1)=false:=decide_eq_false (by assumption)
              have HW2:=hid (ζ59 HWS.out hx (show ¬inRc (x0,x1,x2,x3,x4) (0) d2 from fun e=>hB e.2.1))
              clear HWS hx
              go_wp2_with fail
              go_roundw
              case rel=>exact⟨j+1,_,rfl,by go_num,by omega,HW2,HBA⟩
              case measure=>simp [intOf];omega
            ·have dhA:decide (x0≤d2)=false:=decide_eq_false (by assumption)
             have HW2:=hid (ζ59 HWS.out hx (show ¬inRc (x0,x1,x2,x3,x4) (0) d2 from fun e=>hA e.1))
             clear HWS hx
             go_wp2_with fail
             go_roundw
             case rel=>exact⟨j+1,_,rfl,by go_num,by omega,HW2,HBA⟩
             case measure=>simp [intOf];omega
           ·have HWF:=hid (wantS_end HRS.out HV.out.1 HV.out.2 (by rw [HRN.out];omega) HWS.out)
            have e0:=ζ58 HBQ.out hlt4 e0
            have e1:=ζ58 HBQ.out hlt4 e1
            clear HWS
            go_wp2_with fail
            refine(ζ5i HK.out (HW4.out.keep HBQ.out) (i:=0) rfl HG.out (by have:=HL40.out;omega) d1 d2 HD.out.1.1 HD.out.1.2 HD.out.2.1 HD.out.2.2 (r:=want) (by have h1:=HWF.out;have h2:=HVV.out;first | exact h2.trans h1.symm | exact h1.symm)).mono ?_
            rintro e w6 ⟨rfl,b6⟩
            have HB6:=hid (HBW4.out.trans ((HBQ.out.trans (b6.mono HBQ.out.size)).mono HBW4.out.size))
            have dw:(want != want)=false:=by simp
            clear b6 e0 e1
            go_wp2_with fail
            go_roundw
            case rel=>exact⟨k+1,by go_num,by omega,HB6⟩
            case measure=>simp [intOf];omega
       ·have p2: ¬(0:Int) > d1:=p0
        by_cases p1:z<d1
        ·go_upto_region 27 with fail
         clear k0 k1
         as_aux_lemma=>
          refine ζ4 8 (Ext (wr.alloc (.cells #[.int .i64 d1,.int .i64 d2] 24)))
           (fun iV=>List.getD [VE (.pointer (some ⟨wr.heap.size,0,none⟩)),VE (.int .i64 d1),VE (.int .i64 (d1)),VE (.pointer (some q)),VE (.int .i64 z),VE (.int .i64 (z)),VE (.int .i64 (z)),VE (.int .i64 0)] iV (fun _ _=>False)) [] [0,2,3,5,6,7] (by kernel_rfl) (by kernel_rfl) (Ext.start _) (fun _ _ h hb=>h.grow hb)
           stA ⟨?_,?_,?_,?_,?_,?_,?_,?_,trivial⟩ ?_
          ·exact rU [14]
          ·exact rL [] fun hw=>(Below.cell (p:=⟨wr.heap.size,0,none⟩) hw hlt4).trans e0
          ·exact rU []
          ·exact rU [5]
          ·intro ev wv hE hw hd
           refine rC (f:=12) (args:= #[.pointer (some q)]) [] hE hd (ζ5a HK.out (HW4.out.keep hw) (i:=0) rfl HG.out (by have:=HL40.out;omega) HZ.out) ?_
           rintro e w' ⟨rfl,hb⟩
           exact⟨_,rfl,hb,rfl,fun h=>by cases h⟩
          ·exact rU []
          ·exact rU []
          ·exact rU []
          ·intro wz hw
           iterate 8 rintro _ rfl _
           simp only [zA]
           change wpList Tryz.prog _ _ _ _ wz
           have HBZ:=hid (show Below (wr.alloc (.cells #[.int .i64 d1,.int .i64 d2] 24)).heap.size (wr.alloc (.cells #[.int .i64 d1,.int .i64 d2] 24)) wz from hw)
           clear hw
           go_wp2_with fail
           refine ζ2 ?_
           have HV:=hid (show 0≤z∧z≤lastL L by rw [HZ.out];omega)
           have HVV:=hid (show valS L d1 d2=valS L z d2 by rw [valS_high HG.out (show lastL L≤d1 by rw [HZ.out];omega),HZ.out])
           go_wp2_with fail
           go_loopw [164,16] (fun u s wq=>∃(j:Nat) (want:Int),s= .int .i64 want∧u= .int .i64 (j:Int)∧j≤nR∧Hid (wantS L R (z) d2 j want)∧Hid (Below (wr.alloc (.cells #[.int .i64 d1,.int .i64 d2] 24)).heap.size (wr.alloc (.cells #[.int .i64 d1,.int .i64 d2] 24)) wq)) (fun u _ _=>(nR-intOf u).toNat)
           case atStart=>exact⟨0,0,rfl,rfl,by omega,hid (ζ5f _ _ _ _),HBZ⟩
           case round=>
            obtain⟨j,want,rfl,rfl,hj,HWS,HBQ⟩:=hrel
            clear HBZ
            by_cases hjt:j<nR
            ·obtain⟨gx,ox,x,rfl,hx,hgx,u0,u1,u2,u3,u4⟩:=Rcs.get (HRW4.out.keep HBQ.out) hjt
             obtain⟨x0,x1,x2,x3,x4⟩:=x
             have HBA:=hid (HBQ.out.alloc HBQ.out.size (.cells #[.int .i64 x0,.int .i64 x1,.int .i64 x2,.int .i64 x3,.int .i64 x4] 62))
             have e1:=ζ58 HBA.out hlt4 e1
             have B18:=Blk.new wr #[.int .i64 x0,.int .i64 x1,.int .i64 x2,.int .i64 x3,.int .i64 x4] 62
             have v0:=B18.get 0 rfl;have v1:=B18.get 1 rfl;have v2:=B18.get 2 rfl;have v3:=B18.get 3 rfl;have v4:=B18.get 4 rfl
             simp only []at u0 u1 u2 u3 u4
             clear B18
             by_cases hA:x0≤d2
             ·have dhA:decide (x0≤d2)=true:=decide_eq_true (by assumption)
              by_cases hB:d2<x1
              ·have dhB:decide (d2<x1)=true:=decide_eq_true (by assumption)
               by_cases hC:x2≤z
               ·have dhC:decide (x2≤z)=true:=decide_eq_true (by assumption)
                by_cases hD:x3=0
                ·have dhD:(x3 == 0)=true:=by simpa using(by assumption:x3=0)
                 have hDH:=hid hD
                 clear hD
                 have HW2:=hid (ζ5g HRS.out HV.out.2 HWS.out hx (show inRc (x0,x1,x2,x3,x4) (z) d2 from⟨hA,hB,hC,.inl hDH.out⟩))
                 clear HWS hx
                 go_wp2_with fail
                 go_roundw
                 case rel=>exact⟨j+1,_,rfl,by go_num,by omega,HW2,HBA⟩
                 case measure=>simp [intOf];omega
                ·have dhD:(x3 == 0)=false:=by simpa using(by assumption: ¬x3=0)
                 by_cases hE:z<x3
                 ·have dhE:decide (z<x3)=true:=decide_eq_true (by assumption)
                  have HW2:=hid (ζ5g HRS.out HV.out.2 HWS.out hx (show inRc (x0,x1,x2,x3,x4) (z) d2 from⟨hA,hB,hC,.inr hE⟩))
                  clear HWS hx
                  go_wp2_with fail
                  go_roundw
                  case rel=>exact⟨j+1,_,rfl,by go_num,by omega,HW2,HBA⟩
                  case measure=>simp [intOf];omega
                 ·have dhE:decide (z<x3)=false:=decide_eq_false (by assumption)
                  have HW2:=hid (ζ59 HWS.out hx (show ¬inRc (x0,x1,x2,x3,x4) (z) d2 from fun e=>by rcases e.2.2.2 with h | h;exact hD h;exact hE h))
                  clear HWS hx
                  go_wp2_with fail
                  go_roundw
                  case rel=>exact⟨j+1,_,rfl,by go_num,by omega,HW2,HBA⟩
                  case measure=>simp [intOf];omega
               ·have dhC:decide (x2≤z)=false:=decide_eq_false (by assumption)
                have HW2:=hid (ζ59 HWS.out hx (show ¬inRc (x0,x1,x2,x3,x4) (z) d2 from fun e=>hC e.2.2.1))
                clear HWS hx
                go_wp2_with fail
                go_roundw
                case rel=>exact⟨j+1,_,rfl,by go_num,by omega,HW2,HBA⟩
                case measure=>simp [intOf];omega
              ·have dhB:decide (d2<x1)=false:=decide_eq_false (by assumption)
               have HW2:=hid (ζ59 HWS.out hx (show ¬inRc (x0,x1,x2,x3,x4) (z) d2 from fun e=>hB e.2.1))
               clear HWS hx
               go_wp2_with fail
               go_roundw
               case rel=>exact⟨j+1,_,rfl,by go_num,by omega,HW2,HBA⟩
               case measure=>simp [intOf];omega
             ·have dhA:decide (x0≤d2)=false:=decide_eq_false (by assumption)
              have HW2:=hid (ζ59 HWS.out hx (show ¬inRc (x0,x1,x2,x3,x4) (z) d2 from fun e=>hA e.1))
              clear HWS hx
              go_wp2_with fail
              go_roundw
              case rel=>exact⟨j+1,_,rfl,by go_num,by omega,HW2,HBA⟩
              case measure=>simp [intOf];omega
            ·have HWF:=hid (wantS_end HRS.out HV.out.1 HV.out.2 (by rw [HRN.out];omega) HWS.out)
             have e0:=ζ58 HBQ.out hlt4 e0
             have e1:=ζ58 HBQ.out hlt4 e1
             clear HWS
             go_wp2_with fail
             refine(ζ5i HK.out (HW4.out.keep HBQ.out) (i:=0) rfl HG.out (by have:=HL40.out;omega) d1 d2 HD.out.1.1 HD.out.1.2 HD.out.2.1 HD.out.2.2 (r:=want) (by have h1:=HWF.out;have h2:=HVV.out;first | exact h2.trans h1.symm | exact h1.symm)).mono ?_
             rintro e w6 ⟨rfl,b6⟩
             have HB6:=hid (HBW4.out.trans ((HBQ.out.trans (b6.mono HBQ.out.size)).mono HBW4.out.size))
             have dw:(want != want)=false:=by simp
             clear b6 e0 e1
             go_wp2_with fail
             go_roundw
             case rel=>exact⟨k+1,by go_num,by omega,HB6⟩
             case measure=>simp [intOf];omega
        ·go_upto_region 27 with fail
         clear k0 k1
         as_aux_lemma=>
          refine ζ4 8 (Ext (wr.alloc (.cells #[.int .i64 d1,.int .i64 d2] 24)))
           (fun iV=>List.getD [VE (.pointer (some ⟨wr.heap.size,0,none⟩)),VE (.int .i64 d1),VE (.int .i64 (d1)),VE (.pointer (some q)),VE (.int .i64 z),VE (.int .i64 (d1)),VE (.int .i64 (d1)),VE (.int .i64 0)] iV (fun _ _=>False)) [] [0,2,3,5,6,7] (by kernel_rfl) (by kernel_rfl) (Ext.start _) (fun _ _ h hb=>h.grow hb)
           stA ⟨?_,?_,?_,?_,?_,?_,?_,?_,trivial⟩ ?_
          ·exact rU [14]
          ·exact rL [] fun hw=>(Below.cell (p:=⟨wr.heap.size,0,none⟩) hw hlt4).trans e0
          ·exact rU []
          ·exact rU [5]
          ·intro ev wv hE hw hd
           refine rC (f:=12) (args:= #[.pointer (some q)]) [] hE hd (ζ5a HK.out (HW4.out.keep hw) (i:=0) rfl HG.out (by have:=HL40.out;omega) HZ.out) ?_
           rintro e w' ⟨rfl,hb⟩
           exact⟨_,rfl,hb,rfl,fun h=>by cases h⟩
          ·exact rU []
          ·exact rU []
          ·exact rU []
          ·intro wz hw
           iterate 8 rintro _ rfl _
           simp only [zA]
           change wpList Tryz.prog _ _ _ _ wz
           have HBZ:=hid (show Below (wr.alloc (.cells #[.int .i64 d1,.int .i64 d2] 24)).heap.size (wr.alloc (.cells #[.int .i64 d1,.int .i64 d2] 24)) wz from hw)
           clear hw
           go_wp2_with fail
           refine ζ2 ?_
           have HV:=hid (show 0≤d1∧d1≤lastL L by rw [HZ.out];omega)
           have HVV:=hid (show valS L d1 d2=valS L d1 d2 from rfl)
           go_wp2_with fail
           go_loopw [164,16] (fun u s wq=>∃(j:Nat) (want:Int),s= .int .i64 want∧u= .int .i64 (j:Int)∧j≤nR∧Hid (wantS L R (d1) d2 j want)∧Hid (Below (wr.alloc (.cells #[.int .i64 d1,.int .i64 d2] 24)).heap.size (wr.alloc (.cells #[.int .i64 d1,.int .i64 d2] 24)) wq)) (fun u _ _=>(nR-intOf u).toNat)
           case atStart=>exact⟨0,0,rfl,rfl,by omega,hid (ζ5f _ _ _ _),HBZ⟩
           case round=>
            obtain⟨j,want,rfl,rfl,hj,HWS,HBQ⟩:=hrel
            clear HBZ
            by_cases hjt:j<nR
            ·obtain⟨gx,ox,x,rfl,hx,hgx,u0,u1,u2,u3,u4⟩:=Rcs.get (HRW4.out.keep HBQ.out) hjt
             obtain⟨x0,x1,x2,x3,x4⟩:=x
             have HBA:=hid (HBQ.out.alloc HBQ.out.size (.cells #[.int .i64 x0,.int .i64 x1,.int .i64 x2,.int .i64 x3,.int .i64 x4] 62))
             have e1:=ζ58 HBA.out hlt4 e1
             have B18:=Blk.new wr #[.int .i64 x0,.int .i64 x1,.int .i64 x2,.int .i64 x3,.int .i64 x4] 62
             have v0:=B18.get 0 rfl;have v1:=B18.get 1 rfl;have v2:=B18.get 2 rfl;have v3:=B18.get 3 rfl;have v4:=B18.get 4 rfl
             simp only []at u0 u1 u2 u3 u4
             clear B18
             by_cases hA:x0≤d2
             ·have dhA:decide (x0≤d2)=true:=decide_eq_true (by assumption)
              by_cases hB:d2<x1
              ·have dhB:decide (d2<x1)=true:=decide_eq_true (by assumption)
               by_cases hC:x2≤d1
               ·have dhC:decide (x2≤d1)=true:=decide_eq_true (by assumption)
                by_cases hD:x3=0
                ·have dhD:(x3 == 0)=true:=by simpa using(by assumption:x3=0)
                 have hDH:=hid hD
                 clear hD
                 have HW2:=hid (ζ5g HRS.out HV.out.2 HWS.out hx (show inRc (x0,x1,x2,x3,x4) (d1) d2 from⟨hA,hB,hC,.inl hDH.out⟩))
                 clear HWS hx
                 go_wp2_with fail
                 go_roundw
                 case rel=>exact⟨j+1,_,rfl,by go_num,by omega,HW2,HBA⟩
                 case measure=>simp [intOf];omega
                ·have dhD:(x3 == 0)=false:=by simpa using(by assumption: ¬x3=0)
                 by_cases hE:d1<x3
                 ·have dhE:decide (d1<x3)=true:=decide_eq_true (by assumption)
                  have HW2:=hid (ζ5g HRS.out HV.out.2 HWS.out hx (show inRc (x0,x1,x2,x3,x4) (d1) d2 from⟨hA,hB,hC,.inr hE⟩))
                  clear HWS hx
                  go_wp2_with fail
                  go_roundw
                  case rel=>exact⟨j+1,_,rfl,by go_num,by omega,HW2,HBA⟩
                  case measure=>simp [intOf];omega
                 ·have dhE:decide (d1<x3)=false:=decide_eq_false (by assumption)
                  have HW2:=hid (ζ59 HWS.out hx (show ¬inRc (x0,x1,x2,x3,x4) (d1) d2 from fun e=>by rcases e.2.2.2 with h | h;exact hD h;exact hE h))
                  clear HWS hx
                  go_wp2_with fail
                  go_roundw
                  case rel=>exact⟨j+1,_,rfl,by go_num,by omega,HW2,HBA⟩
                  case measure=>simp [intOf];omega
               ·have dhC:decide (x2≤d1)=false:=decide_eq_false (by assumption)
                have HW2:=hid (ζ59 HWS.out hx (show ¬inRc (x0,x1,x2,x3,x4) (d1) d2 from fun e=>hC e.2.2.1))
                clear HWS hx
                go_wp2_with fail
                go_roundw
                case rel=>exact⟨j+1,_,rfl,by go_num,by omega,HW2,HBA⟩
                case measure=>simp [intOf];omega
              ·have dhB:decide (d2<x1)=false:=decide_eq_false (by assumption)
               have HW2:=hid (ζ59 HWS.out hx (show ¬inRc (x0,x1,x2,x3,x4) (d1) d2 from fun e=>hB e.2.1))
               clear HWS hx
               go_wp2_with fail
               go_roundw
               case rel=>exact⟨j+1,_,rfl,by go_num,by omega,HW2,HBA⟩
               case measure=>simp [intOf];omega
             ·have dhA:decide (x0≤d2)=false:=decide_eq_false (by assumption)
              have HW2:=hid (ζ59 HWS.out hx (show ¬inRc (x0,x1,x2,x3,x4) (d1) d2 from fun e=>hA e.1))
              clear HWS hx
              go_wp2_with fail
              go_roundw
              case rel=>exact⟨j+1,_,rfl,by go_num,by omega,HW2,HBA⟩
              case measure=>simp [intOf];omega
            ·have HWF:=hid (wantS_end HRS.out HV.out.1 HV.out.2 (by rw [HRN.out];omega) HWS.out)
             have e0:=ζ58 HBQ.out hlt4 e0
             have e1:=ζ58 HBQ.out hlt4 e1
             clear HWS
             go_wp2_with fail
             refine(ζ5i HK.out (HW4.out.keep HBQ.out) (i:=0) rfl HG.out (by have:=HL40.out;omega) d1 d2 HD.out.1.1 HD.out.1.2 HD.out.2.1 HD.out.2.2 (r:=want) (by have h1:=HWF.out;have h2:=HVV.out;first | exact h2.trans h1.symm | exact h1.symm)).mono ?_
             rintro e w6 ⟨rfl,b6⟩
             have HB6:=hid (HBW4.out.trans ((HBQ.out.trans (b6.mono HBQ.out.size)).mono HBW4.out.size))
             have dw:(want != want)=false:=by simp
             clear b6 e0 e1
             go_wp2_with fail
             go_roundw
             case rel=>exact⟨k+1,by go_num,by omega,HB6⟩
             case measure=>simp [intOf];omega
      ·go_wp2_with fail
       refine(ζ54 HK.out _).mono ?_
       rintro e w9 ⟨rfl,b9⟩
       have HB9:=hid (HSW.out.bl.trans (b9.mono HSW.out.bl.size))
       clear b9
       go_wp2_with fail
       go_ret
       exact⟨rfl,HB9.out⟩
theorem btrects_any {RL:RepL} {RB:RepB}(K:BtK RL RB)(A:Option Addr)(N c:Nat)(l:ClL)(A':Option Addr)(N' c':Nat)(l':SpL)(w:World)(Rl:Cls w A N c l)(Rl':Spn w A' N' c' l')(ol:okC13 l)(ol':okD13 l'):Calls Tryz.prog 6 #[.slice A N c,.slice A' N' c'] w fun e w'=>e= .returned (.bool true)∧Below w.heap.size w w':=by
 by_cases h:N≤40∧N'≤40
 ·exact btrects_main K A N c l A' N' c' l' w Rl Rl' ol ol' h.1 h.2
 ·exact btrects_long K A N c l A' N' c' l' w Rl Rl' ol ol' h
end Go.Proofs.YthagdonmijhpdaaGreat
