/- The law BitempStays. -/
import Derived.Test.YtfceoehfellpgaaGreatFramePuts
open Go.Lib (hid)
set_option linter.unusedSimpArgs false
set_option linter.unusedVariables false
set_option maxRecDepth 8000
namespace Go.Proofs.YtfceoehfellpgaaGreat
open Go.RowKit Corr
theorem btstays_long {RL:RepL} {RB:RepB}(K:BtK RL RB)(A:Option Addr)(N c:Nat)(A':Option Addr)(N' c':Nat)(t:Int)(w:World)(hN: ¬(N≤30∧N'≤30)):
  Calls Tryz.prog 5 #[.slice A N c,.slice A' N' c',.int .i64 t] w fun e w'=>e= .returned (.bool true)∧Below w.heap.size w w':=by
 have HK:=hid K
 by_cases h1:N≤30
 ·have d0:decide ((N:Int) > 30)=false:=decide_eq_false (by omega)
  have d1:decide ((N':Int) > 30)=true:=decide_eq_true (by omega)
  clear K hN h1
  go_enter Tryz.func5,Tryz.ntmps5
  go_wp2_with fail
  refine(ζ1k HK.out _).mono ?_
  rintro e w1 ⟨rfl,b1⟩
  have HB1:=hid b1
  clear b1
  go_wp2_with fail
  go_ret
  exact⟨rfl,HB1.out⟩
 ·have d0:decide ((N:Int) > 30)=true:=decide_eq_true (by omega)
  clear K hN h1
  go_enter Tryz.func5,Tryz.ntmps5
  go_wp2_with fail
  refine(ζ1k HK.out _).mono ?_
  rintro e w1 ⟨rfl,b1⟩
  have HB1:=hid b1
  clear b1
  go_wp2_with fail
  go_ret
  exact⟨rfl,HB1.out⟩
set_option maxHeartbeats 4000000 in
theorem btstays_main {RL:RepL} {RB:RepB}(K:BtK RL RB)(KT:TlB RL)(A:Option Addr)(N c:Nat)(l:ClL)(A':Option Addr)(N' c':Nat)(l':ClL)(t:Int)(w:World)(Rl:Cls w A N c l)(Rl':Cls w A' N' c' l')(ol:okC13 l)(ol':okC13 l')
  (t1: -9223372036854775808≤t) (t2:t≤9223372036854775807) (hN:N≤30) (hN':N'≤30):
  Calls Tryz.prog 5 #[.slice A N c,.slice A' N' c',.int .i64 t] w fun e w'=>e= .returned (.bool true)∧Below w.heap.size w w':=by
 have d0:decide ((N:Int) > 30)=false:=decide_eq_false (by omega)
 have d1:decide ((N':Int) > 30)=false:=decide_eq_false (by omega)
 have HK:=hid K
 have HKT:=hid KT
 have HR:=hid Rl
 have HR':=hid Rl'
 have HL:=hid ol
 have HL':=hid ol'
 have HT:=hid (And.intro t1 t2)
 have HN:=hid (And.intro hN hN')
 clear K KT Rl Rl' ol ol' t1 t2
 go_enter Tryz.func5,Tryz.ntmps5
 go_wp2_with fail
 refine(sep_bmake HK.out (Sep.nil w)).mono ?_
 rintro e w1 ⟨q,rfl,s1⟩
 have HS1:=hid (show Sep w [btT HK.out.toBtOk (.pointer (some q)) []] w1 from s1)
 clear s1
 go_wp2_with fail
 go_loopw [27] (fun u wr=>∃(k:Nat) (L:ClL),u= .int .i64 (k:Int)∧k≤N∧Hid (goodS L)∧Hid (L.length≤k)∧Hid (Sep w [btT HK.out.toBtOk (.pointer (some q)) L] wr)) (fun u _=>(N-intOf u).toNat)
 case atStart=>exact⟨0,[],rfl,by omega,hid goodS_nil,hid (Nat.le_refl _),HS1⟩
 case round=>
  obtain⟨k,L,rfl,hk,HG,HLE,HS⟩:=hrel
  by_cases hlt:k<N
  ·obtain⟨ga,off,s,rfl,hs,hga,c0,c1,c2,c3⟩:=Cls.get (HR.out.keep HS.out.bl) hlt
   obtain⟨x0,x1,x2,x3⟩:=s
   have HO:=hid (HL.out _ (List.mem_of_getElem? hs))
   have HP:=hid (HS.out.push #[.int .i64 x0,.int .i64 x1,.int .i64 x2,.int .i64 x3] 32)
   have B9:=Blk.new wr #[.int .i64 x0,.int .i64 x1,.int .i64 x2,.int .i64 x3] 32
   have y0:=B9.get 0 rfl;have y1:=B9.get 1 rfl;have y2:=B9.get 2 rfl;have y3:=B9.get 3 rfl
   simp only []at HO c0 c1 c2 c3
   clear hs B9
   go_wp2_with fail
   refine(ζ2j HK.out HP.out (i:=0) rfl HG.out (by have:=HLE.out;have:=HN.out.1;omega) x0 x1 x2 x3 HO.out.1 HO.out.2).mono ?_
   rintro e w5 ⟨rfl,s5⟩
   have HS5:=hid (show Sep w [btT HK.out.toBtOk (.pointer (some q)) (bputL L x0 x1 x2 x3)] w5 from s5.take 1)
   clear s5
   go_wp2_with fail
   go_roundw
   case rel=>exact⟨k+1,_,by go_num,by omega,hid (ζ3r HG.out x0 x1 x2 x3),hid (Nat.le_trans (ζ3w _ _ _ _ _) (Nat.succ_le_succ HLE.out)),HS5⟩
   case measure=>simp [intOf];omega
  ·have HL30:=hid (show L.length≤30 by have:=HLE.out;have:=HN.out.1;omega)
   obtain⟨z,hz⟩: ∃z,lastL L=z:=⟨_,rfl⟩
   have hz0:0≤z:=by rw [←hz];exact lastL_zero HG.out
   have HZ:=hid hz
   have HZ0:=hid hz0
   clear hz
   by_cases p0:t<0
   ·have p1: ¬z<0:=by omega
    have p2:(0:Int) > t:=p0
    obtain⟨f0,hf0⟩: ∃f0,valS L (0)=f0:=⟨_,rfl⟩
    go_wp2_with fail
    refine(ζ3o HK.out HS.out (i:=0) rfl HG.out (by have:=HL30.out;omega)).mono ?_
    rintro e w2 ⟨rfl,b2⟩
    have HS2:=hid (HS.out.keep b2)
    rw [HZ.out]
    clear b2
    go_wp2_with fail
    refine(ζ28 HK.out HS2.out (i:=0) rfl HG.out (by have:=HL30.out;omega) (0) (by decide) (by decide)).mono ?_
    rintro e w3 ⟨q3,N3,rfl,hN3,s3⟩
    have HS3:=hid (show Sep w [btT HK.out.toBtOk (.pointer (some q)) L,tlT HK.out.tl (.pointer (some q3)) N3 f0] w3 by rw [←hf0];exact s3)
    have HF0:=hid hf0
    clear s3 hf0
    go_wp2_with fail
    go_loopw [50] (fun u wr=>∃(k:Nat) (L:ClL),u= .int .i64 (k:Int)∧k≤N'∧Hid (goodS L)∧Hid (L.length≤30+k)∧Hid (valS L (0)=f0)∧Hid (Sep w [btT HK.out.toBtOk (.pointer (some q)) L,tlT HK.out.tl (.pointer (some q3)) N3 f0] wr)) (fun u _=>(N'-intOf u).toNat)
    case atStart=>exact⟨0,L,rfl,by omega,HG,hid (by have:=HL30.out;omega),HF0,HS3⟩
    case round=>
     clear HG HLE HS HL30 HZ HS2 HS3 HF0 L
     obtain⟨k,L,rfl,hk,HG,HLE,HF0,HS⟩:=hrel
     by_cases hlt:k<N'
     ·obtain⟨ga,off,s,rfl,hs,hga,c0,c1,c2,c3⟩:=Cls.get (HR'.out.keep HS.out.bl) hlt
      obtain⟨x0,x1,x2,x3⟩:=s
      have HO:=hid (HL'.out _ (List.mem_of_getElem? hs))
      have HP:=hid (HS.out.push #[.int .i64 x0,.int .i64 x1,.int .i64 x2,.int .i64 x3] 32)
      have B9:=Blk.new wr #[.int .i64 x0,.int .i64 x1,.int .i64 x2,.int .i64 x3] 32
      have y0:=B9.get 0 rfl;have y1:=B9.get 1 rfl;have y2:=B9.get 2 rfl;have y3:=B9.get 3 rfl
      have HQ:=hid (HP.out.take 2)
      simp only []at HO c0 c1 c2 c3
      clear hs B9
      by_cases hx:0<x0
      ·have e1:decide (x0 > 0)=true:=decide_eq_true hx
       go_wp2_with fail
       refine(ζ2j HK.out HP.out (i:=0) rfl HG.out (by have:=HLE.out;have:=HN.out.2;omega) x0 x1 x2 x3 HO.out.1 HO.out.2).mono ?_
       rintro e w5 ⟨rfl,s5⟩
       have HS5:=hid (show Sep w [btT HK.out.toBtOk (.pointer (some q)) (bputL L x0 x1 x2 x3),tlT HK.out.tl (.pointer (some q3)) N3 f0] w5 from s5.take 2)
       have HF5:=hid ((ζ3y L (a:=x1) (b:=x2) (v:=x3) hx).trans HF0.out)
       clear s5
       go_wp2_with fail
       go_roundw
       case rel=>exact⟨k+1,_,by go_num,by omega,hid (ζ3r HG.out x0 x1 x2 x3),hid (by have:=ζ3w L x0 x1 x2 x3;have:=HLE.out;omega),HF5,HS5⟩
       case measure=>simp [intOf];omega
      ·have e1:decide (x0 > 0)=false:=decide_eq_false hx
       go_wp2_with fail
       go_roundw
       case rel=>exact⟨k+1,_,by go_num,by omega,HG,hid (by have:=HLE.out;omega),HF0,HQ⟩
       case measure=>simp [intOf];omega
     ·have HL60:=hid (show L.length≤60 by have:=HLE.out;have:=HN.out.2;omega)
      go_wp2_with fail
      refine(ζ28 HK.out HS.out (i:=0) rfl HG.out (by have:=HL60.out;omega) (0) (by decide) (by decide)).mono ?_
      rintro e w6 ⟨q6,N6,rfl,hN6,s6⟩
      have HS6:=hid (show Sep w [btT HK.out.toBtOk (.pointer (some q)) L,tlT HK.out.tl (.pointer (some q3)) N3 f0,tlT HK.out.tl (.pointer (some q6)) N6 f0] w6 by rw [←HF0.out];rw [HF0.out];exact HF0.out▸s6)
      clear s6
      go_wp2_with fail
      refine(seb_tsame HKT.out HS6.out (i:=1) rfl (j:=2) rfl (by omega) (by omega)).mono ?_
      rintro e w7 ⟨l1,l2,h1,h2,rfl,b7⟩
      obtain rfl:=ζ45 h1 h2
      have HB7:=hid ((HS6.out.keep b7).bl)
      have d9:decide (l1=l1)=true:=decide_eq_true rfl
      rw [d9]
      clear b7 h1 h2
      go_wp2_with fail
      refine(ζ1k HK.out _).mono ?_
      rintro e w9 ⟨rfl,b9⟩
      have HB9:=hid (HB7.out.trans (b9.mono HB7.out.size))
      clear b9
      go_wp2_with fail
      go_ret
      exact⟨rfl,HB9.out⟩
   ·have p2: ¬(0:Int) > t:=p0
    by_cases p1:z<t
    ·clear hz0
     obtain⟨f0,hf0⟩: ∃f0,valS L (z)=f0:=⟨_,rfl⟩
     go_wp2_with fail
     refine(ζ3o HK.out HS.out (i:=0) rfl HG.out (by have:=HL30.out;omega)).mono ?_
     rintro e w2 ⟨rfl,b2⟩
     have HS2:=hid (HS.out.keep b2)
     rw [HZ.out]
     clear b2
     go_wp2_with fail
     refine(ζ28 HK.out HS2.out (i:=0) rfl HG.out (by have:=HL30.out;omega) (z) (by have:=HZ0.out;omega) (by have:=HT.out.2;omega)).mono ?_
     rintro e w3 ⟨q3,N3,rfl,hN3,s3⟩
     have HS3:=hid (show Sep w [btT HK.out.toBtOk (.pointer (some q)) L,tlT HK.out.tl (.pointer (some q3)) N3 f0] w3 by rw [←hf0];exact s3)
     have HF0:=hid hf0
     clear s3 hf0
     go_wp2_with fail
     go_loopw [50] (fun u wr=>∃(k:Nat) (L:ClL),u= .int .i64 (k:Int)∧k≤N'∧Hid (goodS L)∧Hid (L.length≤30+k)∧Hid (valS L (z)=f0)∧Hid (Sep w [btT HK.out.toBtOk (.pointer (some q)) L,tlT HK.out.tl (.pointer (some q3)) N3 f0] wr)) (fun u _=>(N'-intOf u).toNat)
     case atStart=>exact⟨0,L,rfl,by omega,HG,hid (by have:=HL30.out;omega),HF0,HS3⟩
     case round=>
      clear HG HLE HS HL30 HZ HS2 HS3 HF0 L
      obtain⟨k,L,rfl,hk,HG,HLE,HF0,HS⟩:=hrel
      by_cases hlt:k<N'
      ·obtain⟨ga,off,s,rfl,hs,hga,c0,c1,c2,c3⟩:=Cls.get (HR'.out.keep HS.out.bl) hlt
       obtain⟨x0,x1,x2,x3⟩:=s
       have HO:=hid (HL'.out _ (List.mem_of_getElem? hs))
       have HP:=hid (HS.out.push #[.int .i64 x0,.int .i64 x1,.int .i64 x2,.int .i64 x3] 32)
       have B9:=Blk.new wr #[.int .i64 x0,.int .i64 x1,.int .i64 x2,.int .i64 x3] 32
       have y0:=B9.get 0 rfl;have y1:=B9.get 1 rfl;have y2:=B9.get 2 rfl;have y3:=B9.get 3 rfl
       have HQ:=hid (HP.out.take 2)
       simp only []at HO c0 c1 c2 c3
       clear hs B9
       by_cases hx:z<x0
       ·have e1:decide (x0 > z)=true:=decide_eq_true hx
        go_wp2_with fail
        refine(ζ2j HK.out HP.out (i:=0) rfl HG.out (by have:=HLE.out;have:=HN.out.2;omega) x0 x1 x2 x3 HO.out.1 HO.out.2).mono ?_
        rintro e w5 ⟨rfl,s5⟩
        have HS5:=hid (show Sep w [btT HK.out.toBtOk (.pointer (some q)) (bputL L x0 x1 x2 x3),tlT HK.out.tl (.pointer (some q3)) N3 f0] w5 from s5.take 2)
        have HF5:=hid ((ζ3y L (a:=x1) (b:=x2) (v:=x3) hx).trans HF0.out)
        clear s5
        go_wp2_with fail
        go_roundw
        case rel=>exact⟨k+1,_,by go_num,by omega,hid (ζ3r HG.out x0 x1 x2 x3),hid (by have:=ζ3w L x0 x1 x2 x3;have:=HLE.out;omega),HF5,HS5⟩
        case measure=>simp [intOf];omega
       ·have e1:decide (x0 > z)=false:=decide_eq_false hx
        go_wp2_with fail
        go_roundw
        case rel=>exact⟨k+1,_,by go_num,by omega,HG,hid (by have:=HLE.out;omega),HF0,HQ⟩
        case measure=>simp [intOf];omega
      ·have HL60:=hid (show L.length≤60 by have:=HLE.out;have:=HN.out.2;omega)
       go_wp2_with fail
       refine(ζ28 HK.out HS.out (i:=0) rfl HG.out (by have:=HL60.out;omega) (z) (by have:=HZ0.out;omega) (by have:=HT.out.2;omega)).mono ?_
       rintro e w6 ⟨q6,N6,rfl,hN6,s6⟩
       have HS6:=hid (show Sep w [btT HK.out.toBtOk (.pointer (some q)) L,tlT HK.out.tl (.pointer (some q3)) N3 f0,tlT HK.out.tl (.pointer (some q6)) N6 f0] w6 by rw [←HF0.out];rw [HF0.out];exact HF0.out▸s6)
       clear s6
       go_wp2_with fail
       refine(seb_tsame HKT.out HS6.out (i:=1) rfl (j:=2) rfl (by omega) (by omega)).mono ?_
       rintro e w7 ⟨l1,l2,h1,h2,rfl,b7⟩
       obtain rfl:=ζ45 h1 h2
       have HB7:=hid ((HS6.out.keep b7).bl)
       have d9:decide (l1=l1)=true:=decide_eq_true rfl
       rw [d9]
       clear b7 h1 h2
       go_wp2_with fail
       refine(ζ1k HK.out _).mono ?_
       rintro e w9 ⟨rfl,b9⟩
       have HB9:=hid (HB7.out.trans (b9.mono HB7.out.size))
       clear b9
       go_wp2_with fail
       go_ret
       exact⟨rfl,HB9.out⟩
    ·clear hz0
     obtain⟨f0,hf0⟩: ∃f0,valS L (t)=f0:=⟨_,rfl⟩
     go_wp2_with fail
     refine(ζ3o HK.out HS.out (i:=0) rfl HG.out (by have:=HL30.out;omega)).mono ?_
     rintro e w2 ⟨rfl,b2⟩
     have HS2:=hid (HS.out.keep b2)
     rw [HZ.out]
     clear b2
     go_wp2_with fail
     refine(ζ28 HK.out HS2.out (i:=0) rfl HG.out (by have:=HL30.out;omega) (t) HT.out.1 HT.out.2).mono ?_
     rintro e w3 ⟨q3,N3,rfl,hN3,s3⟩
     have HS3:=hid (show Sep w [btT HK.out.toBtOk (.pointer (some q)) L,tlT HK.out.tl (.pointer (some q3)) N3 f0] w3 by rw [←hf0];exact s3)
     have HF0:=hid hf0
     clear s3 hf0
     go_wp2_with fail
     go_loopw [50] (fun u wr=>∃(k:Nat) (L:ClL),u= .int .i64 (k:Int)∧k≤N'∧Hid (goodS L)∧Hid (L.length≤30+k)∧Hid (valS L (t)=f0)∧Hid (Sep w [btT HK.out.toBtOk (.pointer (some q)) L,tlT HK.out.tl (.pointer (some q3)) N3 f0] wr)) (fun u _=>(N'-intOf u).toNat)
     case atStart=>exact⟨0,L,rfl,by omega,HG,hid (by have:=HL30.out;omega),HF0,HS3⟩
     case round=>
      clear HG HLE HS HL30 HZ HS2 HS3 HF0 L
      obtain⟨k,L,rfl,hk,HG,HLE,HF0,HS⟩:=hrel
      by_cases hlt:k<N'
      ·obtain⟨ga,off,s,rfl,hs,hga,c0,c1,c2,c3⟩:=Cls.get (HR'.out.keep HS.out.bl) hlt
       obtain⟨x0,x1,x2,x3⟩:=s
       have HO:=hid (HL'.out _ (List.mem_of_getElem? hs))
       have HP:=hid (HS.out.push #[.int .i64 x0,.int .i64 x1,.int .i64 x2,.int .i64 x3] 32)
       have B9:=Blk.new wr #[.int .i64 x0,.int .i64 x1,.int .i64 x2,.int .i64 x3] 32
       have y0:=B9.get 0 rfl;have y1:=B9.get 1 rfl;have y2:=B9.get 2 rfl;have y3:=B9.get 3 rfl
       have HQ:=hid (HP.out.take 2)
       simp only []at HO c0 c1 c2 c3
       clear hs B9
       by_cases hx:t<x0
       ·have e1:decide (x0 > t)=true:=decide_eq_true hx
        go_wp2_with fail
        refine(ζ2j HK.out HP.out (i:=0) rfl HG.out (by have:=HLE.out;have:=HN.out.2;omega) x0 x1 x2 x3 HO.out.1 HO.out.2).mono ?_
        rintro e w5 ⟨rfl,s5⟩
        have HS5:=hid (show Sep w [btT HK.out.toBtOk (.pointer (some q)) (bputL L x0 x1 x2 x3),tlT HK.out.tl (.pointer (some q3)) N3 f0] w5 from s5.take 2)
        have HF5:=hid ((ζ3y L (a:=x1) (b:=x2) (v:=x3) hx).trans HF0.out)
        clear s5
        go_wp2_with fail
        go_roundw
        case rel=>exact⟨k+1,_,by go_num,by omega,hid (ζ3r HG.out x0 x1 x2 x3),hid (by have:=ζ3w L x0 x1 x2 x3;have:=HLE.out;omega),HF5,HS5⟩
        case measure=>simp [intOf];omega
       ·have e1:decide (x0 > t)=false:=decide_eq_false hx
        go_wp2_with fail
        go_roundw
        case rel=>exact⟨k+1,_,by go_num,by omega,HG,hid (by have:=HLE.out;omega),HF0,HQ⟩
        case measure=>simp [intOf];omega
      ·have HL60:=hid (show L.length≤60 by have:=HLE.out;have:=HN.out.2;omega)
       go_wp2_with fail
       refine(ζ28 HK.out HS.out (i:=0) rfl HG.out (by have:=HL60.out;omega) (t) HT.out.1 HT.out.2).mono ?_
       rintro e w6 ⟨q6,N6,rfl,hN6,s6⟩
       have HS6:=hid (show Sep w [btT HK.out.toBtOk (.pointer (some q)) L,tlT HK.out.tl (.pointer (some q3)) N3 f0,tlT HK.out.tl (.pointer (some q6)) N6 f0] w6 by rw [←HF0.out];rw [HF0.out];exact HF0.out▸s6)
       clear s6
       go_wp2_with fail
       refine(seb_tsame HKT.out HS6.out (i:=1) rfl (j:=2) rfl (by omega) (by omega)).mono ?_
       rintro e w7 ⟨l1,l2,h1,h2,rfl,b7⟩
       obtain rfl:=ζ45 h1 h2
       have HB7:=hid ((HS6.out.keep b7).bl)
       have d9:decide (l1=l1)=true:=decide_eq_true rfl
       rw [d9]
       clear b7 h1 h2
       go_wp2_with fail
       refine(ζ1k HK.out _).mono ?_
       rintro e w9 ⟨rfl,b9⟩
       have HB9:=hid (HB7.out.trans (b9.mono HB7.out.size))
       clear b9
       go_wp2_with fail
       go_ret
       exact⟨rfl,HB9.out⟩
theorem btstays_any {RL:RepL} {RB:RepB}(K:BtK RL RB)(KT:TlB RL)(A:Option Addr)(N c:Nat)(l:ClL)(A':Option Addr)(N' c':Nat)(l':ClL)(t:Int)(w:World)(Rl:Cls w A N c l)(Rl':Cls w A' N' c' l')(ol:okC13 l)(ol':okC13 l')
  (t1: -9223372036854775808≤t) (t2:t≤9223372036854775807):
  Calls Tryz.prog 5 #[.slice A N c,.slice A' N' c',.int .i64 t] w fun e w'=>e= .returned (.bool true)∧Below w.heap.size w w':=by
 by_cases h:N≤30∧N'≤30
 ·exact btstays_main K KT A N c l A' N' c' l' t w Rl Rl' ol ol' t1 t2 h.1 h.2
 ·exact btstays_long K A N c A' N' c' t w h
end Go.Proofs.YtfceoehfellpgaaGreat
