/- The law BitempPlays. (Written by wip/gen/genbtplays.py.) -/
import Derived.Test.YthagdonmijhpdaaGreatFramePuts
import Derived.Test.YthagdonmijhpdaaGreatTlKnown
import Derived.Test.YthagdonmijhpdaaGreatTl4
import Derived.Test.YthagdonmijhpdaaGreatRelVal
open Go.Lib (hid)
set_option linter.unusedSimpArgs false
set_option linter.unusedVariables false
set_option maxHeartbeats 8000000
set_option maxRecDepth 8000
namespace Corr
open Go Go.RowKit
def PlD (w:World)(ts:List Thing)(out:ItL)(lt:ItL)(s39 s42 s44:Bool)(v39 v42 v44:Value)(wx:World):Prop:=
 (∃us,Sep w (ts++us) wx∧(s42=true→∃(T:TypeId) (g2:Nat),T=90∧v42= .pointer (some ⟨g2,0,none⟩)∧us= [docT T g2 lt])∧(s42=false→us= []))∧
 (s39=true→∃A n c,v39= .slice A n c∧Itm wx A n c out)∧(s44=true→∃A n c,v44= .slice A n c∧Itm wx A n c out)
section
variable {w wx w':World} {ts ts':List Thing} {out lt:ItL} {s39 s42 s44:Bool} {v39 v42 v44:Value} {A:Option Addr} {n c g:Nat}
theorem PlD.start (h:Sep w ts wx):PlD w ts out lt false false false v39 v42 v44 wx:=⟨⟨[],by simpa using h,(fun h=>by cases h),fun _=>rfl⟩,(fun h=>by cases h),(fun h=>by cases h)⟩
theorem PlD.any (h:PlD w ts out lt s39 s42 s44 v39 v42 v44 wx): ∃us,Sep w (ts++us) wx:=by obtain⟨⟨us,h,_⟩,_⟩:=h;exact⟨us,h⟩
theorem PlD.sep (h:PlD w ts out lt s39 s42 s44 v39 v42 v44 wx)(hs:s42=false):Sep w ts wx:=by
 obtain⟨⟨us,h,_,h0⟩,_⟩:=h
 rw [h0 hs]at h;simpa using h
theorem PlD.put (h:Sep w ts wx)(h1:s39=false)(h2:s42=false)(h3:s44=false):PlD w ts out lt s39 s42 s44 v39 v42 v44 wx:=by
 subst h1 h2 h3;exact PlD.start h
theorem PlD.keep (h:PlD w ts out lt s39 s42 s44 v39 v42 v44 wx)(hb:Below wx.heap.size wx w'):PlD w ts out lt s39 s42 s44 v39 v42 v44 w':=by
 obtain⟨⟨us,h1,h2,h3⟩,h4,h5⟩:=h
 refine⟨⟨us,h1.keep hb,h2,h3⟩,fun e=> ?_,fun e=> ?_⟩
 ·obtain⟨A,n,c,a,b⟩:=h4 e;exact⟨A,n,c,a,b.keep hb⟩
 ·obtain⟨A,n,c,a,b⟩:=h5 e;exact⟨A,n,c,a,b.keep hb⟩
theorem PlD.row39 (h:PlD w ts out lt s39 s42 s44 v39 v42 v44 wx)(hb:Below wx.heap.size wx w')(R:Itm w' A n c out):PlD w ts out lt true s42 s44 (.slice A n c) v42 v44 w':=by
 obtain⟨h1,_,h3⟩:=h.keep hb
 exact⟨h1,fun _=>⟨A,n,c,rfl,R⟩,h3⟩
theorem PlD.row44 (h:PlD w ts out lt s39 s42 s44 v39 v42 v44 wx)(hb:Below wx.heap.size wx w')(R:Itm w' A n c out):PlD w ts out lt s39 s42 true v39 v42 (.slice A n c) w':=by
 obtain⟨h1,h2,_⟩:=h.keep hb
 exact⟨h1,h2,fun _=>⟨A,n,c,rfl,R⟩⟩
theorem PlD.get39 (h:PlD w ts out lt s39 s42 s44 v39 v42 v44 wx)(hs:s39=true)(hv:v39= .slice A n c):Itm wx A n c out:=by
 obtain⟨A',n',c',e,R⟩:=h.2.1 hs
 rw [hv]at e;cases e;exact R
theorem PlD.get44 (h:PlD w ts out lt s39 s42 s44 v39 v42 v44 wx)(hs:s44=true)(hv:v44= .slice A n c):Itm wx A n c out:=by
 obtain⟨A',n',c',e,R⟩:=h.2.2 hs
 rw [hv]at e;cases e;exact R
theorem PlD.doc (h:PlD w ts out lt s39 s42 s44 v39 v42 v44 wx)(hs:s42=true)(hv:v42= .pointer (some ⟨g,0,none⟩)):Sep w (ts++ [docT 90 g lt]) wx:=by
 obtain⟨⟨us,h1,h2,_⟩,_⟩:=h
 obtain⟨T,g2,rfl,e,rfl⟩:=h2 hs
 rw [hv]at e;cases e;exact h1
theorem PlD.line (h:PlD w ts out lt s39 s42 s44 v39 v42 v44 wx)(hs:s42=false)(hb:Below wx.heap.size wx w')(h9:Sep w (ts++ [docT 90 g lt]) w'):PlD w ts out lt s39 true s44 v39 (.pointer (some ⟨g,0,none⟩)) v44 w':=by
 obtain⟨_,h4,h5⟩:=h.keep hb
 exact⟨⟨_,h9,fun _=>⟨_,g,rfl,rfl,rfl⟩,(fun h=>by cases h)⟩,h4,h5⟩
theorem seg_row {T:TypeId} {f:Int→Int} {a b:Int} {e:Ending}(h:ζ1r T w f a b e w')(ho:segF f a b out): ∃A n c,e= .returned (.slice A n c)∧Itm w' A n c out∧Below w.heap.size w w':=by
 obtain⟨o9,A,n,c,he,h1,R,hb⟩:=h
 obtain rfl:=ζ48 h1 ho
 exact⟨A,n,c,he,ζv R,hb⟩
end
end Corr
namespace Go.Proofs.YthagdonmijhpdaaGreat
open Go.RowKit Corr
theorem btsame_yes {A B:Option Addr} {n c m d:Nat} {l:ItL} {w:World}(R:Itm w A n c l)(S:Itm w B m d l)(hl:l.length≤4000000):Calls Tryz.prog 16 #[.slice A n c,.slice B m d] w fun e w'=>e= .returned (.bool true)∧Below w.heap.size w w':=by
 have hn:=Itm.count R
 have hm:=Itm.count S
 obtain rfl:n=m:=hn.symm.trans hm
 have HR:=hid R
 have HS:=hid S
 have hn4:n≤4000000:=by omega
 clear R S hm
 go_enter Tryz.func16,Tryz.ntmps16
 go_wp2_with fail
 go_loopw [13] (fun u wr=>∃i:Nat,u= .int .i64 (i:Int)∧i≤n∧Below w.heap.size w wr) (fun u _=>(n-intOf u).toNat)
 case atStart=>exact⟨0,rfl,by omega,Below.refl _ _⟩
 case round=>
  obtain⟨i,rfl,hi,hb⟩:=hrel
  have HB:=hid hb
  clear hb
  by_cases hlt:i<n
  ·obtain⟨g5,off,s,rfl,hs,hg,c0,c1,c2⟩:=Itm.get (HR.out.keep HB.out) hlt
   obtain⟨g6,off2,t,rfl,ht,hg2,d0,d1,d2⟩:=Itm.get (HS.out.keep HB.out) hlt
   rw [hs]at ht
   obtain rfl:=Option.some.inj ht
   obtain⟨s1,s2,s3⟩:=s
   clear hs ht
   go_wp2_with fail
   go_quiet (fail)
   go_wp2_with fail
   go_roundw
   case rel=>exact⟨i+1,by go_num,by omega,by first | exact HB.out | exact HB.out.drewN _ | exact HB.out.trans (Joins.below_draws _ _ _)⟩
   case measure=>simp [intOf];omega
  ·go_wp2_with fail
   go_ret
   exact⟨rfl,HB.out⟩
theorem btplays_long {RL:RepL} {RB:RepB}(K:BtK RL RB)(KT:TlB RL)(A:Option Addr)(N c:Nat)(l:ClL)(t day a b:Int)(w:World)(Rl:Cls w A N c l)(ol:okC13 l)(t1: -9223372036854775808≤t)(t2:t≤9223372036854775807)(u1: -9223372036854775808≤day)(u2:day≤9223372036854775807)(hN: ¬N≤40):Calls Tryz.prog 3 #[.slice A N c,.int .i64 t,.int .i64 day,.agg #[.int .i64 a,.int .i64 b]] w fun e w'=>e= .returned (.bool true)∧Below w.heap.size w w':=by
 have HK:=hid K
 have d0:decide ((N:Int) > 40)=true:=decide_eq_true (by omega)
 have HB:=hid ((Below.refl w.heap.size w).alloc (Nat.le_refl _) (.cells #[.int .i64 a,.int .i64 b] 24))
 clear K hN Rl ol t1 t2 u1 u2 KT
 go_enter Tryz.func3,Tryz.ntmps3
 go_wp2_with fail
 refine(ζ54 HK.out _).mono ?_
 rintro e w1 ⟨rfl,b1⟩
 have HB1:=hid (HB.out.trans (b1.mono HB.out.size))
 clear b1
 go_wp2_with fail
 go_ret
 exact⟨rfl,HB1.out⟩
theorem btplays_main {RL:RepL} {RB:RepB}(K:BtK RL RB)(KT:TlB RL)(A:Option Addr)(N c:Nat)(l:ClL)(t day a b:Int)(w:World)(Rl:Cls w A N c l)(ol:okC13 l)(t1: -9223372036854775808≤t)(t2:t≤9223372036854775807)(u1: -9223372036854775808≤day)(u2:day≤9223372036854775807)(hN:N≤40):Calls Tryz.prog 3 #[.slice A N c,.int .i64 t,.int .i64 day,.agg #[.int .i64 a,.int .i64 b]] w fun e w'=>e= .returned (.bool true)∧Below w.heap.size w w':=by
 have d0:decide ((N:Int) > 40)=false:=decide_eq_false (by omega)
 have HK:=hid K
 have HKT:=hid KT
 have HR:=hid Rl
 have HL:=hid ol
 have HT:=hid (And.intro t1 t2)
 have HU:=hid (And.intro u1 u2)
 have HN:=hid hN
 have HS0:=hid ((Sep.nil w).push #[.int .i64 a,.int .i64 b] 24)
 clear K KT Rl ol t1 t2 u1 u2
 go_enter Tryz.func3,Tryz.ntmps3
 go_wp2_with fail
 refine(sep_bmake HK.out HS0.out).mono ?_
 rintro e w1 ⟨q,rfl,s1⟩
 obtain⟨g,hg⟩: ∃g,w1.heap.size=g:=⟨_,rfl⟩
 have HS1:=hid (show Sep w [blkT w.heap.size #[.int .i64 a,.int .i64 b],btT HK.out.toBtOk (.pointer (some q)) [],sT g []] (w1.alloc (.cells #[.slice none 0 0] 30)) by rw [←hg];exact s1.addSt _ _)
 clear s1
 go_wp2_with fail
 clear hg
 go_loopw [24] (fun u wr=>∃(k:Nat) (L:ClL),u= .int .i64 (k:Int)∧k≤N∧Hid (goodS L)∧Hid (L.length≤k)∧Hid (Sep w [blkT w.heap.size #[.int .i64 a,.int .i64 b],btT HK.out.toBtOk (.pointer (some q)) L,sT g L] wr)) (fun u _=>(N-intOf u).toNat)
 case atStart=>exact⟨0,[],rfl,by omega,hid goodS_nil,hid (Nat.le_refl _),HS1⟩
 case round=>
  obtain⟨k,L,rfl,hk,HG,HLE,HS⟩:=hrel
  by_cases hlt:k<N
  ·obtain⟨ga,off,s,rfl,hs,hga,c0,c1,c2,c3⟩:=Cls.get (HR.out.keep HS.out.bl) hlt
   obtain⟨x0,x1,x2,x3⟩:=s
   have HO:=hid (HL.out _ (List.mem_of_getElem? hs))
   have HP:=hid (show Sep w [blkT w.heap.size #[.int .i64 a,.int .i64 b],btT HK.out.toBtOk (.pointer (some q)) L,sT g L,blkT wr.heap.size #[.int .i64 x0,.int .i64 x1,.int .i64 x2,.int .i64 x3]] (wr.alloc (.cells #[.int .i64 x0,.int .i64 x1,.int .i64 x2,.int .i64 x3] 32))from HS.out.push #[.int .i64 x0,.int .i64 x1,.int .i64 x2,.int .i64 x3] 32)
   have HG2:=hid (goodS_put HG.out x0 x1 x2 x3)
   have HLE2:=hid (show (bputL L x0 x1 x2 x3).length≤k+1 from Nat.le_trans (bputL_len _ _ _ _ _) (Nat.succ_le_succ HLE.out))
   have hk40:k≤40:=by have:=HN.out;omega
   obtain⟨out,hout⟩:=seg_ex (valS (bputL L x0 x1 x2 x3) t) a b
   have HOUT:=hid hout
   obtain⟨z,hz⟩: ∃z,lastL (bputL L x0 x1 x2 x3)=z:=⟨_,rfl⟩
   have HZ:=hid hz
   obtain⟨y,hy⟩: ∃y,valS (bputL L x0 x1 x2 x3) t day=y:=⟨_,rfl⟩
   have HY:=hid hy
   simp only []at HO c0 c1 c2 c3
   clear hs hout hz hy
   go_upto_region 10 with fail
   clear c0 c1 c2 c3
   refine ζ3 48 (fun S val wx=>VVs 48 [(· = .pointer (some q)),(· = .pointer (some ⟨wr.heap.size,0,none⟩)),(· = .int .i64 x0),(· = .pointer (some ⟨wr.heap.size,1,none⟩)),(· = .agg #[.int .i64 x1,.int .i64 x2]),(· = .pointer (some ⟨wr.heap.size,3,none⟩)),(· = .int .i64 x3),(· = .int .i64 (bputR L x0 x1 x2)),(· = .pointer (some ⟨g,0,none⟩)),(· = .pointer (some ⟨wr.heap.size,0,none⟩)),(· = .int .i64 x0),(· = .pointer (some ⟨wr.heap.size,1,none⟩)),(· = .agg #[.int .i64 x1,.int .i64 x2]),(· = .pointer (some ⟨wr.heap.size,3,none⟩)),(· = .int .i64 x3),(· = .int .i64 (bputR L x0 x1 x2)),(· = .bool false),(· = .bool false),(· = .pointer (some q)),(· = .int .i64 z),(· = .pointer (some ⟨g,0,none⟩)),(· = .int .i64 z),(· = .bool false),(· = .bool false),(· = .bool false),(· = .pointer (some q)),(· = .int .i64 t),(· = .int .i64 day),(· = .int .i64 y),(· = .pointer (some ⟨g,0,none⟩)),(· = .int .i64 t),(· = .int .i64 day),(· = .int .i64 y),(· = .bool false),(· = .bool false),(· = .bool false),(· = .pointer (some q)),(· = .int .i64 t),(· = .agg #[.int .i64 a,.int .i64 b]),(fun vv=>∃Au nu cu,vv= .slice Au nu cu),(· = .pointer (some ⟨g,0,none⟩)),(· = .int .i64 t),(fun vv=>∃gu,vv= .pointer (some ⟨gu,0,none⟩)),(· = .agg #[.int .i64 a,.int .i64 b]),(fun vv=>∃Aw nw cw,vv= .slice Aw nw cw),(· = .bool true),(· = .bool false),(· = .bool false)] S val∧Clo [[],[],[1],[],[3],[],[5],[0,2,4,6],[],[],[9],[],[11],[],[13],[8,10,12,14],[7,15],[16],[17],[17,18],[17],[17,20],[17,19,21],[17,22],[23],[24],[24],[24],[24,25,26,27],[24],[24],[24],[24,29,30,31],[24,28,32],[24,33],[34],[35],[35],[35],[35,36,37,38],[35],[35],[35,40,41],[35],[35,42,43],[35,39,44],[35,45],[35,46]] S∧PlD w [blkT w.heap.size #[.int .i64 a,.int .i64 b],btT HK.out.toBtOk (.pointer (some q)) (cond (S 7) (bputL L x0 x1 x2 x3) L),sT g (cond (S 15) (bputL L x0 x1 x2 x3) L),blkT wr.heap.size #[.int .i64 x0,.int .i64 x1,.int .i64 x2,.int .i64 x3]] out (lineL (bputL L x0 x1 x2 x3) t) (S 39) (S 42) (S 44) (val 39) (val 42) (val 44) wx) [0,1,3,5,8,9,11,13,16,17,18,20,22,23,24,25,26,27,29,30,31,33,34,35,36,37,40,41,46,47] (by kernel_rfl) (by kernel_rfl) ⟨VVs.start,Clo.start,(PlD.start (HP.out.keep ((Below.refl _ _).drew)))⟩ ⟨?_,?_,?_,?_,?_,?_,?_,?_,?_,?_,?_,?_,?_,?_,?_,?_,?_,?_,?_,?_,?_,?_,?_,?_,?_,?_,?_,?_,?_,?_,?_,?_,?_,?_,?_,?_,?_,?_,?_,?_,?_,?_,?_,?_,?_,?_,?_,?_,trivial⟩ ?_
   ·exact qU [9]
   ·exact qU [12]
   ·refine qM fun ev wv S val hE hV hK hw hS hd=> ?_
    obtain⟨us,hsep⟩:=PlD.any hw
    have hbk:=Sep.b hsep 3 rfl
    have kx:=hbk.get 0 rfl
    clear hbk hsep us
    exact qE [] hE hV hd
   ·exact qU [12]
   ·refine qM fun ev wv S val hE hV hK hw hS hd=> ?_
    obtain⟨us,hsep⟩:=PlD.any hw
    have hbk:=Sep.b hsep 3 rfl
    have kx:=hbk.get 1 rfl
    have ky:=hbk.get 2 rfl
    clear hbk hsep us
    exact qE [] hE hV hd
   ·exact qU [12]
   ·refine qM fun ev wv S val hE hV hK hw hS hd=> ?_
    obtain⟨us,hsep⟩:=PlD.any hw
    have hbk:=Sep.b hsep 3 rfl
    have kx:=hbk.get 3 rfl
    clear hbk hsep us
    exact qE [] hE hV hd
   ·refine qC fun ev wv S val hE hV hK hw hS hd=> ?_
    have s39:=hK.no hS 39 [35,34,24,23,17,16,7]
    have s42:=hK.no hS 42 [35,34,24,23,17,16,7]
    have s44:=hK.no hS 44 [35,34,24,23,17,16,7]
    have hw0:PlD w [blkT w.heap.size #[.int .i64 a,.int .i64 b],btT HK.out.toBtOk (.pointer (some q)) (cond (S 7) (bputL L x0 x1 x2 x3) L),sT g (cond (S 15) (bputL L x0 x1 x2 x3) L),blkT wr.heap.size #[.int .i64 x0,.int .i64 x1,.int .i64 x2,.int .i64 x3]] out (lineL (bputL L x0 x1 x2 x3) t) (S 39) (S 42) (S 44) (val 39) (val 42) (val 44) wv:=hw
    rw [show S 7=false from hS]at hw0
    have hw1:=PlD.sep (show PlD w [blkT w.heap.size #[.int .i64 a,.int .i64 b],btT HK.out.toBtOk (.pointer (some q)) L,sT g (cond (S 15) (bputL L x0 x1 x2 x3) L),blkT wr.heap.size #[.int .i64 x0,.int .i64 x1,.int .i64 x2,.int .i64 x3]] out (lineL (bputL L x0 x1 x2 x3) t) (S 39) (S 42) (S 44) (val 39) (val 42) (val 44) wv from hw0) s42
    clear hw0
    refine qF (f:=10) (args:= #[.pointer (some q),.int .i64 x0,.agg #[.int .i64 x1,.int .i64 x2],.int .i64 x3]) [] hE hV hd (sep_bput HK.out hw1 (i:=1) rfl HG.out (by have:=HLE.out;omega) x0 x1 x2 x3 HO.out.1 HO.out.2) ?_
    rintro e w' ⟨rfl,hs⟩
    exact⟨_,rfl,rfl,PlD.put hs s39 s42 s44⟩
   ·exact qU [10]
   ·exact qU [12]
   ·refine qM fun ev wv S val hE hV hK hw hS hd=> ?_
    obtain⟨us,hsep⟩:=PlD.any hw
    have hbk:=Sep.b hsep 3 rfl
    have kx:=hbk.get 0 rfl
    clear hbk hsep us
    exact qE [] hE hV hd
   ·exact qU [12]
   ·refine qM fun ev wv S val hE hV hK hw hS hd=> ?_
    obtain⟨us,hsep⟩:=PlD.any hw
    have hbk:=Sep.b hsep 3 rfl
    have kx:=hbk.get 1 rfl
    have ky:=hbk.get 2 rfl
    clear hbk hsep us
    exact qE [] hE hV hd
   ·exact qU [12]
   ·refine qM fun ev wv S val hE hV hK hw hS hd=> ?_
    obtain⟨us,hsep⟩:=PlD.any hw
    have hbk:=Sep.b hsep 3 rfl
    have kx:=hbk.get 3 rfl
    clear hbk hsep us
    exact qE [] hE hV hd
   ·refine qC fun ev wv S val hE hV hK hw hS hd=> ?_
    have s39:=hK.no hS 39 [35,34,24,23,17,16,15]
    have s42:=hK.no hS 42 [35,34,24,23,17,16,15]
    have s44:=hK.no hS 44 [35,34,24,23,17,16,15]
    have hw0:PlD w [blkT w.heap.size #[.int .i64 a,.int .i64 b],btT HK.out.toBtOk (.pointer (some q)) (cond (S 7) (bputL L x0 x1 x2 x3) L),sT g (cond (S 15) (bputL L x0 x1 x2 x3) L),blkT wr.heap.size #[.int .i64 x0,.int .i64 x1,.int .i64 x2,.int .i64 x3]] out (lineL (bputL L x0 x1 x2 x3) t) (S 39) (S 42) (S 44) (val 39) (val 42) (val 44) wv:=hw
    rw [show S 15=false from hS]at hw0
    have hw1:=PlD.sep (show PlD w [blkT w.heap.size #[.int .i64 a,.int .i64 b],btT HK.out.toBtOk (.pointer (some q)) (cond (S 7) (bputL L x0 x1 x2 x3) L),sT g L,blkT wr.heap.size #[.int .i64 x0,.int .i64 x1,.int .i64 x2,.int .i64 x3]] out (lineL (bputL L x0 x1 x2 x3) t) (S 39) (S 42) (S 44) (val 39) (val 42) (val 44) wv from hw0) s42
    clear hw0
    refine qF (f:=11) (args:= #[.pointer (some ⟨g,0,none⟩),.int .i64 x0,.agg #[.int .i64 x1,.int .i64 x2],.int .i64 x3]) [] hE hV hd (sep_sput hw1 (i:=2) rfl (by have:=HLE.out;omega) x0 x1 x2 x3) ?_
    rintro e w' ⟨rfl,hs⟩
    exact⟨_,rfl,rfl,PlD.put hs s39 s42 s44⟩
   ·exact qU []
   ·exact qU []
   ·exact qG [9]
   ·refine qC fun ev wv S val hE hV hK hw hS hd=> ?_
    have q17:=(hd 17 (by decide)).1
    have q16:=hK 17 q17 16 (by decide)
    have q7:=hK 16 q16 7 (by decide)
    have s7:S 7=true:=q7
    have q15:=hK 16 q16 15 (by decide)
    have s15:S 15=true:=q15
    have hw0:PlD w [blkT w.heap.size #[.int .i64 a,.int .i64 b],btT HK.out.toBtOk (.pointer (some q)) (cond (S 7) (bputL L x0 x1 x2 x3) L),sT g (cond (S 15) (bputL L x0 x1 x2 x3) L),blkT wr.heap.size #[.int .i64 x0,.int .i64 x1,.int .i64 x2,.int .i64 x3]] out (lineL (bputL L x0 x1 x2 x3) t) (S 39) (S 42) (S 44) (val 39) (val 42) (val 44) wv:=hw
    rw [s7,s15]at hw0
    have hw1:PlD w [blkT w.heap.size #[.int .i64 a,.int .i64 b],btT HK.out.toBtOk (.pointer (some q)) (bputL L x0 x1 x2 x3),sT g (bputL L x0 x1 x2 x3),blkT wr.heap.size #[.int .i64 x0,.int .i64 x1,.int .i64 x2,.int .i64 x3]] out (lineL (bputL L x0 x1 x2 x3) t) (S 39) (S 42) (S 44) (val 39) (val 42) (val 44) wv:=hw0
    clear hw0
    obtain⟨us,hsep⟩:=PlD.any hw1
    refine qF (f:=12) (args:= #[.pointer (some q)]) [] hE hV hd (sep_blast_r HK.out hsep (i:=1) rfl HG2.out (by have:=HLE2.out;omega) HZ.out) ?_
    rintro e w' ⟨rfl,hb⟩
    exact⟨_,rfl,rfl,PlD.keep hw hb⟩
   ·exact qG [10]
   ·refine qC fun ev wv S val hE hV hK hw hS hd=> ?_
    have q17:=(hd 17 (by decide)).1
    have q16:=hK 17 q17 16 (by decide)
    have q7:=hK 16 q16 7 (by decide)
    have s7:S 7=true:=q7
    have q15:=hK 16 q16 15 (by decide)
    have s15:S 15=true:=q15
    have hw0:PlD w [blkT w.heap.size #[.int .i64 a,.int .i64 b],btT HK.out.toBtOk (.pointer (some q)) (cond (S 7) (bputL L x0 x1 x2 x3) L),sT g (cond (S 15) (bputL L x0 x1 x2 x3) L),blkT wr.heap.size #[.int .i64 x0,.int .i64 x1,.int .i64 x2,.int .i64 x3]] out (lineL (bputL L x0 x1 x2 x3) t) (S 39) (S 42) (S 44) (val 39) (val 42) (val 44) wv:=hw
    rw [s7,s15]at hw0
    have hw1:PlD w [blkT w.heap.size #[.int .i64 a,.int .i64 b],btT HK.out.toBtOk (.pointer (some q)) (bputL L x0 x1 x2 x3),sT g (bputL L x0 x1 x2 x3),blkT wr.heap.size #[.int .i64 x0,.int .i64 x1,.int .i64 x2,.int .i64 x3]] out (lineL (bputL L x0 x1 x2 x3) t) (S 39) (S 42) (S 44) (val 39) (val 42) (val 44) wv:=hw0
    clear hw0
    obtain⟨us,hsep⟩:=PlD.any hw1
    refine qF (f:=13) (args:= #[.pointer (some ⟨g,0,none⟩)]) [] hE hV hd (sep_slast_r hsep (i:=2) rfl (by have:=HLE2.out;omega) HZ.out) ?_
    rintro e w' ⟨rfl,hb⟩
    exact⟨_,rfl,rfl,PlD.keep hw hb⟩
   ·exact qG []
   ·exact qU []
   ·exact qU []
   ·exact qG [9]
   ·exact qG [1]
   ·exact qG [2]
   ·refine qC fun ev wv S val hE hV hK hw hS hd=> ?_
    have q24:=(hd 24 (by decide)).1
    have q23:=hK 24 q24 23 (by decide)
    have q17:=hK 23 q23 17 (by decide)
    have q16:=hK 17 q17 16 (by decide)
    have q7:=hK 16 q16 7 (by decide)
    have s7:S 7=true:=q7
    have q15:=hK 16 q16 15 (by decide)
    have s15:S 15=true:=q15
    have hw0:PlD w [blkT w.heap.size #[.int .i64 a,.int .i64 b],btT HK.out.toBtOk (.pointer (some q)) (cond (S 7) (bputL L x0 x1 x2 x3) L),sT g (cond (S 15) (bputL L x0 x1 x2 x3) L),blkT wr.heap.size #[.int .i64 x0,.int .i64 x1,.int .i64 x2,.int .i64 x3]] out (lineL (bputL L x0 x1 x2 x3) t) (S 39) (S 42) (S 44) (val 39) (val 42) (val 44) wv:=hw
    rw [s7,s15]at hw0
    have hw1:PlD w [blkT w.heap.size #[.int .i64 a,.int .i64 b],btT HK.out.toBtOk (.pointer (some q)) (bputL L x0 x1 x2 x3),sT g (bputL L x0 x1 x2 x3),blkT wr.heap.size #[.int .i64 x0,.int .i64 x1,.int .i64 x2,.int .i64 x3]] out (lineL (bputL L x0 x1 x2 x3) t) (S 39) (S 42) (S 44) (val 39) (val 42) (val 44) wv:=hw0
    clear hw0
    obtain⟨us,hsep⟩:=PlD.any hw1
    refine qF (f:=14) (args:= #[.pointer (some q),.int .i64 t,.int .i64 day]) [] hE hV hd (sep_bat HK.out hsep (i:=1) rfl HG2.out (by have:=HLE2.out;omega) t day HT.out.1 HT.out.2 HU.out.1 HU.out.2 HY.out) ?_
    rintro e w' ⟨rfl,hb⟩
    exact⟨_,rfl,rfl,PlD.keep hw hb⟩
   ·exact qG [10]
   ·exact qG [1]
   ·exact qG [2]
   ·refine qC fun ev wv S val hE hV hK hw hS hd=> ?_
    have q24:=(hd 24 (by decide)).1
    have q23:=hK 24 q24 23 (by decide)
    have q17:=hK 23 q23 17 (by decide)
    have q16:=hK 17 q17 16 (by decide)
    have q7:=hK 16 q16 7 (by decide)
    have s7:S 7=true:=q7
    have q15:=hK 16 q16 15 (by decide)
    have s15:S 15=true:=q15
    have hw0:PlD w [blkT w.heap.size #[.int .i64 a,.int .i64 b],btT HK.out.toBtOk (.pointer (some q)) (cond (S 7) (bputL L x0 x1 x2 x3) L),sT g (cond (S 15) (bputL L x0 x1 x2 x3) L),blkT wr.heap.size #[.int .i64 x0,.int .i64 x1,.int .i64 x2,.int .i64 x3]] out (lineL (bputL L x0 x1 x2 x3) t) (S 39) (S 42) (S 44) (val 39) (val 42) (val 44) wv:=hw
    rw [s7,s15]at hw0
    have hw1:PlD w [blkT w.heap.size #[.int .i64 a,.int .i64 b],btT HK.out.toBtOk (.pointer (some q)) (bputL L x0 x1 x2 x3),sT g (bputL L x0 x1 x2 x3),blkT wr.heap.size #[.int .i64 x0,.int .i64 x1,.int .i64 x2,.int .i64 x3]] out (lineL (bputL L x0 x1 x2 x3) t) (S 39) (S 42) (S 44) (val 39) (val 42) (val 44) wv:=hw0
    clear hw0
    obtain⟨us,hsep⟩:=PlD.any hw1
    refine qF (f:=15) (args:= #[.pointer (some ⟨g,0,none⟩),.int .i64 t,.int .i64 day]) [] hE hV hd (sep_sat hsep (i:=2) rfl HG2.out (by have:=HLE2.out;omega) t day HY.out) ?_
    rintro e w' ⟨rfl,hb⟩
    exact⟨_,rfl,rfl,PlD.keep hw hb⟩
   ·exact qG []
   ·exact qU []
   ·exact qU []
   ·exact qG [9]
   ·exact qG [1]
   ·refine qM fun ev wv S val hE hV hK hw hS hd=> ?_
    obtain⟨us,hsep⟩:=PlD.any hw
    have hbk:=Sep.b hsep 0 rfl
    have kx:=hbk.get 0 rfl
    have ky:=hbk.get 1 rfl
    clear hbk hsep us
    exact qE [7] hE hV hd
   ·refine qC fun ev wv S val hE hV hK hw hS hd=> ?_
    have q35:=(hd 35 (by decide)).1
    have q34:=hK 35 q35 34 (by decide)
    have q24:=hK 34 q34 24 (by decide)
    have q23:=hK 24 q24 23 (by decide)
    have q17:=hK 23 q23 17 (by decide)
    have q16:=hK 17 q17 16 (by decide)
    have q7:=hK 16 q16 7 (by decide)
    have s7:S 7=true:=q7
    have q15:=hK 16 q16 15 (by decide)
    have s15:S 15=true:=q15
    have hw0:PlD w [blkT w.heap.size #[.int .i64 a,.int .i64 b],btT HK.out.toBtOk (.pointer (some q)) (cond (S 7) (bputL L x0 x1 x2 x3) L),sT g (cond (S 15) (bputL L x0 x1 x2 x3) L),blkT wr.heap.size #[.int .i64 x0,.int .i64 x1,.int .i64 x2,.int .i64 x3]] out (lineL (bputL L x0 x1 x2 x3) t) (S 39) (S 42) (S 44) (val 39) (val 42) (val 44) wv:=hw
    rw [s7,s15]at hw0
    have hw1:PlD w [blkT w.heap.size #[.int .i64 a,.int .i64 b],btT HK.out.toBtOk (.pointer (some q)) (bputL L x0 x1 x2 x3),sT g (bputL L x0 x1 x2 x3),blkT wr.heap.size #[.int .i64 x0,.int .i64 x1,.int .i64 x2,.int .i64 x3]] out (lineL (bputL L x0 x1 x2 x3) t) (S 39) (S 42) (S 44) (val 39) (val 42) (val 44) wv:=hw0
    clear hw0
    obtain⟨us,hsep⟩:=PlD.any hw1
    refine qF (f:=17) (args:= #[.pointer (some q),.int .i64 t,.agg #[.int .i64 a,.int .i64 b]]) [] hE hV hd ((sep_bsegs HK.out hsep (i:=1) rfl HG2.out (by have:=HLE2.out;omega) t a b HT.out.1 HT.out.2).mono (fun _ _ h=>seg_row h HOUT.out)) ?_
    rintro e w' ⟨A9,n9,c9,rfl,R,hb⟩
    exact⟨_,rfl,(⟨A9,n9,c9,rfl⟩),PlD.row39 hw hb R⟩
   ·exact qG [10]
   ·exact qG [1]
   ·refine qC fun ev wv S val hE hV hK hw hS hd=> ?_
    have q35:=(hd 35 (by decide)).1
    have q34:=hK 35 q35 34 (by decide)
    have q24:=hK 34 q34 24 (by decide)
    have q23:=hK 24 q24 23 (by decide)
    have q17:=hK 23 q23 17 (by decide)
    have q16:=hK 17 q17 16 (by decide)
    have q7:=hK 16 q16 7 (by decide)
    have s7:S 7=true:=q7
    have q15:=hK 16 q16 15 (by decide)
    have s15:S 15=true:=q15
    have hw0:PlD w [blkT w.heap.size #[.int .i64 a,.int .i64 b],btT HK.out.toBtOk (.pointer (some q)) (cond (S 7) (bputL L x0 x1 x2 x3) L),sT g (cond (S 15) (bputL L x0 x1 x2 x3) L),blkT wr.heap.size #[.int .i64 x0,.int .i64 x1,.int .i64 x2,.int .i64 x3]] out (lineL (bputL L x0 x1 x2 x3) t) (S 39) (S 42) (S 44) (val 39) (val 42) (val 44) wv:=hw
    rw [s7,s15]at hw0
    have hw1:PlD w [blkT w.heap.size #[.int .i64 a,.int .i64 b],btT HK.out.toBtOk (.pointer (some q)) (bputL L x0 x1 x2 x3),sT g (bputL L x0 x1 x2 x3),blkT wr.heap.size #[.int .i64 x0,.int .i64 x1,.int .i64 x2,.int .i64 x3]] out (lineL (bputL L x0 x1 x2 x3) t) (S 39) (S 42) (S 44) (val 39) (val 42) (val 44) wv:=hw0
    clear hw0
    have hsep:=PlD.sep hw1 hS
    refine qF (f:=18) (args:= #[.pointer (some ⟨g,0,none⟩),.int .i64 t]) [] hE hV hd (sep_sline hsep (i:=2) rfl HG2.out (by have:=HLE2.out;omega) t) ?_
    rintro e w' ⟨g9,rfl,hb,hs9⟩
    exact⟨_,rfl,(⟨g9,rfl⟩),(by show PlD w [blkT w.heap.size #[.int .i64 a,.int .i64 b],btT HK.out.toBtOk (.pointer (some q)) (cond (S 7) (bputL L x0 x1 x2 x3) L),sT g (cond (S 15) (bputL L x0 x1 x2 x3) L),blkT wr.heap.size #[.int .i64 x0,.int .i64 x1,.int .i64 x2,.int .i64 x3]] out (lineL (bputL L x0 x1 x2 x3) t) (S 39) true (S 44) (val 39) (.pointer (some ⟨g9,0,none⟩)) (val 44) w';rw [s7,s15];exact PlD.line hw1 hS hb hs9)⟩
   ·refine qM fun ev wv S val hE hV hK hw hS hd=> ?_
    obtain⟨us,hsep⟩:=PlD.any hw
    have hbk:=Sep.b hsep 0 rfl
    have kx:=hbk.get 0 rfl
    have ky:=hbk.get 1 rfl
    clear hbk hsep us
    exact qE [7] hE hV hd
   ·refine qC fun ev wv S val hE hV hK hw hS hd=> ?_
    obtain⟨gu42,g42⟩:=hV 42 (by decide) (hd 42 (by decide)).1
    have v70:ev (.tmp 70)= .pointer (some ⟨gu42,0,none⟩):=(hd 42 (by decide)).2.trans g42
    have q35:=(hd 35 (by decide)).1
    have q34:=hK 35 q35 34 (by decide)
    have q24:=hK 34 q34 24 (by decide)
    have q23:=hK 24 q24 23 (by decide)
    have q17:=hK 23 q23 17 (by decide)
    have q16:=hK 17 q17 16 (by decide)
    have q7:=hK 16 q16 7 (by decide)
    have s7:S 7=true:=q7
    have q15:=hK 16 q16 15 (by decide)
    have s15:S 15=true:=q15
    have hdoc:=PlD.doc hw (hd 42 (by decide)).1 g42
    refine qF (f:=19) (args:= #[.pointer (some ⟨gu42,0,none⟩),.agg #[.int .i64 a,.int .i64 b]]) [] hE hV hd ((sep_dsegs hdoc (i:=4) rfl (by have:=ζ3x (bputL L x0 x1 x2 x3) t;have:=HLE2.out;omega) a b).mono (fun _ _ h=>seg_row h HOUT.out)) ?_
    rintro e w' ⟨A9,n9,c9,rfl,R,hb⟩
    exact⟨_,rfl,(⟨A9,n9,c9,rfl⟩),PlD.row44 hw hb R⟩
   ·refine qC fun ev wv S val hE hV hK hw hS hd=> ?_
    obtain⟨Au39,nu39,cu39,g39⟩:=hV 39 (by decide) (hd 39 (by decide)).1
    have v67:ev (.tmp 67)= .slice Au39 nu39 cu39:=(hd 39 (by decide)).2.trans g39
    obtain⟨Aw44,nw44,cw44,g44⟩:=hV 44 (by decide) (hd 44 (by decide)).1
    have v72:ev (.tmp 72)= .slice Aw44 nw44 cw44:=(hd 44 (by decide)).2.trans g44
    have r39:=PlD.get39 hw (hd 39 (by decide)).1 g39
    have r44:=PlD.get44 hw (hd 44 (by decide)).1 g44
    refine qF (f:=16) (args:= #[.slice Au39 nu39 cu39,.slice Aw44 nw44 cw44]) [] hE hV hd (btsame_yes r39 r44 (by have:=ζ49 HOUT.out;omega)) ?_
    rintro e w' ⟨rfl,hb⟩
    exact⟨_,rfl,rfl,PlD.keep hw hb⟩
   ·exact qG []
   ·exact qU []
   ·rintro S val wz hS ⟨hV,hK,hw⟩
    obtain⟨Au39,nu39,cu39,e39⟩:=hV 39 (by decide) (hS 39 (by decide))
    obtain⟨gu42,e42⟩:=hV 42 (by decide) (hS 42 (by decide))
    obtain⟨Aw44,nw44,cw44,e44⟩:=hV 44 (by decide) (hS 44 (by decide))
    refine finL hV hS ?_
    iterate 39 rintro _ ⟨-,rfl⟩-
    rintro v39 ⟨h39,-⟩-_ ⟨-,rfl⟩-_ ⟨-,rfl⟩-v42 ⟨h42,-⟩-_ ⟨-,rfl⟩-v44 ⟨h44,-⟩-_ ⟨-,rfl⟩-_ ⟨-,rfl⟩-_ ⟨-,rfl⟩-
    simp only [zA]
    simp only [h39.trans e39,h42.trans e42,h44.trans e44]
    clear hV h39 e39 v39 h42 e42 v42 h44 e44 v44
    change wpList Tryz.prog _ _ _ _ wz
    have hw0:PlD w [blkT w.heap.size #[.int .i64 a,.int .i64 b],btT HK.out.toBtOk (.pointer (some q)) (cond (S 7) (bputL L x0 x1 x2 x3) L),sT g (cond (S 15) (bputL L x0 x1 x2 x3) L),blkT wr.heap.size #[.int .i64 x0,.int .i64 x1,.int .i64 x2,.int .i64 x3]] out (lineL (bputL L x0 x1 x2 x3) t) (S 39) (S 42) (S 44) (val 39) (val 42) (val 44) wz:=hw
    rw [show S 7=true from hS 7 (by decide),show S 15=true from hS 15 (by decide)]at hw0
    obtain⟨us,hsep⟩:=PlD.any (show PlD w [blkT w.heap.size #[.int .i64 a,.int .i64 b],btT HK.out.toBtOk (.pointer (some q)) (bputL L x0 x1 x2 x3),sT g (bputL L x0 x1 x2 x3),blkT wr.heap.size #[.int .i64 x0,.int .i64 x1,.int .i64 x2,.int .i64 x3]] out (lineL (bputL L x0 x1 x2 x3) t) (S 39) (S 42) (S 44) (val 39) (val 42) (val 44) wz from hw0)
    have HZ3:=hid (show Sep w [blkT w.heap.size #[.int .i64 a,.int .i64 b],btT HK.out.toBtOk (.pointer (some q)) (bputL L x0 x1 x2 x3),sT g (bputL L x0 x1 x2 x3)] wz from Sep.take hsep 3)
    clear hw hw0 hsep hS hK
    go_wp2_with fail
    refine ζ2 ?_
    go_wp2_with fail
    go_roundw
    case rel=>exact⟨k+1,_,by go_num,by omega,HG2,hid (by have:=HLE2.out;omega),HZ3⟩
    case measure=>simp [intOf];omega
  ·have HL40:=hid (show L.length≤40 by have:=HLE.out;have:=HN.out;omega)
   obtain⟨out,hout⟩:=seg_ex (valS L t) 1 3652060
   have HOUT:=hid hout
   clear hout
   go_wp2_with fail
   refine(sep_bline HK.out HS.out (i:=1) rfl HG.out (by have:=HL40.out;omega) t HT.out.1 HT.out.2).mono ?_
   rintro e w2 ⟨q2,N2,rfl,hN2,s2⟩
   have HS2:=hid (show Sep w [blkT w.heap.size #[.int .i64 a,.int .i64 b],btT HK.out.toBtOk (.pointer (some q)) L,sT g L,tlT HK.out.tl (.pointer (some q2)) N2 (valS L t)] w2 from s2)
   clear s2
   go_wp2_with fail
   refine(all11_any _).mono ?_
   rintro e w3 ⟨rfl,b3⟩
   have HS3:=hid (HS2.out.keep b3)
   clear b3
   go_wp2_with fail
   refine(seb_tsegs HKT.out HS3.out (i:=3) rfl (by omega) 1 3652060).mono ?_
   rintro e w4 ⟨o4,A4,n4,c4,rfl,hg4,r4,b4⟩
   obtain rfl:o4=out:=ζ48 hg4 HOUT.out
   have HS4:=hid (HS3.out.keep b4)
   have HR4:=hid (show Itm w4 A4 n4 c4 o4 from ζv r4)
   clear b4 r4 hg4
   go_wp2_with fail
   refine(sep_sline HS4.out (i:=2) rfl HG.out (by have:=HL40.out;omega) t).mono ?_
   rintro e w5 ⟨g5,rfl,b5,s5⟩
   have HS5:=hid (show Sep w [blkT w.heap.size #[.int .i64 a,.int .i64 b],btT HK.out.toBtOk (.pointer (some q)) L,sT g L,tlT HK.out.tl (.pointer (some q2)) N2 (valS L t),dT g5 (lineL L t)] w5 from s5)
   have HR5:=hid (HR4.out.keep b5)
   clear s5 b5
   go_wp2_with fail
   refine(all11_any _).mono ?_
   rintro e w6 ⟨rfl,b6⟩
   have HS6:=hid (HS5.out.keep b6)
   have HR6:=hid (HR5.out.keep b6)
   clear b6
   go_wp2_with fail
   refine(sep_dsegs HS6.out (i:=4) rfl (by have:=ζ3x L t;have:=HL40.out;omega) 1 3652060).mono ?_
   rintro e w7 ⟨o7,A7,n7,c7,rfl,hg7,r7,b7⟩
   obtain rfl:o7=o4:=ζ48 hg7 HOUT.out
   have HS7:=hid (HS6.out.keep b7)
   have HR7:=hid (HR6.out.keep b7)
   have HQ7:=hid (show Itm w7 A7 n7 c7 o7 from ζv r7)
   clear b7 r7 hg7
   go_wp2_with fail
   refine(btsame_yes HR7.out HQ7.out (by have:=ζ49 HOUT.out;omega)).mono ?_
   rintro e w8 ⟨rfl,b8⟩
   have HB8:=hid ((HS7.out.keep b8).bl)
   clear b8
   go_wp2_with fail
   refine(ζ54 HK.out _).mono ?_
   rintro e w9 ⟨rfl,b9⟩
   have HB9:=hid (HB8.out.trans (b9.mono HB8.out.size))
   clear b9
   go_wp2_with fail
   go_ret
   exact⟨rfl,HB9.out⟩
theorem btplays_any {RL:RepL} {RB:RepB}(K:BtK RL RB)(KT:TlB RL)(A:Option Addr)(N c:Nat)(l:ClL)(t day a b:Int)(w:World)(Rl:Cls w A N c l)(ol:okC13 l)(t1: -9223372036854775808≤t)(t2:t≤9223372036854775807)(u1: -9223372036854775808≤day)(u2:day≤9223372036854775807):Calls Tryz.prog 3 #[.slice A N c,.int .i64 t,.int .i64 day,.agg #[.int .i64 a,.int .i64 b]] w fun e w'=>e= .returned (.bool true)∧Below w.heap.size w w':=by
 by_cases h:N≤40
 ·exact btplays_main K KT A N c l t day a b w Rl ol t1 t2 u1 u2 h
 ·exact btplays_long K KT A N c l t day a b w Rl ol t1 t2 u1 u2 h
end Go.Proofs.YthagdonmijhpdaaGreat
