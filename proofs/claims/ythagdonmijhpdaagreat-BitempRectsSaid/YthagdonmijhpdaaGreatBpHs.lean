/- Contract of package bitemp -/
import Derived.Test.YthagdonmijhpdaaGreatBpG
import Derived.Test.YthagdonmijhpdaaGreatBp2
import Derived.Test.YthagdonmijhpdaaGreatRf4
import Derived.Test.YthagdonmijhpdaaGreatBpSg
import Derived.Test.YthagdonmijhpdaaGreatBpHd
open Go.Lib (hid)
set_option linter.unusedSimpArgs false
set_option linter.unusedVariables false
set_option maxHeartbeats 2000000
set_option maxRecDepth 8000
namespace Corr
open Go Go.RowKit
theorem Sep.grew3 {w0 w w1:World} {ts:List Thing}(h:Sep w0 ts w)(i:Nat) {base:Nat} {e:TypeId} {sz:Nat} {A:Option Addr} {n c:Nat} {xs:List Value}(hi:ts[i]? =some (rowT base e sz A n c xs)) {A':Option Addr} {n' c':Nat} {ys:List Value}(o:w1.ownsRow base e sz (.slice A' n' c') n' ys)(hg:w.grownBy w1 (Value.slice A n c).ownBlock)(hat: ∀k,(Value.slice A' n' c').ownBlock=some k→(Value.slice A n c).ownBlock=some k∨w.heap.size≤k):Sep w0 (ts.set i (rowT base e sz A' n' c' ys)) w1:=by
 obtain⟨F,hp,_,hu⟩:=h.get hi
 exact hu w1 (fun k=>(Value.slice A' n' c').ownBlock=some k) (rowT base e sz A' n' c' ys) ((Off.grown (v:= .slice A n c) hg).mono fun k _ hk=>(hp.2 k).2 hk) ⟨o,fun _=>Iff.rfl⟩ fun k hk=>(hat k hk).imp_left (hp.2 k).2
abbrev verT (T:TypeId)(gl gi:Nat)(A:Option Addr)(n c:Nat)(l:List (Int × Int))(is:Int)(rest:List Thing):List Thing:=blkT gl #[.slice A n c] :: blkT gi #[.int .i64 is] :: rowT 0 T 2 A n c (ζ1q l) :: rest
def VerP (T:TypeId)(w0:World)(gl gi n:Nat)(l:List (Int × Int))(is t v:Int)(rest:List Thing)(e:Ending)(w':World):Prop:=∃A' n' c',e= .returned (.tuple #[])∧n'≤n+1∧Sep w0 (verT T gl gi A' n' c' (layH l is t v) v rest) w'
theorem cells2_one13 (x:Int × Int): ∀u∈ζ1q [x],u.oneCell'=true:=by
 intro u hu
 simp [ζ1q]at hu
 rcases hu with rfl | rfl <;> rfl
end Corr
namespace Go.Proofs.YthagdonmijhpdaaGreat
open Go.RowKit Corr
theorem blay_any (w0 w:World)(rest:List Thing)(gl gi:Nat)(A:Option Addr)(n c:Nat)(l:List (Int × Int))(is t v:Int)(hn:n≤100000)(h:Sep w0 (verT 52 gl gi A n c l is rest) w):
  Calls Tryz.prog 47 #[.int .i64 t,.int .i64 v,.pointer (some ⟨gi,0,none⟩),.pointer (some ⟨gl,0,none⟩)] w (VerP 52 w0 gl gi n l is t v rest):=by
 have HS:=hid h
 have HN:=hid hn
 have i0:=(h.b 1 rfl).get 0 rfl
 clear h hn
 by_cases hv:is=v
 ·have d0:(is == v)=true:=by simpa using hv
  have HE:=hid (show layH l is t v=l by unfold layH;rw [if_pos hv])
  have HV:=hid hv
  clear hv
  go_enter Tryz.func47,Tryz.ntmps47
  go_wp2_with fail
  refine(ζ1f is v _).mono ?_
  rintro e w1 ⟨rfl,hb⟩
  have HS1:=hid (HS.out.keep hb)
  clear hb
  go_wp2_with fail
  refine bodyPost_ret (v:= .tuple #[]) (by simp [results,Tryz.results47,go_sem]) rfl ⟨A,n,c,rfl,Nat.le_succ _,?_⟩
  rw [HE.out,←HV.out]
  exact HS1.out
 ·have d0:(is == v)=false:=by simpa using hv
  have HE:=hid (show layH l is t v=l++ [(t,v)] by unfold layH;rw [if_neg hv])
  clear hv
  go_enter Tryz.func47,Tryz.ntmps47
  go_wp2_with fail
  refine(ζ1f is v _).mono ?_
  rintro e w1 ⟨rfl,hb⟩
  have HS1:=hid (HS.out.keep hb)
  clear hb i0
  have l0:=(HS1.out.b 0 rfl).get 0 rfl
  have HA:=hid ((Below.refl w1.heap.size w1).alloc (Nat.le_refl _) (.cells #[.int .i64 t,.int .i64 v] 52))
  have HCN:=hid (ζ2j w1 (ζ1q [(t,v)]) 52)
  have HS2:=hid (HS1.out.keep HA.out)
  go_wp2_with (at_builtin;refine wpList_app2 rfl _ _ 49 rfl (ζ1q [(t,v)]) elem_ver rfl (HS2.out.row 2 rfl) rfl rfl HCN.out (cells2_one13 _) (by have:=HN.out;omega) (by have:=HN.out;unfold maxLen;omega) (Nat.zero_le _) ?_)
  intro v4 w4 hown4 hg4 hat4
  obtain⟨A4,d4,rfl,_⟩:=Lies.of_own hown4 (by have:=hown4.1;exact this)
  have HS4:=hid (HS2.out.grew3 2 rfl (by rw [←cells2_append]at hown4;exact hown4) hg4 (fun k hk=>(hat4 k hk).imp id fun h=>by simpa using h))
  have y0:=(HS4.out.b 0 rfl).get 0 rfl
  have yf:=(HS4.out.b 0 rfl).f 0
  have HS5:=hid (HS4.out.set 0 rfl 0 (.slice A4 (n+1) d4))
  have z0:=(HS5.out.b 1 rfl).get 0 rfl
  have zf:=(HS5.out.b 1 rfl).f 0
  have HS6:=hid (HS5.out.set 1 rfl 0 (.int .i64 v))
  clear hown4 hg4 hat4 l0
  go_wp2_with fail
  refine bodyPost_ret (v:= .tuple #[]) (by simp [results,Tryz.results47,go_sem]) rfl ⟨A4,n+1,d4,rfl,Nat.le_refl _,?_⟩
  rw [HE.out]
  exact HS6.out
end Go.Proofs.YthagdonmijhpdaaGreat
namespace Corr
open Go Go.RowKit
theorem Sep.addRow2 {w0 w w':World} {ts:List Thing}(h:Sep w0 ts w') {base:Nat} {e:TypeId} {sz:Nat} {A:Option Addr} {n c:Nat} {xs:List Value}(o:w'.ownsRow base e sz (.slice A n c) n xs)(hge: ∀k,(Value.slice A n c).ownBlock=some k→w.heap.size≤k)(hb:Below w.heap.size w w')(hs:Sep w0 ts w):Sep w0 (ts++ [rowT base e sz A n c xs]) w':=
 hs.add hb (t:=rowT base e sz A n c xs) (F:=fun k=>(Value.slice A n c).ownBlock=some k) ⟨o,fun _=>Iff.rfl⟩ hge
theorem own_low6 {W:World} {B n c:Nat} {T:TypeId} {A:Option Addr} {l:List Rn}(h:W.ownsRow B T 6 (.slice A n c) n (ζ8 l)):l.length=n:=ζ1a h
theorem Sep.rowUp {w0 w:World} {ts:List Thing}(h:Sep w0 ts w)(i:Nat) {e:TypeId} {sz:Nat} {A:Option Addr} {n c:Nat} {xs:List Value}(hi:ts[i]? =some (rowT 0 e sz A n c xs)):w.ownsRow w0.heap.size e sz (.slice A n c) n xs:=by
 obtain⟨F,hp,hF,_⟩:=h.get hi
 exact ζ3d hp.1 fun k hk=>hF k ((hp.2 k).2 hk)
theorem ζ3i {α β:Type} {f:α→List β} : ∀ {l:List α},(∀x∈l,(f x).length≤1)→(l.flatMap f).length≤l.length
 | [],_=>Nat.le_refl _
 | x :: l,h=>by
  have h1:=h x List.mem_cons_self
  have h2:=ζ3i (f:=f) fun y hy=>h y (List.mem_cons_of_mem _ hy)
  rw [List.flatMap_cons,List.length_append,List.length_cons];omega
theorem ckY_len {c:Ck}(hc:okCk0 c) {a b frm tq:Int} :(ckY c a b frm tq).length≤c.rs.length:=by
 unfold ckY
 refine Nat.le_trans (ζ3i fun y hy=> ?_) (Nat.le_trans (List.length_filter_le _ _) hc.ll)
 unfold itY
 split
 ·split <;> simp
 ·simp
theorem flat_le {α β γ:Type} {f:α→List β} {g:α→List γ} : ∀ {l:List α},(∀x∈l,(f x).length≤(g x).length)→(l.flatMap f).length≤(l.flatMap g).length
 | [],_=>Nat.le_refl _
 | x :: l,h=>by
  have h1:=h x List.mem_cons_self
  have h2:=flat_le (f:=f) (g:=g) fun y hy=>h y (List.mem_cons_of_mem _ hy)
  rw [List.flatMap_cons,List.flatMap_cons,List.length_append,List.length_append];omega
theorem allY_len {L:ClL} {Sk:Kp}(hk:KsOk L Sk)(hL:L.length≤100) {a b frm tq:Int} {out:ItL}(ho:segF Sk.f a b out):(allY out Sk.cs a b frm tq).length≤30201:=by
 have h1:out.length≤2*L.length+1:=by
  unfold segF at ho
  split at ho
  ·have:=(cov_few hk.ks.endf ho).2
   rw [ζ1z]at this;exact this
  ·rw [ho];exact Nat.zero_le _
 have h2:(opnY out tq).length≤out.length:=by unfold opnY;rw [List.length_map];exact List.length_filter_le _ _
 have h3:=flat_le (l:=Sk.cs) (f:=fun c=>ckY c a b frm tq) (g:=Ck.rs) fun c hc=>ckY_len (hk.ck c hc).tookCk0
 have h4:=hk.ks.len
 unfold allY
 rw [List.length_append]
 omega
theorem day_of {L:ClL} {Sk:Kp}(hk:KsOk L Sk) {d z:Int} {out:ItL}(ho:segF Sk.f d z out)(hz:z=d+1∨(z<d∧3652060<d)) {M:List Rn}(hp:M.Perm (allY out Sk.cs d z 0 Sk.la))(hM:M.Pairwise fun x y=>x.s≤y.s)(hg:goodS L):DayL L d M:=by
 rw [hk.la]at hp
 rcases hz with hz | ⟨h1,h2⟩
 ·refine allY_day hk ho hz ?_ hp hM hg
  by_cases hm:mayB d z=true
  ·exact .inl hm
  ·right
   intro e e1 e2
   refine hk.ks.off e ?_
   have: ¬(1≤d∧d<z∧z≤3652060):=fun h=>hm (mayB_iff.2 h)
   omega
 ·have he:M= []:=by
   cases hM0:M with
   | nil=>rfl
   | cons x r=>
    have:=(ζ4o hk ho x (hp.mem_iff.1 (by rw [hM0];exact List.mem_cons_self))).1
    have h3:=(ζ4o hk ho x (hp.mem_iff.1 (by rw [hM0];exact List.mem_cons_self))).2.1
    omega
  subst he
  exact⟨fun r hr=>absurd hr List.not_mem_nil,fun r hr=>absurd hr List.not_mem_nil,fun t hv _=>absurd (valS_out hk t (by omega)) hv,List.Pairwise.nil⟩
end Corr
namespace Go.Proofs.YthagdonmijhpdaaGreat
open Go.RowKit Corr
set_option maxRecDepth 100000 in
theorem bhist13_any {Rep:RepT}(K:TrK Rep)(w:World)(p:Value)(F:Nat→Prop)(L:ClL)(d:Int)(H:HdB K.toRepOk 86 134 w p F L)(hg:goodS L)(hL:L.length≤100)(hd: -9223372036854775808≤d∧d≤9223372036854775807):
  Calls Tryz.prog 23 #[p,.int .i64 d] w (RetHist 52 w L d):=by
 obtain⟨z,hz⟩: ∃z,IntKind.i64.wrap (d+1)=z:=⟨_,rfl⟩
 have HZD:=hid (show z=d+1∨(z<d∧3652060<d)from by
  by_cases h:d<9223372036854775807
  ·left;rw [←hz];exact IntWalk.i64_in _ (by omega)
  ·right
   obtain rfl:d=9223372036854775807:=by omega
   rw [←hz];decide)
 have HONE:=hid (fun W=>hz▸one_any d W)
 have HH:=hid (ζ37 K w p F L H)
 clear H
 go_enter Tryz.func23,Tryz.ntmps23
 go_wp2_with fail
 refine HH.out.mono ?_
 rintro e w0 ⟨Sk,Fk,rfl,hkp,hk,hb0,_⟩
 have HLT:=hid (show ∀k,Fk k→k<w0.heap.size from fun k hk=>(kpT K.toRepOk 86 134 Sk).lt hkp k hk)
 have HB0:=hid hb0
 obtain⟨out,hout⟩:=seg_ex Sk.f d z
 have HOUT:=hid hout
 have HLEN0:=hid (allY_len (frm:=0) (tq:=Sk.la) hk hL hout)
 have HLEN:=hid (show (allY out Sk.cs d z 0 Sk.la).length≤1000000 from by have:=HLEN0.out;omega)
 have HWK:=hid (KsOk.walk hk hL)
 have HDL:=hid (fun(M:List Rn) (h1:M.Perm (allY out Sk.cs d z 0 Sk.la)) (h2:M.Pairwise fun x y=>x.s≤y.s)=>day_hist hg (day_of hk hout HZD.out h1 h2 hg))
 have hs1:=((Sep.nil w0).push #[.slice none 0 0] 49).push #[.int .i64 0] 3
 obtain⟨w1,hw1⟩: ∃w1,(w0.alloc (.cells #[.slice none 0 0] 49)).alloc (.cells #[.int .i64 0] 3)=w1:=⟨_,rfl⟩
 obtain⟨gl,hgl⟩: ∃k,w0.heap.size=k:=⟨_,rfl⟩
 obtain⟨gi,hgi⟩: ∃k,(w0.alloc (.cells #[.slice none 0 0] 49)).heap.size=k:=⟨_,rfl⟩
 have HGI:=hid (show gi=gl+1 from by rw [←hgi,←hgl];simp)
 rw [hw1,hgl,hgi]at hs1
 have HB1:=hid hs1.bl
 have HS1:=hid (show Sep w0 (verT 52 gl gi none 0 0 [] 0 []) w1 from hs1.addRow (World.ownsRow_nil w1 0 52 2) (fun k hk=>by cases hk) (Below.refl _ _))
 have HK1:=hid (kpT.keepB hkp HB1.out)
 have HLT:=hid (show ∀k,Fk k→k<w1.heap.size from fun k hk=>by have:=HLT.out k hk;have:=HB1.out.size;omega)
 obtain⟨Ak,nk,ck,hkb⟩:=kpT.blk HK1.out
 have HKB:=hid hkb
 obtain⟨Q7,hQ7⟩: ∃Q:Value→World→Prop,Q=fun vx wx=>∃lb,vx= .func (.func 72) #[] lb∧SeqOff2 Tryz.prog 72 lb (fun r:Rn=> #[rnV r]) (fun k=>wx.heap.size≤k) (fun ys=>ys=allY out Sk.cs d z 0 Sk.la) (fun pre=>pre <+: allY out Sk.cs d z 0 Sk.la) (allY out Sk.cs d z 0 Sk.la).length wx:=⟨_,rfl⟩
 have HQ7:=hid hQ7
 obtain⟨Q8,hQ8⟩: ∃Q:Value→World→Prop,Q=fun vx wx=>∃A n c m,vx= .slice A n c∧m.Perm (allY out Sk.cs d z 0 Sk.la)∧m.Pairwise (fun s t=>s.s≤t.s)∧wx.ownsRow w1.heap.size 86 6 (.slice A n c) n (ζ8 m):=⟨_,rfl⟩
 have HQ8:=hid hQ8
 have HQK8:=hid (show ∀(v:Value) (w w':World),Q8 v w→Below w.heap.size w w'→Q8 v w' from fun v w w' h hb=>by
  rw [hQ8]at h ⊢
  obtain⟨A,n,c,m,h1,h2,h3,h4⟩:=h
  exact⟨A,n,c,m,h1,h2,h3,ζg h4 hb⟩)
 clear hk hg hL hd hz hkp hb0 hout hs1 hkb hQ7 hQ8
 go_upto_region 5 with fail
 refine ζ3 10 (fun S val wx=>VVs 10 [(· = .pointer (some ⟨Sk.g,0,none⟩)),(· = .int .i64 d),(· = .agg #[.int .i64 d,.int .i64 z]),(· = .pointer (some ⟨Sk.g,0,none⟩)),(· = .pointer (some ⟨Sk.g,0,none⟩)),(· = .pointer (some ⟨Sk.g,0,none⟩)),(· = .int .i64 Sk.la),(fun vv=>∃lb,vv= .func (.func 72) #[] lb),(fun vv=>∃Av nv cv,vv= .slice Av nv cv),(fun vv=>∃Av nv cv,vv= .slice Av nv cv)] S val∧Clo [[],[],[1],[],[3],[4],[5],[0,2,6],[7],[8]] S∧(Below w1.heap.size w1 wx∧(S 7=true→S 8=false→Q7 (val 7) wx)∧(S 8=true→Q8 (val 8) wx)∧(S 9=true→Q8 (val 9) wx))) [0,1,3,4,5,9] (by kernel_rfl) (by kernel_rfl) ⟨VVs.start,Clo.start,⟨(Below.refl _ _).drew,(fun h=>by cases h),(fun h=>by cases h),(fun h=>by cases h)⟩⟩ ⟨?_,?_,?_,?_,?_,?_,?_,?_,?_,?_,trivial⟩ ?_
 ·exact qU [5]
 ·exact qU [1]
 ·refine qC fun ev wv S val hE hV hK hw hS hd=> ?_
  have hwb:=hw.1
  have s7:=hK.no hS 7 [2]
  have s8:=hK.no hS 8 [7,2]
  have s9:=hK.no hS 9 [8,7,2]
  refine qF (f:=37) (args:= #[.int .i64 d]) [] hE hV hd (HONE.out wv) ?_
  rintro e w' ⟨rfl,hb⟩
  exact⟨_,rfl,rfl,⟨Below.trans hw.1 (Below.mono hb hw.1.size),fun h _=>absurd h (by simp [addS,s7]),fun h=>absurd h (by simp [addS,s8]),fun h=>absurd h (by simp [addS,s9])⟩⟩
 ·exact qU [5]
 ·exact qU []
 ·exact qU []
 ·exact qL [] fun hw=>((HKB.out).keep (hw.1)).get 0 rfl
 ·refine qC fun ev wv S val hE hV hK hw hS hd=> ?_
  have hwb:=hw.1
  have s8:=hK.no hS 8 [7]
  have s9:=hK.no hS 9 [8,7]
  refine qF (f:=36) (args:= #[.pointer (some ⟨Sk.g,0,none⟩),.agg #[.int .i64 d,.int .i64 z],.int .i64 0,.int .i64 Sk.la]) [] hE hV hd (ζ4n K Sk Fk d z 0 Sk.la wv (kpT.keepB HK1.out hwb) HWK.out out HOUT.out) ?_
  rintro e w' ⟨lb9,rfl,hb,hseq⟩
  exact⟨_,rfl,(⟨_,rfl⟩),⟨Below.trans hw.1 (Below.mono hb hw.1.size),fun _ _=>(by simpa [addV]using(by rw [HQ7.out];exact⟨lb9,rfl,hseq _ (fun k hk=>hk) (fun k hk e=>by have h1:=HLT.out k hk;have h2:=hwb.size;have h3:=hb.size;have e:w'.heap.size≤k:=e;omega) (fun k h1 h2 e=>by have e:w'.heap.size≤k:=e;omega)⟩)),fun h=>absurd h (by simp [addS,s8]),fun h=>absurd h (by simp [addS,s9])⟩⟩
 ·refine qC fun ev wv S val hE hV hK hw hS hd=> ?_
  obtain⟨lb7,g7⟩:=hV 7 (by decide) (hd 7 (by decide)).1
  have v24:ev (.tmp 24)= .func (.func 72) #[] lb7:=(hd 7 (by decide)).2.trans g7
  have hwb:=hw.1
  have s9:=hK.no hS 9 [8]
  have hl7:=hw.2.1 (hd 7 (by decide)).1 hS
  rw [HQ7.out,g7]at hl7
  obtain⟨lb9,ee,hl7⟩:=hl7
  injection ee with _ _ ee
  subst ee
  refine qF (f:=49) (args:= #[.func (.func 72) #[] lb7,.func (.func 50) #[] #[]]) [] hE hV hd (ζ55 50 (fun r=>r.s) (enters_of Tryz.func50 (by kernel_rfl) rfl) bysince_any 72 lb7 (allY out Sk.cs d z 0 Sk.la) wv ζ2g hl7 HLEN.out) ?_
  rintro e w' ⟨A9,n9,c9,m9,rfl,m1,m2,m3,hb⟩
  exact⟨_,rfl,(⟨_,_,_,rfl⟩),⟨Below.trans hw.1 (Below.mono hb hw.1.size),fun _ h=>absurd h (by simp [addS]),fun _=>(by simpa [addV]using(by rw [HQ8.out];exact⟨A9,n9,c9,m9,rfl,m1,m2,ζ1m m3 hwb.size⟩)),fun h=>absurd h (by simp [addS,s9])⟩⟩
 ·rintro ev wv S val hE ⟨hV,hK,hw⟩ hS hd
  obtain⟨Av8,nv8,cv8,g8⟩:=hV 8 (by decide) (hd 8 (by decide)).1
  have v25:ev (.tmp 25)= .slice Av8 nv8 cv8:=(hd 8 (by decide)).2.trans g8
  refine ifw rfl (ifw rfl ⟨.slice Av8 nv8 cv8,fun w9=> ?_,VVs.add hV ⟨_,_,_,rfl⟩,ζi hK rfl hd,⟨hw.1,fun h h2=>(by simpa [addV]using hw.2.1 (by simpa [addS]using h) (by simpa [addS]using h2)),fun h=>(by simpa [addV]using hw.2.2.1 (by simpa [addS]using h)),fun _=>(by have h9:=hw.2.2.1 (hd 8 (by decide)).1;rw [g8]at h9;simpa [addV]using h9)⟩⟩)
  obtain⟨e1,-,e2,-⟩:=hE;clear hd hw hS hV hK
  show _=Result.ok (Next.value (.slice Av8 nv8 cv8)) w9
  go_simp
 ·rintro S val w9 hS ⟨hV,hK,hw⟩
  have e0:val 0= .pointer (some ⟨Sk.g,0,none⟩):=hV 0 (by decide) (hS 0 (by decide))
  have e1:val 1= .int .i64 d:=hV 1 (by decide) (hS 1 (by decide))
  have e2:val 2= .agg #[.int .i64 d,.int .i64 z]:=hV 2 (by decide) (hS 2 (by decide))
  have e3:val 3= .pointer (some ⟨Sk.g,0,none⟩):=hV 3 (by decide) (hS 3 (by decide))
  obtain⟨lb7,e7⟩:=hV 7 (by decide) (hS 7 (by decide))
  obtain⟨Av8,nv8,cv8,e8⟩:=hV 8 (by decide) (hS 8 (by decide))
  obtain⟨Av9,nv9,cv9,e9⟩:=hV 9 (by decide) (hS 9 (by decide))
  refine finL hV hS ?_
  rintro v0 ⟨h0,-⟩-v1 ⟨h1,-⟩-v2 ⟨h2,-⟩-v3 ⟨h3,-⟩-_ ⟨-,rfl⟩-_ ⟨-,rfl⟩-_ ⟨-,rfl⟩-v7 ⟨h7,-⟩-v8 ⟨h8,-⟩-v9 ⟨h9,-⟩-
  simp only [zA]
  simp only [h0.trans e0,h1.trans e1,h2.trans e2,h3.trans e3,h7.trans e7,h8.trans e8,h9.trans e9]
  clear hV h0 e0 v0 h1 e1 v1 h2 e2 v2 h3 e3 v3 h7 e7 v7 h8 e8 v8 h9 v9
  change wpList Tryz.prog _ _ _ _ w9
  have HBZ:=hid hw.1
  have hq9:=hw.2.2.2 (hS 9 (by decide))
  rw [e9]at hq9
  have HQZ:=hid hq9
  clear hq9
  clear hw hS hK e9 val S
  rw [HQ8.out]at HQZ
  obtain⟨A9,n9,c9,M,ev,s1,s2,s3⟩:=HQZ.out
  injection ev with e1 e2 e3
  subst e1 e2 e3
  have HDAY:=hid (HDL.out M s1 s2)
  have HNM:=hid (ζ1a s3)
  have HML:=hid (show M.length≤31000 from by rw [s1.length_eq];have:=HLEN0.out;omega)
  have HS:=hid (show Sep w0 (verT 52 gl gi none 0 0 [] 0 [rowT 0 86 6 Av9 nv9 cv9 (ζ8 M)]) w9 from(HS1.out.keep HBZ.out).addRow2 (ζ1m s3 (Nat.zero_le _)) (fun k hk=>ζ1c s3 k hk) HBZ.out HS1.out)
  have HLOW:=hid (own_low6 s3)
  clear HQZ HBZ HS1 s1 s2 s3
  refine ζ2 ?_
  go_wp2_with fail
  go_loopw [11,28] (fun u i wr=>∃(k:Nat) (l:List (Int × Int)) (is un:Int) (A:Option Addr) (n c:Nat),u= .int .i64 un∧i= .int .i64 (k:Int)∧k≤nv9∧Hid ((M.take k).foldl stepH ([],0,0)=(l,is,un))∧Hid (n≤2*k)∧Hid (Sep w0 (verT 52 gl gi A n c l is [rowT 0 86 6 Av9 nv9 cv9 (ζ8 M)]) wr)) (fun _ i _=>(nv9-intOf i).toNat)
  case atStart=>exact⟨0,[],0,0,none,0,0,rfl,rfl,Nat.zero_le _,hid rfl,hid (Nat.le_refl _),HS⟩
  case round=>
   obtain⟨k,l,is,un,A,n,c,rfl,rfl,hk,HF,HN,HSR⟩:=hrel
   by_cases hlt:k<nv9
   ·have d0:decide ((k:Int)<(nv9:Int))=true:=decide_eq_true (by omega)
    obtain⟨gr,x,e0,hx,y0,y1,y2,y3,y4,y5⟩:=ζ1x (HSR.out.row 3 rfl) hlt
    subst e0
    have HX:=hid hx
    have HF2:=hid (fold_take stepH ([],0,0) HX.out)
    have HSX:=hid (HSR.out.push #[.int .i64 x.a,.int .i64 x.b,.int .i64 x.s,.int .i64 x.u,.int .i64 x.v,.int .i64 x.m] 86)
    have k0:(0:Int)≤(k:Int):=by omega
    have k1:(k:Int)<(nv9:Int):=by omega
    have k2:((k:Int)).toNat=k:=by omega
    have q1:IntKind.i64.wrap ((k:Int)+1)=((k+1:Nat):Int):=by have:=HML.out;have:=HNM.out;exact(IntWalk.i64_in _ (by omega)).trans (by omega)
    clear hx
    by_cases hu:un<x.s
    ·have d1:decide (x.s > un)=true:=decide_eq_true hu
     have HST:=hid (show (M.take (k+1)).foldl stepH ([],0,0)=(layH (layH l is un 0) 0 x.s x.v,x.v,x.u)from by rw [HF2.out,HF.out];unfold stepH;rw [if_pos hu])
     clear hu
     go_upto_region 11 with fail
     obtain⟨gx,hgx⟩: ∃q,wr.heap.size=q:=⟨_,rfl⟩
     rw [hgx]at HSX ⊢
     clear hgx y0 y1 y2 y3 y4 y5
     generalize wr.alloc (.cells #[.int .i64 x.a,.int .i64 x.b,.int .i64 x.s,.int .i64 x.u,.int .i64 x.v,.int .i64 x.m] 86)=w5 at*
     have HNX:=hid (show n≤2*k from HN.out)
     go_wp2_with fail
     refine(blay_any w0 _ [rowT 0 86 6 (some ⟨gr,0,none⟩) nv9 cv9 (ζ8 M),blkT gx #[.int .i64 x.a,.int .i64 x.b,.int .i64 x.s,.int .i64 x.u,.int .i64 x.v,.int .i64 x.m]] gl gi A n c l is un 0 (by have:=HNX.out;have:=HML.out;have:=HNM.out;omega) HSX.out).mono ?_
     rintro e w7 ⟨A7,n7,c7,rfl,r1,r2⟩
     have R1:=hid r1
     have R2:=hid r2
     have s2:=(r2.b 4 rfl).get 2 rfl
     have s4:=(r2.b 4 rfl).get 4 rfl
     clear r1 r2
     have HNX:=hid (show n7≤2*k+1 from by have:=R1.out;have:=HNX.out;omega)
     go_wp2_with fail
     refine(blay_any w0 _ [rowT 0 86 6 (some ⟨gr,0,none⟩) nv9 cv9 (ζ8 M),blkT gx #[.int .i64 x.a,.int .i64 x.b,.int .i64 x.s,.int .i64 x.u,.int .i64 x.v,.int .i64 x.m]] gl gi _ _ _ (layH l is un 0) 0 x.s x.v (by have:=HNX.out;have:=HML.out;have:=HNM.out;omega) R2.out).mono ?_
     rintro e w8 ⟨A8,n8,c8,rfl,p1,p2⟩
     have P1:=hid p1
     have P2:=hid p2
     have u3:=(p2.b 4 rfl).get 3 rfl
     clear p1 p2
     go_wp2_with fail
     go_roundw
     case rel=>exact⟨k+1,_,_,_,A8,n8,c8,rfl,rfl,by omega,HST,hid (by have:=P1.out;have:=HNX.out;omega),hid (P2.out.take 4)⟩
     case measure=>simp [intOf];omega
    ·have d1:decide (x.s > un)=false:=decide_eq_false hu
     have HST:=hid (show (M.take (k+1)).foldl stepH ([],0,0)=(layH l is x.s x.v,x.v,x.u)from by rw [HF2.out,HF.out];unfold stepH;rw [if_neg hu])
     clear hu
     go_upto_region 12 with fail
     obtain⟨gx,hgx⟩: ∃q,wr.heap.size=q:=⟨_,rfl⟩
     rw [hgx]at HSX ⊢
     clear hgx y0 y1 y2 y3 y4 y5
     generalize wr.alloc (.cells #[.int .i64 x.a,.int .i64 x.b,.int .i64 x.s,.int .i64 x.u,.int .i64 x.v,.int .i64 x.m] 86)=w5 at*
     have HNX:=hid (show n≤2*k+1 from by have:=HN.out;omega)
     have s2:=(HSX.out.b 4 rfl).get 2 rfl
     have s4:=(HSX.out.b 4 rfl).get 4 rfl
     go_wp2_with fail
     refine(blay_any w0 _ [rowT 0 86 6 (some ⟨gr,0,none⟩) nv9 cv9 (ζ8 M),blkT gx #[.int .i64 x.a,.int .i64 x.b,.int .i64 x.s,.int .i64 x.u,.int .i64 x.v,.int .i64 x.m]] gl gi _ _ _ l is x.s x.v (by have:=HNX.out;have:=HML.out;have:=HNM.out;omega) HSX.out).mono ?_
     rintro e w8 ⟨A8,n8,c8,rfl,p1,p2⟩
     have P1:=hid p1
     have P2:=hid p2
     have u3:=(p2.b 4 rfl).get 3 rfl
     clear p1 p2
     go_wp2_with fail
     go_roundw
     case rel=>exact⟨k+1,_,_,_,A8,n8,c8,rfl,rfl,by omega,HST,hid (by have:=P1.out;have:=HNX.out;omega),hid (P2.out.take 4)⟩
     case measure=>simp [intOf];omega
   ·have d0:decide ((k:Int)<(nv9:Int))=false:=decide_eq_false (by omega)
    have HFX:=hid (show M.foldl stepH ([],0,0)=(l,is,un)from by
     have:=HF.out
     rw [List.take_of_length_le (by have:=HNM.out;omega)]at this;exact this)
    by_cases hu:0<un
    ·have d1:decide (un > 0)=true:=decide_eq_true hu
     have HFIN:=hid (show histL L d=layH l is un 0 from by rw [←HDAY.out,HFX.out];unfold lastH;rw [if_pos hu])
     clear hu
     go_wp2_with fail
     refine(blay_any w0 _ [rowT 0 86 6 Av9 nv9 cv9 (ζ8 M)] gl gi A n c l is un 0 (by have:=HN.out;have:=HML.out;have:=HNM.out;omega) HSR.out).mono ?_
     rintro e w7 ⟨A7,n7,c7,rfl,r1,r2⟩
     have R2:=hid r2
     have s0:=(r2.b 0 rfl).get 0 rfl
     clear r1 r2
     go_wp2_with fail
     go_ret
     refine⟨A7,n7,c7,rfl,?_,HB0.out.trans (R2.out.bl.mono HB0.out.size)⟩
     rw [HFIN.out];exact ζ1m (R2.out.rowUp 2 rfl) HB0.out.size
    ·have d1:decide (un > 0)=false:=decide_eq_false hu
     have HFIN:=hid (show histL L d=l from by rw [←HDAY.out,HFX.out];unfold lastH;rw [if_neg hu])
     have s0:=(HSR.out.b 0 rfl).get 0 rfl
     clear hu
     go_wp2_with fail
     go_ret
     refine⟨A,n,c,rfl,?_,HB0.out.trans (HSR.out.bl.mono HB0.out.size)⟩
     rw [HFIN.out];exact ζ1m (HSR.out.rowUp 2 rfl) HB0.out.size
end Go.Proofs.YthagdonmijhpdaaGreat
