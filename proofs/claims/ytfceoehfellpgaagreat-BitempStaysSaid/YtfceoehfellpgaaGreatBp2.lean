/- Contracts of package bitemp: same, until, add. -/
import Derived.Test.YtfceoehfellpgaaGreatBpMem
import Derived.Test.YtfceoehfellpgaaGreatRelVal
import Derived.BigQuiet
import Derived.Defers
import Derived.Recover
import Derived.Deep.RegionWith
open Go.Lib (hid)
set_option linter.unusedSimpArgs false
set_option linter.unusedVariables false
set_option maxRecDepth 8000
namespace Corr
open Go Go.RowKit
def opnB (tq:Int)(x:It):Bool:=decide (0<numP x.2.2) && decide (sinP x.2.2≤tq)
def opnY (out:ItL)(tq:Int):List Rn:=(out.filter (opnB tq)).map fun x=>rectI x 0
theorem opnY_yes {out:ItL} {tq:Int} {k:Nat} {x:It}(hx:out[k]? =some x)(h:opnB tq x=true):opnY (out.take (k+1)) tq=opnY (out.take k) tq++ [rectI x 0]:=by
 unfold opnY;rw [List.take_add_one,hx,List.filter_append,List.map_append];simp [h]
theorem opnY_no {out:ItL} {tq:Int} {k:Nat} {x:It}(hx:out[k]? =some x)(h:opnB tq x=false):opnY (out.take (k+1)) tq=opnY (out.take k) tq:=by
 unfold opnY;rw [List.take_add_one,hx,List.filter_append,List.map_append];simp [h]
def inY (frm tq:Int)(r:Rn):Bool:=decide (r.s≤tq) && decide (frm<r.u)
def itY (c:Ck)(frm tq:Int)(y:It):List Rn:=match c.rs[y.2.2.toNat]? with
 | some r=>if inY frm tq r=true then [r]else []
 | none=> []
def ckY (c:Ck)(a b frm tq:Int):List Rn:=(c.l.filter (overB a b)).flatMap (itY c frm tq)
def allY (out:ItL)(cs:List Ck)(a b frm tq:Int):List Rn:=opnY out tq++cs.flatMap fun c=>ckY c a b frm tq
theorem okCk0.item {c:Ck}(h:okCk0 c) {y:It}(hy:y∈c.l): ∃i r,y.2.2=((i:Nat):Int)∧c.rs[i]? =some r∧y=(r.a,r.b,(i:Int)):=by
 obtain⟨i,r,h1,rfl⟩:=(h.mem y).1 hy
 exact⟨i,r,rfl,h1,rfl⟩
theorem itY_at {c:Ck} {frm tq:Int} {i:Nat} {r:Rn} {a b:Int}(h:c.rs[i]? =some r):itY c frm tq (a,b,(i:Int))=if inY frm tq r=true then [r]else []:=by
 unfold itY;simp only [Int.toNat_natCast];rw [h]
theorem ckY_skip {c:Ck}(h:okCk0 c) {a b frm tq:Int}(hs:tq<c.s0∨∀r∈c.rs,r.u≤frm):ckY c a b frm tq= []:=by
 unfold ckY
 rw [List.flatMap_eq_nil_iff]
 intro y hy
 obtain⟨i,r,_,h1,rfl⟩:=h.item (List.mem_filter.1 hy).1
 rw [itY_at h1,if_neg]
 have hr:=List.mem_of_getElem? h1
 unfold inY
 intro e
 simp at e
 rcases hs with hs | hs
 ·have:=h.low r hr;omega
 ·have:=hs r hr;omega
theorem ζ3k {c:Ck}(h:okCk0 c) {a b frm tq:Int} {r:Rn} :r∈ckY c a b frm tq↔r∈c.rs∧a<b∧r.a<b∧a<r.b∧r.s≤tq∧frm<r.u:=by
 unfold ckY
 rw [List.mem_flatMap]
 constructor
 ·rintro⟨y,hy,hr⟩
  obtain⟨h1,h2⟩:=List.mem_filter.1 hy
  obtain⟨i,q,_,h3,rfl⟩:=h.item h1
  rw [itY_at h3]at hr
  split at hr
  ·rename_i hin
   obtain rfl:r=q:=by simpa using hr
   unfold inY at hin
   simp at hin
   have h4:=over_iff.1 h2
   exact⟨List.mem_of_getElem? h3,h4.1,h4.2.1,h4.2.2,hin.1,hin.2⟩
  ·cases hr
 ·rintro⟨h1,h2,h3,h4,h5,h6⟩
  obtain⟨i,hi⟩:=List.mem_iff_getElem?.1 h1
  refine⟨(r.a,r.b,(i:Int)),List.mem_filter.2 ⟨(h.mem _).2 ⟨i,r,hi,rfl⟩,over_iff.2 ⟨h2,h3,h4⟩⟩,?_⟩
  rw [itY_at hi,if_pos (by unfold inY;simp;exact⟨h5,h6⟩)]
  exact List.mem_singleton.2 rfl
theorem opnY_mem {out:ItL} {tq:Int} {r:Rn} :r∈opnY out tq↔∃x∈out,0<numP x.2.2∧sinP x.2.2≤tq∧r=rectI x 0:=by
 unfold opnY
 rw [List.mem_map]
 constructor
 ·rintro⟨x,hx,rfl⟩
  obtain⟨h1,h2⟩:=List.mem_filter.1 hx
  unfold opnB at h2
  simp at h2
  exact⟨x,h1,h2.1,h2.2,rfl⟩
 ·rintro⟨x,h1,h2,h3,rfl⟩
  exact⟨x,List.mem_filter.2 ⟨h1,by unfold opnB;simp;exact⟨h2,h3⟩⟩,rfl⟩
end Corr
namespace Corr
open Go Go.RowKit
theorem ζ1p {W:World} {B n c k:Nat} {T:TypeId} {A:Option Addr} {L:List Rn}(h:W.ownsRow B T 6 (.slice A n c) n (ζa L))(hk:k<n): ∃g x,A=some ⟨g,0,none⟩∧L[k]? =some x∧W.cell? ⟨g,k*6,none⟩=some (.int .i64 x.a)∧W.cell? ⟨g,k*6+1,none⟩=some (.int .i64 x.b)∧W.cell? ⟨g,k*6+2,none⟩=some (.int .i64 x.s)∧W.cell? ⟨g,k*6+3,none⟩=some (.int .i64 x.u)∧W.cell? ⟨g,k*6+4,none⟩=some (.int .i64 x.v)∧W.cell? ⟨g,k*6+5,none⟩=some (.int .i64 x.m):=by
 have hl:L.length=n:=by have:=h.1;rw [ζ1i]at this;omega
 rcases Joins.ownsRow_forms h with⟨_,h0⟩ | ⟨g,d,hv⟩
 ·omega
 ·injection hv with e1 _ e3
  subst e1 e3
  have hx:L[k]? =some (L[k]'(by omega)):=List.getElem?_eq_getElem (by omega)
  have h3:=cells6_at hx
  exact⟨g,_,rfl,hx,by rw [h.cellAt _ (by omega)];exact h3.1,by rw [h.cellAt _ (by omega)];exact h3.2.1,by rw [h.cellAt _ (by omega)];exact h3.2.2.1,by rw [h.cellAt _ (by omega)];exact h3.2.2.2.1,by rw [h.cellAt _ (by omega)];exact h3.2.2.2.2.1,by rw [h.cellAt _ (by omega)];exact h3.2.2.2.2.2⟩
theorem ζ14 {W:World} {B n c:Nat} {T:TypeId} {A:Option Addr} {L:List Rn}(h:W.ownsRow B T 6 (.slice A n c) n (ζa L)):L.length=n:=by have:=h.1;rw [ζ1i]at this;omega
end Corr
namespace Go.Proofs.YtfceoehfellpgaaGreat
open Go.RowKit Corr
theorem rectof_any (a b N s v u:Int)(w:World):Calls Tryz.prog 69 #[.agg #[.int .i64 a,.int .i64 b,.int .i64 N,.int .i64 s,.int .i64 v],.int .i64 u] w fun e w'=>e= .returned (.agg #[.int .i64 a,.int .i64 b,.int .i64 s,.int .i64 u,.int .i64 v,.int .i64 N])∧Below w.heap.size w w':=by
 have hX:=(Blk.new w #[.int .i64 a,.int .i64 b,.int .i64 N,.int .i64 s,.int .i64 v] 128).alloc (.cells #[.int .i64 0,.int .i64 0,.int .i64 0,.int .i64 0,.int .i64 0,.int .i64 0] 86)
 have HR:=hid (Blk.new (w.alloc (.cells #[.int .i64 a,.int .i64 b,.int .i64 N,.int .i64 s,.int .i64 v] 128)) #[.int .i64 a,.int .i64 b,.int .i64 s,.int .i64 u,.int .i64 v,.int .i64 N] 86)
 have HB:=hid (Joins.below_alloc2 w (.cells #[.int .i64 a,.int .i64 b,.int .i64 N,.int .i64 s,.int .i64 v] 128) (.cells #[.int .i64 a,.int .i64 b,.int .i64 s,.int .i64 u,.int .i64 v,.int .i64 N] 86))
 simp only [ζg]at HR
 have x0:=hX.get 0 rfl
 have x1:=hX.get 1 rfl
 have x2:=hX.get 2 rfl
 have x3:=hX.get 3 rfl
 have x4:=hX.get 4 rfl
 clear hX
 go_enter Tryz.func69,Tryz.ntmps69
 go_wp2_with fail
 have r0:=HR.out.get 0 rfl
 have r1:=HR.out.get 1 rfl
 have r2:=HR.out.get 2 rfl
 have r3:=HR.out.get 3 rfl
 have r4:=HR.out.get 4 rfl
 have r5:=HR.out.get 5 rfl
 refine bodyPost_ret (v:= .agg #[.int .i64 a,.int .i64 b,.int .i64 s,.int .i64 u,.int .i64 v,.int .i64 N]) (by simp [results,Tryz.results69,go_sem,r0,r1,r2,r3,r4,r5]) rfl ⟨rfl,HB.out⟩
theorem one_any (d:Int)(w:World):Calls Tryz.prog 37 #[.int .i64 d] w fun e w'=>e= .returned (.agg #[.int .i64 d,.int .i64 (IntKind.i64.wrap (d+1))])∧Below w.heap.size w w':=by
 obtain⟨z,hz⟩: ∃z,IntKind.i64.wrap (d+1)=z:=⟨_,rfl⟩
 rw [hz]
 have HR:=hid (Blk.new w #[.int .i64 d,.int .i64 z] 24)
 have HB:=hid ((Below.refl w.heap.size w).alloc (Nat.le_refl _) (.cells #[.int .i64 d,.int .i64 z] 24))
 go_enter Tryz.func37,Tryz.ntmps37
 go_wp2_with fail
 have r0:=HR.out.get 0 rfl
 have r1:=HR.out.get 1 rfl
 refine bodyPost_ret (v:= .agg #[.int .i64 d,.int .i64 z]) (by simp [results,Tryz.results37,go_sem,r0,r1]) rfl ⟨rfl,HB.out⟩
theorem ball_any (w:World):Calls Tryz.prog 42 #[] w fun e w'=>e= .returned (.agg #[.int .i64 1,.int .i64 3652060])∧Below w.heap.size w w':=by
 have HR:=hid (Blk.new w #[.int .i64 1,.int .i64 3652060] 24)
 have HB:=hid ((Below.refl w.heap.size w).alloc (Nat.le_refl _) (.cells #[.int .i64 1,.int .i64 3652060] 24))
 go_enter Tryz.func42,Tryz.ntmps42
 go_wp2_with fail
 have r0:=HR.out.get 0 rfl
 have r1:=HR.out.get 1 rfl
 refine bodyPost_ret (v:= .agg #[.int .i64 1,.int .i64 3652060]) (by simp [results,Tryz.results42,go_sem,r0,r1]) rfl ⟨rfl,HB.out⟩
theorem bmade_yes (g:Nat)(a:Addr)(w:World)(h:w.cell? ⟨g,0,none⟩=some (.pointer (some a))):Calls Tryz.prog 31 #[.pointer (some ⟨g,0,none⟩)] w fun e w'=>e= .returned (.bool true)∧w'=w:=by
 go_enter Tryz.func31,Tryz.ntmps31
 go_wp2_with fail
 go_ret
 exact⟨rfl,rfl⟩
theorem bmade_zero (g:Nat)(w:World)(h:w.cell? ⟨g,0,none⟩=some (.pointer none)):Calls Tryz.prog 31 #[.pointer (some ⟨g,0,none⟩)] w fun e w'=>e= .returned (.bool false)∧w'=w:=by
 go_enter Tryz.func31,Tryz.ntmps31
 go_wp2_with fail
 go_ret
 exact⟨rfl,rfl⟩
theorem bmade_none (w:World):Calls Tryz.prog 31 #[.pointer none] w fun e w'=>e= .returned (.bool false)∧w'=w:=by
 go_enter Tryz.func31,Tryz.ntmps31
 go_wp2_with fail
 go_ret
 exact⟨rfl,rfl⟩
theorem bheld_yes (g:Nat)(a:Addr)(w:World)(h:w.cell? ⟨g,0,none⟩=some (.pointer (some a))):Calls Tryz.prog 35 #[.pointer (some ⟨g,0,none⟩)] w fun e w'=>e= .returned (.pointer (some a))∧w'=w:=by
 go_enter Tryz.func35,Tryz.ntmps35
 go_wp2_with fail
 refine(bmade_yes g a w h).mono ?_
 rintro e w1 ⟨rfl,rfl⟩
 go_wp2_with fail
 go_ret
 exact⟨rfl,rfl⟩
set_option maxHeartbeats 1000000 in
theorem fresh_any {Rep:RepT}(K:TrK Rep)(w:World):Calls Tryz.prog 30 #[] w fun e w'=>∃S F,e= .returned (.pointer (some ⟨S.g,0,none⟩))∧(kpT K.toRepOk 86 134 S).P w' F∧KsOk [] S∧Below w.heap.size w w'∧∀k,F k→w.heap.size≤k:=by
 have HK:=hid K
 go_enter Tryz.func30,Tryz.ntmps30
 go_wp2_with fail
 refine(tpnew_anyq HK.out w).mono ?_
 rintro e w1 ⟨gT,gM,c,Fs,rfl,h1,h2,h3⟩
 have HH1:=hid h1
 have HH2:=hid h2
 have HH3:=hid h3
 clear h1 h2 h3
 go_wp2_with fail
 go_ret
 obtain⟨w2,hw2⟩: ∃w2,w1.alloc (.cells #[.int .i64 0,.int .i64 0,.pointer (some ⟨gT,0,none⟩),.slice none 0 0] 75)=w2:=⟨_,rfl⟩
 rw [hw2]
 have hs:SepF (fun _=>False) w ([]++ [tpTq HK.out.toRepOk (.pointer (some ⟨gT,0,none⟩)) 0 (pcI fun _=>0)]) w1:=(SepF.nil w).add HH2.out (t:=tpTq HK.out.toRepOk (.pointer (some ⟨gT,0,none⟩)) 0 (pcI fun _=>0)) ⟨gT,gM,c,Fs,_,_,rfl,HH1.out,rfl,tr_none,mp_none,fun i hi=>by simp⟩ HH3.out
 have hs2:=hs.push #[.int .i64 0,.int .i64 0,.pointer (some ⟨gT,0,none⟩),.slice none 0 0] 75
 rw [hw2]at hs2
 have hs3:=hs2.addRow (base:=0) (e:=134) (sz:=1) (A:=none) (n:=0) (c:=0) (xs:= []) (World.ownsRow_nil _ _ _ _) (fun k hk=>(by cases hk)) (Below.refl _ _)
 have hs4:=hs3.add (Below.refl _ _) (t:=packT []) (ζ3p w2) (fun k hk=>hk.elim)
 obtain⟨F,h1,h2,h3⟩:=hs4.pack
 exact⟨⟨w1.heap.size,0,0,.pointer (some ⟨gT,0,none⟩),0,fun _=>0,[]⟩,F,rfl,⟨⟨none,0,0⟩,h1⟩,⟨KS.nil,rfl,Nat.le_refl _,fun _ h=>by cases h⟩,h2.below (Nat.le_refl _) (fun k hk=>hk.elim),fun k hk=>(h3 k hk).resolve_left fun h=>h⟩
end Go.Proofs.YtfceoehfellpgaaGreat
namespace Go.Proofs.YtfceoehfellpgaaGreat
open Go.RowKit Corr
theorem bcatch_idle (p:Addr)(w:World):CallsD Tryz.prog 77 #[.pointer (some p)] .returning w fun e u' w'=>e= .returned (.tuple #[])∧u'= .returning∧w'=w:=by
 refine callsD_of_wpS Tryz.func77 rfl fun c₀ cs hu=> ?_
 apply wpS_seq
 apply wpS_region
 simp [wpOpsS,go_sem,recoverD,hu,Tryz.ntmps77,Exit.thenS]
 refine wpS_cond (t:=false) (by simp [Act.eval,Array.replicate]) ?_
 simp only [Bool.false_eq_true,if_false]
 refine wpS_of_wp (wp_skip ?_)
 cases c₀
 simp_all [bodyPostS,results,Tryz.results77]
theorem ζ1a (a b:Int)(w:World):Calls Tryz.prog 48 #[.int .i64 a,.int .i64 b] w fun e w'=>e= .returned (.bool (a == b))∧Below w.heap.size w w':=by
 have hmf: ∀(fn:Fn) (first cap:Array Value) (w:World),(Instr.makeFunc fn first cap).run Tryz.prog w= .ok (.func fn first cap) w:=fun _ _ _ _=>rfl
 have HB:=hid (((Below.refl w.heap.size w).alloc (Nat.le_refl _) (.cells #[.bool (a == b)] 4)))
 go_enter_defers Tryz.func48,Tryz.ntmps48
 go_wp2
 refine leaves_cons (f:=77) (args:= #[.pointer (some ⟨w.heap.size,0,none⟩)]) (by simp) (by simp [go_sem]) ?_
 refine(bcatch_idle ⟨w.heap.size,0,none⟩ _).mono ?_
 rintro e u' w'' ⟨rfl,rfl,rfl⟩
 simp [Leaves,settle,results,Tryz.results48,go_sem]
 exact HB.out
theorem until_any {Rep:RepT}(R:RepOk Rep)(c:Ck)(w:World)(F:Nat→Prop)(H:(ckT R 86 c).P w F)(r:Rn)(hr:c.rs.getLast? =some r)(hq:c.rs.length≤1000):Calls Tryz.prog 73 #[.pointer (some ⟨c.g,0,none⟩)] w fun e w'=>e= .returned (.int .i64 r.u)∧Below w.heap.size w w':=by
 obtain⟨⟨A,n,cap⟩,hp⟩:=H
 have hs:=hp.2
 have hb:Blk w c.g #[.slice A n cap,c.q,.int .i64 c.s0]:=hs.b 0 rfl
 have ho:w.ownsRow 0 86 6 (.slice A n cap) n (ζa c.rs):=hs.row 1 rfl
 have hl:=ζ14 ho
 have hn:0<n:=by
  cases h:c.rs with
  | nil=>rw [h]at hr;cases hr
  | cons x l=>rw [h]at hl;simp at hl;omega
 obtain⟨j,rfl⟩: ∃j,n=j+1:=⟨n-1,by omega⟩
 rw [List.getLast?_eq_getElem?,hl,Nat.add_sub_cancel]at hr
 obtain⟨g,x,rfl,hx,k0,k1,k2,k3,k4,k5⟩:=ζ1p ho (k:=j) (by omega)
 obtain rfl:=Option.some.inj (hx.symm.trans hr)
 have b0:=hb.get 0 rfl
 have hj:j≤1000:=by omega
 clear hq hs hb ho hl hn hx hr k0 k1 k2 k4 k5 hp
 go_enter Tryz.func73,Tryz.ntmps73
 go_upto_region 1 with fail
 go_quiet (fail)
 go_wp2_with fail
 go_ret
 exact⟨rfl,Joins.below_draws _ _ _⟩
end Go.Proofs.YtfceoehfellpgaaGreat
