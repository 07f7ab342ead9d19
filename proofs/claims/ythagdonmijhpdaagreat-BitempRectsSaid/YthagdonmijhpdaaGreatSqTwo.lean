/- A range over a function whose iterator ranges over another one (SeqOff2). No program's function in this text. -/
import Derived.Test.YthagdonmijhpdaaGreatBp9
import Derived.Test.YthagdonmijhpdaaGreatSqIn
open Go.Lib (hid)
set_option linter.unusedSimpArgs false
set_option linter.unusedVariables false
set_option maxHeartbeats 1000000
set_option maxRecDepth 8000
namespace Go.Proofs.YthagdonmijhpdaaGreat
open Go.RowKit Corr
structure WalkOk (Sk:Kp):Prop where
 ck: ∀c∈Sk.cs,okCk c
 up: ∀c∈Sk.cs,c.rs.Pairwise fun x r=>x.u≤r.u
 rs: ∀c∈Sk.cs,∀r∈c.rs,1≤r.a∧r.a<r.b
 off:offF Sk.f
 nb:Sk.nb≤1000
 cl:Sk.cs.length≤100000
theorem ζ2g: ∀args w,(callFunc 72 args).run Tryz.prog w= .ok (.enter 72 args) w:=enters_of Tryz.func72 (by kernel_rfl) rfl
theorem ζ4n {Rep:RepT}(K:TrK Rep)(Sk:Kp)(F:Nat→Prop)(a b frm tq:Int)(w:World)(H:(kpT K.toRepOk 86 134 Sk).P w F)(hok:WalkOk Sk)(out:ItL)(hout:segF Sk.f a b out):
  Calls Tryz.prog 36 #[.pointer (some ⟨Sk.g,0,none⟩),.agg #[.int .i64 a,.int .i64 b],.int .i64 frm,.int .i64 tq] w fun e w'=>∃lb:Array Value,
   e= .returned (.func (.func 72) #[] lb)∧Below w.heap.size w w'∧
   ∀Z:Nat→Prop,(∀k,w'.heap.size≤k→Z k)→(∀k,F k→¬Z k)→(∀k,w.heap.size≤k→k<w'.heap.size→¬Z k)→SeqOff2 Tryz.prog 72 lb (fun r:Rn=> #[rnV r]) Z (fun ys=>ys=allY out Sk.cs a b frm tq) (fun pre=>pre <+: allY out Sk.cs a b frm tq) (allY out Sk.cs a b frm tq).length w':=by
 have h1:=(((Blk.new w #[.pointer (some ⟨Sk.g,0,none⟩)] 64).alloc (.cells #[.int .i64 a,.int .i64 b] 24)).alloc (.cells #[.int .i64 frm] 3)).alloc (.cells #[.int .i64 tq] 3)
 have h2:=((Blk.new (w.alloc (.cells #[.pointer (some ⟨Sk.g,0,none⟩)] 64)) #[.int .i64 a,.int .i64 b] 24).alloc (.cells #[.int .i64 frm] 3)).alloc (.cells #[.int .i64 tq] 3)
 have h3:=(Blk.new ((w.alloc (.cells #[.pointer (some ⟨Sk.g,0,none⟩)] 64)).alloc (.cells #[.int .i64 a,.int .i64 b] 24)) #[.int .i64 frm] 3).alloc (.cells #[.int .i64 tq] 3)
 have h4:=Blk.new (((w.alloc (.cells #[.pointer (some ⟨Sk.g,0,none⟩)] 64)).alloc (.cells #[.int .i64 a,.int .i64 b] 24)).alloc (.cells #[.int .i64 frm] 3)) #[.int .i64 tq] 3
 have hb0:=Joins.below_alloc3 w (.cells #[.pointer (some ⟨Sk.g,0,none⟩)] 64) (.cells #[.int .i64 a,.int .i64 b] 24) (.cells #[.int .i64 frm] 3)
 have hb:=hb0.alloc hb0.size (.cells #[.int .i64 tq] 3)
 simp only [ζd]at h1 h2 h3 h4
 have H1:=hid h1
 have H2:=hid h2
 have H3:=hid h3
 have H4:=hid h4
 have HB:=hid hb
 have HH:=hid H
 have HOK:=hid hok
 have HOUT:=hid hout
 clear h1 h2 h3 h4 hb hb0 H hok hout
 go_enter Tryz.func36,Tryz.ntmps36
 go_wp2_with fail
 refine bodyPost_ret (results_tmp rfl _ _ _) rfl ⟨_,rfl,HB.out,fun Z z1 z2 z3=> ?_⟩
 have hs: ∀j,j<4→¬Z (w.heap.size+j):=fun j hj=>z3 _ (by omega) (by simp;omega)
 exact rects_off K Sk F _ _ _ _ a b tq frm Z _ (kpT.keepB HH.out HB.out) HOK.out.ck HOK.out.up HOK.out.rs HOK.out.off HOK.out.nb HOK.out.cl z2 (hs 0 (by decide)) (hs 1 (by decide)) (hs 3 (by decide)) (hs 2 (by decide)) z1 H1.out H2.out H4.out H3.out out HOUT.out _ rfl
end Go.Proofs.YthagdonmijhpdaaGreat
namespace Corr
open Go Go.RowKit
def ownPostI {α:Type}(B:Nat)(Kp:World→World→Prop)(I:List α→World→Prop)(Ix:Code→List α→World→Prop)(xs:List α)(W:World):Exit→Act→World→Prop
 | .normal,_,W'=>Keeps2 B W W'∧Kp W W'∧I xs W'
 | .ret,_,W'=>Keeps2 B W W'∧Kp W W'∧Ix .ret xs W'
 | .exit id,_,W'=>Keeps2 B W W'∧Kp W W'∧Ix (.exit id) xs W'
 | .goto t,_,W'=>Keeps2 B W W'∧Kp W W'∧Ix (.goto t) xs W'
 | .panic _,_,_=>False
 | .outgrown,_,_=>False
variable {P:Program}
theorem ζ23 {α:Type} {g:Operand} {ps:Array Tmp} {assign body:Code} {Q:Exit→Act→World→Prop} {a:Act} {w:World}
  {gf:Nat} {lb:Array Value} (hg:a.eval g= .func (.func gf) #[] lb) (eg: ∀args w,(callFunc gf args).run P w= .ok (.enter gf args) w)
  {encs:α→Array Value} {Z:Nat→Prop} {S Sp:List α→Prop} {N:Nat} (hZ: ∀k,w.heap.size≤k→Z k) (hseq:SeqOff2 P gf lb encs Z S Sp N w) (hps: ∀x,(encs x).size=ps.size)
  (I:(Nat→Prop)→List α→World→Prop) (Ix:Code→(Nat→Prop)→List α→World→Prop) (hI: ∀G pre W W',I G pre W→Off G W W'→I (madeG G W W') pre W') (hIo: ∀G,AbObj w.heap.size (I G)) (hIx: ∀c G,AbObj w.heap.size (Ix c G)) (hX: ∀c G pre W W',Ix c G pre W→Off G W W'→Ix c (madeG G W W') pre W')
  (h0: ∀W,Below w.heap.size w W→I (fun _=>False) [] W) (Ax:(Nat→Prop)→List α→α→Act→World→Prop) (hAx: ∀G pre x a',AbObj w.heap.size (fun(_:Unit) W=>Ax G pre x a' W))
  (hassign: ∀(l:Nat) (G:Nat→Prop) (pre:List α) (x:α) (W:World) (K:Act→World→Prop),w.heap.size+2≤W.heap.size→I G pre W→(∀a' W',Keeps2 w.heap.size W W'→KpOff Z G W W'→I G pre W'→Ax G pre x a' W'→K a' W')→
   assign.wpIn (Fence.wide.inRound l) 1 P (Exit.then K (fun _ _ _=>False)) { tmps:=(ps.zip (encs x)).foldl (fun t (p,v)=>t.setIfInBounds p v) a.tmps,defers:= [] } W)
  (hbody: ∀(l:Nat) (G:Nat→Prop) (pre:List α) (x:α) (a':Act) (W:World),w.heap.size≤l→w.heap.size+2≤W.heap.size→I G pre W→Ax G pre x a' W→pre.length<N→Sp (pre++ [x])→body.wpIn (Fence.wide.inRound l) 1 P (ownPostI w.heap.size (KpOff Z G) (I G) (fun c=>Ix c G) (pre++ [x]) W) a' W)
  (hdone: ∀(D:Nat) (G:Nat→Prop) (xs:List α) (W:World),w.heap.size=D→S xs→I G xs W→W.heap[D]? =some (.deferred (some []))→Q .normal { a with defers:=markD D :: a.defers } W)
  (hstop: ∀(D:Nat) (c:Code) (G:Nat→Prop) (pre:List α) (W:World),w.heap.size=D→Sp pre→Ix c G pre W→W.heap[D]? =some (.deferred (some []))→c.wp P Q { a with defers:=markD D :: a.defers } W):
  (Code.rangeFunc g ps assign body).wp P Q a w:=by
 refine wpIn_wide.1 (wpIn_rangeFunc (F:=Fence.wide) (n:=3) fun fn hfn=> ?_)
 obtain⟨D,hD⟩: ∃D,w.heap.size=D:=⟨_,rfl⟩
 rw [hD]at h0 hIo hIx hAx hassign hbody hdone hstop hZ
 obtain⟨rc,hrc⟩: ∃rc:LoopState→Option Code→Loop,rc=fun st pe=> { state:=st,pending:=pe,fn,tmps:=a.tmps,params:=ps,assign,body,defers:=D }:=⟨_,rfl⟩
 obtain⟨W1,hW1⟩: ∃W1,(w.alloc (.deferred (some []))).alloc (.loop (rc .ready none))=W1:=⟨_,rfl⟩
 have bl:Below w.heap.size w W1:=by rw [←hW1];exact((Below.refl _ w).alloc (Nat.le_refl _) _).alloc (by simp) _
 have sz:W1.heap.size=D+2:=by rw [←hW1];simp [hD]
 have hL:W1.heap[D+1]? =some (.loop (rc .ready none)):=by
  have:=World.alloc_heap_new (w.alloc (.deferred (some []))) (.loop (rc .ready none))
  rw [hW1]at this;simpa [hD]using this
 have hM:W1.heap[D]? =some (.deferred (some [])):=by
  rw [←hW1,←hD];exact(Below.heap_alloc _ _ _ (by simp)).trans (World.alloc_heap_new w _)
 have hI1:I (fun _=>False) [] W1:=h0 _ (by rw [←hD];exact bl)
 refine⟨D+1,[markD D],W1, { target:= .fn (.func gf) lb,args:= #[.func (.yield (D+1)) #[] #[]] },W1,gf,#[.func (.yield (D+1)) #[] #[]]++lb,W1,?_,?_,fun _ _=>trivial,by simp [invoke,go_sem,eg],fun _=>by decide,?_⟩
 ·rw [←hW1,hrc,←hD];exact run_enterLoop_outer _ _ _ _ _
 ·simp only [resolve,hg]
  simp [go_sem]
 refine(hseq (D+1)
  (fun G pre W=>I G pre W∧W.heap[D+1]? =some (.loop (rc .ready none))∧W.heap[D]? =some (.deferred (some []))∧¬G D∧¬G (D+1))
  (fun G pre W=>∃c,Ix c G pre W∧W.heap[D+1]? =some (.loop (rc .done (some c)))∧W.heap[D]? =some (.deferred (some []))∧¬G D∧¬G (D+1))
  W1 bl ?grow ?growx ?round ⟨hI1,hL,hM,fun h=>h,fun h=>h⟩).mono ?behind
 case grow=>
  rintro G pre A B ⟨hi,hl,hm,g1,g2⟩ ho
  have q1:=(Array.getElem?_eq_some_iff.1 hl).1
  have q2:=(Array.getElem?_eq_some_iff.1 hm).1
  exact⟨hI _ _ _ _ hi ho,(ho.block _ q1 g2).trans hl,(ho.block _ q2 g1).trans hm,fun h=>h.elim g1 fun h=>by omega,fun h=>h.elim g2 fun h=>by omega⟩
 case growx=>
  rintro G pre A B ⟨c,hi,hl,hm,g1,g2⟩ ho
  have q1:=(Array.getElem?_eq_some_iff.1 hl).1
  have q2:=(Array.getElem?_eq_some_iff.1 hm).1
  exact⟨c,hX _ _ _ _ _ hi ho,(ho.block _ q1 g2).trans hl,(ho.block _ q2 g1).trans hm,fun h=>h.elim g1 fun h=>by omega,fun h=>h.elim g2 fun h=>by omega⟩
 case round=>
  rintro G pre x W ⟨hi,hl,hm,g1,g2⟩ hlen hsp
  have hsz:D+2≤W.heap.size:=(Array.getElem?_eq_some_iff.1 hl).1
  have hy:=run_yield (P:=P) (args:=encs x) hl (by rw [hrc];exact hps x)
  rw [hrc]at hy
  refine⟨fn,_,assign,body,hy,roundIn_of_wpIn hfn (hassign _ G pre x W _ hsz hi ?_)⟩
  intro a' V hk1 hp1 hi1 hax
  have hlV:=hk1.same _ _ (.inr rfl) hl rfl
  have hmV:=hk1.same _ _ (.inl rfl) hm rfl
  refine⟨_,run_beginRound hlV (by rw [hrc]),?_⟩
  have hbusy:(V.putObj (D+1) (.loop { rc .ready none with state:= .busy })).heap[D+1]? =some (.loop { rc .ready none with state:= .busy }):=World.putObj_heap_same (Array.getElem?_eq_some_iff.1 hlV).1
  have hmB:(V.putObj (D+1) (.loop { rc .ready none with state:= .busy })).heap[D]? =some (.deferred (some [])):=(World.putObj_heap_other (by omega)).trans hmV
  have hp2:KpOff Z G V (V.putObj (D+1) (.loop { rc .ready none with state:= .busy })):=KpOff.obj _ (hZ _ (by omega)) g2 hlV
  have hszV:D+2≤V.heap.size:=Nat.le_trans hsz hk1.size
  refine wpIn_mono (hbody _ G pre x a' _ (by omega) (by rw [World.putObj_size];exact hszV) (hIo _ _ _ _ _ _ hi1 (by omega) (by omega) hlV rfl) (hAx G pre x a' () _ _ _ _ hax (by omega) (by omega) hlV rfl) hlen hsp) ?_
  have fin: ∀(jump:Option Code) (V9:World),Keeps2 D (V.putObj (D+1) (.loop { rc .ready none with state:= .busy })) V9→
    ∃Y,(Instr.endRound (D+1) jump).run P V9= .ok (.bool jump.isNone) Y∧V9.heap[D+1]? =some (.loop { rc .ready none with state:= .busy })∧Y=V9.putObj (D+1) (.loop (rc (if jump.isNone then .ready else .done) jump))∧
     Y.heap[D+1]? =some (.loop (rc (if jump.isNone then .ready else .done) jump))∧Y.heap[D]? =some (.deferred (some [])):=fun jump V9 hk=>by
   have hz:=hk.same _ _ (.inr rfl) hbusy rfl
   have hr:=run_endRound (P:=P) jump hz
   rw [hrc]at hr hz ⊢
   exact⟨_,hr,hz,rfl,World.putObj_heap_same (Array.getElem?_eq_some_iff.1 hz).1,(World.putObj_heap_other (by omega)).trans (hk.same _ _ (.inl rfl) hmB rfl)⟩
  have left: ∀(c:Code) (V9:World),Keeps2 D (V.putObj (D+1) (.loop { rc .ready none with state:= .busy })) V9→KpOff Z G (V.putObj (D+1) (.loop { rc .ready none with state:= .busy })) V9→Ix c G (pre++ [x]) V9→
    ∃v Y,(Instr.endRound (D+1) (some c)).run P V9= .ok v Y∧∃bb,Ending.returned v= .returned (.bool bb)∧(bb=true→I G (pre++ [x]) Y∧Y.heap[D+1]? =some (.loop (rc .ready none))∧Y.heap[D]? =some (.deferred (some []))∧¬G D∧¬G (D+1))∧
     (bb=false→∃c,Ix c G (pre++ [x]) Y∧Y.heap[D+1]? =some (.loop (rc .done (some c)))∧Y.heap[D]? =some (.deferred (some []))∧¬G D∧¬G (D+1))∧Off Z W Y∧∀k,G k→Y.heap[k]? =W.heap[k]? :=fun c V9 hk hkp hx=>by
   obtain⟨Y,hr,hz,rfl,h1,h2⟩:=fin (some c) V9 hk
   have hk3:=hp1.trans (hp2.trans (hkp.trans (KpOff.obj (.loop (rc .done (some c))) (hZ _ (by omega)) g2 hz)))
   exact⟨_,_,hr,false,rfl,(fun h=>by cases h),fun _=>⟨c,hIx c G _ _ _ _ _ hx (by omega) (by omega) hz rfl,h1,h2,g1,g2⟩,hk3.1,hk3.2⟩
  intro e a3 V9 hp
  cases e with
  | normal=>
   obtain⟨hk,hkp,hz⟩:=hp
   obtain⟨Y,hr,hb,rfl,h1,h2⟩:=fin none V9 hk
   have hk3:=hp1.trans (hp2.trans (hkp.trans (KpOff.obj (.loop (rc .ready none)) (hZ _ (by omega)) g2 hb)))
   exact⟨_,_,hr,true,rfl,fun _=>⟨hIo _ _ _ _ _ _ hz (by omega) (by omega) hb rfl,h1,h2,g1,g2⟩,(fun h=>by cases h),hk3.1,hk3.2⟩
  | ret=>exact left .ret V9 hp.1 hp.2.1 hp.2.2
  | exit id=>exact left (.exit id) V9 hp.1 hp.2.1 hp.2.2
  | goto t=>exact left (.goto t) V9 hp.1 hp.2.1 hp.2.2
  | panic ch=>exact hp.elim
  | outgrown=>exact hp.elim
 case behind=>
  rintro e W2 ⟨⟨v,rfl⟩,(⟨xs,G,hS,hi,hl,hm,_,_⟩ | ⟨pre,G,hS,c,hi,hl,hm,_,_⟩)⟩
  ·refine⟨none,_,by have:=run_endLoop (P:=P) hl (by rw [hrc];simp);rw [hrc]at this;exact this,hdone _ G xs _ rfl hS (hIo _ _ _ _ _ _ hi (by omega) (by omega) hl rfl) ((World.putObj_heap_other (by omega)).trans hm)⟩
  ·exact⟨some c,_,by have:=run_endLoop (P:=P) hl (by rw [hrc];simp);rw [hrc]at this;exact this,wpIn_wide.2 (hstop _ c G pre _ rfl hS (hIx c G _ _ _ _ _ hi (by omega) (by omega) hl rfl) ((World.putObj_heap_other (by omega)).trans hm))⟩
end Corr
