/- A range over a function inside an iterator -/
import Derived.Test.YthagdonmijhpdaaGreatSeqOff
set_option linter.unusedVariables false
set_option maxHeartbeats 1000000
namespace Corr
open Go Go.RowKit
section
variable {P:Program}
theorem ζ13 {n:Nat} {fn:Func} {tmps:Array Value} {R:Ending→World→Prop} {B:Nat} {w0:World} {Z:Nat→Prop}(hbase: ∀W,Off Z w0 W→LeavesIn Fence.wide n P fn tmps R [] .returning W):
  ∀(Ds:List Nat) (W:World),Marks B Ds W→(∀D∈Ds,Z D)→Off Z w0 W→LeavesInM Fence.wide n P fn tmps R (Ds.map markD) .returning W
 | [],W,_,_,hb=>hbase W hb
 | D :: Ds,W,h,hz,hb=>by
  obtain⟨hB,hD⟩:=h.at_ D List.mem_cons_self
  obtain⟨hn,hnd⟩:=List.nodup_cons.1 h.nd
  refine⟨by simp,.inl ⟨D,_,rfl,run_takeDeferred hD,?_⟩⟩
  refine ζ13 hbase Ds _ ⟨fun E hE=>⟨(h.at_ E (List.mem_cons_of_mem _ hE)).1,?_⟩,hnd⟩ (fun E hE=>hz E (List.mem_cons_of_mem _ hE)) (hb.trans (ζl _ (hz D List.mem_cons_self) hD))
  refine(World.putObj_heap_other (fun e=>hn ?_)).trans ?_
  ·first | exact e▸hE | (rw [e];exact hE) | (rw [←e];exact hE)
  ·exact(h.at_ E (List.mem_cons_of_mem _ hE)).2
end
structure Keeps2 (D:Nat)(W W':World):Prop where
 size:W.heap.size≤W'.heap.size
 same: ∀(k:Nat) (o:Obj),(k=D∨k=D+1)→W.heap[k]? =some o→o.isCells=false→W'.heap[k]? =some o
theorem Keeps2.refl (D:Nat)(W:World):Keeps2 D W W:=⟨Nat.le_refl _,fun _ _ _ h _=>h⟩
theorem Keeps2.trans {D:Nat} {X Y Z:World}(h:Keeps2 D X Y)(k:Keeps2 D Y Z):Keeps2 D X Z:=⟨Nat.le_trans h.size k.size,fun i o hi ho hc=>k.same i o hi (h.same i o hi ho hc) hc⟩
theorem Keeps2.of {D:Nat} {W W':World}(hs:W.heap.size≤W'.heap.size)(h1:W'.heap[D]? =W.heap[D]?)(h2:W'.heap[D+1]? =W.heap[D+1]?):Keeps2 D W W':=⟨hs,fun k o hk ho _=>by
 rcases hk with rfl | rfl
 ·exact h1.trans ho
 ·exact h2.trans ho⟩
def ownPostH {α:Type}(B:Nat)(Kp:World→World→Prop)(I:List α→World→Prop)(Ix:Code→List α→World→Prop)(xs:List α)(W:World):Exit→Act→World→Prop
 | .normal,_,W'=>Keeps2 B W W'∧Kp W W'∧I xs W'
 | .ret,_,W'=>Keeps2 B W W'∧Ix .ret xs W'
 | .exit id,_,W'=>Keeps2 B W W'∧Ix (.exit id) xs W'
 | .goto t,_,W'=>Keeps2 B W W'∧Ix (.goto t) xs W'
 | .panic _,_,_=>False
 | .outgrown,_,_=>False
theorem roundIn_wide {m n:Nat} {P:Program} {l:Nat} {fn:FuncId} {tmps:Array Value} {assign body:Code} {W:World} {R:Ending→World→Prop}(h:RoundIn Fence.wide m P l fn tmps assign body W R):RoundIn Fence.wide n P l fn tmps assign body W R:=by
 exact⟨h.1,fun c cs _=>h.2 c cs (room_wide _)⟩
variable {P:Program}
theorem ζ3u {α:Type} {g:Operand} {ps:Array Tmp} {assign body:Code} {Q:Exit→Act→World→Prop} {a:Act} {w:World}
  {gf:Nat} {lb:Array Value} (hg:a.eval g= .func (.func gf) #[] lb) (eg: ∀args w,(callFunc gf args).run P w= .ok (.enter gf args) w)
  {encs:α→Array Value} {Z:Nat→Prop} {S Sp:List α→Prop} {N:Nat} (hZ: ∀k,w.heap.size≤k→Z k) (hseq:SeqOff P gf lb encs Z S Sp N w) (hps: ∀x,(encs x).size=ps.size)
  (I:(Nat→Prop)→List α→World→Prop) (Ix:Code→List α→World→Prop) (hI: ∀G pre W W',I G pre W→Off G W W'→I (madeG G W W') pre W') (hIo: ∀G,AbObj w.heap.size (I G)) (hIx: ∀c,AbObj w.heap.size (Ix c))
  (h0: ∀W,Below w.heap.size w W→I (fun _=>False) [] W) (Ax:α→Act→World→Prop) (hAx: ∀x a',AbObj w.heap.size (fun(_:Unit) W=>Ax x a' W))
  (hassign: ∀(l:Nat) (G:Nat→Prop) (pre:List α) (x:α) (W:World) (K:Act→World→Prop),w.heap.size+2≤W.heap.size→I G pre W→(∀a' W',Keeps2 w.heap.size W W'→KpOff Z G W W'→I G pre W'→Ax x a' W'→K a' W')→
   assign.wpIn (Fence.wide.inRound l) 1 P (Exit.then K (fun _ _ _=>False)) { tmps:=(ps.zip (encs x)).foldl (fun t (p,v)=>t.setIfInBounds p v) a.tmps,defers:= [] } W)
  (hbody: ∀(l:Nat) (G:Nat→Prop) (pre:List α) (x:α) (a':Act) (W:World),w.heap.size≤l→w.heap.size+2≤W.heap.size→I G pre W→Ax x a' W→pre.length<N→Sp (pre++ [x])→body.wpIn (Fence.wide.inRound l) 1 P (ownPostH w.heap.size (KpOff Z G) (I G) Ix (pre++ [x]) W) a' W)
  (hdone: ∀(D:Nat) (G:Nat→Prop) (xs:List α) (W:World),w.heap.size=D→S xs→I G xs W→W.heap[D]? =some (.deferred (some []))→Q .normal { a with defers:=markD D :: a.defers } W)
  (hstop: ∀(D:Nat) (c:Code) (pre:List α) (W:World),w.heap.size=D→Sp pre→Ix c pre W→W.heap[D]? =some (.deferred (some []))→c.wp P Q { a with defers:=markD D :: a.defers } W):
  (Code.rangeFunc g ps assign body).wp P Q a w:=by
 refine wpIn_wide.1 (wpIn_rangeFunc (F:=Fence.wide) (n:=3) fun fn hfn=> ?_)
 obtain⟨D,hD⟩: ∃D,w.heap.size=D:=⟨_,rfl⟩
 rw [hD]at h0 hIo hIx hAx hassign hbody hdone hstop hZ
 obtain⟨rc,hrc⟩: ∃rc:LoopState→Option Code→Loop,rc=fun st pe=> { state:=st,pending:=pe,fn,tmps:=a.tmps,params:=ps,assign,body,defers:=D }:=⟨_,rfl⟩
 obtain⟨W1,hW1⟩: ∃W1,(w.alloc (.deferred (some []))).alloc (.loop (rc .ready none))=W1:=⟨_,rfl⟩
 have bl:Below w.heap.size w W1:=by rw [←hW1];exact((Below.refl _ w).alloc (Nat.le_refl _) _).alloc (by simp) _
 have sz:W1.heap.size=D+2:=by rw [←hW1];simp [hD]
 have hL:W1.heap[D+1]? =some (.loop (rc .ready none)):=by
  have:=World.alloc_heap_new (w.alloc (.deferred (some []))) (.loop (rc .ready none))
  rw [hW1]at this;simpa [hD]using this
 have hM:W1.heap[D]? =some (.deferred (some [])):=by
  rw [←hW1,←hD];exact(Below.heap_alloc _ _ _ (by simp)).trans (World.alloc_heap_new w _)
 have hI1:I (fun _=>False) [] W1:=h0 _ (by rw [←hD];exact bl)
 refine⟨D+1,[markD D],W1, { target:= .fn (.func gf) lb,args:= #[.func (.yield (D+1)) #[] #[]] },W1,gf,#[.func (.yield (D+1)) #[] #[]]++lb,W1,?_,?_,fun _ _=>trivial,by simp [invoke,go_sem,eg],fun _=>by decide,?_⟩
 ·rw [←hW1,hrc,←hD];exact run_enterLoop_outer _ _ _ _ _
 ·simp only [resolve,hg]
  simp [go_sem]
 refine(hseq (D+1)
  (fun G pre W=>I G pre W∧W.heap[D+1]? =some (.loop (rc .ready none))∧W.heap[D]? =some (.deferred (some []))∧¬G D∧¬G (D+1))
  (fun pre W=>∃c,Ix c pre W∧W.heap[D+1]? =some (.loop (rc .done (some c)))∧W.heap[D]? =some (.deferred (some [])))
  W1 bl ?grow ?round ⟨hI1,hL,hM,fun h=>h,fun h=>h⟩).mono ?behind
 case grow=>
  rintro G pre A B ⟨hi,hl,hm,g1,g2⟩ ho
  have q1:=(Array.getElem?_eq_some_iff.1 hl).1
  have q2:=(Array.getElem?_eq_some_iff.1 hm).1
  exact⟨hI _ _ _ _ hi ho,(ho.block _ q1 g2).trans hl,(ho.block _ q2 g1).trans hm,fun h=>h.elim g1 fun h=>by omega,fun h=>h.elim g2 fun h=>by omega⟩
 case round=>
  rintro G pre x W ⟨hi,hl,hm,g1,g2⟩ hlen hsp
  have hsz:D+2≤W.heap.size:=(Array.getElem?_eq_some_iff.1 hl).1
  have hy:=run_yield (P:=P) (args:=encs x) hl (by rw [hrc];exact hps x)
  rw [hrc]at hy
  refine⟨fn,_,assign,body,hy,roundIn_of_wpIn hfn (hassign _ G pre x W _ hsz hi ?_)⟩
  intro a' V hk1 hp1 hi1 hax
  have hlV:=hk1.same _ _ (.inr rfl) hl rfl
  have hmV:=hk1.same _ _ (.inl rfl) hm rfl
  refine⟨_,run_beginRound hlV (by rw [hrc]),?_⟩
  have hbusy:(V.putObj (D+1) (.loop { rc .ready none with state:= .busy })).heap[D+1]? =some (.loop { rc .ready none with state:= .busy }):=World.putObj_heap_same (Array.getElem?_eq_some_iff.1 hlV).1
  have hmB:(V.putObj (D+1) (.loop { rc .ready none with state:= .busy })).heap[D]? =some (.deferred (some [])):=(World.putObj_heap_other (by omega)).trans hmV
  have hp2:KpOff Z G V (V.putObj (D+1) (.loop { rc .ready none with state:= .busy })):=KpOff.obj _ (hZ _ (by omega)) g2 hlV
  have hszV:D+2≤V.heap.size:=Nat.le_trans hsz hk1.size
  refine wpIn_mono (hbody _ G pre x a' _ (by omega) (by rw [World.putObj_size];exact hszV) (hIo _ _ _ _ _ _ hi1 (by omega) (by omega) hlV rfl) (hAx x a' () _ _ _ _ hax (by omega) (by omega) hlV rfl) hlen hsp) ?_
  have fin: ∀(jump:Option Code) (V9:World),Keeps2 D (V.putObj (D+1) (.loop { rc .ready none with state:= .busy })) V9→
    ∃Y,(Instr.endRound (D+1) jump).run P V9= .ok (.bool jump.isNone) Y∧V9.heap[D+1]? =some (.loop { rc .ready none with state:= .busy })∧Y=V9.putObj (D+1) (.loop (rc (if jump.isNone then .ready else .done) jump))∧
     Y.heap[D+1]? =some (.loop (rc (if jump.isNone then .ready else .done) jump))∧Y.heap[D]? =some (.deferred (some [])):=fun jump V9 hk=>by
   have hz:=hk.same _ _ (.inr rfl) hbusy rfl
   have hr:=run_endRound (P:=P) jump hz
   rw [hrc]at hr hz ⊢
   exact⟨_,hr,hz,rfl,World.putObj_heap_same (Array.getElem?_eq_some_iff.1 hz).1,(World.putObj_heap_other (by omega)).trans (hk.same _ _ (.inl rfl) hmB rfl)⟩
  have left: ∀(c:Code) (V9:World),Keeps2 D (V.putObj (D+1) (.loop { rc .ready none with state:= .busy })) V9→Ix c (pre++ [x]) V9→
    ∃v Y,(Instr.endRound (D+1) (some c)).run P V9= .ok v Y∧((.returned v=Ending.returned (.bool true)∧(I G (pre++ [x]) Y∧Y.heap[D+1]? =some (.loop (rc .ready none))∧Y.heap[D]? =some (.deferred (some []))∧¬G D∧¬G (D+1))∧Off Z W Y∧∀k,G k→Y.heap[k]? =W.heap[k]?)∨
     (.returned v=Ending.returned (.bool false)∧∃c,Ix c (pre++ [x]) Y∧Y.heap[D+1]? =some (.loop (rc .done (some c)))∧Y.heap[D]? =some (.deferred (some [])))):=fun c V9 hk hx=>by
   obtain⟨Y,hr,hz,rfl,h1,h2⟩:=fin (some c) V9 hk
   exact⟨_,_,hr,.inr ⟨rfl,c,hIx c _ _ _ _ _ hx (by omega) (by omega) hz rfl,h1,h2⟩⟩
  intro e a3 V9 hp
  cases e with
  | normal=>
   obtain⟨hk,hkp,hz⟩:=hp
   obtain⟨Y,hr,hb,rfl,h1,h2⟩:=fin none V9 hk
   have hk3:=hp1.trans (hp2.trans (hkp.trans (KpOff.obj (.loop (rc .ready none)) (hZ _ (by omega)) g2 hb)))
   exact⟨_,_,hr,.inl ⟨rfl,⟨hIo _ _ _ _ _ _ hz (by omega) (by omega) hb rfl,h1,h2,g1,g2⟩,hk3.1,hk3.2⟩⟩
  | ret=>exact left .ret V9 hp.1 hp.2
  | exit id=>exact left (.exit id) V9 hp.1 hp.2
  | goto t=>exact left (.goto t) V9 hp.1 hp.2
  | panic ch=>exact hp.elim
  | outgrown=>exact hp.elim
 case behind=>
  rintro e W2 ⟨⟨v,rfl⟩,(⟨xs,G,hS,hi,hl,hm,_,_⟩ | ⟨pre,hS,c,hi,hl,hm⟩)⟩
  ·refine⟨none,_,by have:=run_endLoop (P:=P) hl (by rw [hrc];simp);rw [hrc]at this;exact this,hdone _ G xs _ rfl hS (hIo _ _ _ _ _ _ hi (by omega) (by omega) hl rfl) ((World.putObj_heap_other (by omega)).trans hm)⟩
  ·exact⟨some c,_,by have:=run_endLoop (P:=P) hl (by rw [hrc];simp);rw [hrc]at this;exact this,wpIn_wide.2 (hstop _ c pre _ rfl hS (hIx c _ _ _ _ _ hi (by omega) (by omega) hl rfl) ((World.putObj_heap_other (by omega)).trans hm))⟩
theorem roundIn_in {m n:Nat} {P:Program} {l:Nat} {fn:FuncId} {tmps:Array Value} {assign body:Code} {W:World} {R:Ending→World→Prop}(h:RoundIn Fence.wide m P l fn tmps assign body W R)(k:Nat):RoundIn (Fence.wide.inRound k) n P l fn tmps assign body W R:=⟨h.1,fun c cs _=>h.2 c cs (room_wide _)⟩
def SeqOff2 {α:Type}(P:Program)(g:Nat)(lb:Array Value)(encs:α→Array Value)(Z:Nat→Prop)(S Sp:List α→Prop)(N:Nat)(w:World):Prop:=
 ∀(l:Nat) (J Jx:(Nat→Prop)→List α→World→Prop) (W:World),Below w.heap.size w W→
  (∀G pre W1 W2,J G pre W1→Off G W1 W2→J (madeG G W1 W2) pre W2)→
  (∀G pre W1 W2,Jx G pre W1→Off G W1 W2→Jx (madeG G W1 W2) pre W2)→
  (∀G pre x W1,J G pre W1→pre.length<N→Sp (pre++ [x])→YieldAt Fence.wide 1 P l (encs x) W1 fun e W'=>
   ∃bb,e= .returned (.bool bb)∧(bb=true→J G (pre++ [x]) W')∧(bb=false→Jx G (pre++ [x]) W')∧Off Z W1 W'∧∀k,G k→W'.heap[k]? =W1.heap[k]?)→
  J (fun _=>False) [] W→
  CallsIn Fence.wide 2 P g (#[.func (.yield l) #[] #[]]++lb) W fun e W'=>(∃v,e= .returned v)∧((∃xs G,S xs∧J G xs W')∨(∃pre G,Sp pre∧Jx G pre W'))
theorem SeqOff2.later {α:Type} {g:Nat} {lb:Array Value} {encs:α→Array Value} {Z:Nat→Prop} {S Sp:List α→Prop} {N:Nat} {w w':World}(h:SeqOff2 P g lb encs Z S Sp N w)(hb:Below w.heap.size w w'):SeqOff2 P g lb encs Z S Sp N w':=
 fun l J Jx W hW=>h l J Jx W (hb.trans (hW.mono hb.size))
theorem Off.sub {Z Z':Nat→Prop} {W W':World}(h:Off Z W W')(hs: ∀k,k<W.heap.size→Z k→Z' k):Off Z' W W':=⟨h.os,h.tape,h.output,h.size,fun k hk hn=>h.block k hk fun e=>hn (hs k hk e)⟩
structure ItIn {α:Type}(J:(Nat→Prop)→List α→World→Prop)(ZG:Nat→Prop)(lo hi:Nat)(w2:World)(G:Nat→Prop)(ys:List α)(wr:World):Prop where
 j:J G ys wr
 g: ∀k,lo≤k→k<hi→G k
 o:Off ZG w2 wr
 lt: ∀k,G k→k<wr.heap.size
theorem ItIn.grow {α:Type} {J:(Nat→Prop)→List α→World→Prop} {ZG G:Nat→Prop} {lo hi:Nat} {w2 wr wx:World} {ys:List α}(h:ItIn J ZG lo hi w2 G ys wr)(HGR: ∀G pre W1 W2,J G pre W1→Off G W1 W2→J (madeG G W1 W2) pre W2)(hb:Below wr.heap.size wr wx):ItIn J ZG lo hi w2 (madeG G wr wx) ys wx:=
 ⟨HGR _ _ _ _ h.j (Off.of hb),fun k h1 h2=> .inl (h.g k h1 h2),h.o.later hb,fun k hk=>hk.elim (fun h1=>Nat.lt_of_lt_of_le (h.lt k h1) hb.size) (·.2)⟩
theorem ItIn.told {α:Type} {J:(Nat→Prop)→List α→World→Prop} {Z ZG G:Nat→Prop} {lo hi:Nat} {w2 w3 w4:World} {ys zs:List α}(h:ItIn J ZG lo hi w2 G ys w4)(hz: ∀(wa wb:World) (G:Nat→Prop),Off Z wa wb→(∀k,G k→wb.heap[k]? =wa.heap[k]?)→(∀k,lo≤k→k<hi→G k)→Off ZG wa wb)(hj:J G zs w3)(ho:Off Z w4 w3)(hG: ∀k,G k→w3.heap[k]? =w4.heap[k]?):ItIn J ZG lo hi w2 G zs w3:=
 ⟨hj,h.g,h.o.trans (hz _ _ _ ho hG h.g),fun k hk=>Nat.lt_of_lt_of_le (h.lt k hk) ho.size⟩
def InR {α:Type}(J:(Nat→Prop)→List α→World→Prop)(ZG Z':Nat→Prop)(lo hi:Nat)(w2 w6:World)(G6 G:Nat→Prop)(ys:List α)(W:World):Prop:=
 ∃Go:Nat→Prop,ItIn J ZG lo hi w2 Go ys W∧(∀k,G k→Go k∧w6.heap.size≤k)∧(∀k,G6 k→Go k)∧(∀l,w6.heap.size≤l→l<w6.heap.size+2→l<W.heap.size→Go l)∧Off Z' w6 W
theorem InR.turn {α:Type} {J:(Nat→Prop)→List α→World→Prop} {ZG Z':Nat→Prop} {lo hi:Nat} {w2 w6:World} {G6 G:Nat→Prop} {ys:List α} {W:World}(h:InR J ZG Z' lo hi w2 w6 G6 G ys W)(HGR: ∀G pre W1 W2,J G pre W1→Off G W1 W2→J (madeG G W1 W2) pre W2)(h1: ∀k,w6.heap.size≤k→ZG k)(h2: ∀k,w6.heap.size≤k→Z' k) {H:Nat→Prop} {W':World}(ho:Off H W W')(hH: ∀k,k<W.heap.size→H k→G k∨(w6.heap.size≤k∧k<w6.heap.size+2)):InR J ZG Z' lo hi w2 w6 G6 (madeG G W W') ys W':=by
 obtain⟨Go,a,b,c,d,e⟩:=h
 have hHG: ∀k,k<W.heap.size→H k→Go k∧w6.heap.size≤k:=fun k hk h=>(hH k hk h).elim (b k) fun h=>⟨d k h.1 h.2 hk,h.1⟩
 refine⟨madeG Go W W',⟨HGR _ _ _ _ a.j (ho.sub fun k hk h=>(hHG k hk h).1),fun k x y=> .inl (a.g k x y),a.o.trans (ho.sub fun k hk h=>h1 k (hHG k hk h).2),fun k hk=>hk.elim (fun h=>Nat.lt_of_lt_of_le (a.lt k h) ho.size) (·.2)⟩,fun k hk=> ?_,fun k hk=> .inl (c k hk),fun k x y z=> ?_,e.trans (ho.sub fun k hk h=>h2 k (hHG k hk h).2)⟩
 ·rcases hk with hk | hk
  ·exact⟨.inl (b k hk).1,(b k hk).2⟩
  ·exact⟨.inr hk,Nat.le_trans e.size hk.1⟩
 ·rcases Nat.lt_or_ge k W.heap.size with hk | hk
  ·exact .inl (d k x y hk)
  ·exact .inr ⟨hk,z⟩
theorem InR.sub {α:Type} {J:(Nat→Prop)→List α→World→Prop} {ZG Z':Nat→Prop} {lo hi:Nat} {w2 w6:World} {G6 G G':Nat→Prop} {ys:List α} {W:World}(h:InR J ZG Z' lo hi w2 w6 G6 G ys W)(hs: ∀k,G' k→G k):InR J ZG Z' lo hi w2 w6 G6 G' ys W:=
 let ⟨Go,a,b,c⟩:=h
 ⟨Go,a,fun k hk=>b k (hs k hk),c⟩
theorem InR.lt {α:Type} {J:(Nat→Prop)→List α→World→Prop} {ZG Z':Nat→Prop} {lo hi:Nat} {w2 w6:World} {G6 G:Nat→Prop} {ys:List α} {W:World}(h:InR J ZG Z' lo hi w2 w6 G6 G ys W) {k:Nat}(hk:G k):k<W.heap.size:=
 let ⟨_,a,b,_⟩:=h
 a.lt k (b k hk).1
theorem InR.offs {α:Type} {J:(Nat→Prop)→List α→World→Prop} {ZG Z':Nat→Prop} {lo hi:Nat} {w2 w6:World} {G6 G:Nat→Prop} {ys:List α} {W:World}(h:InR J ZG Z' lo hi w2 w6 G6 G ys W):Off ZG w2 W∧Off Z' w6 W:=
 let ⟨_,a,_,_,_,e⟩:=h
 ⟨a.o,e⟩
theorem wp_range_mid3 {P:Program} {c:Code} {a:Act} {w:World} {id jd:Nat} {K:Act→World→Prop} {X:Exit→Act→World→Prop}(M MS:Nat→World→Prop)
  (h1:c.wp P (fun e a' W=>∃D,a'= { a with defers:=markD D :: a.defers }∧((e= .normal∧M D W)∨(e= .ret∧MS D W))) a w)
  (h2: ∀D W,M D W→K { a with defers:=markD D :: a.defers } W) (h3: ∀D W,MS D W→X .ret { a with defers:=markD D :: a.defers } W):c.wp P (Exit.inBlock id (Exit.inBlock jd (Exit.then K X))) a w:=
 wp_mono h1 fun e a' W ⟨D,ha,hm⟩=>by
  subst ha
  rcases hm with⟨rfl,hm⟩ | ⟨rfl,hm⟩
  ·exact h2 D W hm
  ·exact h3 D W hm
def StR {α:Type}(Jx:(Nat→Prop)→List α→World→Prop)(Y:List α)(w6:World)(Ds:List Nat)(W:World):Prop:=
 ∃(Go:Nat→Prop) (zs:List α),Jx Go zs W∧zs <+: Y∧(∀l,w6.heap.size≤l→l<w6.heap.size+2→Go l)∧(∀D∈Ds,Go D∧D<w6.heap.size)∧Marks 0 Ds W
theorem StR.turn {α:Type} {Jx:(Nat→Prop)→List α→World→Prop} {Y:List α} {w6:World} {Ds:List Nat} {W:World}(h:StR Jx Y w6 Ds W)(HGX: ∀G pre W1 W2,Jx G pre W1→Off G W1 W2→Jx (madeG G W1 W2) pre W2) {l:Nat} {o:Obj}(o':Obj)(h1:w6.heap.size≤l)(h2:l<w6.heap.size+2)(ho:W.heap[l]? =some o):StR Jx Y w6 Ds (W.putObj l o'):=by
 obtain⟨Go,zs,a,b,c,d,e⟩:=h
 exact⟨_,zs,HGX _ _ _ _ a (ζl o' (c l h1 h2) ho),b,fun k x y=> .inl (c k x y),fun D hD=>⟨.inl (d D hD).1,(d D hD).2⟩,e.keep fun D hD=>World.putObj_heap_other fun x=>by have:=(d D hD).2;omega⟩
end Corr
