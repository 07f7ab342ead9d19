/- A range over a function in a law that is walked as any other -/
import Derived.Test.YthagdonmijhpdaaGreatTlKnown
import Derived.RangeFuncNested
import Derived.RangeFuncBound
import Derived.RangeFuncCalls
import Derived.RangeFuncLeaves
import Derived.Shelf.RegionOpen
import Derived.WalkKit
import Derived.OwnWalkIn
import Derived.TacticsInMore
import Derived.LoopNIn
import Derived.LoopIn
import Derived.Maps.AppendAt
set_option linter.unusedVariables false
set_option maxHeartbeats 1000000
namespace Corr
open Go Go.RowKit
section
variable {P:Program}
theorem ζr {f:FuncId} {fn:Func} {c:Code} {args:Array Value} {w:World} {R:Ending→World→Prop}(hf:P.funcs[f]? =some fn)(hb:fn.body=some c)
  (h:c.wp P (bodyPostM Fence.wide 9 P fn R) { tmps:=args++Array.replicate (fn.ntmps-args.size) undef,defers:= [] } w):Calls P f args w R:=
 callsIn_wide.1 (callsIn_of_wp_marks (F:=Fence.wide) (n:=9) hf hb trivial (wpIn_wide.2 h) rfl)
abbrev markD (D:Nat):Deferred:= { target:= .collected D,args:= #[] }
structure Marks (B:Nat)(Ds:List Nat)(W:World):Prop where
 at_: ∀D∈Ds,B≤D∧W.heap[D]? =some (.deferred (some []))
 nd:Ds.Nodup
theorem Marks.nil (B:Nat)(W:World):Marks B [] W:=⟨fun _ h=>absurd h List.not_mem_nil,List.nodup_nil⟩
theorem Marks.lt {B:Nat} {Ds:List Nat} {W:World}(h:Marks B Ds W) {D:Nat}(hD:D∈Ds):D<W.heap.size:=(Array.getElem?_eq_some_iff.1 (h.at_ D hD).2).1
theorem Marks.keep {B:Nat} {Ds:List Nat} {W W':World}(h:Marks B Ds W)(hs: ∀D∈Ds,W'.heap[D]? =W.heap[D]?):Marks B Ds W':=⟨fun D hD=>⟨(h.at_ D hD).1,(hs D hD).trans (h.at_ D hD).2⟩,h.nd⟩
theorem Marks.mono {B B':Nat} {Ds:List Nat} {W:World}(h:Marks B Ds W)(hB:B'≤B):Marks B' Ds W:=⟨fun D hD=>⟨Nat.le_trans hB (h.at_ D hD).1,(h.at_ D hD).2⟩,h.nd⟩
theorem Marks.later {B:Nat} {Ds:List Nat} {W W':World}(h:Marks B Ds W)(hb:Below W.heap.size W W'):Marks B Ds W':=h.keep fun D hD=>hb.block D (h.lt hD)
theorem Marks.cons {B:Nat} {Ds:List Nat} {W:World}(h:Marks B Ds W) {D:Nat}(hB:B≤D)(hD:W.heap[D]? =some (.deferred (some [])))(hn:D∉Ds):Marks B (D :: Ds) W:=
 ⟨fun E hE=>by
  rcases List.mem_cons.1 hE with rfl | hE
  ·exact⟨hB,hD⟩
  ·exact h.at_ E hE,List.nodup_cons.2 ⟨hn,h.nd⟩⟩
theorem exit_both {id:Nat} {K:Act→World→Prop} {X:Exit→Act→World→Prop} {e:Exit} {a:Act} {w:World}(he:e= .normal∨e= .exit id)(h:K a w):Exit.inBlock id (Exit.then K X) e a w:=by
 rcases he with rfl | rfl
 ·exact h
 ·simpa [Exit.inBlock,Exit.then]using h
theorem ζ5h {c:Code} {a:Act} {w:World} {id:Nat} {K:Act→World→Prop} {X:Exit→Act→World→Prop}(M:Nat→World→Prop)
  (h1:c.wp P (fun e a' W=>(e= .normal∨e= .exit id)∧∃D,a'= { a with defers:=markD D :: a.defers }∧M D W) a w)
  (h2: ∀D W,M D W→K { a with defers:=markD D :: a.defers } W):c.wp P (Exit.inBlock id (Exit.then K X)) a w:=
 wp_mono h1 fun e a' W ⟨he,D,ha,hm⟩=>exit_both he (by rw [ha];exact h2 D W hm)
end
variable {P:Program}
def madeG (G:Nat→Prop)(W W':World)(k:Nat):Prop:=G k∨(W.heap.size≤k∧k<W'.heap.size)
def SeqOwn {α:Type}(P:Program)(g:Nat)(lb:Array Value)(encs:α→Array Value)(n₀:Nat)(S Sp:List α→Prop)(N:Nat)(w:World):Prop:=
 ∀(l:Nat) (J:(Nat→Prop)→List α→World→Prop) (Jx:List α→World→Prop) (W:World),Below w.heap.size w W→
  (∀G pre W1 W2,J G pre W1→Off G W1 W2→J (madeG G W1 W2) pre W2)→
  (∀G pre x W1,J G pre W1→pre.length<N→YieldAt Fence.wide 1 P l (encs x) W1 fun e W'=>
   (e= .returned (.bool true)∧J G (pre++ [x]) W'∧Below n₀ W1 W'∧∀k,G k→W'.heap[k]? =W1.heap[k]?)∨(e= .returned (.bool false)∧Jx (pre++ [x]) W'))→
  J (fun _=>False) [] W→
  CallsIn Fence.wide 2 P g (#[.func (.yield l) #[] #[]]++lb) W fun e W'=>(∃v,e= .returned v)∧((∃xs G,S xs∧J G xs W')∨(∃pre,Sp pre∧Jx pre W'))
theorem SeqOwn.later {α:Type} {g:Nat} {lb:Array Value} {encs:α→Array Value} {n₀:Nat} {S Sp:List α→Prop} {N:Nat} {w w':World}(h:SeqOwn P g lb encs n₀ S Sp N w)(hb:Below w.heap.size w w'):SeqOwn P g lb encs n₀ S Sp N w':=
 fun l J Jx W hW=>h l J Jx W (hb.trans (hW.mono hb.size))
def KpOwn (n₀:Nat)(G:Nat→Prop)(W W':World):Prop:=Below n₀ W W'∧∀k,G k→W'.heap[k]? =W.heap[k]?
theorem KpOwn.refl (n₀:Nat)(G:Nat→Prop)(W:World):KpOwn n₀ G W W:=⟨Below.refl _ _,fun _ _=>rfl⟩
theorem KpOwn.trans {n₀:Nat} {G:Nat→Prop} {A B C:World}(h:KpOwn n₀ G A B)(k:KpOwn n₀ G B C):KpOwn n₀ G A C:=⟨h.1.trans k.1,fun j hj=>(k.2 j hj).trans (h.2 j hj)⟩
theorem below_putObj {n₀:Nat} {W:World} {l:Nat} {o:Obj}(o':Obj)(hl:n₀≤l)(h:W.heap[l]? =some o):Below n₀ W (W.putObj l o'):=
 (Below.refl n₀ W).grown (grownBy_putObj' W l o') (by have:=(Array.getElem?_eq_some_iff.1 h).1;omega) (fun k e=>by cases e;omega)
theorem KpOwn.obj {n₀:Nat} {G:Nat→Prop} {W:World} {l:Nat} {o:Obj}(o':Obj)(hl:n₀≤l)(hb: ¬G l)(h:W.heap[l]? =some o):KpOwn n₀ G W (W.putObj l o'):=⟨below_putObj o' hl h,fun k hk=>World.putObj_heap_other fun e=>hb (by rw [←e];exact hk)⟩
def AbObj {β:Type}(B:Nat)(I:β→World→Prop):Prop:=∀s W l o o',I s W→B≤l→l<B+2→W.heap[l]? =some o→o.isCells=false→I s (W.putObj l o')
variable {P:Program}
def SeqOff {α:Type}(P:Program)(g:Nat)(lb:Array Value)(encs:α→Array Value)(Z:Nat→Prop)(S Sp:List α→Prop)(N:Nat)(w:World):Prop:=
 ∀(l:Nat) (J:(Nat→Prop)→List α→World→Prop) (Jx:List α→World→Prop) (W:World),Below w.heap.size w W→
  (∀G pre W1 W2,J G pre W1→Off G W1 W2→J (madeG G W1 W2) pre W2)→
  (∀G pre x W1,J G pre W1→pre.length<N→Sp (pre++ [x])→YieldAt Fence.wide 1 P l (encs x) W1 fun e W'=>
   (e= .returned (.bool true)∧J G (pre++ [x]) W'∧Off Z W1 W'∧∀k,G k→W'.heap[k]? =W1.heap[k]?)∨(e= .returned (.bool false)∧Jx (pre++ [x]) W'))→
  J (fun _=>False) [] W→
  CallsIn Fence.wide 2 P g (#[.func (.yield l) #[] #[]]++lb) W fun e W'=>(∃v,e= .returned v)∧((∃xs G,S xs∧J G xs W')∨(∃pre,Sp pre∧Jx pre W'))
theorem SeqOff.later {α:Type} {g:Nat} {lb:Array Value} {encs:α→Array Value} {Z:Nat→Prop} {S Sp:List α→Prop} {N:Nat} {w w':World}(h:SeqOff P g lb encs Z S Sp N w)(hb:Below w.heap.size w w'):SeqOff P g lb encs Z S Sp N w':=
 fun l J Jx W hW=>h l J Jx W (hb.trans (hW.mono hb.size))
def KpOff (Z:Nat→Prop)(G:Nat→Prop)(W W':World):Prop:=Off Z W W'∧∀k,G k→W'.heap[k]? =W.heap[k]?
theorem KpOff.refl (Z:Nat→Prop)(G:Nat→Prop)(W:World):KpOff Z G W W:=⟨Off.refl _ _,fun _ _=>rfl⟩
theorem KpOff.trans {Z:Nat→Prop} {G:Nat→Prop} {A B C:World}(h:KpOff Z G A B)(k:KpOff Z G B C):KpOff Z G A C:=⟨h.1.trans k.1,fun j hj=>(k.2 j hj).trans (h.2 j hj)⟩
theorem ζl {Z:Nat→Prop} {W:World} {l:Nat} {o:Obj}(o':Obj)(hl:Z l)(h:W.heap[l]? =some o):Off Z W (W.putObj l o'):=
 ⟨rfl,rfl,rfl,by rw [World.putObj_size];exact Nat.le_refl _,fun k hk hn=>World.putObj_heap_other fun e=>hn (by rw [e];exact hl)⟩
theorem KpOff.obj {Z G:Nat→Prop} {W:World} {l:Nat} {o:Obj}(o':Obj)(hl:Z l)(hb: ¬G l)(h:W.heap[l]? =some o):KpOff Z G W (W.putObj l o'):=⟨ζl o' hl h,fun k hk=>World.putObj_heap_other fun e=>hb (by rw [←e];exact hk)⟩
theorem ζ25 {α:Type} {g:Operand} {ps:Array Tmp} {assign body:Code} {Q:Exit→Act→World→Prop} {a:Act} {w:World}
  {gf:Nat} {lb:Array Value} (hg:a.eval g= .func (.func gf) #[] lb) (eg: ∀args w,(callFunc gf args).run P w= .ok (.enter gf args) w)
  {encs:α→Array Value} {Z:Nat→Prop} {S Sp:List α→Prop} {N:Nat} (hZ: ∀k,w.heap.size≤k→Z k) (hseq:SeqOff P gf lb encs Z S Sp N w) (hps: ∀x,(encs x).size=ps.size)
  (I:(Nat→Prop)→List α→World→Prop) (Ix:Code→List α→World→Prop) (hI: ∀G pre W W',I G pre W→Off G W W'→I (madeG G W W') pre W') (hIo: ∀G,AbObj w.heap.size (I G)) (hIx: ∀c,AbObj w.heap.size (Ix c))
  (h0: ∀W,Below w.heap.size w W→I (fun _=>False) [] W) (Ax:α→Act→World→Prop) (hAx: ∀x a',AbObj w.heap.size (fun(_:Unit) W=>Ax x a' W))
  (hassign: ∀(l:Nat) (G:Nat→Prop) (pre:List α) (x:α) (W:World) (K:Act→World→Prop),w.heap.size+2≤W.heap.size→I G pre W→(∀a' W',KeepsFrom w.heap.size W W'→KpOff Z G W W'→I G pre W'→Ax x a' W'→K a' W')→
   assign.wpIn (Fence.wide.inRound l) 1 P (Exit.then K (fun _ _ _=>False)) { tmps:=(ps.zip (encs x)).foldl (fun t (p,v)=>t.setIfInBounds p v) a.tmps,defers:= [] } W)
  (hbody: ∀(l:Nat) (G:Nat→Prop) (pre:List α) (x:α) (a':Act) (W:World),w.heap.size≤l→w.heap.size+2≤W.heap.size→I G pre W→Ax x a' W→pre.length<N→body.wpIn (Fence.wide.inRound l) 1 P (ownPostG w.heap.size (KpOff Z G) (I G) Ix (pre++ [x]) W) a' W)
  (hdone: ∀(D:Nat) (G:Nat→Prop) (xs:List α) (W:World),w.heap.size≤D→S xs→I G xs W→W.heap[D]? =some (.deferred (some []))→Q .normal { a with defers:=markD D :: a.defers } W)
  (hstop: ∀(D:Nat) (c:Code) (pre:List α) (W:World),w.heap.size≤D→Sp pre→Ix c pre W→W.heap[D]? =some (.deferred (some []))→c.wp P Q { a with defers:=markD D :: a.defers } W):
  (Code.rangeFunc g ps assign body).wp P Q a w:=by
 refine wpIn_wide.1 (wpIn_rangeFunc (F:=Fence.wide) (n:=3) fun fn hfn=> ?_)
 obtain⟨D,hD⟩: ∃D,w.heap.size=D:=⟨_,rfl⟩
 rw [hD]at h0 hIo hIx hAx hassign hbody hdone hstop hZ
 obtain⟨rc,hrc⟩: ∃rc:LoopState→Option Code→Loop,rc=fun st pe=> { state:=st,pending:=pe,fn,tmps:=a.tmps,params:=ps,assign,body,defers:=D }:=⟨_,rfl⟩
 obtain⟨W1,hW1⟩: ∃W1,(w.alloc (.deferred (some []))).alloc (.loop (rc .ready none))=W1:=⟨_,rfl⟩
 have bl:Below w.heap.size w W1:=by rw [←hW1];exact((Below.refl _ w).alloc (Nat.le_refl _) _).alloc (by simp) _
 have sz:W1.heap.size=D+2:=by rw [←hW1];simp [hD]
 have hL:W1.heap[D+1]? =some (.loop (rc .ready none)):=by
  have:=World.alloc_heap_new (w.alloc (.deferred (some []))) (.loop (rc .ready none))
  rw [hW1]at this;simpa [hD]using this
 have hM:W1.heap[D]? =some (.deferred (some [])):=by
  rw [←hW1,←hD];exact(Below.heap_alloc _ _ _ (by simp)).trans (World.alloc_heap_new w _)
 have hI1:I (fun _=>False) [] W1:=h0 _ (by rw [←hD];exact bl)
 refine⟨D+1,[markD D],W1, { target:= .fn (.func gf) lb,args:= #[.func (.yield (D+1)) #[] #[]] },W1,gf,#[.func (.yield (D+1)) #[] #[]]++lb,W1,?_,?_,fun _ _=>trivial,by simp [invoke,go_sem,eg],fun _=>by decide,?_⟩
 ·rw [←hW1,hrc,←hD];exact run_enterLoop_outer _ _ _ _ _
 ·simp only [resolve,hg]
  simp [go_sem]
 refine(hseq (D+1)
  (fun G pre W=>I G pre W∧W.heap[D+1]? =some (.loop (rc .ready none))∧W.heap[D]? =some (.deferred (some []))∧¬G D∧¬G (D+1))
  (fun pre W=>∃c,Ix c pre W∧W.heap[D+1]? =some (.loop (rc .done (some c)))∧W.heap[D]? =some (.deferred (some [])))
  W1 bl ?grow ?round ⟨hI1,hL,hM,fun h=>h,fun h=>h⟩).mono ?behind
 case grow=>
  rintro G pre A B ⟨hi,hl,hm,g1,g2⟩ ho
  have q1:=(Array.getElem?_eq_some_iff.1 hl).1
  have q2:=(Array.getElem?_eq_some_iff.1 hm).1
  exact⟨hI _ _ _ _ hi ho,(ho.block _ q1 g2).trans hl,(ho.block _ q2 g1).trans hm,fun h=>h.elim g1 fun h=>by omega,fun h=>h.elim g2 fun h=>by omega⟩
 case round=>
  rintro G pre x W ⟨hi,hl,hm,g1,g2⟩ hlen hsp
  have hsz:D+2≤W.heap.size:=(Array.getElem?_eq_some_iff.1 hl).1
  have hy:=run_yield (P:=P) (args:=encs x) hl (by rw [hrc];exact hps x)
  rw [hrc]at hy
  refine⟨fn,_,assign,body,hy,roundIn_of_wpIn hfn (hassign _ G pre x W _ hsz hi ?_)⟩
  intro a' V hk1 hp1 hi1 hax
  have hlV:=hk1.same _ _ (by omega) hl rfl
  have hmV:=hk1.same _ _ (Nat.le_refl _) hm rfl
  refine⟨_,run_beginRound hlV (by rw [hrc]),?_⟩
  have hbusy:(V.putObj (D+1) (.loop { rc .ready none with state:= .busy })).heap[D+1]? =some (.loop { rc .ready none with state:= .busy }):=World.putObj_heap_same (Array.getElem?_eq_some_iff.1 hlV).1
  have hmB:(V.putObj (D+1) (.loop { rc .ready none with state:= .busy })).heap[D]? =some (.deferred (some [])):=(World.putObj_heap_other (by omega)).trans hmV
  have hp2:KpOff Z G V (V.putObj (D+1) (.loop { rc .ready none with state:= .busy })):=KpOff.obj _ (hZ _ (by omega)) g2 hlV
  have hszV:D+2≤V.heap.size:=Nat.le_trans hsz hk1.size
  refine wpIn_mono (hbody _ G pre x a' _ (by omega) (by rw [World.putObj_size];exact hszV) (hIo _ _ _ _ _ _ hi1 (by omega) (by omega) hlV rfl) (hAx x a' () _ _ _ _ hax (by omega) (by omega) hlV rfl) hlen) ?_
  have fin: ∀(jump:Option Code) (V9:World),KeepsFrom D (V.putObj (D+1) (.loop { rc .ready none with state:= .busy })) V9→
    ∃Y,(Instr.endRound (D+1) jump).run P V9= .ok (.bool jump.isNone) Y∧V9.heap[D+1]? =some (.loop { rc .ready none with state:= .busy })∧Y=V9.putObj (D+1) (.loop (rc (if jump.isNone then .ready else .done) jump))∧
     Y.heap[D+1]? =some (.loop (rc (if jump.isNone then .ready else .done) jump))∧Y.heap[D]? =some (.deferred (some [])):=fun jump V9 hk=>by
   have hz:=hk.same _ _ (by omega) hbusy rfl
   have hr:=run_endRound (P:=P) jump hz
   rw [hrc]at hr hz ⊢
   exact⟨_,hr,hz,rfl,World.putObj_heap_same (Array.getElem?_eq_some_iff.1 hz).1,(World.putObj_heap_other (by omega)).trans (hk.same _ _ (Nat.le_refl _) hmB rfl)⟩
  have left: ∀(c:Code) (V9:World),KeepsFrom D (V.putObj (D+1) (.loop { rc .ready none with state:= .busy })) V9→Ix c (pre++ [x]) V9→
    ∃v Y,(Instr.endRound (D+1) (some c)).run P V9= .ok v Y∧((.returned v=Ending.returned (.bool true)∧(I G (pre++ [x]) Y∧Y.heap[D+1]? =some (.loop (rc .ready none))∧Y.heap[D]? =some (.deferred (some []))∧¬G D∧¬G (D+1))∧Off Z W Y∧∀k,G k→Y.heap[k]? =W.heap[k]?)∨
     (.returned v=Ending.returned (.bool false)∧∃c,Ix c (pre++ [x]) Y∧Y.heap[D+1]? =some (.loop (rc .done (some c)))∧Y.heap[D]? =some (.deferred (some [])))):=fun c V9 hk hx=>by
   obtain⟨Y,hr,hz,rfl,h1,h2⟩:=fin (some c) V9 hk
   exact⟨_,_,hr,.inr ⟨rfl,c,hIx c _ _ _ _ _ hx (by omega) (by omega) hz rfl,h1,h2⟩⟩
  intro e a3 V9 hp
  cases e with
  | normal=>
   obtain⟨hk,hkp,hz⟩:=hp
   obtain⟨Y,hr,hb,rfl,h1,h2⟩:=fin none V9 hk
   have hk3:=hp1.trans (hp2.trans (hkp.trans (KpOff.obj (.loop (rc .ready none)) (hZ _ (by omega)) g2 hb)))
   exact⟨_,_,hr,.inl ⟨rfl,⟨hIo _ _ _ _ _ _ hz (by omega) (by omega) hb rfl,h1,h2,g1,g2⟩,hk3.1,hk3.2⟩⟩
  | ret=>exact left .ret V9 hp.1 hp.2
  | exit id=>exact left (.exit id) V9 hp.1 hp.2
  | goto t=>exact left (.goto t) V9 hp.1 hp.2
  | panic ch=>exact hp.elim
  | outgrown=>exact hp.elim
 case behind=>
  rintro e W2 ⟨⟨v,rfl⟩,(⟨xs,G,hS,hi,hl,hm,_,_⟩ | ⟨pre,hS,c,hi,hl,hm⟩)⟩
  ·refine⟨none,_,by have:=run_endLoop (P:=P) hl (by rw [hrc];simp);rw [hrc]at this;exact this,hdone _ G xs _ (Nat.le_refl _) hS (hIo _ _ _ _ _ _ hi (by omega) (by omega) hl rfl) ((World.putObj_heap_other (by omega)).trans hm)⟩
  ·exact⟨some c,_,by have:=run_endLoop (P:=P) hl (by rw [hrc];simp);rw [hrc]at this;exact this,wpIn_wide.2 (hstop _ c pre _ (Nat.le_refl _) hS (hIx c _ _ _ _ _ hi (by omega) (by omega) hl rfl) ((World.putObj_heap_other (by omega)).trans hm))⟩
end Corr
