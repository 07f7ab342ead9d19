/- Contracts of package timeline -/
import Derived.Test.YthagdonmijhpdaaGreatSqTwo
import Derived.Test.YthagdonmijhpdaaGreatBp2
import Derived.Test.YthagdonmijhpdaaGreatTl4
import Derived.Test.YthagdonmijhpdaaGreatRow4
import Derived.Test.YthagdonmijhpdaaGreatTlKnown
import Derived.Deep.RegionLaw
import Derived.Deep.AppendLies
import Derived.Deep.LoopGhost
import Derived.Test.YthagdonmijhpdaaGreatRf4
import Derived.Lib.SlicesCompact
import Derived.Laws.EntriesVeiled
import Derived.Defers
import Derived.Recover
import Derived.BigQuiet
import Derived.Test.YthagdonmijhpdaaGreatProg
import Derived.Sort.Grow
import Derived.Laws.OwnMore
import Derived.Test.YthagdonmijhpdaaGreatRelVal
import Derived.Shelf.RegionOpen
import Derived.Test.YthagdonmijhpdaaGreatTpSegs
import Derived.Test.YthagdonmijhpdaaGreatTqNew
open Go.Lib (hid)
set_option linter.unusedSimpArgs false
set_option linter.unusedVariables false
set_option maxHeartbeats 4000000
set_option maxRecDepth 8000
namespace Corr
open Go Go.RowKit
structure Pk (Z:Nat→Prop)(D:Nat)(ts:List Thing)(w6:World)(G:Nat→Prop)(W:World):Prop where
 p: ∃U,(packT ts).P W U∧∀k,U k→Z k∧¬G k∧¬(k=D∨k=D+1)
 o:Off Z w6 W
 g: ∀k,G k→D≤k∧k<W.heap.size
section
variable {Z:Nat→Prop} {D:Nat} {ts:List Thing} {w6 W W':World} {G:Nat→Prop}
theorem Pk.grow (h:Pk Z D ts w6 G W)(hZ: ∀k,D≤k→Z k)(hw:w6.heap.size=D)(ho:Off G W W'):Pk Z D ts w6 (madeG G W W') W':=by
 obtain⟨⟨U,h1,h2⟩,h3,h4⟩:=h
 have hD:D≤W.heap.size:=by rw [←hw];exact h3.size
 refine⟨⟨U,(packT ts).keep h1 ho fun k hk=>(h2 k hk).2.1,fun k hk=> ?_⟩,h3.trans (ho.sub fun k _ hk=>hZ k (h4 k hk).1),fun k hk=> ?_⟩
 ·obtain⟨a,b,c⟩:=h2 k hk
  have:=(packT ts).lt h1 k hk
  exact⟨a,fun e=>e.elim b fun e=>by omega,c⟩
 ·rcases hk with hk | hk
  ·exact⟨(h4 k hk).1,Nat.lt_of_lt_of_le (h4 k hk).2 ho.size⟩
  ·exact⟨by omega,hk.2⟩
theorem Pk.obj (h:Pk Z D ts w6 G W)(hZ: ∀k,D≤k→Z k) {l:Nat} {o o':Obj}(h1:D≤l)(h2:l<D+2)(hk:W.heap[l]? =some o):Pk Z D ts w6 G (W.putObj l o'):=by
 obtain⟨⟨U,p1,p2⟩,h3,h4⟩:=h
 have ho:Off (fun k=>k=l) W (W.putObj l o'):=ζl o' rfl hk
 exact⟨⟨U,(packT ts).keep p1 ho fun k hk e=>(p2 k hk).2.2 (by subst e;omega),p2⟩,h3.trans (ζl o' (hZ l h1) hk),fun k hk=>⟨(h4 k hk).1,by rw [World.putObj_size];exact(h4 k hk).2⟩⟩
theorem Pk.free (h:Pk Z D ts w6 G W):Pk Z D ts w6 (fun _=>False) W:=by
 obtain⟨⟨U,p1,p2⟩,h3,h4⟩:=h
 exact⟨⟨U,p1,fun k hk=>⟨(p2 k hk).1,fun e=>e.elim,(p2 k hk).2.2⟩⟩,h3,fun k hk=>hk.elim⟩
def PkS (Z:Nat→Prop)(D:Nat)(ts:List Thing)(w6:World)(G:Nat→Prop)(W W':World):Prop:=Pk Z D ts w6 G W'∧KpOff Z G W W'∧Keeps2 D W W'
theorem PkS.trans {us:List Thing} {W2:World}(h:PkS Z D ts w6 G W W')(k:PkS Z D us w6 G W' W2):PkS Z D us w6 G W W2:=⟨k.1,h.2.1.trans k.2.1,h.2.2.trans k.2.2⟩
theorem Pk.keep (h:Pk Z D ts w6 G W)(hD:D+2≤W.heap.size)(hb:Below W.heap.size W W'):PkS Z D ts w6 G W W':=by
 obtain⟨⟨U,p1,p2⟩,h3,h4⟩:=h
 have ho:Off (fun _=>False) W W':=Off.of hb
 exact⟨⟨⟨U,(packT ts).keep p1 ho fun k _ e=>e,p2⟩,h3.trans (ho.sub fun k _ e=>e.elim),fun k hk=>⟨(h4 k hk).1,Nat.lt_of_lt_of_le (h4 k hk).2 hb.size⟩⟩,⟨ho.sub fun k _ e=>e.elim,fun k hk=>hb.block k (h4 k hk).2⟩,Keeps2.of hb.size (hb.block _ (by omega)) (hb.block _ (by omega))⟩
theorem Pk.turn (h:Pk Z D ts w6 G W)(hZ: ∀k,D≤k→Z k)(hD:D+2≤W.heap.size): ∃U:Nat→Prop,SepF U W ts W∧∀(us:List Thing) (W':World),SepF U W us W'→PkS Z D us w6 G W W':=by
 obtain⟨⟨U,p1,p2⟩,h3,h4⟩:=h
 refine⟨U,p1.2,fun us W' hs=> ?_⟩
 obtain⟨U',q1,q2,q3⟩:=hs.pack
 have hz:Off Z W W':=q2.sub fun k _ hk=>(p2 k hk).1
 refine⟨⟨⟨U',q1,fun k hk=> ?_⟩,h3.trans hz,fun k hk=>⟨(h4 k hk).1,Nat.lt_of_lt_of_le (h4 k hk).2 q2.size⟩⟩,⟨hz,fun k hk=>q2.block k (h4 k hk).2 fun e=>(p2 k e).2.1 hk⟩,Keeps2.of q2.size (q2.block _ (by omega) fun e=>(p2 _ e).2.2 (.inl rfl)) (q2.block _ (by omega) fun e=>(p2 _ e).2.2 (.inr rfl))⟩
 rcases q3 k hk with e | e
 ·exact p2 k e
 ·exact⟨hZ k (by omega),fun hg=>by have:=(h4 k hg).2;omega,by omega⟩
theorem Pk.at_ (h:Pk Z D ts w6 G W): ∃U:Nat→Prop,SepF U W ts W:=by
 obtain⟨⟨U,p1,_⟩,_⟩:=h
 exact⟨U,p1.2⟩
theorem Pk.b (h:Pk Z D ts w6 G W)(i:Nat) {k:Nat} {vs:Array Value}(hi:ts[i]? =some (blkT k vs)):Blk W k vs:=by
 obtain⟨U,hs⟩:=h.at_
 exact hs.b i hi
theorem Pk.push (h:Pk Z D ts w6 G W)(hZ: ∀k,D≤k→Z k)(hD:D+2≤W.heap.size)(vs:Array Value)(T:TypeId):PkS Z D (ts++ [blkT W.heap.size vs]) w6 G W (W.alloc (.cells vs T)):=by
 obtain⟨U,hs,hu⟩:=h.turn hZ hD
 exact hu _ _ (hs.push vs T)
theorem Pk.take (h:Pk Z D ts w6 G W)(n:Nat):Pk Z D (ts.take n) w6 G W:=by
 obtain⟨⟨U,p1,p2⟩,h3,h4⟩:=h
 exact⟨⟨U,⟨p1.1,p1.2.take n⟩,p2⟩,h3,h4⟩
theorem Pk.start {w0 w5:World}(hs:Sep w0 ts w5)(hb5:Below w5.heap.size w5 w6)(hw:w6.heap.size=D)(hz: ∀k,w0.heap.size≤k→k<w5.heap.size→Z k): ∀W,Below w6.heap.size w6 W→Pk Z D ts w6 (fun _=>False) W:=by
 intro W hb
 obtain⟨F,h1,h2,h3⟩:=SepF.pack (F0:=fun _=>False) (w0:=w0) (w:=w5) (ts:=ts) (by obtain⟨Fs,a,b,c,d⟩:=hs;exact⟨Fs,a,b,fun i hi k hk=> .inr (c i hi k hk),Off.of d⟩)
 have hb2:Below w5.heap.size w5 W:=hb5.trans (hb.mono hb5.size)
 refine⟨⟨F,(packT ts).keep h1 (Off.of (F:=fun _=>False) hb2) fun k _ e=>e,fun k hk=> ?_⟩,(Off.of hb),fun k hk=>hk.elim⟩
 have hlt:=(packT ts).lt h1 k hk
 have hs5:=hb5.size
 exact⟨hz k ((h3 k hk).resolve_left fun e=>e) hlt,fun e=>e,by omega⟩
end
open Go.Lib
section
variable {L:List Int}
end
def stepsF (N:Nat)(f:Int→Int):Prop:=∃D:List Int,D.length≤N∧∀d,f d≠f (d-1)→d∈D
theorem stepsF.more {N M:Nat} {f:Int→Int}(h:stepsF N f)(hN:N≤M):stepsF M f:=by obtain⟨D,h1,h2⟩:=h;exact⟨D,by omega,h2⟩
def TelR (R:Nat→Prop)(f:Int→Int)(b d:Int)(g:Nat)(w:World):Prop:=∃A n c l x,Blk w g #[.slice A n c]∧Itm w A n c l∧covP f x b l∧x≤d∧(∀ad,A=some ad→R ad.block)
section
variable {R G:Nat→Prop} {f:Int→Int} {b d d':Int} {g:Nat} {w w':World}
theorem TelR.later (h:TelR R f b d g w)(hd:d≤d'):TelR R f b d' g w:=by
 obtain⟨A,n,c,l,x,h1,h2,h3,h4,h5⟩:=h
 exact⟨A,n,c,l,x,h1,h2,h3,Int.le_trans h4 hd,h5⟩
theorem TelR.off (h:TelR R f b d g w)(ho:Off G w w')(hg: ¬G g)(hR: ∀k,R k→¬G k):TelR R f b d g w':=by
 obtain⟨A,n,c,l,x,h1,h2,h3,h4,h5⟩:=h
 exact⟨A,n,c,l,x,ho.blk h1 hg,ho.lies h2 fun _ ad e=>hR _ (h5 ad e),h3,h4,h5⟩
theorem TelR.sz (h:TelR R f b d g w):g<w.heap.size:=by
 obtain⟨A,n,c,l,x,h1,_⟩:=h;exact h1.sz
end
end Corr
namespace Go.Proofs.YthagdonmijhpdaaGreat
open Go.RowKit Corr
end Go.Proofs.YthagdonmijhpdaaGreat
namespace Corr
open Go Go.RowKit
theorem Off.turn {F0 F:Nat→Prop} {w0 w w':World}(h4:Off F0 w0 w)(ho:Off F w w')(hF: ∀k,F k→F0 k∨w0.heap.size≤k):Off F0 w0 w':=
 ⟨ho.os.trans h4.os,ho.tape.trans h4.tape,ho.output.trans h4.output,Nat.le_trans h4.size ho.size,fun k hk hn=>(ho.block k (Nat.lt_of_lt_of_le hk h4.size) fun e=>by
  rcases hF k e with e | e
  ·exact hn e
  ·omega).trans (h4.block k hk hn)⟩
structure TelsR (R:Nat→Prop)(gs:List Nat)(fs:List (Int→Int))(b d:Int)(w:World):Prop where
 len:gs.length=fs.length
 each: ∀(i g:Nat) (f:Int→Int),gs[i]? =some g→fs[i]? =some f→TelR R f b d g w
 out: ∀g∈gs,¬R g
 one: ∀i j g:Nat,gs[i]? =some g→gs[j]? =some g→i=j
 lt: ∀k,R k∨k∈gs→k<w.heap.size
section
variable {R R' G:Nat→Prop} {gs:List Nat} {fs:List (Int→Int)} {f:Int→Int} {b d d':Int} {g j:Nat} {w w':World}
theorem TelsR.off (h:TelsR R gs fs b d w)(ho:Off G w w')(hn: ∀k,R k∨k∈gs→¬G k):TelsR R gs fs b d w':=
 ⟨h.len,fun i g f h1 h2=>(h.each i g f h1 h2).off ho (hn g (.inr (List.mem_of_getElem? h1))) fun k hk=>hn k (.inl hk),h.out,h.one,fun k hk=>Nat.lt_of_lt_of_le (h.lt k hk) ho.size⟩
theorem TelsR.later (h:TelsR R gs fs b d w)(hd:d≤d'):TelsR R gs fs b d' w:=⟨h.len,fun i g f h1 h2=>(h.each i g f h1 h2).later hd,h.out,h.one,h.lt⟩
end
end Corr
namespace Go.Proofs.YthagdonmijhpdaaGreat
open Go.RowKit Corr
end Go.Proofs.YthagdonmijhpdaaGreat
namespace Corr
open Go Go.RowKit
def NilTp (w:World)(p:Value)(F:Nat→Prop):Prop:=(p= .pointer none∧F=fun _=>False)∨∃g,p= .pointer (some ⟨g,0,none⟩)∧Blk w g #[.pointer none,.pointer none,.pointer none,.pointer none,.map none]∧F=fun k=>k=g
theorem NilTp.keep {w w':World} {p:Value} {F G:Nat→Prop}(h:NilTp w p F)(ho:Off G w w')(hn: ∀k,F k→¬G k):NilTp w' p F:=by
 rcases h with h | ⟨g,h1,h2,h3⟩
 ·exact .inl h
 ·exact .inr ⟨g,h1,ho.blk h2 (hn g (by rw [h3])),h3⟩
theorem NilTp.below {w w':World} {p:Value} {F:Nat→Prop}(h:NilTp w p F)(hb:Below w.heap.size w w'):NilTp w' p F:=h.keep (Off.of (F:=fun _=>False) hb) (fun _ _ e=>e)
theorem NilTp.lt {w:World} {p:Value} {F:Nat→Prop}(h:NilTp w p F): ∀k,F k→k<w.heap.size:=by
 rcases h with⟨_,rfl⟩ | ⟨g,h1,h2,rfl⟩
 ·exact fun _ e=>e.elim
 ·rintro k rfl;exact h2.sz
theorem NilTp.ptr {w:World} {p:Value} {F:Nat→Prop}(h:NilTp w p F): ∃q,p= .pointer q:=by
 rcases h with⟨h,_⟩ | ⟨g,h,_⟩
 ·exact⟨_,h⟩
 ·exact⟨_,h⟩
end Corr
namespace Go.Proofs.YthagdonmijhpdaaGreat
open Go.RowKit Corr
theorem tpnew_rep {Rep:RepT}(K:TrK Rep)(w:World):Calls Tryz.prog 29 #[] w fun e w'=>∃(q:Addr) (F:Nat→Prop),e= .returned (.pointer (some q))∧RepTp Rep w' (.pointer (some q)) F 0 (fun _=>0)∧Below w.heap.size w w'∧∀k,F k→w.heap.size≤k:=by
 refine(tpnew_any K w).mono fun e w' hq=> ?_
 obtain⟨gT,gM,c,Fs,he,h1,h2,h3⟩:=hq
 exact⟨_,_,he,⟨⟨gT,gM,c,Fs,_,_,rfl,h1,rfl,tr_none,mp_none,fun i hi=>by simp⟩,fun d _=>rfl⟩,h2,h3⟩
end Go.Proofs.YthagdonmijhpdaaGreat
namespace Corr
open Go Go.RowKit
theorem it_dec (x1 x2 x3 y1 y2 y3:Int):(decide (((x1,x2,x3):It)=(y1,y2,y3)))=((x1 == y1) && ((x2 == y2) && (x3 == y3))):=by
 by_cases h1:x1=y1 <;> by_cases h2:x2=y2 <;> by_cases h3:x3=y3 <;> simp [h1,h2,h3]
theorem list_upto {l m:ItL} {k:Nat}(h:l.take k=m.take k) {x y:It}(hx:l[k]? =some x)(hy:m[k]? =some y)(e:x=y):l.take (k+1)=m.take (k+1):=by
 rw [List.take_add_one,List.take_add_one,h,hx,hy,e]
theorem list_not {l m:ItL} {k:Nat} {x y:It}(hx:l[k]? =some x)(hy:m[k]? =some y)(e: ¬x=y):decide (l=m)=false:=by
 refine decide_eq_false fun h=>e ?_
 subst h
 rw [hx]at hy
 exact Option.some.inj hy
end Corr
namespace Go.Proofs.YthagdonmijhpdaaGreat
open Go.RowKit Corr
theorem tpsegs_rep {Rep:RepT}(K:TrK Rep) {w:World} {p:Value} {F:Nat→Prop} {N:Nat} {f:Int→Int}(H:RepTp Rep w p F N f)(hN:N≤300)(a b:Int):Calls Tryz.prog 21 #[p,.agg #[.int .i64 a,.int .i64 b]] w (ζ1r 89 w f a b):=by
 obtain⟨hQ,ho⟩:=H
 obtain⟨gT,rfl⟩:=hQ.ptr
 cases hm:mayB a b with
 | true=>exact tpsegs_yes K gT F (3*N) f a b w hQ ho (by omega) hm
 | false=>
  obtain⟨gM,hc⟩:=hQ.map_at
  refine(tpsegs_no K gT gM a b w hc hm).mono fun e w' hq=> ?_
  exact⟨[],none,0,0,hq.1,by unfold segF;rw [if_neg (by rw [hm];decide)],World.ownsRow_nil _ _ _ _,hq.2⟩
theorem tpall_any {Rep:RepT}(K:TrK Rep) {w:World} {p:Value} {F:Nat→Prop} {N:Nat} {f:Int→Int}(H:RepTp Rep w p F N f)(hN:N≤300):Calls Tryz.prog 56 #[p] w (ζ1r 89 w f 1 3652060):=by
 obtain⟨gT,hp⟩:=H.1.ptr
 subst hp
 obtain⟨gM,hc⟩:=H.1.map_at
 have HS:=hid (tpsegs_rep K H hN 1 3652060)
 clear K H
 go_enter Tryz.func56,Tryz.ntmps56
 go_wp2_with fail
 refine(ζ28 gT gM _ hc).mono ?_
 rintro e w1 ⟨rfl,hw1⟩
 subst w1
 clear hc
 go_wp2_with fail
 refine HS.out.mono ?_
 rintro e w1 ⟨out,A,n,c,rfl,h1,h2,h3⟩
 have H1:=hid h1
 have H2:=hid h2
 have H3:=hid h3
 clear h1 h2 h3
 go_wp2_with fail
 go_ret
 exact⟨out,A,n,c,rfl,H1.out,H2.out,H3.out⟩
theorem eqone_any (x1 x2 x3 y1 y2 y3:Int)(w:World):Calls Tryz.prog 57 #[.agg #[.int .i64 x1,.int .i64 x2,.int .i64 x3],.agg #[.int .i64 y1,.int .i64 y2,.int .i64 y3]] w fun e w'=>e= .returned (.bool (decide (((x1,x2,x3):It)=(y1,y2,y3))))∧Below w.heap.size w w':=by
 have hs:=((SepF.nil w).push #[.int .i64 x1,.int .i64 x2,.int .i64 x3] 89).push #[.int .i64 y1,.int .i64 y2,.int .i64 y3] 89
 simp only [ζd,List.nil_append,List.cons_append]at hs
 have HS:=hid hs
 have a0:=(hs.b 0 rfl).get 0 rfl
 have a1:=(hs.b 0 rfl).get 1 rfl
 have a2:=(hs.b 0 rfl).get 2 rfl
 have b0:=(hs.b 1 rfl).get 0 rfl
 have b1:=(hs.b 1 rfl).get 1 rfl
 have b2:=(hs.b 1 rfl).get 2 rfl
 have HE:=hid (it_dec x1 x2 x3 y1 y2 y3)
 clear hs
 by_cases h1:x1=y1
 ·have d1:(x1 == y1)=true:=by simpa using h1
  by_cases h2:x2=y2
  ·have d2:(x2 == y2)=true:=by simpa using h2
   have HF:=hid (show (x3 == y3)=decide (((x1,x2,x3):It)=(y1,y2,y3)) by rw [HE.out,d1,d2];rfl)
   clear h1 h2
   go_enter Tryz.func57,Tryz.ntmps57
   go_wp2_with fail
   refine(ζ42 x3 y3 _).mono ?_
   rintro e w1 ⟨rfl,c1⟩
   have HB:=hid (HS.out.keep c1).bl
   obtain⟨r,hr⟩: ∃r,(x3 == y3)=r:=⟨_,rfl⟩
   rw [hr]at HF ⊢
   clear c1 hr
   go_wp2_with fail
   go_ret
   exact⟨by rw [HF.out];first | done | rfl,HB.out⟩
  ·have d2:(x2 == y2)=false:=by simpa using h2
   have HF:=hid (show false=decide (((x1,x2,x3):It)=(y1,y2,y3)) by rw [HE.out,d1,d2];rfl)
   clear h1 h2
   go_enter Tryz.func57,Tryz.ntmps57
   go_wp2_with fail
   go_ret
   exact⟨by rw [←HF.out];first | done | rfl,HS.out.bl⟩
 ·have d1:(x1 == y1)=false:=by simpa using h1
  have HF:=hid (show false=decide (((x1,x2,x3):It)=(y1,y2,y3)) by rw [HE.out,d1];rfl)
  clear h1
  go_enter Tryz.func57,Tryz.ntmps57
  go_wp2_with fail
  go_ret
  exact⟨by rw [←HF.out];first | done | rfl,HS.out.bl⟩
theorem eqfunc_any (A B:Option Addr)(n c m d:Nat)(l k:ItL)(w:World)(R:Itm w A n c l)(S:Itm w B m d k)(hn:n≤4000000)(hm:m≤4000000):Calls Tryz.prog 55 #[.slice A n c,.slice B m d,.func (.func 57) #[] #[]] w fun e w'=>e= .returned (.bool (decide (l=k)))∧Below w.heap.size w w':=by
 have hln:=Itm.count R
 have hkm:=Itm.count S
 have HR:=hid R
 have HS:=hid S
 by_cases hnm:n=m
 ·subst hnm
  have d1:((n:Int) != (n:Int))=false:=by simp
  clear R S
  go_enter Tryz.func55,Tryz.ntmps55
  go_wp2_with fail
  go_loopw [17] (fun u wr=>∃i:Nat,u= .int .i64 (i:Int)∧i≤n∧Hid (l.take i=k.take i)∧Hid (Below w.heap.size w wr)) (fun u _=>(n-intOf u).toNat)
  case atStart=>exact⟨0,rfl,by omega,hid rfl,hid (Below.refl _ _)⟩
  case round=>
   obtain⟨i,rfl,hi,HE,HB⟩:=hrel
   by_cases hlt:i<n
   ·obtain⟨ga,oa,⟨x1,x2,x3⟩,rfl,hx,hga,a0,a1,a2⟩:=Itm.get (HR.out.keep HB.out) hlt
    have hb1:=(Below.refl wr.heap.size wr).alloc (Nat.le_refl _) (.cells #[.int .i64 x1,.int .i64 x2,.int .i64 x3] 89)
    obtain⟨gb,ob,⟨y1,y2,y3⟩,rfl,hy,hgb,b0,b1,b2⟩:=Itm.get ((HS.out.keep HB.out).keep hb1) hlt
    have hs2:=((SepF.of HB.out).push #[.int .i64 x1,.int .i64 x2,.int .i64 x3] 89).push #[.int .i64 y1,.int .i64 y2,.int .i64 y3] 89
    simp only [ζd,List.nil_append,List.cons_append]at hs2
    have HS2:=hid hs2
    have u0:=(hs2.b 0 rfl).get 0 rfl
    have u1:=(hs2.b 0 rfl).get 1 rfl
    have u2:=(hs2.b 0 rfl).get 2 rfl
    have v0:=(hs2.b 1 rfl).get 0 rfl
    have v1:=(hs2.b 1 rfl).get 1 rfl
    have v2:=(hs2.b 1 rfl).get 2 rfl
    have HX:=hid hx
    have HY:=hid hy
    clear hs2 hb1 hx hy
    by_cases hxy:((x1,x2,x3):It)=(y1,y2,y3)
    ·have HD:=hid (show decide (((x1,x2,x3):It)=(y1,y2,y3))=true from decide_eq_true hxy)
     have HXY:=hid hxy
     clear hxy
     go_wp2_with fail
     refine(eqone_any x1 x2 x3 y1 y2 y3 _).mono ?_
     rintro e w2 ⟨rfl,b9⟩
     rw [HD.out]
     have HB9:=hid (HS2.out.keep b9).bl
     clear b9 u0 u1 u2 v0 v1 v2
     go_wp2_with fail
     go_roundw
     case rel=>exact⟨i+1,by go_num,by omega,hid (list_upto HE.out HX.out HY.out HXY.out),HB9⟩
     case measure=>simp [intOf];omega
    ·have HD:=hid (show decide (((x1,x2,x3):It)=(y1,y2,y3))=false from decide_eq_false hxy)
     have HN:=hid (list_not HX.out HY.out hxy)
     clear hxy
     go_wp2_with fail
     refine(eqone_any x1 x2 x3 y1 y2 y3 _).mono ?_
     rintro e w2 ⟨rfl,b9⟩
     rw [HD.out]
     have HB9:=hid (HS2.out.keep b9).bl
     clear b9 u0 u1 u2 v0 v1 v2
     go_wp2_with fail
     go_ret
     exact⟨by rw [HN.out];first | done | rfl,HB9.out⟩
   ·have HEQ:=hid (show decide (l=k)=true from decide_eq_true (by
     have:=HE.out
     rwa [List.take_of_length_le (by omega),List.take_of_length_le (by omega)]at this))
    go_wp2_with fail
    go_ret
    exact⟨by rw [HEQ.out];first | done | rfl,HB.out⟩
 ·have HN:=hid (show decide (l=k)=false from decide_eq_false fun h=>hnm (by rw [←hln,←hkm,h]))
  have d1:((n:Int) != (m:Int))=true:=by simp;omega
  clear R S
  go_enter Tryz.func55,Tryz.ntmps55
  go_wp2_with fail
  go_ret
  exact⟨by rw [HN.out];first | done | rfl,Below.refl _ _⟩
theorem tpsame_of (p q:Value)(f g:Int→Int)(w:World)(h1: ∀w',Below w.heap.size w w'→Calls Tryz.prog 56 #[p] w' (ζ1r 89 w' f 1 3652060))(h2: ∀w',Below w.heap.size w w'→Calls Tryz.prog 56 #[q] w' (ζ1r 89 w' g 1 3652060)):
  Calls Tryz.prog 27 #[p,q] w (RetSameF w f g):=by
 have H1:=hid (h1 w (Below.refl _ _))
 have H2:=hid h2
 clear h1 h2
 go_enter Tryz.func27,Tryz.ntmps27
 go_wp2_with fail
 refine H1.out.mono ?_
 rintro e w1 ⟨l,A,n,c,rfl,s1,o1,b1⟩
 have HL:=hid s1
 have HB1:=hid b1
 have HI1:=hid (show Itm w1 A n c l from by obtain⟨A',c',e,h⟩:=Lies.of_own o1 o1.1;injection e with e1 _ e3;subst e1 e3;exact h)
 have hn:n≤4000000:=by have h:=ζ49 s1;have:=ζ3p o1;omega
 have HC:=hid (H2.out w1 b1)
 clear s1 o1 b1 H1 H2
 go_wp2_with fail
 refine HC.out.mono ?_
 rintro e w2 ⟨k,B,m,d,rfl,s2,o2,b2⟩
 have HK2:=hid s2
 have HB2:=hid (HB1.out.trans (b2.mono HB1.out.size))
 have HI2:=hid (show Itm w2 B m d k from by obtain⟨A',c',e,h⟩:=Lies.of_own o2 o2.1;injection e with e1 _ e3;subst e1 e3;exact h)
 have hm:m≤4000000:=by have h:=ζ49 s2;have:=ζ3p o2;omega
 have HEF:=hid (eqfunc_any A B n c m d l k w2 (HI1.out.keep b2) HI2.out hn hm)
 clear s2 o2 b2 HC
 go_wp2_with fail
 refine HEF.out.mono ?_
 rintro e w3 ⟨rfl,b3⟩
 have HB3:=hid (HB2.out.trans (b3.mono HB2.out.size))
 obtain⟨r,hr⟩: ∃r,decide (l=k)=r:=⟨_,rfl⟩
 rw [hr]
 have HR:=hid hr
 clear b3 hr HEF
 go_wp2_with fail
 go_ret
 exact⟨l,k,HL.out,HK2.out,by rw [HR.out];first | done | rfl,HB3.out⟩
end Go.Proofs.YthagdonmijhpdaaGreat
