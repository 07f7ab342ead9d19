/- Rectangles as they are told, in a row, as the library's sort takes them. -/
import Derived.Test.YthagdonmijhpdaaGreatSqTwo
import Derived.Test.YthagdonmijhpdaaGreatBp2
import Derived.Test.YthagdonmijhpdaaGreatTl4
import Derived.Test.YthagdonmijhpdaaGreatRow4
import Derived.Test.YthagdonmijhpdaaGreatTlKnown
import Derived.Deep.RegionLaw
import Derived.Deep.AppendLies
import Derived.Deep.LoopGhost
import Derived.Test.YthagdonmijhpdaaGreatRf4
import Derived.Lib.SlicesCompact
import Derived.Laws.EntriesVeiled
import Derived.Defers
import Derived.Recover
import Derived.BigQuiet
import Derived.Test.YthagdonmijhpdaaGreatProg
import Derived.Sort.Grow
import Derived.Laws.OwnMore
import Derived.Test.YthagdonmijhpdaaGreatRelVal
import Derived.Shelf.RegionOpen
import Derived.Test.YthagdonmijhpdaaGreatBpT
set_option linter.unusedSimpArgs false
set_option linter.unusedVariables false
set_option maxHeartbeats 1000000
namespace Corr
open Go Go.RowKit
structure Pk (Z:Nat→Prop)(D:Nat)(ts:List Thing)(w6:World)(G:Nat→Prop)(W:World):Prop where
 p: ∃U,(packT ts).P W U∧∀k,U k→Z k∧¬G k∧¬(k=D∨k=D+1)
 o:Off Z w6 W
 g: ∀k,G k→D≤k∧k<W.heap.size
section
variable {Z:Nat→Prop} {D:Nat} {ts:List Thing} {w6 W W':World} {G:Nat→Prop}
theorem Pk.grow (h:Pk Z D ts w6 G W)(hZ: ∀k,D≤k→Z k)(hw:w6.heap.size=D)(ho:Off G W W'):Pk Z D ts w6 (madeG G W W') W':=by
 obtain⟨⟨U,h1,h2⟩,h3,h4⟩:=h
 have hD:D≤W.heap.size:=by rw [←hw];exact h3.size
 refine⟨⟨U,(packT ts).keep h1 ho fun k hk=>(h2 k hk).2.1,fun k hk=> ?_⟩,h3.trans (ho.sub fun k _ hk=>hZ k (h4 k hk).1),fun k hk=> ?_⟩
 ·obtain⟨a,b,c⟩:=h2 k hk
  have:=(packT ts).lt h1 k hk
  exact⟨a,fun e=>e.elim b fun e=>by omega,c⟩
 ·rcases hk with hk | hk
  ·exact⟨(h4 k hk).1,Nat.lt_of_lt_of_le (h4 k hk).2 ho.size⟩
  ·exact⟨by omega,hk.2⟩
theorem Pk.obj (h:Pk Z D ts w6 G W)(hZ: ∀k,D≤k→Z k) {l:Nat} {o o':Obj}(h1:D≤l)(h2:l<D+2)(hk:W.heap[l]? =some o):Pk Z D ts w6 G (W.putObj l o'):=by
 obtain⟨⟨U,p1,p2⟩,h3,h4⟩:=h
 have ho:Off (fun k=>k=l) W (W.putObj l o'):=ζl o' rfl hk
 exact⟨⟨U,(packT ts).keep p1 ho fun k hk e=>(p2 k hk).2.2 (by subst e;omega),p2⟩,h3.trans (ζl o' (hZ l h1) hk),fun k hk=>⟨(h4 k hk).1,by rw [World.putObj_size];exact(h4 k hk).2⟩⟩
theorem Pk.free (h:Pk Z D ts w6 G W):Pk Z D ts w6 (fun _=>False) W:=by
 obtain⟨⟨U,p1,p2⟩,h3,h4⟩:=h
 exact⟨⟨U,p1,fun k hk=>⟨(p2 k hk).1,fun e=>e.elim,(p2 k hk).2.2⟩⟩,h3,fun k hk=>hk.elim⟩
def PkS (Z:Nat→Prop)(D:Nat)(ts:List Thing)(w6:World)(G:Nat→Prop)(W W':World):Prop:=Pk Z D ts w6 G W'∧KpOff Z G W W'∧Keeps2 D W W'
theorem PkS.trans {us:List Thing} {W2:World}(h:PkS Z D ts w6 G W W')(k:PkS Z D us w6 G W' W2):PkS Z D us w6 G W W2:=⟨k.1,h.2.1.trans k.2.1,h.2.2.trans k.2.2⟩
theorem Pk.keep (h:Pk Z D ts w6 G W)(hD:D+2≤W.heap.size)(hb:Below W.heap.size W W'):PkS Z D ts w6 G W W':=by
 obtain⟨⟨U,p1,p2⟩,h3,h4⟩:=h
 have ho:Off (fun _=>False) W W':=Off.of hb
 exact⟨⟨⟨U,(packT ts).keep p1 ho fun k _ e=>e,p2⟩,h3.trans (ho.sub fun k _ e=>e.elim),fun k hk=>⟨(h4 k hk).1,Nat.lt_of_lt_of_le (h4 k hk).2 hb.size⟩⟩,⟨ho.sub fun k _ e=>e.elim,fun k hk=>hb.block k (h4 k hk).2⟩,Keeps2.of hb.size (hb.block _ (by omega)) (hb.block _ (by omega))⟩
theorem Pk.turn (h:Pk Z D ts w6 G W)(hZ: ∀k,D≤k→Z k)(hD:D+2≤W.heap.size): ∃U:Nat→Prop,SepF U W ts W∧∀(us:List Thing) (W':World),SepF U W us W'→PkS Z D us w6 G W W':=by
 obtain⟨⟨U,p1,p2⟩,h3,h4⟩:=h
 refine⟨U,p1.2,fun us W' hs=> ?_⟩
 obtain⟨U',q1,q2,q3⟩:=hs.pack
 have hz:Off Z W W':=q2.sub fun k _ hk=>(p2 k hk).1
 refine⟨⟨⟨U',q1,fun k hk=> ?_⟩,h3.trans hz,fun k hk=>⟨(h4 k hk).1,Nat.lt_of_lt_of_le (h4 k hk).2 q2.size⟩⟩,⟨hz,fun k hk=>q2.block k (h4 k hk).2 fun e=>(p2 k e).2.1 hk⟩,Keeps2.of q2.size (q2.block _ (by omega) fun e=>(p2 _ e).2.2 (.inl rfl)) (q2.block _ (by omega) fun e=>(p2 _ e).2.2 (.inr rfl))⟩
 rcases q3 k hk with e | e
 ·exact p2 k e
 ·exact⟨hZ k (by omega),fun hg=>by have:=(h4 k hg).2;omega,by omega⟩
theorem Pk.at_ (h:Pk Z D ts w6 G W): ∃U:Nat→Prop,SepF U W ts W:=by
 obtain⟨⟨U,p1,_⟩,_⟩:=h
 exact⟨U,p1.2⟩
theorem Pk.b (h:Pk Z D ts w6 G W)(i:Nat) {k:Nat} {vs:Array Value}(hi:ts[i]? =some (blkT k vs)):Blk W k vs:=by
 obtain⟨U,hs⟩:=h.at_
 exact hs.b i hi
theorem Pk.push (h:Pk Z D ts w6 G W)(hZ: ∀k,D≤k→Z k)(hD:D+2≤W.heap.size)(vs:Array Value)(T:TypeId):PkS Z D (ts++ [blkT W.heap.size vs]) w6 G W (W.alloc (.cells vs T)):=by
 obtain⟨U,hs,hu⟩:=h.turn hZ hD
 exact hu _ _ (hs.push vs T)
theorem Pk.take (h:Pk Z D ts w6 G W)(n:Nat):Pk Z D (ts.take n) w6 G W:=by
 obtain⟨⟨U,p1,p2⟩,h3,h4⟩:=h
 exact⟨⟨U,⟨p1.1,p1.2.take n⟩,p2⟩,h3,h4⟩
theorem Pk.start {w0 w5:World}(hs:Sep w0 ts w5)(hb5:Below w5.heap.size w5 w6)(hw:w6.heap.size=D)(hz: ∀k,w0.heap.size≤k→k<w5.heap.size→Z k): ∀W,Below w6.heap.size w6 W→Pk Z D ts w6 (fun _=>False) W:=by
 intro W hb
 obtain⟨F,h1,h2,h3⟩:=SepF.pack (F0:=fun _=>False) (w0:=w0) (w:=w5) (ts:=ts) (by obtain⟨Fs,a,b,c,d⟩:=hs;exact⟨Fs,a,b,fun i hi k hk=> .inr (c i hi k hk),Off.of d⟩)
 have hb2:Below w5.heap.size w5 W:=hb5.trans (hb.mono hb5.size)
 refine⟨⟨F,(packT ts).keep h1 (Off.of (F:=fun _=>False) hb2) fun k _ e=>e,fun k hk=> ?_⟩,(Off.of hb),fun k hk=>hk.elim⟩
 have hlt:=(packT ts).lt h1 k hk
 have hs5:=hb5.size
 exact⟨hz k ((h3 k hk).resolve_left fun e=>e) hlt,fun e=>e,by omega⟩
end
open Go.Lib
section
variable {L:List Int}
end
def stepsF (N:Nat)(f:Int→Int):Prop:=∃D:List Int,D.length≤N∧∀d,f d≠f (d-1)→d∈D
theorem stepsF.more {N M:Nat} {f:Int→Int}(h:stepsF N f)(hN:N≤M):stepsF M f:=by obtain⟨D,h1,h2⟩:=h;exact⟨D,by omega,h2⟩
def TelR (R:Nat→Prop)(f:Int→Int)(b d:Int)(g:Nat)(w:World):Prop:=∃A n c l x,Blk w g #[.slice A n c]∧Itm w A n c l∧covP f x b l∧x≤d∧(∀ad,A=some ad→R ad.block)
section
variable {R G:Nat→Prop} {f:Int→Int} {b d d':Int} {g:Nat} {w w':World}
theorem TelR.later (h:TelR R f b d g w)(hd:d≤d'):TelR R f b d' g w:=by
 obtain⟨A,n,c,l,x,h1,h2,h3,h4,h5⟩:=h
 exact⟨A,n,c,l,x,h1,h2,h3,Int.le_trans h4 hd,h5⟩
theorem TelR.off (h:TelR R f b d g w)(ho:Off G w w')(hg: ¬G g)(hR: ∀k,R k→¬G k):TelR R f b d g w':=by
 obtain⟨A,n,c,l,x,h1,h2,h3,h4,h5⟩:=h
 exact⟨A,n,c,l,x,ho.blk h1 hg,ho.lies h2 fun _ ad e=>hR _ (h5 ad e),h3,h4,h5⟩
theorem TelR.sz (h:TelR R f b d g w):g<w.heap.size:=by
 obtain⟨A,n,c,l,x,h1,_⟩:=h;exact h1.sz
end
end Corr
namespace Go.Proofs.YthagdonmijhpdaaGreat
open Go.RowKit Corr
end Go.Proofs.YthagdonmijhpdaaGreat
namespace Corr
open Go Go.RowKit
theorem Off.turn {F0 F:Nat→Prop} {w0 w w':World}(h4:Off F0 w0 w)(ho:Off F w w')(hF: ∀k,F k→F0 k∨w0.heap.size≤k):Off F0 w0 w':=
 ⟨ho.os.trans h4.os,ho.tape.trans h4.tape,ho.output.trans h4.output,Nat.le_trans h4.size ho.size,fun k hk hn=>(ho.block k (Nat.lt_of_lt_of_le hk h4.size) fun e=>by
  rcases hF k e with e | e
  ·exact hn e
  ·omega).trans (h4.block k hk hn)⟩
structure TelsR (R:Nat→Prop)(gs:List Nat)(fs:List (Int→Int))(b d:Int)(w:World):Prop where
 len:gs.length=fs.length
 each: ∀(i g:Nat) (f:Int→Int),gs[i]? =some g→fs[i]? =some f→TelR R f b d g w
 out: ∀g∈gs,¬R g
 one: ∀i j g:Nat,gs[i]? =some g→gs[j]? =some g→i=j
 lt: ∀k,R k∨k∈gs→k<w.heap.size
section
variable {R R' G:Nat→Prop} {gs:List Nat} {fs:List (Int→Int)} {f:Int→Int} {b d d':Int} {g j:Nat} {w w':World}
theorem TelsR.off (h:TelsR R gs fs b d w)(ho:Off G w w')(hn: ∀k,R k∨k∈gs→¬G k):TelsR R gs fs b d w':=
 ⟨h.len,fun i g f h1 h2=>(h.each i g f h1 h2).off ho (hn g (.inr (List.mem_of_getElem? h1))) fun k hk=>hn k (.inl hk),h.out,h.one,fun k hk=>Nat.lt_of_lt_of_le (h.lt k hk) ho.size⟩
theorem TelsR.later (h:TelsR R gs fs b d w)(hd:d≤d'):TelsR R gs fs b d' w:=⟨h.len,fun i g f h1 h2=>(h.each i g f h1 h2).later hd,h.out,h.one,h.lt⟩
end
end Corr
namespace Go.Proofs.YthagdonmijhpdaaGreat
open Go.RowKit Corr
end Go.Proofs.YthagdonmijhpdaaGreat
namespace Corr
open Go Go.RowKit Go.Sort Go.Proofs
def encC (x:Rc):List Value:= [.int .i64 x.1,.int .i64 x.2.1,.int .i64 x.2.2.1,.int .i64 x.2.2.2.1,.int .i64 x.2.2.2.2]
theorem rcs_len5 {W:World} {B n c:Nat} {T:TypeId} {A:Option Addr} {L:List Rc}(h:W.ownsRow B T 5 (.slice A n c) n (ζ4q L)):L.length=n:=by have:=h.1;rw [ζ5c]at this;omega
theorem cells5_get {l:List Rc} {t:Nat}(h:t<l.length*5):(ζ4q l)[t]? =some ((encC l.toArray[t / 5]!)[t % 5]!):=by
 have hs:t / 5<l.length:=by omega
 have hg:l[t / 5]? =some l[t / 5]:=List.getElem?_eq_getElem hs
 have hb:l.toArray[t / 5]! =l[t / 5]:=by simp [hs]
 rw [hb]
 obtain⟨c0,c1,c2,c3,c4⟩:=cells5_at hg
 have hm:t % 5=0∨t % 5=1∨t % 5=2∨t % 5=3∨t % 5=4:=by omega
 rcases hm with e | e | e | e | e
 ·rw [show t / 5*5=t by omega]at c0;rw [c0,e];rfl
 ·rw [show t / 5*5+1=t by omega]at c1;rw [c1,e];rfl
 ·rw [show t / 5*5+2=t by omega]at c2;rw [c2,e];rfl
 ·rw [show t / 5*5+3=t by omega]at c3;rw [c3,e];rfl
 ·rw [show t / 5*5+4=t by omega]at c4;rw [c4,e];rfl
theorem flat_cells5 (l:List Rc):(flatK encC 5 l.toArray).toList=ζ4q l:=by
 apply List.ext_getElem?
 intro t
 by_cases h:t<l.length*5
 ·rw [cells5_get h,Array.getElem?_toList]
  have h2:t<l.toArray.size*5:=by simpa using h
  have:=get_flatK encC 5 l.toArray t h2
  rw [getElem!_pos _ t (by simpa using h2)]at this
  rw [Array.getElem?_eq_getElem (by simpa using h2),this]
 ·rw [List.getElem?_eq_none (by simp;omega),List.getElem?_eq_none (by rw [ζ5c];omega)]
theorem holds_own5 {w:World} {B g n c:Nat} {T:TypeId} {l:List Rc}(h:w.ownsRow B T 5 (.slice (some ⟨g,0,none⟩) n c) n (ζ4q l)):HoldsK encC 5 w g 0 l.toArray:=by
 have hl:l.length=n:=rcs_len5 h
 intro j hj
 rw [size_flatK]at hj
 have hj2:j<l.length*5:=by simpa using hj
 refine⟨?_,?_⟩
 ·rw [Nat.zero_add,h.cellAt j (by omega),cells5_get hj2,get_flatK encC 5 l.toArray j hj];rfl
 ·rw [Nat.zero_add];exact h.frozenAt j
theorem ζ5d (w:World)(g m:Nat)(dk:Array Rc)(os:Array Obj):(sortWorldK encC 5 w g 0 m dk os).heap=(w.heap.modify g (onCells (putCells id 0 (flatK encC 5 dk))))++os:=rfl
theorem own_sorted5 {w:World} {B g n c m:Nat} {T:TypeId} {l:List Rc} {dk:Array Rc} {os:Array Obj}(h:w.ownsRow B T 5 (.slice (some ⟨g,0,none⟩) n c) n (ζ4q l))(hd:dk.size=n):
  (sortWorldK encC 5 w g 0 m dk os).ownsRow B T 5 (.slice (some ⟨g,0,none⟩) n c) n (ζ4q dk.toList)∧Go.RowKit.Below B w (sortWorldK encC 5 w g 0 m dk os):=by
 have hl:=h.1
 rcases h.2 with⟨h',_⟩ | ⟨g',cap',cur,hv,hb,hg,hnc,hcm,hcs,htake⟩
 ·cases h'
 injection hv with e1 _ e3
 injection e1 with e1
 injection e1 with e1 _ _
 subst e1 e3
 have hgs:=(Array.getElem?_eq_some_iff.1 hg).1
 have hF:(flatK encC 5 dk).toList=ζ4q dk.toList:=by simpa using flat_cells5 dk.toList
 have hFs:(flatK encC 5 dk).size=n*5:=by simp [hd]
 have hheap:(sortWorldK encC 5 w g 0 m dk os).heap[g]? =some (.cells (putCells id 0 (flatK encC 5 dk) cur) T):=by
  rw [ζ5d,Array.getElem?_append_left (by simpa using hgs),Array.getElem?_modify,if_pos rfl,hg];rfl
 refine⟨⟨by rw [ζ5c];simp [hd],.inr ⟨g,c,putCells id 0 (flatK encC 5 dk) cur,rfl,hb,hheap,hnc,hcm,?_,?_⟩⟩,⟨rfl,rfl,rfl,?_,?_⟩⟩
 ·unfold putCells;simpa using hcs
 ·rw [←hF]
  apply List.ext_getElem?
  intro t
  rw [List.getElem?_take]
  by_cases ht:t<n*5
  ·have htc:t<cur.size:=by rw [hcs];omega
   rw [if_pos ht,Array.getElem?_toList,Array.getElem?_toList]
   unfold putCells
   rw [Array.getElem?_mapIdx,Array.getElem?_eq_getElem htc,Option.map_some,if_pos ⟨Nat.zero_le _,by rw [hFs];omega⟩,Array.getElem?_eq_getElem (by rw [hFs];exact ht)]
   simp only [Nat.sub_zero,id]
   rw [getElem!_pos _ t (by rw [hFs];exact ht)]
  ·rw [if_neg ht,List.getElem?_eq_none (by simp;omega)]
 ·rw [ζ5d];simp
 ·intro k hk
  have hkg:k≠g:=by omega
  rw [ζ5d]
  by_cases hks:k<w.heap.size
  ·rw [Array.getElem?_append_left (by simpa using hks),Array.getElem?_modify,if_neg (Ne.symm hkg)]
  ·omega
end Corr
namespace Go.Proofs.YthagdonmijhpdaaGreat
open Go.RowKit Corr Go.Sort Go.Shelf
theorem bsort5_any (fid:Nat)(cf:Rc→Rc→Int)(hswo:SWO (ltOf cf))(eg: ∀args w,(callFunc fid args).run Tryz.prog w= .ok (.enter fid args) w)(hcmp: ∀(x y:Rc) (W:World),Calls Tryz.prog fid #[.agg (encC x).toArray,.agg (encC y).toArray] W fun e w'=>e= .returned (.int .i64 (cf x y))∧∃q os',w'=grow (W.drewN q) os')
  (B:Nat) (A:Option Addr) (n c:Nat) (l:List Rc) (w:World) (hown:w.ownsRow B 62 5 (.slice A n c) n (ζ4q l)) (hn:n≤4000000):
  Calls Tryz.prog 59 #[.slice A n c,.func (.func fid) #[] #[]] w fun e w'=>e= .returned (.tuple #[])∧∃m:List Rc,m.Perm l∧m.Pairwise (fun s t=>ltOf cf t s=false)∧w'.ownsRow B 62 5 (.slice A n c) n (ζ4q m)∧Below B w w':=by
 have hl:l.length=n:=rcs_len5 hown
 rcases Nat.eq_zero_or_pos n with h0 | h0
 ·subst h0
  obtain rfl:=List.length_eq_zero_iff.1 hl
  have:=AnyF.slices_SortFunc_none Tryz.laysSortA A c (.func (.func fid) #[] #[]) w
  change Calls Tryz.prog 59 _ _ _ at this
  refine this.mono ?_
  rintro e w' ⟨rfl,rfl⟩
  exact⟨rfl,[],List.Perm.refl _,List.Pairwise.nil,hown,Go.RowKit.Below.refl _ _⟩
 ·rcases Joins.ownsRow_forms hown with⟨_,h1⟩ | ⟨g,d,hv⟩
  ·omega
  injection hv with e1 _ e3
  subst e1 e3
  have hlt:g<w.heap.size:=(hown.lt g rfl).2
  have hsz:l.toArray.size=n:=by simp [hl]
  have hcl:CmpLays Tryz.prog fid #[] encC 5 (fun x y=>cf x y) g 0 l.toArray.size w:=fun _ _ _ _ x y=>hcmp x y _
  have hcon:=AnyQ.slices_SortFunc Tryz.laysSortA 5 Tryz.isAgg62 Tryz.sizeOf62 encC (fun _=>rfl) (fun x v hv=>by simp [encC]at hv;rcases hv with rfl | rfl | rfl | rfl | rfl <;> rfl) (fun x y=>cf x y) hswo fid #[] g 0 c l.toArray w eg hcl (holds_own5 hown) hlt (by rw [hsz];omega)
  rw [hsz]at hcon
  change Calls Tryz.prog 59 _ _ _ at hcon
  refine hcon.mono ?_
  rintro e w' ⟨rfl,d',m,os,hp,hs,rfl⟩
  obtain⟨p1,_,p3⟩:=hp
  have hd:d'.size=n:=by rw [p1,hsz]
  obtain⟨o1,o2⟩:=own_sorted5 (m:=m) (os:=os) hown hd
  refine⟨rfl,d'.toList,?_,?_,o1,o2⟩
  ·have a1:d'.extract 0 n=d':=by rw [←hd];simp
   have a2:l.toArray.extract 0 n=l.toArray:=by rw [←hsz];simp
   rw [a1,a2]at p3
   simpa using p3
  ·rw [List.pairwise_iff_getElem]
   intro i j hi hj hij
   have:=hs i j (Nat.zero_le _) hij (by simpa [hd]using hj)
   rw [getElem!_pos _ i (by simpa using hi),getElem!_pos _ j (by simpa using hj)]at this
   simpa using this
end Go.Proofs.YthagdonmijhpdaaGreat
