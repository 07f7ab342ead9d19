/- Puts of a store (a transaction, a span, a number) and rows of them -/
import Derived.Test.YthagdonmijhpdaaGreatRf4
import Derived.BigQuiet
import Derived.Test.YthagdonmijhpdaaGreatTlKnown
import Derived.Test.YthagdonmijhpdaaGreatFrameOps
open Go.Lib (hid)
set_option linter.unusedSimpArgs false
set_option linter.unusedVariables false
set_option maxHeartbeats 4000000
set_option maxRecDepth 8000
namespace Corr
open Go Go.RowKit
abbrev RepB:=World→Value→(Nat→Prop)→ClL→Prop
structure BtOk (RB:RepB):Prop where
 lt: ∀ {w p F L},RB w p F L→∀k,F k→k<w.heap.size
 keep: ∀ {w w' p F G L},RB w p F L→Off G w w'→(∀k,F k→¬G k)→RB w' p F L
def btT {RB:RepB}(R:BtOk RB)(p:Value)(L:ClL):Thing where
 P w F:=RB w p F L
 lt:=R.lt
 keep:=R.keep
def RetRects (T:TypeId)(w:World)(L:ClL)(e:Ending)(w':World):Prop:=∃R A n c,e= .returned (.slice A n c)∧rectsS L R∧w'.ownsRow w.heap.size T 5 (.slice A n c) n (ζ4q R)∧Below w.heap.size w w'
end Corr
namespace Go.Proofs.YthagdonmijhpdaaGreat
open Go.RowKit Corr
structure BtK (RL:RepL)(RB:RepB):Prop extends BtOk RB where
 tl:TlOk RL
 make: ∀(w:World),Calls Tryz.prog 9 #[] w fun e w'=>∃(q:Addr) (F:Nat→Prop),e= .returned (.pointer (some q))∧RB w' (.pointer (some q)) F []∧Below w.heap.size w w'∧∀k,F k→w.heap.size≤k
 put: ∀(w:World) (p:Value) (F:Nat→Prop) (L:ClL) (t a b v:Int),RB w p F L→goodS L→L.length≤100→-9223372036854775808≤t→t≤9223372036854775807→Calls Tryz.prog 10 #[p,.int .i64 t,.agg #[.int .i64 a,.int .i64 b],.int .i64 v] w fun e w'=>∃F':Nat→Prop,e= .returned (.int .i64 (bputR L t a b))∧RB w' p F' (bputL L t a b v)∧Off F w w'∧∀k,F' k→F k∨w.heap.size≤k
 last: ∀(w:World) (p:Value) (F:Nat→Prop) (L:ClL),RB w p F L→goodS L→L.length≤100→Calls Tryz.prog 12 #[p] w fun e w'=>e= .returned (.int .i64 (lastL L))∧Below w.heap.size w w'
 at_: ∀(w:World) (p:Value) (F:Nat→Prop) (L:ClL) (t d:Int),RB w p F L→goodS L→L.length≤100→-9223372036854775808≤t→t≤9223372036854775807→-9223372036854775808≤d→d≤9223372036854775807→Calls Tryz.prog 14 #[p,.int .i64 t,.int .i64 d] w fun e w'=>e= .returned (.int .i64 (valS L t d))∧Below w.heap.size w w'
 segs: ∀(w:World) (p:Value) (F:Nat→Prop) (L:ClL) (t a b:Int),RB w p F L→goodS L→L.length≤100→-9223372036854775808≤t→t≤9223372036854775807→Calls Tryz.prog 17 #[p,.int .i64 t,.agg #[.int .i64 a,.int .i64 b]] w (ζ1r 89 w (valS L t) a b)
 hist: ∀(w:World) (p:Value) (F:Nat→Prop) (L:ClL) (d:Int),RB w p F L→goodS L→L.length≤100→-9223372036854775808≤d→d≤9223372036854775807→Calls Tryz.prog 23 #[p,.int .i64 d] w (RetHist 52 w L d)
 rects: ∀(w:World) (p:Value) (F:Nat→Prop) (L:ClL),RB w p F L→goodS L→L.length≤100→Calls Tryz.prog 28 #[p] w (RetRects 62 w L)
section
variable {RL:RepL} {RB:RepB} {w0 w:World} {ts:List Thing} {p:Value} {i:Nat} {L:ClL}
theorem sep_bmake (K:BtK RL RB)(h:Sep w0 ts w):Calls Tryz.prog 9 #[] w fun e w'=>∃q:Addr,e= .returned (.pointer (some q))∧Sep w0 (ts++ [btT K.toBtOk (.pointer (some q)) []]) w':=by
 refine(K.make w).mono fun e w' hq=> ?_
 obtain⟨q,F,he,hr,hb,hF⟩:=hq
 exact⟨q,he,h.add hb (t:=btT K.toBtOk (.pointer (some q)) []) hr hF⟩
theorem sep_bput (K:BtK RL RB)(h:Sep w0 ts w)(hi:ts[i]? =some (btT K.toBtOk p L))(hg:goodS L)(hN:L.length≤100)(t a b v:Int)(t1: -9223372036854775808≤t)(t2:t≤9223372036854775807):Calls Tryz.prog 10 #[p,.int .i64 t,.agg #[.int .i64 a,.int .i64 b],.int .i64 v] w fun e w'=>e= .returned (.int .i64 (bputR L t a b))∧Sep w0 (ts.set i (btT K.toBtOk p (bputL L t a b v))) w':=by
 obtain⟨F,hp,_,hu⟩:=h.get hi
 refine(K.put w p F L t a b v hp hg hN t1 t2).mono fun e w' hq=> ?_
 obtain⟨F',he,hr,ho,hF⟩:=hq
 exact⟨he,hu w' F' (btT K.toBtOk p (bputL L t a b v)) ho hr hF⟩
theorem sep_blast (K:BtK RL RB)(h:Sep w0 ts w)(hi:ts[i]? =some (btT K.toBtOk p L))(hg:goodS L)(hN:L.length≤100):Calls Tryz.prog 12 #[p] w fun e w'=>e= .returned (.int .i64 (lastL L))∧Below w.heap.size w w':=by
 obtain⟨F,hp,_⟩:=h.get hi
 exact K.last w p F L hp hg hN
theorem ζ5i (K:BtK RL RB)(h:Sep w0 ts w)(hi:ts[i]? =some (btT K.toBtOk p L))(hg:goodS L)(hN:L.length≤100)(t d:Int)(t1: -9223372036854775808≤t)(t2:t≤9223372036854775807)(u1: -9223372036854775808≤d)(u2:d≤9223372036854775807) {r:Int}(hr:valS L t d=r):Calls Tryz.prog 14 #[p,.int .i64 t,.int .i64 d] w fun e w'=>e= .returned (.int .i64 r)∧Below w.heap.size w w':=by
 obtain⟨F,hp,_⟩:=h.get hi
 rw [←hr];exact K.at_ w p F L t d hp hg hN t1 t2 u1 u2
theorem sep_bsegs (K:BtK RL RB)(h:Sep w0 ts w)(hi:ts[i]? =some (btT K.toBtOk p L))(hg:goodS L)(hN:L.length≤100)(t a b:Int)(t1: -9223372036854775808≤t)(t2:t≤9223372036854775807):Calls Tryz.prog 17 #[p,.int .i64 t,.agg #[.int .i64 a,.int .i64 b]] w (ζ1r 89 w (valS L t) a b):=by
 obtain⟨F,hp,_⟩:=h.get hi
 exact K.segs w p F L t a b hp hg hN t1 t2
theorem sep_bhist (K:BtK RL RB)(h:Sep w0 ts w)(hi:ts[i]? =some (btT K.toBtOk p L))(hg:goodS L)(hN:L.length≤100)(d:Int)(u1: -9223372036854775808≤d)(u2:d≤9223372036854775807):Calls Tryz.prog 23 #[p,.int .i64 d] w (RetHist 52 w L d):=by
 obtain⟨F,hp,_⟩:=h.get hi
 exact K.hist w p F L d hp hg hN u1 u2
theorem sep_brects (K:BtK RL RB)(h:Sep w0 ts w)(hi:ts[i]? =some (btT K.toBtOk p L))(hg:goodS L)(hN:L.length≤100):Calls Tryz.prog 28 #[p] w (RetRects 62 w L):=(by
 obtain⟨F,hp,_⟩:=h.get hi
 exact K.rects w p F L hp hg hN)
end
end Go.Proofs.YthagdonmijhpdaaGreat
namespace Corr
open Go Go.RowKit
def kb1:ClL:= [(1,1,10,5)]
def kb2:ClL:= [(1,1,10,5),(3,4,6,7)]
theorem kb1_good:goodS kb1:=⟨by decide,by decide,by decide⟩
theorem ζ2w:goodS kb2:=⟨by decide,by decide,by decide⟩
theorem kb2_val (d:Int):valS kb2 3 d=if 4≤d∧d<6 then 7 else if 1≤d∧d<10 then 5 else 0:=by
 show atL ([(1,10,5)]++ [(4,6,7)]) d=_
 rw [atL_snoc]
 unfold updF
 simp only []
 show (if 4≤d∧d<6 then(7:Int)else atL ([]++ [(1,10,5)]) d)=_
 rw [atL_snoc]
 rfl
theorem kbseg:segF (valS kb2 3) 1 10 [(1,4,5),(4,6,7),(6,10,5)]:=by
 unfold segF
 rw [if_pos (by decide)]
 refine⟨rfl,by decide,fun d h1 h2=> ?_,fun t ht=> ?_,rfl,by decide,fun d h1 h2=> ?_,fun t ht=> ?_,rfl,by decide,fun d h1 h2=> ?_,fun t ht=> ?_,rfl⟩
 all_goals first
 |(rw [kb2_val];simp only at h1 h2 ⊢;(repeat' split) <;> omega)
 |(simp at ht;subst ht;decide)
 |(simp at ht;done)
 |(simp at ht;subst ht;simp)
end Corr
namespace Go.Proofs.YthagdonmijhpdaaGreat
open Go.RowKit Corr
theorem ζ54 {RL:RepL} {RB:RepB}(K:BtK RL RB)(w:World):Calls Tryz.prog 8 #[] w fun e w'=>e= .returned (.bool true)∧Below w.heap.size w w':=by
 have HK:=hid K
 clear K
 go_enter Tryz.func8,Tryz.ntmps8
 go_wp2_with fail
 refine(sep_bmake HK.out (Sep.nil w)).mono ?_
 rintro e w1 ⟨q,rfl,s1⟩
 have HS1:=hid (show Sep w [btT HK.out.toBtOk (.pointer (some q)) []] w1 from s1)
 clear s1
 go_wp2_with fail
 refine(sep_bput HK.out HS1.out (i:=0) rfl goodS_nil (by decide) 1 1 10 5 (by decide) (by decide)).mono ?_
 rintro e w2 ⟨rfl,s2⟩
 have HS2:=hid (show Sep w [btT HK.out.toBtOk (.pointer (some q)) kb1] w2 from s2)
 clear s2 HS1
 rw [show bputR [] 1 1 10=0 by decide]
 go_wp2_with fail
 refine(sep_bput HK.out HS2.out (i:=0) rfl kb1_good (by decide) 3 4 6 7 (by decide) (by decide)).mono ?_
 rintro e w3 ⟨rfl,s3⟩
 have HS3:=hid (show Sep w [btT HK.out.toBtOk (.pointer (some q)) kb2] w3 from s3)
 clear s3 HS2
 rw [show bputR kb1 3 4 6=0 by decide]
 go_wp2_with fail
 refine(sep_bput HK.out HS3.out (i:=0) rfl ζ2w (by decide) 2 4 6 7 (by decide) (by decide)).mono ?_
 rintro e w4 ⟨rfl,s4⟩
 have HS4:=hid (show Sep w [btT HK.out.toBtOk (.pointer (some q)) kb2] w4 from s4)
 clear s4 HS3
 rw [show bputR kb2 2 4 6=2 by decide]
 go_wp2_with fail
 refine(sep_bhist HK.out HS4.out (i:=0) rfl ζ2w (by decide) 4 (by decide) (by decide)).mono ?_
 rintro e w5 ⟨Ah,nh,ch,rfl,oh,b5⟩
 rw [show histL kb2 4= [(1,5),(3,7)] by decide]at oh
 have HS5:=hid (HS4.out.keep b5)
 have HH:=hid (show Spn w5 Ah nh ch [(1,5),(3,7)]from ζv oh)
 obtain rfl:nh=2:=(Spn.count HH.out).symm
 clear oh b5 HS4
 go_wp2_with fail
 refine(sep_blast HK.out HS5.out (i:=0) rfl ζ2w (by decide)).mono ?_
 rintro e w6 ⟨rfl,b6⟩
 have HS6:=hid (HS5.out.keep b6)
 have HH6:=hid (HH.out.keep b6)
 clear b6 HS5 HH
 rw [show lastL kb2=3 by decide]
 go_wp2_with fail
 refine(ζ5i HK.out HS6.out (i:=0) rfl ζ2w (by decide) 2 4 (by decide) (by decide) (by decide) (by decide) (r:=5) (by decide)).mono ?_
 rintro e w7 ⟨rfl,b7⟩
 have HS7:=hid (HS6.out.keep b7)
 have HH7:=hid (HH6.out.keep b7)
 clear b7 HS6 HH6
 go_wp2_with fail
 refine(ζ5i HK.out HS7.out (i:=0) rfl ζ2w (by decide) 3 4 (by decide) (by decide) (by decide) (by decide) (r:=7) (by decide)).mono ?_
 rintro e w8 ⟨rfl,b8⟩
 have HS8:=hid (HS7.out.keep b8)
 have HH8:=hid (HH7.out.keep b8)
 clear b8 HS7 HH7
 go_wp2_with fail
 refine(ζ5i HK.out HS8.out (i:=0) rfl ζ2w (by decide) 0 4 (by decide) (by decide) (by decide) (by decide) (r:=0) (by decide)).mono ?_
 rintro e w9 ⟨rfl,b9⟩
 have HS9:=hid (HS8.out.keep b9)
 have HH9:=hid (HH8.out.keep b9)
 obtain⟨gh,oh,y,rfl,hy,hgh,k0,k1⟩:=Spn.get HH9.out (k:=0) (by decide)
 obtain⟨gh',oh',z,hA,hz,_,k2,k3⟩:=Spn.get HH9.out (k:=1) (by decide)
 obtain⟨rfl,rfl⟩:gh=gh'∧oh=oh':=by
  injection hA with hA
  injection hA with h1 h2
  exact⟨h1,h2⟩
 obtain rfl:y=(1,5):=by simpa using hy.symm
 obtain rfl:z=(3,7):=by simpa using hz.symm
 simp only [Nat.zero_mul,Nat.add_zero]at k0 k1 k2 k3
 clear b9 HS8 HH8 hy hz hA
 go_wp2_with fail
 refine(sep_bsegs HK.out HS9.out (i:=0) rfl ζ2w (by decide) 3 1 10 (by decide) (by decide)).mono ?_
 rintro e w10 ⟨out,A8,n8,c8,rfl,hsg,o8,b10⟩
 obtain rfl:=ζ48 hsg kbseg
 have hn8:n8=3:=(Itm.count (ζv o8)).symm
 subst hn8
 have HB:=hid ((HS9.out.keep b10).bl)
 clear hsg o8 b10 HS9
 go_wp2_with fail
 go_ret
 exact⟨rfl,HB.out⟩
end Go.Proofs.YthagdonmijhpdaaGreat
namespace Corr
open Go Go.RowKit
def okC13 (l:ClL):Prop:=∀c∈l,-9223372036854775808≤c.1∧c.1≤9223372036854775807
end Corr
namespace Go.Proofs.YthagdonmijhpdaaGreat
open Go.RowKit Corr
structure TlB (RL:RepL):Prop extends TlOk RL where
 make: ∀(w:World),Calls Tryz.prog 29 #[] w fun e w'=>∃(q:Addr) (F:Nat→Prop),e= .returned (.pointer (some q))∧RL w' (.pointer (some q)) F 0 (fun _=>0)∧Below w.heap.size w w'∧∀k,F k→w.heap.size≤k
 segs: ∀(w:World) (p:Value) (F:Nat→Prop) (N:Nat) (f:Int→Int) (a b:Int),RL w p F N f→N≤300→Calls Tryz.prog 21 #[p,.agg #[.int .i64 a,.int .i64 b]] w (ζ1r 89 w f a b)
 same: ∀(w:World) (p q:Value) (F G:Nat→Prop) (N M:Nat) (f g:Int→Int),RL w p F N f→RL w q G M g→N≤300→M≤300→Calls Tryz.prog 27 #[p,q] w (RetSameF w f g)
section
variable {RL:RepL} {w0 w:World} {ts:List Thing} {p:Value} {N i:Nat} {f:Int→Int}
end
end Go.Proofs.YthagdonmijhpdaaGreat
namespace Corr
open Go Go.RowKit
def okD13 (l:SpL):Prop:=∀s∈l,(-9223372036854775808≤s.1∧s.1≤9223372036854775807)∧-9223372036854775808≤s.2∧s.2≤9223372036854775807
theorem ζ58 {B g o:Nat} {w w':World} {v:Value}(h:Below B w w')(hp:g<B)(y:w.cell? ⟨g,o,none⟩=some v):w'.cell? ⟨g,o,none⟩=some v:=(Below.cell (p:=⟨g,o,none⟩) h hp).trans y
end Corr
namespace Go.Proofs.YthagdonmijhpdaaGreat
open Go.RowKit Corr
theorem ζ5a {RL:RepL} {RB:RepB} {w0 w:World} {ts:List Thing} {p:Value} {i:Nat} {L:ClL} {r:Int}(K:BtK RL RB)(h:Sep w0 ts w)(hi:ts[i]? =some (btT K.toBtOk p L))(hg:goodS L)(hN:L.length≤100)(hr:lastL L=r):Calls Tryz.prog 12 #[p] w fun e w'=>e= .returned (.int .i64 r)∧Below w.heap.size w w':=by
 subst hr;exact sep_blast K h hi hg hN
open Go.ChangeShapes Go.WideShapes Go.ChangeAt Go.Joins Go.Deep
set_option maxRecDepth 100000
abbrev ClR:= { s:Cl // -9223372036854775808≤s.1∧s.1≤9223372036854775807 }
abbrev SpR:= { s:Int × Int // (-9223372036854775808≤s.1∧s.1≤9223372036854775807)∧-9223372036854775808≤s.2∧s.2≤9223372036854775807 }
section
variable {H:Type} {enc:TypeId × Value→H} {W:World} {base b0:Nat} {sp:Nat→Bool} {held:Bool} {r:Reach} {v:Value} {d:DataW H} {p:List MemPlace}
theorem read_put13 {n:Nat} {cs:List Value} {x:DataW H × List MemPlace}(h:DataW.trod enc Tryz.prog W base sp held n 32 cs=some x): ∃s:ClR,cs= [.int .i64 s.1.1,.int .i64 s.1.2.1,.int .i64 s.1.2.2.1,.int .i64 s.1.2.2.2]:=by
 obtain⟨y0,y1,y2,k,rfl,hl,h0,h1,h2⟩:=trod_struct3 Tryz.underlying32 h
 rw [show Tryz.prog.cellsOf 32=4 by kernel_rfl]at hl
 obtain⟨a,e0,_,wa⟩:=DataW.trod_int Tryz.underlying3 h0
 obtain⟨b,c,e1⟩:=read_spanC h1
 obtain⟨d,e2,_⟩:=DataW.trod_int Tryz.underlying3 h2
 match cs,hl with
 | [v0,v1,v2,v3],_=>
  have f0: [v0]= [Value.int .i64 a]:=e0
  have f1: [v1,v2]= [Value.int .i64 b,.int .i64 c]:=e1
  have f2: [v3]= [Value.int .i64 d]:=e2
  simp at f0 f1 f2
  obtain⟨rfl,rfl⟩:=f1
  subst f0 f2
  exact⟨⟨(a,b,c,d),bounds_i64 wa⟩,rfl⟩
theorem ζ4l: ∀l:List ClR,l.flatMap (fun s:ClR=> [Value.int .i64 s.1.1,.int .i64 s.1.2.1,.int .i64 s.1.2.2.1,.int .i64 s.1.2.2.2])=ζz (l.map (·.1))
 | []=>rfl
 | s :: r=>by rw [List.flatMap_cons,ζ4l r];rfl
theorem open_puts13 (hv:Value.okWide Tryz.prog W r b0 22 v)(h:DataW.Trod enc Tryz.prog W base sp held 22 v d p): ∃(A:Option Addr) (n c:Nat) (l:ClL),v= .slice A n c∧Cls W A n c l∧okC13 l:=by
 obtain⟨A,n,c,l,hv,hl⟩:=open_rows (f:=fun s:ClR=> [Value.int .i64 s.1.1,.int .i64 s.1.2.1,.int .i64 s.1.2.2.1,.int .i64 s.1.2.2.2]) (size:=4) (fun _=>rfl) (by decide) Tryz.underlying22 (by kernel_rfl) (fun n cs x hx=>read_put13 hx) hv h
 rw [ζ4l]at hl
 refine⟨A,n,c,l.map (·.1),hv,hl,fun y hy=> ?_⟩
 obtain⟨s,_,rfl⟩:=List.mem_map.1 hy
 exact s.2
theorem open_put13 (hv:Value.okWide Tryz.prog W r b0 32 v)(h:DataW.Trod enc Tryz.prog W base sp held 32 v d p): ∃t a b n:Int,v= .agg #[.int .i64 t,.int .i64 a,.int .i64 b,.int .i64 n]∧-9223372036854775808≤t∧t≤9223372036854775807:=by
 obtain⟨cs,rfl,_⟩:=okWide_struct Tryz.underlying32 hv
 obtain⟨fuel,hf⟩:=h
 obtain⟨s,hs⟩:=read_put13 (show DataW.trod enc Tryz.prog W base sp held fuel 32 cs.toList=some (d,p)from hf)
 refine⟨s.1.1,s.1.2.1,s.1.2.2.1,s.1.2.2.2,?_,s.2.1,s.2.2⟩
 rw [show cs=cs.toList.toArray from rfl,hs]
theorem read_spanD {n:Nat} {cs:List Value} {x:DataW H × List MemPlace}(h:DataW.trod enc Tryz.prog W base sp held n 24 cs=some x): ∃s:SpR,cs= [.int .i64 s.1.1,.int .i64 s.1.2]:=by
 obtain⟨y0,y1,k,rfl,hl,h0,h1⟩:=trod_struct2 Tryz.underlying24 h
 rw [Tryz.cellsSpan]at hl
 obtain⟨a,e0,_,wa⟩:=DataW.trod_int Tryz.underlying3 h0
 obtain⟨b,e1,_,wb⟩:=DataW.trod_int Tryz.underlying3 h1
 match cs,hl with
 | [v0,v1],_=>
  have f0: [v0]= [Value.int .i64 a]:=e0
  have f1: [v1]= [Value.int .i64 b]:=e1
  simp at f0 f1
  subst f0 f1
  exact⟨⟨(a,b),bounds_i64 wa,bounds_i64 wb⟩,rfl⟩
theorem ζ4m: ∀l:List SpR,l.flatMap (fun s:SpR=> [Value.int .i64 s.1.1,.int .i64 s.1.2])=ζ1q (l.map (·.1))
 | []=>rfl
 | s :: r=>by rw [List.flatMap_cons,ζ4m r];rfl
theorem open_spansD (hv:Value.okWide Tryz.prog W r b0 53 v)(h:DataW.Trod enc Tryz.prog W base sp held 53 v d p): ∃(A:Option Addr) (n c:Nat) (l:SpL),v= .slice A n c∧Spn W A n c l∧okD13 l:=by
 obtain⟨A,n,c,l,hv,hl⟩:=open_rows (f:=fun s:SpR=> [Value.int .i64 s.1.1,.int .i64 s.1.2]) (size:=2) (fun _=>rfl) (by decide) Tryz.underlying53 Tryz.cellsSpan (fun n cs x hx=>read_spanD hx) hv h
 rw [ζ4m]at hl
 refine⟨A,n,c,l.map (·.1),hv,hl,fun y hy=> ?_⟩
 obtain⟨s,_,rfl⟩:=List.mem_map.1 hy
 exact s.2
end
end Go.Proofs.YthagdonmijhpdaaGreat
