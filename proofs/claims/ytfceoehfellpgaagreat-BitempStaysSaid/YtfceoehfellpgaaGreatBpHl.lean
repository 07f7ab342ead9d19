/- The closure of History of package bitemp. -/
import Derived.Test.YtfceoehfellpgaaGreatBpG
import Derived.Test.YtfceoehfellpgaaGreatBp2
import Derived.Test.YtfceoehfellpgaaGreatRf4
open Go.Lib (hid)
set_option linter.unusedSimpArgs false
set_option linter.unusedVariables false
set_option maxRecDepth 8000
namespace Corr
open Go Go.RowKit
theorem Sep.grew3 {w0 w w1:World} {ts:List Thing}(h:Sep w0 ts w)(i:Nat) {base:Nat} {e:TypeId} {sz:Nat} {A:Option Addr} {n c:Nat} {xs:List Value}(hi:ts[i]? =some (rowT base e sz A n c xs)) {A':Option Addr} {n' c':Nat} {ys:List Value}(o:w1.ownsRow base e sz (.slice A' n' c') n' ys)(hg:w.grownBy w1 (Value.slice A n c).ownBlock)(hat: ∀k,(Value.slice A' n' c').ownBlock=some k→(Value.slice A n c).ownBlock=some k∨w.heap.size≤k):Sep w0 (ts.set i (rowT base e sz A' n' c' ys)) w1:=by
 obtain⟨F,hp,_,hu⟩:=h.get hi
 exact hu w1 (fun k=>(Value.slice A' n' c').ownBlock=some k) (rowT base e sz A' n' c' ys) ((Off.grown (v:= .slice A n c) hg).mono fun k _ hk=>(hp.2 k).2 hk) ⟨o,fun _=>Iff.rfl⟩ fun k hk=>(hat k hk).imp_left (hp.2 k).2
abbrev verT (T:TypeId)(gl gi:Nat)(A:Option Addr)(n c:Nat)(l:List (Int × Int))(is:Int)(rest:List Thing):List Thing:=blkT gl #[.slice A n c] :: blkT gi #[.int .i64 is] :: rowT 0 T 2 A n c (ζ1j l) :: rest
def VerP (T:TypeId)(w0:World)(gl gi n:Nat)(l:List (Int × Int))(is t v:Int)(rest:List Thing)(e:Ending)(w':World):Prop:=∃A' n' c',e= .returned (.tuple #[])∧n'≤n+1∧Sep w0 (verT T gl gi A' n' c' (layH l is t v) v rest) w'
theorem cells2_one13 (x:Int × Int): ∀u∈ζ1j [x],u.oneCell'=true:=by
 intro u hu
 simp [ζ1j]at hu
 rcases hu with rfl | rfl <;> rfl
end Corr
namespace Go.Proofs.YtfceoehfellpgaaGreat
open Go.RowKit Corr
set_option maxHeartbeats 1000000 in
theorem blay_any (w0 w:World)(rest:List Thing)(gl gi:Nat)(A:Option Addr)(n c:Nat)(l:List (Int × Int))(is t v:Int)(hn:n≤100000)(h:Sep w0 (verT 52 gl gi A n c l is rest) w):
  Calls Tryz.prog 47 #[.int .i64 t,.int .i64 v,.pointer (some ⟨gi,0,none⟩),.pointer (some ⟨gl,0,none⟩)] w (VerP 52 w0 gl gi n l is t v rest):=by
 have HS:=hid h
 have HN:=hid hn
 have i0:=(h.b 1 rfl).get 0 rfl
 clear h hn
 by_cases hv:is=v
 ·have d0:(is == v)=true:=by simpa using hv
  have HE:=hid (show layH l is t v=l by unfold layH;rw [if_pos hv])
  have HV:=hid hv
  clear hv
  go_enter Tryz.func47,Tryz.ntmps47
  go_wp2_with fail
  refine(ζ1a is v _).mono ?_
  rintro e w1 ⟨rfl,hb⟩
  have HS1:=hid (HS.out.keep hb)
  clear hb
  go_wp2_with fail
  refine bodyPost_ret (v:= .tuple #[]) (by simp [results,Tryz.results47,go_sem]) rfl ⟨A,n,c,rfl,Nat.le_succ _,?_⟩
  rw [HE.out,←HV.out]
  exact HS1.out
 ·have d0:(is == v)=false:=by simpa using hv
  have HE:=hid (show layH l is t v=l++ [(t,v)] by unfold layH;rw [if_neg hv])
  clear hv
  go_enter Tryz.func47,Tryz.ntmps47
  go_wp2_with fail
  refine(ζ1a is v _).mono ?_
  rintro e w1 ⟨rfl,hb⟩
  have HS1:=hid (HS.out.keep hb)
  clear hb i0
  have l0:=(HS1.out.b 0 rfl).get 0 rfl
  have HA:=hid ((Below.refl w1.heap.size w1).alloc (Nat.le_refl _) (.cells #[.int .i64 t,.int .i64 v] 52))
  have HCN:=hid (new_cells w1 (ζ1j [(t,v)]) 52)
  have HS2:=hid (HS1.out.keep HA.out)
  go_wp2_with (at_builtin;refine wpList_app2 rfl _ _ 49 rfl (ζ1j [(t,v)]) elem_ver rfl (HS2.out.row 2 rfl) rfl rfl HCN.out (cells2_one13 _) (by have:=HN.out;omega) (by have:=HN.out;unfold maxLen;omega) (Nat.zero_le _) ?_)
  intro v4 w4 hown4 hg4 hat4
  obtain⟨A4,d4,rfl,_⟩:=Lies.of_own hown4 (by have:=hown4.1;exact this)
  have HS4:=hid (HS2.out.grew3 2 rfl (by rw [←cells2_append]at hown4;exact hown4) hg4 (fun k hk=>(hat4 k hk).imp id fun h=>by simpa using h))
  have y0:=(HS4.out.b 0 rfl).get 0 rfl
  have yf:=(HS4.out.b 0 rfl).f 0
  have HS5:=hid (HS4.out.set 0 rfl 0 (.slice A4 (n+1) d4))
  have z0:=(HS5.out.b 1 rfl).get 0 rfl
  have zf:=(HS5.out.b 1 rfl).f 0
  have HS6:=hid (HS5.out.set 1 rfl 0 (.int .i64 v))
  clear hown4 hg4 hat4 l0
  go_wp2_with fail
  refine bodyPost_ret (v:= .tuple #[]) (by simp [results,Tryz.results47,go_sem]) rfl ⟨A4,n+1,d4,rfl,Nat.le_refl _,?_⟩
  rw [HE.out]
  exact HS6.out
end Go.Proofs.YtfceoehfellpgaaGreat
