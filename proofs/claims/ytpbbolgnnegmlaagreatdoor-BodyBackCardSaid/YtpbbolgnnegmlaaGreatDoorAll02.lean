/- Lemmas of the proof: NatMem. -/
import Derived.Test.YtpbbolgnnegmlaaGreatDoorAll00
import Derived.WalkKit
import Derived.Below
import Derived.Laws.OwnMore
import Derived.Deep.AppendLies
import Derived.Deep.Draws
import Derived.Lib.Hide
set_option linter.unusedVariables false
set_option linter.unusedSimpArgs false
set_option maxRecDepth 100000
set_option maxHeartbeats 32000000
namespace Go.Proofs.YtpbbolgnnegmlaaGreatDoor.Num
open Go.RowKit
def Row(w:World)(B:Nat)(A:Option Addr)(vs:List Value):Prop:=
 vs=[]∨∃b o,A=some ⟨b,o,none⟩∧b<B∧∀j u,vs[j]?=some u→w.cell? ⟨b,o+j,none⟩=some u
def vals(xs:List Nat):List Value:=xs.map (fun(x:Nat)=>Value.int .u32 (x:Int))
theorem vals_get{xs:List Nat}{j:Nat}(h:j<xs.length):(vals xs)[j]?=some (.int .u32 (gd xs j:Nat)):=by
 unfold vals;rw[List.getElem?_map,gd_of_lt h];rfl
theorem vals_len(xs:List Nat):(vals xs).length=xs.length:=by simp[vals]
theorem vals_one(xs:List Nat):∀u∈vals xs,u.oneCell'=true:=by
 intro u hu;obtain⟨x,_,rfl⟩:=List.mem_map.1 hu;rfl
theorem vals_append(xs ys:List Nat):vals (xs++ys)=vals xs++vals ys:=by simp[vals]
theorem vals_take(xs:List Nat)(n:Nat):vals (xs.take n)=(vals xs).take n:=by simp[vals,List.map_take]
theorem vals_set(xs:List Nat)(i x:Nat):vals (xs.set i x)=(vals xs).set i (.int .u32 (x:Int)):=by simp[vals,List.map_set]
structure Lim (w:World) (B:Nat) (A:Option Addr) (n c:Nat) (xs:List Nat):Prop where
 len:xs.length=n
 cap:n≤c
 room:c≤maxLen
 fit:∀x∈xs,x<4294967296
 row:Row w B A (vals xs)
 addr:A=none→c=0
section
variable {w w':World}{B n c:Nat}{A:Option Addr}{xs:List Nat}
theorem Row.keep{vs:List Value}(h:Row w B A vs)(hk:∀p:Addr,p.block<B→w'.cell? p=w.cell? p):Row w' B A vs:=by
 rcases h with h|⟨b,o,rfl,hb,hc⟩
 ·exact .inl h
 ·exact .inr ⟨b,o,rfl,hb,fun j u hu=>(hk ⟨b,o+j,none⟩ hb).trans (hc j u hu)⟩
theorem Row.more{B':Nat}{vs:List Value}(h:Row w B A vs)(hB:B≤B'):Row w B' A vs:=by
 rcases h with h|⟨b,o,rfl,hb,hc⟩
 ·exact .inl h
 ·exact .inr ⟨b,o,rfl,by omega,hc⟩
theorem Lim.keep(h:Lim w B A n c xs)(hk:∀p:Addr,p.block<B→w'.cell? p=w.cell? p):Lim w' B A n c xs:=⟨h.len,h.cap,h.room,h.fit,h.row.keep hk,h.addr⟩
theorem Lim.more{B':Nat}(h:Lim w B A n c xs)(hB:B≤B'):Lim w B' A n c xs:=⟨h.len,h.cap,h.room,h.fit,h.row.more hB,h.addr⟩
theorem Lim.below(h:Lim w B A n c xs)(hb:Below B w w'):Lim w' B A n c xs:=h.keep fun _ hp=>hb.cell hp
theorem Lim.at_{k:Nat}(h:Lim w B A n c xs)(hk:k<n):∃b o,A=some ⟨b,o,none⟩∧b<B∧w.cell? ⟨b,o+k,none⟩=some (.int .u32 (gd xs k:Nat)):=by
 rcases h.row with h0|⟨b,o,rfl,hb,hc⟩
 ·have:=congrArg List.length h0
  rw[vals_len,h.len] at this;simp at this;omega
 ·exact⟨b,o,rfl,hb,hc k _ (vals_get (by rw[h.len];exact hk))⟩
theorem Lim.gd_lt(h:Lim w B A n c xs)(k:Nat):gd xs k<4294967296:=by
 unfold gd;rcases Nat.lt_or_ge k xs.length with hi|hi
 ·rw[List.getD_eq_getElem?_getD,List.getElem?_eq_getElem hi];exact h.fit _ (List.getElem_mem hi)
 ·rw[List.getD_eq_getElem?_getD,List.getElem?_eq_none hi];simp
theorem Lim.nil:Lim w B none 0 0 []:=⟨rfl,Nat.le_refl _,by simp[maxLen],(fun _ h=>by cases h),.inl rfl,fun _=>rfl⟩
theorem Lim.take{k:Nat}(h:Lim w B A n c xs)(hk:k≤n):Lim w B A k c (xs.take k):=by
 refine⟨by rw[List.length_take,h.len];omega,Nat.le_trans hk h.cap,h.room,fun x hx=>h.fit x (List.mem_of_mem_take hx),?_,h.addr⟩;rcases h.row with h0|⟨b,o,rfl,hb,hc⟩
 ·left;rw[vals_take,h0];simp
 ·refine .inr ⟨b,o,rfl,hb,fun j u hu=>hc j u ?_⟩
  rw[vals_take,List.getElem?_take] at hu;split at hu
  ·exact hu
  ·cases hu
theorem Lim.of_own{base:Nat}{e:TypeId}(h:w.ownsRow base e 1 (.slice A n c) n (vals xs))(hfit:∀x∈xs,x<4294967296):Lim w w.heap.size A n c xs:=by
 have hl:xs.length=n:=by have:=h.1;rw[vals_len] at this;omega
 rcases h.2 with⟨h1,h2⟩|⟨g,cap,cur,hv,hg,hh,hnc,hcm,hsz,htk⟩
 ·injection h1 with h1 h3 h4
  subst h1;subst h4;subst h3;obtain rfl:xs=[]:=List.eq_nil_of_length_eq_zero hl;exact Lim.nil
 ·injection hv with h1 h3 h4
  subst h1;subst h4;refine⟨hl,hnc,hcm,hfit,.inr ⟨g,0,rfl,?_,fun j u hu=>?_⟩,fun h=>by cases h⟩
  ·rcases Nat.lt_or_ge g w.heap.size with hlt|hge
   ·exact hlt
   ·rw[Array.getElem?_eq_none hge] at hh;cases hh
  ·have:=h.cells (g:=g) rfl j u hu
   simpa [Addr.add_lit] using this
end
abbrev Num(w:World)(B:Nat)(A:Option Addr)(n c:Nat)(a:Nat):Prop:=Lim w B A n c (dg a)
def RetLim(W:World)(xs:List Nat)(e:Ending)(w':World):Prop:=
 ∃A n c,e=.returned (.slice A n c)∧Lim w' w'.heap.size A n c xs∧Below W.heap.size W w'
abbrev RetNum(W:World)(a:Nat)(e:Ending)(w':World):Prop:=RetLim W (dg a) e w'
def RetVal(W:World)(v:Value)(e:Ending)(w':World):Prop:=e=.returned v∧Below W.heap.size W w'
theorem below_drewN{B:Nat}{a w:World}(h:Below B a w)(n:Nat):Below B a (w.drewN n):=⟨h.os,h.tape,h.output,h.size,h.block⟩
theorem Below.of_quiet{B:Nat}{W:World}{n:Nat}:Below B W (W.drewN n):=below_drewN (Below.refl _ _) n
end Go.Proofs.YtpbbolgnnegmlaaGreatDoor.Num
