/- Lemmas of the proof: UtfMath, NamMath, ScaMath. -/
import Derived.Test.YtpbbolgnnegmlaaGreatDoorProg
set_option linter.unusedVariables false
set_option linter.unusedSimpArgs false
set_option maxRecDepth 100000
set_option maxHeartbeats 32000000
namespace Go.Proofs.YtpbbolgnnegmlaaGreatDoor
def bs9(s:ByteArray):List Nat:=s.data.toList.map UInt8.toNat
def st9(l:List Nat):ByteArray:=⟨(l.map UInt8.ofNat).toArray⟩
def enc(x:Nat):List Nat:=
 if x<128 then [x]
 else if x<2048 then [192+x/64,128+x%64]
 else if x<65536 then [224+x/4096,128+x/64%64,128+x%64]
 else [240+x/262144,128+x/4096%64,128+x/64%64,128+x%64]
theorem bs9_len(s:ByteArray):(bs9 s).length=s.size:=by unfold bs9;rw[List.length_map];rfl
theorem bs9_lt(s:ByteArray):∀c∈bs9 s,c<256:=by
 intro c hc;obtain⟨x,_,rfl⟩:=List.mem_map.1 hc;exact UInt8.toNat_lt x
theorem st9_bs9(s:ByteArray):st9 (bs9 s)=s:=by
 unfold st9 bs9;rw[List.map_map,show(UInt8.ofNat∘UInt8.toNat)=id from funext fun x=>UInt8.ofNat_toNat (x:=x),List.map_id]
theorem bs9_st9{l:List Nat}(h:∀c∈l,c<256):bs9 (st9 l)=l:=by
 unfold st9 bs9;show((l.map UInt8.ofNat).toArray.toList).map UInt8.toNat=l;rw[List.toList_toArray,List.map_map];conv=>rhs;rw[← List.map_id l]
 refine List.map_congr_left fun c hc=>?_
 have:=h c hc;show(UInt8.ofNat c).toNat=c;rw[UInt8.toNat_ofNat'];omega
theorem bs9_inj{s t:ByteArray}(h:bs9 s=bs9 t):s=t:=by rw[← st9_bs9 s,h,st9_bs9]
theorem bs9_append(s t:ByteArray):bs9 (s++t)=bs9 s++bs9 t:=by
 unfold bs9;rw[ByteArray.data_append,Array.toList_append,List.map_append]
theorem bs9_extract(s:ByteArray)(a b:Nat):bs9 (s.extract a b)=((bs9 s).drop a).take (b-a):=by
 unfold bs9;rw[ByteArray.data_extract,Array.toList_extract,List.extract_eq_take_drop,List.map_take,List.map_drop]
theorem bs9_drop(s:ByteArray)(a:Nat):bs9 (s.extract a s.size)=(bs9 s).drop a:=by
 rw[bs9_extract];exact List.take_of_length_le (by rw[List.length_drop,bs9_len];exact Nat.le_refl _)
theorem bs9_take(s:ByteArray)(b:Nat):bs9 (s.extract 0 b)=(bs9 s).take b:=by
 rw[bs9_extract];rfl
theorem bs9_get(s:ByteArray)(i:Nat)(h:i<s.size):(bs9 s).drop i=(s[i]'h).toNat::(bs9 s).drop (i+1):=by
 have hl:i<(bs9 s).length:=by rw[bs9_len];exact h
 rw[List.drop_eq_getElem_cons hl];congr 1
 have hl':i<(s.data.toList.map UInt8.toNat).length:=hl;show(s.data.toList.map UInt8.toNat)[i]'hl'=_;exact(List.getElem_map _).trans rfl
def hdc:List Nat→List Nat
 | []=>[]
 | b::t=>if b=58 then [] else b::hdc t
def prt:List Nat→List (List Nat)
 | []=>[[]]
 | b::t=>if b=58 then []::prt t else
  match prt t with
  | []=>[[b]]
  | h::r=>(b::h)::r
def jnc:List (List Nat)→List Nat
 | []=>[]
 | x::r=>match r with
  | []=>x
  | _::_=>x++58::jnc r
def cpl{α:Type}[DecidableEq α]:List α→List α→List α
 | x::r,y::t=>if x=y then x::cpl r t else []
 | _,_=>[]
def com(a b:List Nat):List Nat:=jnc (cpl (prt a) (prt b))
theorem prt_ne(l:List Nat):prt l≠[]:=by
 match l with
 | []=>rw[prt];exact List.cons_ne_nil _ _
 | b::t=>
  rw[prt];split
  ·exact List.cons_ne_nil _ _
  ·split<;>exact List.cons_ne_nil _ _
theorem prt_colon(t:List Nat):prt (58::t)=[]::prt t:=by rw[prt,if_pos rfl]
theorem prt_byte{b:Nat}(h:b≠58)(t:List Nat):∃x r,prt t=x::r∧prt (b::t)=(b::x)::r:=by
 cases e:prt t with
 | nil=>exact absurd e (prt_ne t)
 | cons x r=>exact⟨x,r,rfl,by rw[prt,if_neg h,e]⟩
theorem prt_app(x u:List Nat):prt (x++58::u)=prt x++prt u:=by
 induction x with
 | nil=>rw[List.nil_append,prt_colon,prt];rfl
 | cons b x ih=>
  by_cases h:b=58
  ·subst h
   rw[List.cons_append,prt_colon,ih,prt_colon];rfl
  ·obtain⟨y,r,e,e2⟩:=prt_byte h x
   obtain⟨y',r',e',e2'⟩:=prt_byte h (x++58::u);rw[ih,e,List.cons_append] at e';obtain⟨rfl,rfl⟩:=List.cons.inj e';rw[List.cons_append,e2',e2,List.cons_append]
theorem prt_no{l:List Nat}(h:58∉l):prt l=[l]:=by
 induction l with
 | nil=>rfl
 | cons b t ih=>
  have hb:b≠58:=fun e=>h (by rw[e];exact List.mem_cons_self)
  rw[prt,if_neg hb,ih (fun e=>h (List.mem_cons_of_mem _ e))]
theorem prt_at{x:List Nat}(h:58∉x)(u:List Nat):prt (x++58::u)=x::prt u:=by rw[prt_app,prt_no h];rfl
theorem hdc_no{l:List Nat}(h:58∉l):hdc l=l:=by
 induction l with
 | nil=>rfl
 | cons b t ih=>rw[hdc,if_neg (fun e=>h (by rw[e];exact List.mem_cons_self)),ih (fun e=>h (List.mem_cons_of_mem _ e))]
theorem hdc_at{x:List Nat}(h:58∉x)(u:List Nat):hdc (x++58::u)=x:=by
 induction x with
 | nil=>rw[List.nil_append,hdc,if_pos rfl]
 | cons b t ih=>rw[List.cons_append,hdc,if_neg (fun e=>h (by rw[e];exact List.mem_cons_self)),ih (fun e=>h (List.mem_cons_of_mem _ e))]
theorem colon_or(l:List Nat):58∉l∨∃x u,l=x++58::u∧58∉x:=by
 induction l with
 | nil=>exact .inl List.not_mem_nil
 | cons b t ih=>
  by_cases h:b=58
  ·subst h;exact .inr ⟨[],t,rfl,List.not_mem_nil⟩
  ·rcases ih with ih|⟨x,u,e,hx⟩
   ·refine .inl fun e=>?_
    rcases List.mem_cons.1 e with e|e
    ·exact h e.symm
    ·exact ih e
   ·refine .inr ⟨b::x,u,by rw[e];rfl,fun e=>?_⟩
    rcases List.mem_cons.1 e with e|e
    ·exact h e.symm
    ·exact hx e
theorem prt_head(l:List Nat):(prt l).head?=some (hdc l):=by
 rcases colon_or l with h|⟨x,u,rfl,h⟩
 ·rw[prt_no h,hdc_no h];rfl
 ·rw[prt_at h,hdc_at h];rfl
def hdl:List Nat→List Nat
 | []=>[]
 | b::t=>if b=10 then [] else b::hdl t
def indl:List Nat→Nat
 | []=>0
 | b::t=>if b=32∨b=9 then indl t+1 else 0
theorem hdl_le:∀l:List Nat,(hdl l).length≤l.length
 | []=>Nat.le_refl _
 | b::t=>by
  rw[hdl];split
  ·exact Nat.zero_le _
  ·have:=hdl_le t;simpa using this
theorem indl_le:∀l:List Nat,indl l≤l.length
 | []=>Nat.le_refl _
 | b::t=>by
  rw[indl];split
  ·have:=indl_le t;rw[List.length_cons];omega
  ·exact Nat.zero_le _
theorem indl_at:∀{l:List Nat}{n x:Nat},n≤indl l→l[n]?=some x→((x=32∨x=9)→n+1≤indl l)∧(¬(x=32∨x=9)→indl l=n)
 | [],n,x,_,hx=>by simp at hx
 | b::t,0,x,_,hx=>by
  have e:b=x:=by simpa using hx
  subst e;constructor
  ·intro h;rw[indl,if_pos h];omega
  ·intro h;rw[indl,if_neg h]
 | b::t,n+1,x,h,hx=>by
  have hb:b=32∨b=9:=Decidable.byContradiction fun e=>by rw[indl,if_neg e] at h;exact absurd h (Nat.not_succ_le_zero _)
  rw[indl,if_pos hb] at h ⊢;have:=indl_at (l:=t) (n:=n) (x:=x) (by omega) (by simpa using hx);constructor
  ·intro e;have:=this.1 e;omega
  ·intro e;rw[this.2 e]
end Go.Proofs.YtpbbolgnnegmlaaGreatDoor
