/- Lemmas of the proof: ExpMath. -/
import Derived.Test.YtpbbolgnnegmlaaGreatDoorAll23
import Derived.Test.YtpbbolgnnegmlaaGreatDoorAll05
import Derived.Test.YtpbbolgnnegmlaaGreatDoorAll01
set_option linter.unusedVariables false
set_option linter.unusedSimpArgs false
set_option maxRecDepth 100000
set_option maxHeartbeats 32000000
namespace Go.Proofs.YtpbbolgnnegmlaaGreatDoor.Num
abbrev Tok:=Int×ByteArray
def isg(t:Tok)(c:Nat):Bool:=decide (t.1=10)&&decide (bs9 t.2=[c])
def sta(t:Tok):Bool:=decide (t.1=4)||(isg t 45||(isg t 43||isg t 40))
def isAt(L:List Tok)(a c:Nat):Bool:=(L[a]?).any fun t=>isg t c
def numV(s:ByteArray):Option (Int×Nat):=if rst (codes s)≠[]∧frmB (rst (codes s))=true then some (numD (codes s),(bhd (rst (codes s))).length) else none
def quoQ(i:Int)(s:Nat)(j:Int)(t:Nat):Int:=divZ i s j t (max s t+10)
def quoI(i:Int)(s:Nat)(j:Int)(t:Nat):Int:=stripI (quoQ i s j t) (max s t+10) (max s t)
def quoK(i:Int)(s:Nat)(j:Int)(t:Nat):Nat:=max s t+10-stripK (quoQ i s j t) (max s t+10) (max s t)
abbrev Rs:=(Nat×Nat)⊕(Int×Nat×Nat)
def Rs.neg(m:Bool):Rs→Rs
 | .inl e=>.inl e
 | .inr (i,k,b)=>.inr (if m=true then -i else i,k,b)
def Rs.shut(L:List Tok):Rs→Rs
 | .inl e=>.inl e
 | .inr (i,k,b)=>if isAt L b 41=true then .inr (i,k,b+1) else .inl (if b<L.length then 3 else 2,b)
mutual
def facF(L:List Tok):Nat→Nat→Nat→Rs
 | 0,_,a=>.inl (2,a)
 | f+1,d,a=>
  match L[a]? with
  | none=>.inl (2,a)
  | some t=>
   if t.1=4 then (match numV t.2 with|none=>.inl (3,a)|some (i,k)=>.inr (i,k,a+1))
   else if sta t=false then .inl (3,a)
   else if 64≤d then .inl (6,a)
   else if isg t 40=true then Rs.shut L (sumF L f (d+1) (a+1))
   else Rs.neg (isg t 45) (facF L f (d+1) (a+1))
def proF(L:List Tok):Nat→Nat→Nat→Rs
 | 0,_,a=>.inl (2,a)
 | f+1,d,a=>match facF L f d a with
  | .inl e=>.inl e
  | .inr (i,k,b)=>proL L f d i k b
def proL(L:List Tok):Nat→Nat→Int→Nat→Nat→Rs
 | 0,_,_,_,a=>.inl (2,a)
 | f+1,d,i,k,a=>
  if isAt L a 42=true then (match facF L f d (a+1) with
   | .inl e=>.inl e
   | .inr (j,t,b)=>proL L f d (i*j) (k+t) b)
  else if isAt L a 47=true then (match facF L f d (a+1) with
   | .inl e=>.inl e
   | .inr (j,t,b)=>if j=0 then .inl (4,a) else proL L f d (quoI i k j t) (quoK i k j t) b)
  else .inr (i,k,a)
def sumF(L:List Tok):Nat→Nat→Nat→Rs
 | 0,_,a=>.inl (2,a)
 | f+1,d,a=>match proF L f d a with
  | .inl e=>.inl e
  | .inr (i,k,b)=>sumL L f d i k b
def sumL(L:List Tok):Nat→Nat→Int→Nat→Nat→Rs
 | 0,_,_,_,a=>.inl (2,a)
 | f+1,d,i,k,a=>
  if isAt L a 43=true then (match proF L f d (a+1) with
   | .inl e=>.inl e
   | .inr (j,t,b)=>sumL L f d (addZ i k j t) (max k t) b)
  else if isAt L a 45=true then (match proF L f d (a+1) with
   | .inl e=>.inl e
   | .inr (j,t,b)=>sumL L f d (subZ i k j t) (max k t) b)
  else .inr (i,k,a)
end
theorem isAt_lt{L:List Tok}{a c:Nat}(h:isAt L a c=true):a<L.length:=by
 unfold isAt at h;rcases Nat.lt_or_ge a L.length with h1|h1
 ·exact h1
 ·rw[List.getElem?_eq_none h1] at h;cases h
theorem adv_all(L:List Tok):∀f:Nat,
  (∀{d a i k b},facF L f d a=.inr (i,k,b)→a<b∧b≤L.length)∧(∀{d a i k b},proF L f d a=.inr (i,k,b)→a<b∧b≤L.length)∧
  (∀{d j t a i k b},proL L f d j t a=.inr (i,k,b)→a≤b∧(a≤L.length→b≤L.length))∧(∀{d a i k b},sumF L f d a=.inr (i,k,b)→a<b∧b≤L.length)∧
  (∀{d j t a i k b},sumL L f d j t a=.inr (i,k,b)→a≤b∧(a≤L.length→b≤L.length)):=by
 intro f;induction f with
 | zero=>
  refine⟨fun h=>?_,fun h=>?_,fun h=>?_,fun h=>?_,fun h=>?_⟩
  ·rw[facF] at h;cases h
  ·rw[proF] at h;cases h
  ·rw[proL] at h;cases h
  ·rw[sumF] at h;cases h
  ·rw[sumL] at h;cases h
 | succ f ih=>
  obtain⟨ih1,ih2,ih3,ih4,ih5⟩:=ih;refine⟨fun {d a i k b} h=>?_,fun {d a i k b} h=>?_,fun {d j t a i k b} h=>?_,fun {d a i k b} h=>?_,fun {d j t a i k b} h=>?_⟩
  ·rw[facF] at h
   cases hl:L[a]? with
   | none=>rw[hl] at h;cases h
   | some t=>
    have ha:a<L.length:=(List.getElem?_eq_some_iff.1 hl).1;rw[hl] at h;dsimp only at h
    split at h
    ·split at h
     ·cases h
     ·cases h;omega
    ·split at h
     ·cases h
     ·split at h
      ·cases h
      ·split at h
       ·cases hr:sumF L f (d+1) (a+1) with
        | inl e=>rw[hr] at h;cases h
        | inr p=>
         obtain⟨x,y,z⟩:=p;rw[hr] at h;unfold Rs.shut at h;dsimp only at h
         have:=ih4 hr;split at h
         ·rename_i hc
          cases h
          have:=isAt_lt hc;omega
         ·cases h
       ·cases hr:facF L f (d+1) (a+1) with
        | inl e=>rw[hr] at h;cases h
        | inr p=>
         obtain⟨x,y,z⟩:=p;rw[hr] at h;have:=ih1 hr;cases h
         omega
  ·rw[proF] at h
   cases hr:facF L f d a with
   | inl e=>rw[hr] at h;cases h
   | inr p=>
    obtain⟨x,y,z⟩:=p;rw[hr] at h;have h1:=ih1 hr;have h2:=ih3 h;omega
  ·rw[proL] at h
   split at h
   ·rename_i hc
    have hc:=isAt_lt hc;cases hr:facF L f d (a+1) with
    | inl e=>rw[hr] at h;cases h
    | inr p=>
     obtain⟨x,y,z⟩:=p;rw[hr] at h;have h1:=ih1 hr;have h2:=ih3 h;omega
   ·split at h
    ·rename_i hc
     have hc:=isAt_lt hc;cases hr:facF L f d (a+1) with
     | inl e=>rw[hr] at h;cases h
     | inr p=>
      obtain⟨x,y,z⟩:=p;rw[hr] at h;dsimp only at h
      have h1:=ih1 hr;split at h
      ·cases h
      ·have h2:=ih3 h
       omega
    ·cases h;omega
  ·rw[sumF] at h
   cases hr:proF L f d a with
   | inl e=>rw[hr] at h;cases h
   | inr p=>
    obtain⟨x,y,z⟩:=p;rw[hr] at h;have h1:=ih2 hr;have h2:=ih5 h;omega
  ·rw[sumL] at h
   split at h
   ·rename_i hc
    have hc:=isAt_lt hc;cases hr:proF L f d (a+1) with
    | inl e=>rw[hr] at h;cases h
    | inr p=>
     obtain⟨x,y,z⟩:=p;rw[hr] at h;have h1:=ih2 hr;have h2:=ih5 h;omega
   ·split at h
    ·rename_i hc
     have hc:=isAt_lt hc;cases hr:proF L f d (a+1) with
     | inl e=>rw[hr] at h;cases h
     | inr p=>
      obtain⟨x,y,z⟩:=p;rw[hr] at h;have h1:=ih2 hr;have h2:=ih5 h;omega
    ·cases h;omega
theorem fuel_all(L:List Tok):∀f:Nat,
  (∀g d a,4*(L.length-a)+1≤f→4*(L.length-a)+1≤g→facF L f d a=facF L g d a)∧(∀g d a,4*(L.length-a)+2≤f→4*(L.length-a)+2≤g→proF L f d a=proF L g d a)∧
  (∀g d i k a,4*(L.length-a)+2≤f→4*(L.length-a)+2≤g→proL L f d i k a=proL L g d i k a)∧(∀g d a,4*(L.length-a)+3≤f→4*(L.length-a)+3≤g→sumF L f d a=sumF L g d a)∧
  (∀g d i k a,4*(L.length-a)+3≤f→4*(L.length-a)+3≤g→sumL L f d i k a=sumL L g d i k a):=by
 intro f;induction f with
 | zero=>exact⟨fun g d a h _=>by omega,fun g d a h _=>by omega,fun g d i k a h _=>by omega,fun g d a h _=>by omega,fun g d i k a h _=>by omega⟩
 | succ f ih=>
  obtain⟨ih1,ih2,ih3,ih4,ih5⟩:=ih;have A:=adv_all L f;refine⟨fun g d a hf hg=>?_,fun g d a hf hg=>?_,fun g d i k a hf hg=>?_,fun g d a hf hg=>?_,fun g d i k a hf hg=>?_⟩;all_goals
   cases g with
   | zero=>omega
   | succ g=>?_
  ·rw[facF,facF]
   cases hl:L[a]? with
   | none=>rfl
   | some t=>
    have ha:a<L.length:=(List.getElem?_eq_some_iff.1 hl).1;dsimp only
    rw[ih4 g (d+1) (a+1) (by omega) (by omega),ih1 g (d+1) (a+1) (by omega) (by omega)]
  ·rw[proF,proF,← ih1 g d a (by omega) (by omega)]
   cases hr:facF L f d a with
   | inl e=>rfl
   | inr p=>
    obtain⟨x,y,z⟩:=p;have:=A.1 hr;exact ih3 g d x y z (by omega) (by omega)
  ·rw[proL,proL]
   by_cases h1:isAt L a 42=true
   ·have hc:=isAt_lt h1
    rw[if_pos h1,if_pos h1,← ih1 g d (a+1) (by omega) (by omega)];cases hr:facF L f d (a+1) with
    | inl e=>rfl
    | inr p=>
     obtain⟨x,y,z⟩:=p;have:=A.1 hr;exact ih3 g d _ _ z (by omega) (by omega)
   ·rw[if_neg h1,if_neg h1]
    by_cases h2:isAt L a 47=true
    ·have hc:=isAt_lt h2
     rw[if_pos h2,if_pos h2,← ih1 g d (a+1) (by omega) (by omega)];cases hr:facF L f d (a+1) with
     | inl e=>rfl
     | inr p=>
      obtain⟨x,y,z⟩:=p;have:=A.1 hr;dsimp only
      rw[ih3 g d _ _ z (by omega) (by omega)]
    ·rw[if_neg h2,if_neg h2]
  ·rw[sumF,sumF,← ih2 g d a (by omega) (by omega)]
   cases hr:proF L f d a with
   | inl e=>rfl
   | inr p=>
    obtain⟨x,y,z⟩:=p;have:=A.2.1 hr;exact ih5 g d x y z (by omega) (by omega)
  ·rw[sumL,sumL]
   by_cases h1:isAt L a 43=true
   ·have hc:=isAt_lt h1
    rw[if_pos h1,if_pos h1,← ih2 g d (a+1) (by omega) (by omega)];cases hr:proF L f d (a+1) with
    | inl e=>rfl
    | inr p=>
     obtain⟨x,y,z⟩:=p;have:=A.2.1 hr;exact ih5 g d _ _ z (by omega) (by omega)
   ·rw[if_neg h1,if_neg h1]
    by_cases h2:isAt L a 45=true
    ·have hc:=isAt_lt h2
     rw[if_pos h2,if_pos h2,← ih2 g d (a+1) (by omega) (by omega)];cases hr:proF L f d (a+1) with
     | inl e=>rfl
     | inr p=>
      obtain⟨x,y,z⟩:=p;have:=A.2.1 hr;exact ih5 g d _ _ z (by omega) (by omega)
    ·rw[if_neg h2,if_neg h2]
def FAC(L:List Tok)(d a:Nat):Rs:=facF L (4*(L.length-a)+9) d a
def PRO(L:List Tok)(d a:Nat):Rs:=proF L (4*(L.length-a)+9) d a
def PROL(L:List Tok)(d:Nat)(i:Int)(k a:Nat):Rs:=proL L (4*(L.length-a)+9) d i k a
def SUM(L:List Tok)(d a:Nat):Rs:=sumF L (4*(L.length-a)+9) d a
def SUML(L:List Tok)(d:Nat)(i:Int)(k a:Nat):Rs:=sumL L (4*(L.length-a)+9) d i k a
theorem FAC_of(L:List Tok){f d a:Nat}(h:4*(L.length-a)+1≤f):facF L f d a=FAC L d a:=(fuel_all L f).1 _ d a h (by omega)
theorem PRO_of(L:List Tok){f d a:Nat}(h:4*(L.length-a)+2≤f):proF L f d a=PRO L d a:=(fuel_all L f).2.1 _ d a h (by omega)
theorem PROL_of(L:List Tok){f d a:Nat}{i:Int}{k:Nat}(h:4*(L.length-a)+2≤f):proL L f d i k a=PROL L d i k a:=(fuel_all L f).2.2.1 _ d i k a h (by omega)
theorem SUM_of(L:List Tok){f d a:Nat}(h:4*(L.length-a)+3≤f):sumF L f d a=SUM L d a:=(fuel_all L f).2.2.2.1 _ d a h (by omega)
theorem SUML_of(L:List Tok){f d a:Nat}{i:Int}{k:Nat}(h:4*(L.length-a)+3≤f):sumL L f d i k a=SUML L d i k a:=(fuel_all L f).2.2.2.2 _ d i k a h (by omega)
section
variable {L:List Tok}{d a b i0:Nat}{i:Int}{k:Nat}
theorem FAC_lt{e:Rs}(h:FAC L d a=e){i:Int}{k b:Nat}(he:e=.inr (i,k,b)):a<b∧b≤L.length:=(adv_all L _).1 (h.trans he)
theorem PRO_lt{e:Rs}(h:PRO L d a=e){i:Int}{k b:Nat}(he:e=.inr (i,k,b)):a<b∧b≤L.length:=(adv_all L _).2.1 (h.trans he)
theorem SUM_lt{e:Rs}(h:SUM L d a=e){i:Int}{k b:Nat}(he:e=.inr (i,k,b)):a<b∧b≤L.length:=(adv_all L _).2.2.2.1 (h.trans he)
theorem FAC_none(h:L.length≤a):FAC L d a=.inl (2,a):=by unfold FAC;rw[facF,List.getElem?_eq_none h]
theorem FAC_num{t:Tok}(h:L[a]?=some t)(h4:t.1=4):FAC L d a=match numV t.2 with|none=>.inl (3,a)|some (i,k)=>.inr (i,k,a+1):=by
 unfold FAC;rw[facF,h];dsimp only;rw[if_pos h4]
theorem FAC_not{t:Tok}(h:L[a]?=some t)(h4:t.1≠4)(hs:sta t=false):FAC L d a=.inl (3,a):=by
 unfold FAC;rw[facF,h];dsimp only;rw[if_neg h4,if_pos hs]
theorem FAC_deep{t:Tok}(h:L[a]?=some t)(h4:t.1≠4)(hs:sta t=true)(hd:64≤d):FAC L d a=.inl (6,a):=by
 unfold FAC;rw[facF,h];dsimp only;rw[if_neg h4,if_neg (by rw[hs];decide),if_pos hd]
theorem FAC_open{t:Tok}(h:L[a]?=some t)(h4:t.1≠4)(hs:sta t=true)(hd:d<64)(ho:isg t 40=true):FAC L d a=Rs.shut L (SUM L (d+1) (a+1)):=by
 have ha:a<L.length:=(List.getElem?_eq_some_iff.1 h).1;unfold FAC;rw[facF,h];dsimp only;rw[if_neg h4,if_neg (by rw[hs];decide),if_neg (by omega),if_pos ho,SUM_of L (by omega)]
theorem FAC_sign{t:Tok}(h:L[a]?=some t)(h4:t.1≠4)(hs:sta t=true)(hd:d<64)(ho:isg t 40=false):FAC L d a=Rs.neg (isg t 45) (FAC L (d+1) (a+1)):=by
 have ha:a<L.length:=(List.getElem?_eq_some_iff.1 h).1;conv=>lhs;unfold FAC
 rw[facF,h];dsimp only;rw[if_neg h4,if_neg (by rw[hs];decide),if_neg (by omega),if_neg (by rw[ho];decide),FAC_of L (by omega)]
theorem PRO_err{e:Nat×Nat}(h:FAC L d a=.inl e):PRO L d a=.inl e:=by
 unfold PRO;rw[proF,FAC_of L (by omega),h]
theorem PRO_go(h:FAC L d a=.inr (i,k,b)):PRO L d a=PROL L d i k b:=by
 have:=FAC_lt h rfl;unfold PRO;rw[proF,FAC_of L (by omega),h];exact PROL_of L (by omega)
theorem SUM_err{e:Nat×Nat}(h:PRO L d a=.inl e):SUM L d a=.inl e:=by
 unfold SUM;rw[sumF,PRO_of L (by omega),h]
theorem SUM_go(h:PRO L d a=.inr (i,k,b)):SUM L d a=SUML L d i k b:=by
 have:=PRO_lt h rfl;unfold SUM;rw[sumF,PRO_of L (by omega),h];exact SUML_of L (by omega)
theorem PROL_end(h1:isAt L a 42=false)(h2:isAt L a 47=false):PROL L d i k a=.inr (i,k,a):=by
 unfold PROL;rw[proL,if_neg (by rw[h1];decide),if_neg (by rw[h2];decide)]
theorem PROL_err{e:Nat×Nat}(h1:isAt L a 42=true∨isAt L a 47=true)(h:FAC L d (a+1)=.inl e):PROL L d i k a=.inl e:=by
 have ha:a<L.length:=by rcases h1 with h1|h1<;>exact isAt_lt h1
 unfold PROL;rw[proL,FAC_of L (by omega),h];by_cases h3:isAt L a 42=true
 ·rw[if_pos h3]
 ·rw[if_neg h3,if_pos (h1.resolve_left h3)]
theorem PROL_mul{j:Int}{t:Nat}(h1:isAt L a 42=true)(h:FAC L d (a+1)=.inr (j,t,b)):PROL L d i k a=PROL L d (i*j) (k+t) b:=by
 have ha:=isAt_lt h1;have:=FAC_lt h rfl;conv=>lhs;unfold PROL
 rw[proL,if_pos h1,FAC_of L (by omega),h];exact PROL_of L (by omega)
theorem PROL_quo{j:Int}{t:Nat}(h1:isAt L a 42=false)(h2:isAt L a 47=true)(h:FAC L d (a+1)=.inr (j,t,b))(hj:j≠0):PROL L d i k a=PROL L d (quoI i k j t) (quoK i k j t) b:=by
 have ha:=isAt_lt h2;have:=FAC_lt h rfl;conv=>lhs;unfold PROL
 rw[proL,if_neg (by rw[h1];decide),if_pos h2,FAC_of L (by omega),h];dsimp only;rw[if_neg hj];exact PROL_of L (by omega)
theorem PROL_zero{j:Int}{t:Nat}(h1:isAt L a 42=false)(h2:isAt L a 47=true)(h:FAC L d (a+1)=.inr (j,t,b))(hj:j=0):PROL L d i k a=.inl (4,a):=by
 have ha:=isAt_lt h2;unfold PROL;rw[proL,if_neg (by rw[h1];decide),if_pos h2,FAC_of L (by omega),h];dsimp only;rw[if_pos hj]
theorem SUML_end(h1:isAt L a 43=false)(h2:isAt L a 45=false):SUML L d i k a=.inr (i,k,a):=by
 unfold SUML;rw[sumL,if_neg (by rw[h1];decide),if_neg (by rw[h2];decide)]
theorem SUML_err{e:Nat×Nat}(h1:isAt L a 43=true∨isAt L a 45=true)(h:PRO L d (a+1)=.inl e):SUML L d i k a=.inl e:=by
 have ha:a<L.length:=by rcases h1 with h1|h1<;>exact isAt_lt h1
 unfold SUML;rw[sumL,PRO_of L (by omega),h];by_cases h3:isAt L a 43=true
 ·rw[if_pos h3]
 ·rw[if_neg h3,if_pos (h1.resolve_left h3)]
theorem SUML_add{j:Int}{t:Nat}(h1:isAt L a 43=true)(h:PRO L d (a+1)=.inr (j,t,b)):SUML L d i k a=SUML L d (addZ i k j t) (max k t) b:=by
 have ha:=isAt_lt h1;have:=PRO_lt h rfl;conv=>lhs;unfold SUML
 rw[sumL,if_pos h1,PRO_of L (by omega),h];exact SUML_of L (by omega)
theorem SUML_sub{j:Int}{t:Nat}(h1:isAt L a 43=false)(h2:isAt L a 45=true)(h:PRO L d (a+1)=.inr (j,t,b)):SUML L d i k a=SUML L d (subZ i k j t) (max k t) b:=by
 have ha:=isAt_lt h2;have:=PRO_lt h rfl;conv=>lhs;unfold SUML
 rw[sumL,if_neg (by rw[h1];decide),if_pos h2,PRO_of L (by omega),h];exact SUML_of L (by omega)
end
end Go.Proofs.YtpbbolgnnegmlaaGreatDoor.Num
