/- Lemmas of the proof: DecO, DecKm, RouMath, RouA, RouB, RouC, RouD, RouE, RouF. -/
import Derived.Test.YtpbbolgnnegmlaaGreatDoorAll22
import Derived.Test.YtpbbolgnnegmlaaGreatDoorAll18
import Derived.Deep.Strs
import Derived.Test.YtpbbolgnnegmlaaGreatDoorAll08
set_option linter.unusedVariables false
set_option linter.unusedSimpArgs false
set_option maxRecDepth 100000
set_option maxHeartbeats 32000000
open Go.Lib renaming hid→Jh
namespace Go.Proofs.YtpbbolgnnegmlaaGreatDoor.Num
open Go.ChangeShapes Go.WideShapes Go.ChangeAt Go.RowKit Go.Joins Go.Deep
structure Rw where
 b:Bool
 A:Option Addr
 n:Nat
 c:Nat
 xs:List Nat
 k:Int
structure Raws (w:World) (B:Nat) (A:Option Addr) (n c:Nat) (r:Nat→Rw):Prop where
 cap:n≤c
 room:c≤maxLen
 row:n=0∨∃b o,A=some ⟨b,o,none⟩∧b<B∧∀j,j<n→w.cell? ⟨b,o+j*3,none⟩=some (.bool (r j).b)∧w.cell? ⟨b,o+j*3+1,none⟩=some (.slice (r j).A (r j).n (r j).c)∧w.cell? ⟨b,o+j*3+2,none⟩=some (.int .i64 (r j).k)
 lim:∀j,j<n→Lim w B (r j).A (r j).n (r j).c (r j).xs
 addr:A=none→c=0
end Go.Proofs.YtpbbolgnnegmlaaGreatDoor.Num
namespace Go.Proofs.YtpbbolgnnegmlaaGreatDoor.Num
open Go.RowKit
theorem tz_div{a:Nat}(ha:0<a):∀k,k≤tz a→a/10^k*10^k=a∧tz (a/10^k)=tz a-k:=by
 intro k;induction k with
 | zero=>intro _;simp
 | succ k ih=>
  intro hk;obtain⟨h1,h2⟩:=ih (by omega);have e:a/10^(k+1)=a/10^k/10:=by rw[Nat.pow_succ,Nat.div_div_eq_div_mul]
  have hb:0<a/10^k:=by
   rcases Nat.eq_zero_or_pos (a/10^k) with h0|h0
   ·rw[h0] at h1;omega
   ·exact h0
  have hz:a/10^k%10=0:=by
   rcases Nat.eq_zero_or_pos (a/10^k%10) with h0|h0
   ·exact h0
   ·have:=tz_no (a:=a/10^k) (by omega);omega
  have hy:=tz_yes hb hz;rw[e];refine⟨?_,by omega⟩;rw[Nat.pow_succ,Nat.mul_comm (10^k) 10,← Nat.mul_assoc];have:a/10^k/10*10=a/10^k:=by omega
  rw[this,h1]
theorem strip_abs(i:Int)(s L:Nat):(stripI i s L).natAbs*10^stripK i s L=i.natAbs∧(i≠0→tz (stripI i s L).natAbs=tz i.natAbs-stripK i s L):=by
 unfold stripI;rw[abs_sgn];by_cases h0:i=0
 ·subst h0;exact⟨by simp,fun h=>absurd rfl h⟩
 ·have hk:stripK i s L≤tz i.natAbs:=by unfold stripK;rw[if_neg h0];omega
  obtain⟨h1,h2⟩:=tz_div (a:=i.natAbs) (by omega) _ hk;exact⟨h1,fun _=>h2⟩
theorem strip_none(s L:Nat):stripI 0 s L=0:=by
 unfold stripI;cases ngB 0<;>simp[sgn]
theorem near_spec{a b:Nat}(hb:0<b):2*a≤2*(nearN a b*b)+b∧2*(nearN a b*b)≤2*a+b∧(2*a=2*(nearN a b*b)+b∨2*(nearN a b*b)=2*a+b→nearN a b%2=0):=by
 have h1:=Nat.div_add_mod a b;have h2:=Nat.mod_lt a hb;unfold nearN;generalize a%b=r at *;generalize a/b=q at *;rw[Nat.mul_comm] at h1;have e:(q+1)*b=q*b+b:=Nat.succ_mul q b;split
 ·rw[e];generalize q*b=Z at *;refine⟨by omega,by omega,fun h=>by omega⟩
 ·split
  ·rw[e];generalize q*b=Z at *;refine⟨by omega,by omega,fun h=>by omega⟩
  ·generalize q*b=Z at *;refine⟨by omega,by omega,fun h=>by omega⟩
theorem near_uniq{a b m:Nat}(hb:0<b)(h1:2*a≤2*(m*b)+b)(h2:2*(m*b)≤2*a+b)(h3:2*a=2*(m*b)+b∨2*(m*b)=2*a+b→m%2=0):nearN a b=m:=by
 obtain⟨g1,g2,g3⟩:=near_spec (a:=a) hb;generalize nearN a b=x at *;rcases Nat.lt_trichotomy x m with h|h|h
 ·exfalso
  have e:m=x+1∨x+2≤m:=by omega
  rcases e with e|e
  ·subst e
   have e2:(x+1)*b=x*b+b:=Nat.succ_mul x b;rw[e2] at h1 h2 h3;generalize x*b=Z at *;have:=h3 (by omega);have:=g3 (by omega);omega
  ·have:=Nat.mul_le_mul_right b e
   rw[Nat.add_mul] at this;generalize x*b=Z at *;generalize m*b=Y at *;omega
 ·exact h
 ·exfalso
  have e:x=m+1∨m+2≤x:=by omega
  rcases e with e|e
  ·subst e
   have e2:(m+1)*b=m*b+b:=Nat.succ_mul m b;rw[e2] at g1 g2 g3;generalize m*b=Z at *;have:=h3 (by omega);have:=g3 (by omega);omega
  ·have:=Nat.mul_le_mul_right b e
   rw[Nat.add_mul] at this;generalize x*b=Z at *;generalize m*b=Y at *;omega
theorem near_scale{a b k:Nat}(hb:0<b)(hk:0<k):nearN (a*k) (b*k)=nearN a b:=by
 obtain⟨g1,g2,g3⟩:=near_spec (a:=a) hb;generalize nearN a b=x at *;have e:x*(b*k)=x*b*k:=(Nat.mul_assoc _ _ _).symm;have f1:=Nat.mul_le_mul_right k g1;have f2:=Nat.mul_le_mul_right k g2;rw[Nat.add_mul,Nat.mul_assoc,Nat.mul_assoc 2] at f1 f2;refine near_uniq (Nat.mul_pos hb hk) (by rw[e];exact f1) (by rw[e];exact f2) (fun h=>g3 ?_);rw[e] at h;have i1:2*(a*k)=2*a*k:=(Nat.mul_assoc _ _ _).symm;have i2:2*(x*b*k)=2*(x*b)*k:=(Nat.mul_assoc _ _ _).symm;rw[i1,i2,← Nat.add_mul,← Nat.add_mul] at h;rcases h with h|h
 ·exact .inl (Nat.eq_of_mul_eq_mul_right hk h)
 ·exact .inr (Nat.eq_of_mul_eq_mul_right hk h)
theorem near_small{a b:Nat}(h:2*a<b):nearN a b=0:=
 near_uniq (by omega) (by omega) (by omega) (fun h=>by omega)
def shortN(a n:Nat):Nat:=if a%1000000000^n≠0∧a/1000000000^n%1000000000=0 then a/1000000000^n+1 else a/1000000000^n
theorem short_none(a:Nat):shortN a 0=a:=by
 unfold shortN;rw[Nat.pow_zero,Nat.mod_one,if_neg (by omega),Nat.div_one]
theorem near_short{a n c:Nat}(hc:0<c):nearN (shortN a n) (c*10000000000)=nearN a (c*10000000000*1000000000^n):=by
 have hP:0<1000000000^n:=Nat.pow_pos (by omega);have h1:=Nat.div_add_mod a (1000000000^n);have h2:=Nat.mod_lt a hP;unfold shortN;generalize 1000000000^n=P at *;generalize a%P=r at *;generalize a/P=l at *;have hb:0<c*10000000000:=by omega
 obtain⟨g1,g2,g3⟩:=near_spec (a:=if r≠0∧l%1000000000=0 then l+1 else l) hb;symm
 refine near_uniq (Nat.mul_pos hb hP) ?_ ?_ ?_;all_goals
  generalize nearN (if r≠0∧l%1000000000=0 then l+1 else l) (c*10000000000)=x at *;have e:x*(c*10000000000*P)=x*(c*10000000000)*P:=(Nat.mul_assoc _ _ _).symm;have e3:x*(c*10000000000)=(x*c)*10000000000:=(Nat.mul_assoc _ _ _).symm;rw[e3] at g1 g2 g3;rw[e,e3];generalize x*c=y at *;have key:(2*l<2*(y*10000000000)+c*10000000000∧2*l+2≤2*(y*10000000000)+c*10000000000∨2*l=2*(y*10000000000)+c*10000000000∧r=0∧x%2=0):=by
   split at g1
   ·rename_i hh
    rw[if_pos hh] at g3;left;constructor<;>omega
   ·rename_i hh
    rw[if_neg hh] at g3;by_cases hr:r=0
    ·by_cases hq:2*l=2*(y*10000000000)+c*10000000000
     ·exact .inr ⟨hq,hr,g3 (.inl hq)⟩
     ·left;constructor<;>omega
    ·left;constructor<;>omega
  have key2:(2*(y*10000000000)≤2*l+c*10000000000∧(2*(y*10000000000)=2*l+c*10000000000→r=0→x%2=0)):=by
   split at g2
   ·rename_i hh
    rw[if_pos hh] at g3;constructor
    ·omega
    ·intro _ h;exact absurd h hh.1
   ·rename_i hh
    rw[if_neg hh] at g3;exact⟨g2,fun h _=>g3 (.inr h)⟩
  obtain⟨B,hB⟩:∃B,y*10000000000=B:=⟨_,rfl⟩;obtain⟨D,hD⟩:∃D,c*10000000000=D:=⟨_,rfl⟩;rw[hB,hD] at key key2 ⊢;clear g1 g2 g3 e e3 hB hD hb
 ·rcases key with⟨_,k⟩|⟨k,k0,_⟩
  ·have:=Nat.mul_le_mul_right P k
   rw[Nat.add_mul,Nat.add_mul,Nat.mul_assoc,Nat.mul_assoc] at this;rw[Nat.mul_comm P l] at h1;generalize l*P=lP at *;generalize B*P=BP at *;generalize D*P=DP at *;omega
  ·have:=congrArg (· * P) k
   simp only[Nat.add_mul,Nat.mul_assoc] at this
   rw[Nat.mul_comm P l] at h1;generalize l*P=lP at *;generalize B*P=BP at *;generalize D*P=DP at *;omega
 ·have:=Nat.mul_le_mul_right P key2.1
  rw[Nat.add_mul,Nat.mul_assoc,Nat.mul_assoc] at this;rw[Nat.mul_comm P l] at h1;generalize l*P=lP at *;generalize B*P=BP at *;generalize D*P=DP at *;omega
 ·intro h
  rcases h with h|h
  ·rcases key with⟨_,k⟩|⟨k,k0,k1⟩
   ·exfalso
    have:=Nat.mul_le_mul_right P k;rw[Nat.add_mul,Nat.add_mul,Nat.mul_assoc,Nat.mul_assoc] at this;rw[Nat.mul_comm P l] at h1;generalize l*P=lP at *;generalize B*P=BP at *;generalize D*P=DP at *;omega
   ·exact k1
  ·have k:=key2.1
   by_cases hr:r=0
   ·refine key2.2 ?_ hr
    subst hr;rw[Nat.add_zero] at h1;have e5:2*(B*P)=2*B*P:=(Nat.mul_assoc _ _ _).symm;have e6:2*a+D*P=(2*l+D)*P:=by rw[← h1,Nat.add_mul,Nat.mul_assoc,Nat.mul_comm P l]
    rw[e5,e6] at h;exact Nat.eq_of_mul_eq_mul_right hP h
   ·exfalso
    have:=Nat.mul_le_mul_right P k;rw[Nat.add_mul,Nat.mul_assoc,Nat.mul_assoc] at this;rw[Nat.mul_comm P l] at h1;generalize l*P=lP at *;generalize B*P=BP at *;generalize D*P=DP at *;omega
theorem near_code{a b n len:Nat}{d:Nat}(hb:0<b)(hl:(dg a).length=len)(hd:9*n+10≤d∨n=0∧0≤d):nearN (shortN a (min n (len-1))) (b*10^(d-9*n))=nearN a (b*10^d):=by
 rcases hd with hd|⟨h0,_⟩
 ·have e1:b*10^(d-9*n)=b*10^(d-9*n-10)*10000000000:=by
   have:d-9*n=(d-9*n-10)+10:=by omega
   rw[this,Nat.pow_add,← Nat.mul_assoc,Nat.add_sub_cancel]
  have e2:b*10^d=b*10^(d-9*n-10)*10000000000*1000000000^n:=by
   have:d=(d-9*n-10)+10+9*n:=by omega
   have e3:1000000000^n=10^(9*n):=by rw[Nat.pow_mul]
   rw[e3,Nat.mul_assoc,Nat.mul_assoc,← Nat.pow_add 10 10,← Nat.pow_add];congr 2;omega
  have hc:0<b*10^(d-9*n-10):=Nat.mul_pos hb (ten_pos _);rw[e1,e2];generalize b*10^(d-9*n-10)=c at *;clear e1 e2 hd;rcases Nat.lt_or_ge n len with h|h
  ·rw[Nat.min_eq_left (by omega)];exact near_short hc
  ·have ha:a<1000000000^n:=pow_of_len hl h
   have h2:nearN a (c*10000000000*1000000000^n)=0:=by
    refine near_small ?_;have:=Nat.mul_le_mul_right (1000000000^n) (show 2≤c*10000000000 by omega);generalize 1000000000^n=P at *;omega
   rw[h2];refine near_small ?_;have hm:a<1000000000^(len-1)*1000000000:=by
    rcases Nat.eq_zero_or_pos len with h0|h0
    ·subst h0
     have:a=0:=by
      have:=List.eq_nil_of_length_eq_zero hl;exact dg_eq_nil.1 this
     rw[this];exact Nat.mul_pos (Nat.pow_pos (by omega)) (by omega)
    ·have:=pow_of_len hl (Nat.le_refl len)
     rwa [show len=(len-1)+1 by omega,Nat.pow_succ] at this
   rw[Nat.min_eq_right (by omega)];have hq:a/1000000000^(len-1)<1000000000:=Nat.div_lt_of_lt_mul hm;unfold shortN;split<;>omega
 ·subst h0
  rw[Nat.zero_min,short_none];rfl
def divZ(i:Int)(s:Nat)(j:Int)(t S:Nat):Int:=sgn (ngB i != ngB j) (nearN (i.natAbs*10^(S+t)) (j.natAbs*10^s))
theorem strip_ng(j:Int)(t L:Nat):ngB (stripI j t L)=ngB j:=by
 have h:=(strip_abs j t L).1;have e:(stripI j t L).natAbs=j.natAbs/10^stripK j t L:=by unfold stripI;rw[abs_sgn]
 rw[e] at h;unfold stripI;rw[ng_sgn];by_cases h0:j=0
 ·subst h0;rfl
 ·have:0<j.natAbs/10^stripK j t L:=by
   rcases Nat.eq_zero_or_pos (j.natAbs/10^stripK j t L) with h1|h1
   ·rw[h1] at h;omega
   ·exact h1
  rw[decide_eq_true this,Bool.and_true]
theorem div_up{a s t S k sh:Nat}{j:Int}(h0:j≠0)(hk:stripK j t 0=k)(hs:(sh:Int)=(S:Int)+((t-k:Nat):Int)-(s:Int)):nearN (a*10^sh) (stripI j t 0).natAbs=nearN (a*10^(S+t)) (j.natAbs*10^s):=by
 have h:=(strip_abs j t 0).1;have hkt:=stripK_le j t 0;rw[hk] at h hkt;have hp:0<(stripI j t 0).natAbs:=by
  rcases Nat.eq_zero_or_pos (stripI j t 0).natAbs with h1|h1
  ·rw[h1] at h;omega
  ·exact h1
 rw[← h,Nat.mul_assoc,← Nat.pow_add,show S+t=sh+(k+s) by omega,Nat.pow_add,← Nat.mul_assoc];exact(near_scale hp (ten_pos _)).symm
theorem div_down{a s t S k d n len:Nat}{j:Int}(h0:j≠0)(hk:stripK j t 0=k)(hs:(d:Int)=(s:Int)-((S:Int)+((t-k:Nat):Int)))(hl:(dg a).length=len)(hn:9*n+10≤d∨n=0∧0≤d) :
  nearN (shortN a (min n (len-1))) ((stripI j t 0).natAbs*10^(d-9*n))=nearN (a*10^(S+t)) (j.natAbs*10^s):=by
 have h:=(strip_abs j t 0).1;have hkt:=stripK_le j t 0;rw[hk] at h hkt;have hp:0<(stripI j t 0).natAbs:=by
  rcases Nat.eq_zero_or_pos (stripI j t 0).natAbs with h1|h1
  ·rw[h1] at h;omega
  ·exact h1
 rw[near_code hp hl hn,← h,Nat.mul_assoc,← Nat.pow_add,show k+s=d+(S+t) by omega,Nat.pow_add 10 d,← Nat.mul_assoc];exact(near_scale (Nat.mul_pos hp (ten_pos _)) (ten_pos _)).symm
theorem val_zero_gd:∀{xs:List Nat},val xs=0→∀j,gd xs j=0:=by
 intro xs;induction xs with
 | nil=>intro _ j;exact gd_nil j
 | cons x xs ih=>
  intro h j;rw[val] at h;cases j with
  | zero=>rw[gd_cons_zero];omega
  | succ j=>rw[gd_cons_succ];exact ih (by omega) j
theorem gd_zero_val:∀{xs:List Nat},(∀j,j<xs.length→gd xs j=0)→val xs=0:=by
 intro xs;induction xs with
 | nil=>intro _;rfl
 | cons x xs ih=>
  intro h;have h0:=h 0 (by simp);rw[gd_cons_zero] at h0;rw[val,h0,ih (fun j hj=>by have:=h (j+1) (by simp;omega);rwa [gd_cons_succ] at this)]
theorem short_parts{a m:Nat}(hl:m≤(dg a).length):a%1000000000^m=val ((dg a).take m)∧a/1000000000^m=val ((dg a).drop m):=by
 have h:=val_take_drop (dg a) m hl;rw[val_dg] at h;have h2:val ((dg a).take m)<1000000000^m:=by
  have:=val_lt (limbs_take (limbs_dg a) m);rwa [List.length_take,Nat.min_eq_left hl] at this
 have hp:0<1000000000^m:=Nat.pow_pos (by omega);generalize 1000000000^m=P at *;generalize val ((dg a).take m)=X at *;generalize val ((dg a).drop m)=Y at *;rw[h];exact⟨by rw[Nat.add_mul_mod_self_left,Nat.mod_eq_of_lt h2],by rw[Nat.add_mul_div_left _ _ hp,Nat.div_eq_of_lt h2,Nat.zero_add]⟩
theorem drop_last{a m:Nat}(hl:m<(dg a).length):((dg a).drop m).getLast?≠some 0:=by
 rw[List.getLast?_drop,if_neg (by omega)];exact dg_last a
theorem short_no{a m:Nat}(hl:m<(dg a).length)(h:val ((dg a).take m)=0):dg (shortN a m)=(dg a).drop m:=by
 obtain⟨h1,h2⟩:=short_parts (Nat.le_of_lt hl);unfold shortN;rw[h1,h2,if_neg (by omega)];exact dg_val (limbs_drop (limbs_dg a) m) (drop_last hl)
theorem short_yes{a m:Nat}(hl:m<(dg a).length)(h:0<val ((dg a).take m)):dg (shortN a m)=((dg a).drop m).set 0 (max (gd (dg a) m) 1):=by
 obtain⟨h1,h2⟩:=short_parts (Nat.le_of_lt hl);have h3:=val_drop (dg a) m;have h4:=gd_lt (limbs_dg a) m;have hlen:0<((dg a).drop m).length:=by rw[List.length_drop];omega
 have h5:=val_set ((dg a).drop m) 0 (max (gd (dg a) m) 1) hlen;rw[gd_drop,Nat.add_zero,Nat.pow_zero,Nat.one_mul,Nat.one_mul] at h5;have hm:(a/1000000000^m)%1000000000=gd (dg a) m:=by rw[h2,h3];omega
 have e:shortN a m=val (((dg a).drop m).set 0 (max (gd (dg a) m) 1)):=by
  unfold shortN;rw[hm,h1,h2];split<;>omega
 rw[e];refine dg_val (limbs_set (limbs_drop (limbs_dg a) m) 0 (by omega)) ?_;have hlast:=drop_last hl;have hg:gd ((dg a).drop m) 0=gd (dg a) m:=by rw[gd_drop];rfl
 generalize (dg a).drop m=ys at *;match ys,hlen with
 | [x],_=>
  rw[gd_cons_zero] at hg;simp only[List.set_cons_zero,List.getLast?_singleton]
  intro hh;injection hh with hh;omega
 | x::y::zs,_=>
  rw[List.set_cons_zero];simpa [List.getLast?_cons_cons] using hlast
theorem below_any(z:Int)(w:World):Calls Tryz.prog 184 #[.int .i64 z] w fun e w'=>e=.returned (.bool (decide (z<0)))∧w=w':=by
 go_enter Tryz.func184,Tryz.ntmps184;go_wp2;go_ret;exact⟨rfl,rfl⟩
theorem isBelow_any(A:Option Addr)(n c s:Nat)(i:Int)(w:World)(h:Num w w.heap.size A n c i.natAbs) :
  Calls Tryz.prog 183 #[.agg #[.bool (ngB i),.slice A n c,.int .i64 (s:Int)],.func (.func 184) #[] #[]] w (RetVal w (.bool (ngB i))):=by
 have H:=Jh h;clear h;go_enter Tryz.func183,Tryz.ntmps183;go_wp2_with fail;generalize hW:World.alloc w _=W0;have E0:St w W0 [(A,n,c,i.natAbs)] [(w.heap.size,.bool (ngB i),.slice A n c,.int .i64 (s:Int))]:=by rw[← hW];exact(start_one H.out).lay rfl
 have E:=Jh E0;clear hW E0;obtain⟨p0,p1,p2,pf0,pf1,pf2,plt⟩:=St.ad i A n c s (g:=w.heap.size) E (by simp);go_wp2_with fail;refine(sign_any A n c s i _ (St.got E (by simp))).mono ?_;rintro e w1 ⟨rfl,hb⟩;replace E:=Jh (St.step E.out hb);clear hb;go_wp2_with fail;refine(below_any _ _).mono ?_;rintro e w2 ⟨rfl,rfl⟩;go_wp2_with fail;go_ret;exact⟨ret_bool rfl,E.out.bel⟩
theorem limbPos_any(x:Nat)(w:World):Calls Tryz.prog 199 #[.int .u32 (x:Int)] w fun e w'=>e=.returned (.bool (decide (0<x)))∧w=w':=by
 go_enter Tryz.func199,Tryz.ntmps199;go_wp2;go_ret;exact⟨rfl,rfl⟩
theorem val_pos_gd{xs:List Nat}{k:Nat}(h:0<gd xs k):0<val xs:=by
 rcases Nat.eq_zero_or_pos (val xs) with h0|h0
 ·have:=val_zero_gd h0 k;omega
 ·exact h0
theorem indexLimb_any (A : Option Addr) (n c B : Nat) (xs : List Nat) (w : World) (h : Lim w B A n c xs) :
    Calls Tryz.prog 202 #[.slice A n c, .func (.func 199) #[] #[]] w fun e w' => (∃ r : Int, e = .returned (.int .i64 r) ∧ decide (0 ≤ r) = decide (0 < val xs)) ∧ w = w' := by
  have hm := h.room
  have hn := h.cap
  unfold maxLen at hm
  go_enter Tryz.func202, Tryz.ntmps202
  go_wp2
  go_loop [8] (fun i => ∃ k : Nat, k ≤ n ∧ i = .int .i64 k ∧ ∀ j, j < k → gd xs j = 0) (fun i => n - (intOf i).toNat)
  case atStart => exact ⟨0, Nat.zero_le _, rfl, fun j hj => absurd hj (by omega)⟩
  case round =>
    obtain ⟨k, hk, rfl, hall⟩ := hrel
    have HALL := Jh hall
    clear hall
    by_cases hkn : k < n
    · obtain ⟨b, o, rfl, _, hc⟩ := h.at_ hkn
      have hg := h.gd_lt k
      have H := Jh h
      clear h
      by_cases hbig : 0 < gd xs k
      · have E := Jh (val_pos_gd (xs := xs) (k := k) (by omega))
        go_wp2_with fail
        refine (limbPos_any _ _).mono ?_; rintro e w2 ⟨rfl, rfl⟩
        go_wp2_with fail
        go_ret
        exact ⟨⟨_, rfl, by rw [decide_eq_true E.out]; simp⟩, rfl⟩
      · have hz : gd xs k = 0 := by omega
        have HZ := Jh hz
        go_wp2_with fail
        refine (limbPos_any _ _).mono ?_; rintro e w2 ⟨rfl, rfl⟩
        go_wp2_with fail
        go_round
        case rel => exact ⟨k + 1, by omega, by go_num, fun j hj => by rcases Nat.lt_or_ge j k with h1 | h1; exact HALL.out j h1; obtain rfl : j = k := by omega
                                                                      exact HZ.out⟩
        case measure => simp [intOf]; omega
    · obtain rfl : k = n := by omega
      have E : Hid (val xs = 0) := gd_zero_val (fun j hj => HALL.out j (by rw [h.len] at hj; exact hj))
      clear h
      go_wp2
      go_ret
      exact ⟨⟨_, rfl, by rw [E.out]; simp⟩, rfl⟩
theorem someLimb_any(A:Option Addr)(n c B:Nat)(xs:List Nat)(w:World)(h:Lim w B A n c xs) :
  Calls Tryz.prog 198 #[.slice A n c,.func (.func 199) #[] #[]] w fun e w'=>e=.returned (.bool (decide (0<val xs)))∧w=w':=by
 have H:=Jh h;clear h;go_enter Tryz.func198,Tryz.ntmps198;go_wp2_with fail;refine(indexLimb_any A n c B xs _ H.out).mono ?_;rintro e w1 ⟨⟨r,rfl,hr⟩,rfl⟩;have HR:=Jh hr;clear hr;go_wp2_with fail;go_ret;exact⟨ret_bool HR.out,rfl⟩
theorem eql_some_nil{P:Program}(w:World){t e:TypeId}(a:Addr)(n c:Nat)(ht:P.underlying t=some (.slice e)) :
  (binOp .eql t (.slice (some a) n c) (.slice none 0 0)).run P w=.ok (.bool false) w:=by
 have h:∀d:Nat,(Op.equalIn (d+1) t (.slice (some a) n c) (.slice none 0 0)).run P w=.ok false w:=fun d=>by
  simp[Op.equalIn,run_underlying ht]
 simp only[binOp]
 simp[Op.equal,Op.maxDepth,h 9999]
theorem own_empty(w:World)(t:TypeId):(w.alloc (.cells #[] t)).ownsRow w.heap.size t 1 (.slice (some ⟨w.heap.size,0,none⟩) 0 0) 0 []:=
 ⟨rfl,.inr ⟨w.heap.size,0,#[],rfl,Nat.le_refl _,heap_alloc_new w _,Nat.le_refl _,by unfold maxLen;omega,rfl,rfl⟩⟩
theorem Lim.put{w:World}{B n c g:Nat}{x:Nat}{xs:List Nat}(h:Lim w B (some ⟨g,0,none⟩) n c xs)(hx:x<4294967296)(hn:0<n):Lim (w.setCell ⟨g,0,none⟩ (.int .u32 (x:Int))) B (some ⟨g,0,none⟩) n c (xs.set 0 x):=by
 obtain⟨b,o,he,hb,hc0⟩:=h.at_ hn;injection he with he
 injection he with h1 h2 h3
 subst h1;subst h2;refine⟨by rw[List.length_set,h.len],h.cap,h.room,?_,?_,fun h=>by cases h⟩
 ·intro y hy
  rcases List.mem_or_eq_of_mem_set hy with h1|h1
  ·exact h.fit y h1
  ·omega
 ·refine .inr ⟨g,0,rfl,hb,fun j u hu=>?_⟩
  rw[vals_set] at hu;rcases Nat.eq_zero_or_pos j with h0|h0
  ·subst h0
   rw[List.getElem?_set_self (by rw[vals_len,h.len];exact hn)] at hu;injection hu with hu
   subst hu;exact World.cell?_setCell_same _ _ _ hc0
  ·rw[List.getElem?_set_ne (by omega)] at hu
   rw[World.cell?_setCell_other _ _ _ _ (by simp only[ne_eq,Addr.mk.injEq];omega)];rcases h.row with h1|⟨b',o',he',_,hc⟩
   ·rw[h1] at hu;simp at hu
   ·injection he' with he'
    injection he' with h2 h3 h4
    subst h2;subst h3;exact hc j u hu
def RetClone(W:World)(xs:List Nat)(e:Ending)(w':World):Prop:=
 ∃g n c,e=.returned (.slice (some ⟨g,0,none⟩) n c)∧W.heap.size≤g∧Lim w' w'.heap.size (some ⟨g,0,none⟩) n c xs∧w'.frozen? ⟨g,0,none⟩=false∧Below W.heap.size W w'
theorem own_clone{w:World}{base n c:Nat}{A:Option Addr}{xs:List Value}(h:w.ownsRow base 163 1 (.slice A n c) n xs)(hn:0<n):∃g,A=some ⟨g,0,none⟩∧base≤g∧w.frozen? ⟨g,0,none⟩=false:=by
 rcases h.2 with⟨h1,h2⟩|⟨g,cap,cur,hv,hg,hh,hnc,hcm,hsz,htk⟩
 ·omega
 ·injection hv with h1 h3 h4
  exact⟨g,h1,hg,frozen_of_row w g 0 _ _ hh⟩
theorem clone_any(b o n c B:Nat)(xs:List Nat)(w:World)(h:Lim w B (some ⟨b,o,none⟩) n c xs)(hn:0<n)(hn2:n≤1000000000)(hB:B≤w.heap.size) :
  Calls Tryz.prog 197 #[.slice (some ⟨b,o,none⟩) n c] w (RetClone w xs):=by
 obtain⟨i0,hi,hz0,hz1,hz2⟩:=info_parts info_limb;have H:=Jh h;have HF:=Jh h.fit;clear h;have hnil:=eql_some_nil (P:=Tryz.prog) w ⟨b,o,none⟩ n c Tryz.underlying34;go_enter Tryz.func197,Tryz.ntmps197;go_wp2_with (at_builtin;go_must (refine wpList_append_lim rfl (.tmp 5) (.tmp 6) 34 34 rfl w.heap.size 163 163 i0 Tryz.underlying34 Tryz.underlying34 hi hz0 hz1 hz2 (some ⟨w.heap.size,0,none⟩) 0 0 [] rfl (own_empty w _) _ (some ⟨b,o,none⟩) n c xs rfl ((H.out.more hB).below ((Below.refl _ _).alloc (Nat.le_refl _) _)) (by omega) (by simp) ?_;intro A2 c2 w2 hown hgr;simp only[Nat.zero_add,List.nil_append] at hown));go_ret;obtain⟨g,rfl,hg,hf⟩:=own_clone hown hn;exact⟨g,n,c2,rfl,hg,Lim.of_own hown HF.out,hf,((Below.refl _ _).alloc (Nat.le_refl _) _).grown hgr (by simp) (fun k hk=>by cases hk;exact Nat.le_refl _)⟩
theorem max_limb{P:Program}{x z:Nat}(h:max x 1=z)(ts:Array TypeId)(ty:TypeId)(W:World):(Builtin.max_ ts ty #[.int .u32 (x:Int),.int .u32 1]).run P W=.ok (.int .u32 (z:Int)) W:=by
 rw[run_max_int2];have e:(if (1:Int)>(x:Int) then (1:Int) else (x:Int))=(z:Int):=by split<;>omega
 rw[e]
theorem shortened_same(A:Option Addr)(n c a k:Nat)(w:World)(h:Num w w.heap.size A n c a)(hn:n≤1000000)(hk:min k (n-1)=0)(hk2:k≤1000000) :
  Calls Tryz.prog 191 #[.slice A n c,.int .i64 (k:Int)] w (RetNum w (shortN a (min k (n-1)))):=by
 have H:=Jh h;obtain⟨z,hz⟩:∃z,min (k:Int) ((n:Int)-1)=z:=⟨_,rfl⟩;have hz0:z≤0:=by omega
 have hmn:=min_gen (P:=Tryz.prog) hz;rw[hk,short_none];clear h hk;go_enter Tryz.func191,Tryz.ntmps191;go_wp2;go_ret;exact⟨A,n,c,rfl,H.out,Below.refl _ _⟩
theorem shortened_cut(b o n c a k m:Nat)(w:World)(h:Num w w.heap.size (some ⟨b,o,none⟩) n c a)(hn:n≤1000000)(hm:min k (n-1)=m)(hm0:0<m)(hk2:k≤1000000) :
  Calls Tryz.prog 191 #[.slice (some ⟨b,o,none⟩) n c,.int .i64 (k:Int)] w (RetNum w (shortN a m)):=by
 have H:=Jh h;have hc:=h.cap;have hr:=h.room;unfold maxLen at hr;have hz:min (k:Int) ((n:Int)-1)=(m:Int):=by omega
 have hmn:=min_gen (P:=Tryz.prog) hz;have hml:m<(dg a).length:=by rw[h.len];omega
 have HML:=Jh hml;have HR:Hid (Lim w w.heap.size (some ⟨b,o+m,none⟩) (n-m) (c-m) ((dg a).drop m)):=h.rest (by omega) _ (fun _=>rfl) (fun h=>by cases h);have HT:Hid (Lim w w.heap.size (some ⟨b,o,none⟩) m c ((dg a).take m)):=h.take (by omega);obtain⟨n',hn'⟩:∃n',n-m=n':=⟨_,rfl⟩;obtain⟨c',hc'⟩:∃c',c-m=c':=⟨_,rfl⟩;rw[hn',hc'] at HR;have q1:(n:Int)-(m:Int)=(n':Int):=by omega
 have q2:(c:Int)-(m:Int)=(c':Int):=by omega
 have hmn2:m≤n:=by omega
 have hn'0:0<n':=by omega
 have HG:Hid (gd (dg a) m<1000000000):=gd_lt (limbs_dg a) m;clear h hm hml hz;go_enter Tryz.func191,Tryz.ntmps191;go_wp2_with fail;refine(clone_any b (o+m) n' c' w.heap.size ((dg a).drop m) _ HR.out hn'0 (by omega) (Nat.le_refl _)).mono ?_;rintro e w1 ⟨g,n1,c1,rfl,hg,h1,hf,hb⟩;have hn1:n1=n':=by have e1:=h1.len;have e2:=HR.out.len;omega
 subst hn1;have H1:=Jh h1;have HB:=Jh hb;have HGG:=Jh hg;clear h1 hb hg;go_wp2_with fail;refine(someLimb_any (some ⟨b,o,none⟩) m c w.heap.size ((dg a).take m) _ (HT.out.below HB.out)).mono ?_;rintro e w2 ⟨rfl,rfl⟩;by_cases h0:0<val ((dg a).take m)
 ·rw[decide_eq_true h0]
  obtain⟨X,hX⟩:∃X,max (gd (dg a) m) 1=X:=⟨_,rfl⟩;have hmx:=max_limb (P:=Tryz.prog) hX;have HS:Hid (dg (shortN a m)=((dg a).drop m).set 0 X):=by have:=short_yes HML.out h0;rwa [hX] at this
  have HX4:Hid (X<4294967296):=by show _<_;have:=HG.out;omega
  obtain⟨b',o',he,hbb,hc0⟩:=H1.out.at_ hn'0;injection he with he
  injection he with e1 e2 e3
  subst e1;subst e2;rw[gd_drop,Nat.add_zero] at hc0;have hgs:g<w1.heap.size:=hbb;clear h0 hX hbb e3;go_wp2_with fail;go_ret;refine⟨some ⟨g,0,none⟩,n1,c1,rfl,?_,HB.out.setCell (p:=⟨g,0,none⟩) HGG.out _⟩;rw[HS.out];have:=H1.out.put (x:=X) HX4.out hn'0;simpa using this
 ·have h0':val ((dg a).take m)=0:=by omega
  have HS:Hid (dg (shortN a m)=(dg a).drop m):=short_no HML.out h0';rw[decide_eq_false h0];clear h0 h0';go_wp2_with fail;go_ret;exact⟨some ⟨g,0,none⟩,n1,c1,rfl,by rw[HS.out];exact H1.out,HB.out⟩
theorem shortened_is{A:Option Addr}{n c a k x:Nat}{v:Int}{w:World}(h:Num w w.heap.size A n c a)(hn:n≤1000000)(hv:v=(k:Int))(hk2:k≤1000000)(hx:shortN a (min k (n-1))=x) :
  Calls Tryz.prog 191 #[.slice A n c,.int .i64 v] w (RetNum w x):=by
 subst hv;subst hx;rcases Nat.eq_zero_or_pos (min k (n-1)) with h0|h0
 ·exact shortened_same A n c a k w h hn h0 hk2
 ·obtain⟨b,o,rfl,_,_⟩:=h.at_ (k:=0) (by omega)
  exact shortened_cut b o n c a k _ w h hn rfl h0 hk2
theorem short_le_len(a m:Nat):(dg (shortN a m)).length≤(dg a).length+1:=by
 have h1:a/1000000000^m≤a:=Nat.div_le_self _ _;have h2:=dg_len_mono (a:=a/1000000000^m+1) (b:=a+1) (by omega);have h3:=dg_len_add a 1;have h4:(dg 1).length≤1:=dg_len_le (by decide);have h5:=dg_len_mono (a:=a/1000000000^m) (b:=a/1000000000^m+1) (by omega);have h6:(dg (a+1)).length≤(dg a).length+1:=by
  rcases Nat.eq_zero_or_pos a with h0|h0
  ·subst h0;rw[Nat.zero_add,dg_zero];simpa using h4
  ·rw[dg_pos h0] at h3 ⊢;simp only[List.length_cons] at h3 ⊢;omega
 unfold shortN;split<;>omega
theorem nearest_up{A A':Option Addr}{n c n' c' a b k x:Nat}{v:Int}{w:World}(h:Num w w.heap.size A n c a)(h':Num w w.heap.size A' n' c' b)(hn:n≤1000000)(hk:k≤1000000)(hv:v=(k:Int))(hb:0<b)(hl:(dg (a*10^k)).length≤100000)(hx:nearN (a*10^k) b=x) :
  Calls Tryz.prog 182 #[.slice A n c,.slice A' n' c',.int .i64 v] w (RetSub w x):=by
 subst hv;have E:=Env.two h h';have HX:=Jh hx;have HL:=Jh hl;have HB:=Jh hb;clear h h' hx hl hb;go_enter Tryz.func182,Tryz.ntmps182;go_wp2_with fail;refine(shift_is (a:=a) (k:=k) (Env.get E (by simp)) hn hk rfl rfl).mono ?_;rintro e w1 ⟨A1,n1,c1,rfl,h1,hb1⟩;have hn1:n1≤100000:=by rw[← h1.len];exact HL.out
 replace E:=Env.push E hb1 h1;clear h1 hb1;go_wp2_with fail;refine(near_is (a:=a*10^k) (b:=b) (Env.get E (A:=A1) (n:=n1) (c:=c1) (by simp)) (Env.get E (A:=A') (n:=n') (c:=c') (by simp)) hn1 HB.out HX.out).mono ?_;rintro e w2 ⟨A2,n2,c2,rfl,h1,hb1⟩;replace E:=Env.push E hb1 h1;clear h1 hb1;go_wp2_with fail;go_ret2
 exact⟨A2,n2,c2,rfl,Env.get E (by simp),E.out.1⟩
theorem nearest_down{A A':Option Addr}{n c n' c' a b d x:Nat}{v:Int}{w:World}(h:Num w w.heap.size A n c a)(h':Num w w.heap.size A' n' c' b)(hn:n≤10000)(hn':n'≤1000000)(hd:d≤1000000)(hd0:0<d)(hv:v = -(d:Int))(hb:0<b)(hx:nearN (shortN a (min ((d-10)/9) (n-1))) (b*10^(d-9*((d-10)/9)))=x) :
  Calls Tryz.prog 182 #[.slice A n c,.slice A' n' c',.int .i64 v] w (RetSub w x):=by
 subst hv;have E:=Env.two h h';have HX:=Jh hx;have HB:Hid (0<b*10^(d-9*((d-10)/9))):=Nat.mul_pos hb (ten_pos _);have hlen:=h.len;clear h h' hx hb;obtain⟨L,hL⟩:∃L,(d-10)/9=L:=⟨_,rfl⟩;have HLL:=Jh hL;obtain⟨m0,hm0⟩:∃m0:Nat,d-10=m0:=⟨_,rfl⟩;have hmx:=max_gen (P:=Tryz.prog) (x:=(d:Int)-9-1) (y:=0) (z:=(m0:Int)) (by omega);obtain⟨r,hr⟩:∃r,d-9*L=r:=⟨_,rfl⟩;have q1:(m0:Int)/9=(L:Int):=by omega
 have q2:(d:Int)-(L:Int)*9=(r:Int):=by omega
 have hL9:9*L≤d:=by omega
 obtain⟨S,hS⟩:∃S,shortN a (min L (n-1))=S:=⟨_,rfl⟩;have HSL:Hid ((dg S).length≤10001):=by show _≤_;rw[← hS];have:=short_le_len a (min L (n-1));omega
 have HSS:=Jh hS;rw[hL,hr] at HX HB;rw[hS] at HX;have hLb:L≤1000000:=by omega
 have hrb:r≤1000000:=by omega
 have hmb:m0≤1000000:=by omega
 clear hS hL hm0 hr hlen;go_enter Tryz.func182,Tryz.ntmps182;go_wp2_with fail;refine(shift_is (a:=b) (k:=r) (Env.get E (A:=A') (n:=n') (c:=c') (by simp)) hn' hrb (by omega) rfl).mono ?_;rintro e w1 ⟨A1,n1,c1,rfl,h1,hb1⟩;replace E:=Env.push E hb1 h1;clear h1 hb1;go_wp2_with fail;refine(shortened_is (a:=a) (k:=L) (Env.get E (A:=A) (n:=n) (c:=c) (by simp)) (by omega) (by omega) hLb HSS.out).mono ?_;rintro e w2 ⟨A2,n2,c2,rfl,h1,hb1⟩;have hn2:n2≤100000:=by have:=h1.len;have:=HSL.out;omega
 replace E:=Env.push E hb1 h1;clear h1 hb1;go_wp2_with fail;refine(near_is (a:=S) (b:=b*10^r) (Env.get E (A:=A2) (n:=n2) (c:=c2) (by simp)) (Env.get E (A:=A1) (n:=n1) (c:=c1) (by simp)) hn2 HB.out HX.out).mono ?_;rintro e w3 ⟨A3,n3,c3,rfl,h1,hb1⟩;replace E:=Env.push E hb1 h1;clear h1 hb1;go_wp2_with fail;go_ret2
 exact⟨A3,n3,c3,rfl,Env.get E (by simp),E.out.1⟩
theorem nought_len{w:World}{B n c:Nat}{A:Option Addr}(h:Num w B A n c 0):n=0:=by
 have:=h.len;rw[dg_zero] at this;exact this.symm
theorem nearest_zero_up{A A':Option Addr}{n c n' c' a k:Nat}{v:Int}{w:World}(h:Num w w.heap.size A n c a)(h':Num w w.heap.size A' n' c' 0)(hn:n≤1000000)(hk:k≤1000000)(hv:v=(k:Int)) :
  Calls Tryz.prog 182 #[.slice A n c,.slice A' n' c',.int .i64 v] w (RetVal w (.tuple #[.slice none 0 0,.int .i64 4])):=by
 subst hv;obtain rfl:=nought_len h';have E:=Env.two h h';clear h h';go_enter Tryz.func182,Tryz.ntmps182;go_wp2_with fail;refine(shift_is (a:=a) (k:=k) (Env.get E (by simp)) hn hk rfl rfl).mono ?_;rintro e w1 ⟨A1,n1,c1,rfl,h1,hb1⟩;replace E:=Env.push E hb1 h1;clear h1 hb1;go_wp2_with fail;refine(near_zero A1 A' n1 c1 c' (a*10^k) _ (Env.get E (A:=A1) (n:=n1) (c:=c1) (by simp)) (Env.get E (A:=A') (n:=0) (c:=c') (by simp))).mono ?_;rintro e w2 ⟨rfl,hb1⟩;replace E:=Env.step E hb1;clear hb1;go_wp2_with fail;go_ret2
 exact⟨rfl,E.out.1⟩
theorem nearest_zero_down{A A':Option Addr}{n c n' c' a d:Nat}{v:Int}{w:World}(h:Num w w.heap.size A n c a)(h':Num w w.heap.size A' n' c' 0)(hn:n≤10000)(hd:d≤1000000)(hd0:0<d)(hv:v = -(d:Int)) :
  Calls Tryz.prog 182 #[.slice A n c,.slice A' n' c',.int .i64 v] w (RetVal w (.tuple #[.slice none 0 0,.int .i64 4])):=by
 subst hv;obtain rfl:=nought_len h';have E:=Env.two h h';clear h h';obtain⟨L,hL⟩:∃L,(d-10)/9=L:=⟨_,rfl⟩;obtain⟨m0,hm0⟩:∃m0:Nat,d-10=m0:=⟨_,rfl⟩;have hmx:=max_gen (P:=Tryz.prog) (x:=(d:Int)-9-1) (y:=0) (z:=(m0:Int)) (by omega);obtain⟨r,hr⟩:∃r,d-9*L=r:=⟨_,rfl⟩;have q1:(m0:Int)/9=(L:Int):=by omega
 have q2:(d:Int)-(L:Int)*9=(r:Int):=by omega
 have hL9:9*L≤d:=by omega
 have hLb:L≤1000000:=by omega
 have hrb:r≤1000000:=by omega
 have hmb:m0≤1000000:=by omega
 clear hL hm0 hr;go_enter Tryz.func182,Tryz.ntmps182;go_wp2_with fail;refine(shift_is (a:=0) (k:=r) (m:=0) (Env.get E (A:=A') (n:=0) (c:=c') (by simp)) (by omega) hrb (by omega) (Nat.zero_mul _)).mono ?_;rintro e w1 ⟨A1,n1,c1,rfl,h1,hb1⟩;obtain rfl:=nought_len h1;replace E:=Env.push E hb1 h1;clear h1 hb1;go_wp2_with fail;refine(shortened_is (a:=a) (k:=L) (Env.get E (A:=A) (n:=n) (c:=c) (by simp)) (by omega) (by omega) hLb rfl).mono ?_;rintro e w2 ⟨A2,n2,c2,rfl,h1,hb1⟩;replace E:=Env.push E hb1 h1;clear h1 hb1;go_wp2_with fail;refine(near_zero A2 A1 n2 c2 c1 (shortN a (min L (n-1))) _ (Env.get E (A:=A2) (n:=n2) (c:=c2) (by simp)) (Env.get E (A:=A1) (n:=0) (c:=c1) (by simp))).mono ?_;rintro e w3 ⟨rfl,hb1⟩;replace E:=Env.step E hb1;clear hb1;go_wp2_with fail;go_ret2
 exact⟨rfl,E.out.1⟩
theorem divZero_any(A A':Option Addr)(n c n' c' s t S:Nat)(i j v:Int)(w:World)(h:Num w w.heap.size A n c i.natAbs)(h':Num w w.heap.size A' n' c' j.natAbs)(hn:n≤1000)(hn':n'≤1000)(hs:s≤4100)(ht:t≤4100)(hv:max v 0=(S:Int))(hS:S≤4100)(h0:j=0) :
  Calls Tryz.prog 171 #[.agg #[.bool (ngB i),.slice A n c,.int .i64 (s:Int)],.agg #[.bool (ngB j),.slice A' n' c',.int .i64 (t:Int)],.int .i64 v] w (RetVal w (.tuple #[.agg #[.bool false,.slice none 0 0,.int .i64 0],.int .i64 4])):=by
 have hkt:=stripK_le j t 0;obtain⟨T,hT⟩:∃T,t-stripK j t 0=T:=⟨_,rfl⟩;obtain⟨J,hJ⟩:∃J,stripI j t 0=J:=⟨_,rfl⟩;have HJ:=Jh hJ;have HT:=Jh hT;have HJL:Hid ((dg J.natAbs).length≤1000):=by
  show _≤_;have e:=(strip_abs j t 0).1;rw[hJ] at e;have:J.natAbs≤j.natAbs:=by rw[← e];exact Nat.le_mul_of_pos_right _ (ten_pos _)
  have:=dg_len_mono this;rw[h'.len] at this;omega
 have hTt:T≤t:=by omega
 have hmS:=max_gen (P:=Tryz.prog) hv;have hmS2:=min_gen (P:=Tryz.prog) (x:=(S:Int)) (y:=2000000) (z:=(S:Int)) (by omega);have hms:=max_zero (P:=Tryz.prog) (s:=s);have hmT:=min_gen (P:=Tryz.prog) (x:=(T:Int)-(s:Int)) (y:=2000000) (z:=(T:Int)-(s:Int)) (by omega);have H:=Jh h;have H':=Jh h';have HN:Hid (∀(w0:World) (A1:Option Addr) (n1 c1:Nat),Num w0 w0.heap.size A n c i.natAbs→Num w0 w0.heap.size A1 n1 c1 J.natAbs→Calls Tryz.prog 182 #[.slice A n c,.slice A1 n1 c1,.int .i64 ((S:Int)+((T:Int)-(s:Int)))] w0 (RetVal w0 (.tuple #[.slice none 0 0,.int .i64 4]))):=by
  intro w0 A1 n1 c1 g1 g2;have hJ0:J=0:=by rw[← hJ,h0];exact strip_none t 0
  subst hJ0;rcases Int.lt_or_le ((S:Int)+((T:Int)-(s:Int))) 0 with hh|hh
  ·exact nearest_zero_down (d:=(-((S:Int)+((T:Int)-(s:Int)))).toNat) g1 g2 (by omega) (by omega) (by omega) (by omega)
  ·exact nearest_zero_up (k:=((S:Int)+((T:Int)-(s:Int))).toNat) g1 g2 (by omega) (by omega) (by omega)
 clear h h' hv hJ hT hkt h0;go_enter Tryz.func171,Tryz.ntmps171;go_wp2_with fail;generalize hW:World.alloc (World.alloc (World.alloc w _) _) _=W0;have E0:St w W0 [(A,n,c,(i).natAbs),(A',n',c',(j).natAbs)] [((w.heap.size+1+1),.bool false,.slice none 0 0,.int .i64 0),((w.heap.size+1),(.bool (ngB j)),(.slice A' n' c'),(.int .i64 (t:Int))),(w.heap.size,(.bool (ngB i)),(.slice A n c),(.int .i64 (s:Int)))]:=by rw[← hW];exact(((start_two H.out H'.out).lay rfl).lay (by simp)).lay (by simp)
 have E:=Jh E0;clear hW E0;obtain⟨q0,q1,q2,qf0,qf1,qf2,qlt⟩:=St.ad j A' n' c' t (g:=(w.heap.size+1)) E (by simp);go_wp2_with fail;refine(strip_is5 (L:=0) (St.got E (A:=A') (n:=n') (c:=c') (a:=j.natAbs) (by simp)) (by omega) (by omega) rfl (by omega) HT.out HJ.out).mono ?_;rintro e w1 ⟨A1,n1,c1,rfl,h1,hb1⟩;have hn1:n1≤1000:=by have:=h1.len;have:=HJL.out;omega
 replace E:=Jh (St.push E.out hb1 h1);clear h1 hb1;clear q0 q1 q2 qf0 qf1 qf2 qlt;obtain⟨p0,p1,p2,pf0,pf1,pf2,plt⟩:=St.ad i A n c s (g:=w.heap.size) E (by simp);obtain⟨q0,q1,q2,qf0,qf1,qf2,qlt⟩:=St.ad j A' n' c' t (g:=(w.heap.size+1)) E (by simp);go_wp2_with fail;replace E:=Jh (St.store E.out (g:=(w.heap.size+1)) (x0:=.bool (ngB j)) (x1:=.slice A' n' c') (x2:=.int .i64 (t:Int)) (by simp) (noLimb_bool _) (noLimb_slice _ _ _) (noLimb_int _) [((w.heap.size+1+1),.bool false,.slice none 0 0,.int .i64 0),(w.heap.size,(.bool (ngB i)),(.slice A n c),(.int .i64 (s:Int)))] (by simp<;>omega) (.bool (ngB J)) (.slice A1 n1 c1) (.int .i64 (T:Int)));clear p0 p1 p2 pf0 pf1 pf2 plt q0 q1 q2 qf0 qf1 qf2 qlt;obtain⟨W1,hW⟩:∃W1,put3 w1 (w.heap.size+1) (.bool (ngB J)) (.slice A1 n1 c1) (.int .i64 (T:Int))=W1:=⟨_,rfl⟩;rw[hW] at E;unfold put3 at hW;rw[hW];clear hW;refine(HN.out _ A1 n1 c1 (St.got E (A:=A) (n:=n) (c:=c) (a:=i.natAbs) (by simp)) (St.got E (A:=A1) (n:=n1) (c:=c1) (a:=J.natAbs) (by simp))).mono ?_;rintro e w2 ⟨rfl,hb1⟩;replace E:=Jh (St.step E.out hb1);clear hb1;obtain⟨r0,r1,r2,rf0,rf1,rf2,rlt⟩:=St.az (g:=(w.heap.size+1+1)) E (by simp);go_wp2_with fail;have EF:=Jh (St.sz E.out (g:=(w.heap.size+1+1)) (by simp) (.bool false) (.slice none 0 0) (.int .i64 0));obtain⟨e0,e1,e2,_,_,_,_⟩:=St.az (g:=(w.heap.size+1+1)) EF (by simp);exact bodyPost_ret (v:=.tuple #[.agg #[.bool false,.slice none 0 0,.int .i64 0],.int .i64 4]) (by simp[results,Tryz.results171,go_sem,e0,e1,e2]) rfl ⟨rfl,EF.out.bel⟩
theorem div_same(A A':Option Addr)(n c n' c' s t S:Nat)(i j v:Int)(w:World)(h:Num w w.heap.size A n c i.natAbs)(h':Num w w.heap.size A' n' c' j.natAbs)(hn:n≤1000)(hn':n'≤1000)(hs:s≤4100)(ht:t≤4100)(hv:max v 0=(S:Int))(hS:S≤4100)(h0:j≠0)(hb:ngB i=ngB j) :
  Calls Tryz.prog 171 #[.agg #[.bool (ngB i),.slice A n c,.int .i64 (s:Int)],.agg #[.bool (ngB j),.slice A' n' c',.int .i64 (t:Int)],.int .i64 v] w (RetDecE w (divZ i s j t S) S):=by
 have hkt:=stripK_le j t 0;obtain⟨T,hT⟩:∃T,t-stripK j t 0=T:=⟨_,rfl⟩;obtain⟨J,hJ⟩:∃J,stripI j t 0=J:=⟨_,rfl⟩;have HJ:=Jh hJ;have HT:=Jh hT;have HJL:Hid ((dg J.natAbs).length≤1000):=by
  show _≤_;have e:=(strip_abs j t 0).1;rw[hJ] at e;have:J.natAbs≤j.natAbs:=by rw[← e];exact Nat.le_mul_of_pos_right _ (ten_pos _)
  have:=dg_len_mono this;rw[h'.len] at this;omega
 have hTt:T≤t:=by omega
 have hmS:=max_gen (P:=Tryz.prog) hv;have hmS2:=min_gen (P:=Tryz.prog) (x:=(S:Int)) (y:=2000000) (z:=(S:Int)) (by omega);have hms:=max_zero (P:=Tryz.prog) (s:=s);have hmT:=min_gen (P:=Tryz.prog) (x:=(T:Int)-(s:Int)) (y:=2000000) (z:=(T:Int)-(s:Int)) (by omega);have H:=Jh h;have H':=Jh h';have HN:Hid (∀(w0:World) (A1:Option Addr) (n1 c1:Nat),Num w0 w0.heap.size A n c i.natAbs→Num w0 w0.heap.size A1 n1 c1 J.natAbs→n1≤1000→Calls Tryz.prog 182 #[.slice A n c,.slice A1 n1 c1,.int .i64 ((S:Int)+((T:Int)-(s:Int)))] w0 (RetSub w0 (nearN (i.natAbs*10^(S+t)) (j.natAbs*10^s)))):=by
  intro w0 A1 n1 c1 g1 g2 g3;have hJ0:0<J.natAbs:=by
   have e:=(strip_abs j t 0).1;rw[hJ] at e;rcases Nat.eq_zero_or_pos J.natAbs with h1|h1
   ·rw[h1] at e;omega
   ·exact h1
  rcases Int.lt_or_le ((S:Int)+((T:Int)-(s:Int))) 0 with hh|hh
  ·obtain⟨d,hd⟩:∃d:Nat,((S:Int)+((T:Int)-(s:Int))) = -(d:Int):=⟨(-((S:Int)+((T:Int)-(s:Int)))).toNat,by omega⟩
   refine nearest_down (d:=d) g1 g2 (by omega) (by omega) (by omega) (by omega) hd hJ0 ?_;rw[← hJ];exact div_down h0 rfl (by rw[hT];omega) g1.len (by omega)
  ·obtain⟨d,hd⟩:∃d:Nat,((S:Int)+((T:Int)-(s:Int)))=(d:Int):=⟨((S:Int)+((T:Int)-(s:Int))).toNat,by omega⟩
   refine nearest_up (k:=d) g1 g2 (by omega) (by omega) hd hJ0 ?_ ?_
   ·have:=up_len (i:=i) (s:=0) (M:=d) g1.len
    rw[abs_up,Nat.sub_zero] at this;omega
   ·rw[← hJ]
    exact div_up h0 rfl (by rw[hT];omega)
 have HD:Hid (sgn false (nearN (i.natAbs*10^(S+t)) (j.natAbs*10^s))=divZ i s j t S):=by show _=_;unfold divZ;rw[bool_neq' hb]
 have hJb:ngB i=ngB J:=by rw[← hJ,strip_ng];exact hb
 obtain⟨x,hx⟩:∃x,nearN (i.natAbs*10^(S+t)) (j.natAbs*10^s)=x:=⟨_,rfl⟩;obtain⟨z,hz⟩:∃z,divZ i s j t S=z:=⟨_,rfl⟩;rw[hx] at HN HD;rw[hz] at HD ⊢;have hb3:=bool_neq' hJb;clear h h' hv hJ hT hkt h0 hb hx hz hJb;go_enter Tryz.func171,Tryz.ntmps171;go_wp2_with fail;generalize hW:World.alloc (World.alloc (World.alloc w _) _) _=W0;have E0:St w W0 [(A,n,c,(i).natAbs),(A',n',c',(j).natAbs)] [((w.heap.size+1+1),.bool false,.slice none 0 0,.int .i64 0),((w.heap.size+1),(.bool (ngB j)),(.slice A' n' c'),(.int .i64 (t:Int))),(w.heap.size,(.bool (ngB i)),(.slice A n c),(.int .i64 (s:Int)))]:=by rw[← hW];exact(((start_two H.out H'.out).lay rfl).lay (by simp)).lay (by simp)
 have E:=Jh E0;clear hW E0;obtain⟨q0,q1,q2,qf0,qf1,qf2,qlt⟩:=St.ad j A' n' c' t (g:=(w.heap.size+1)) E (by simp);go_wp2_with fail;refine(strip_is5 (L:=0) (St.got E (A:=A') (n:=n') (c:=c') (a:=j.natAbs) (by simp)) (by omega) (by omega) rfl (by omega) HT.out HJ.out).mono ?_;rintro e w1 ⟨A1,n1,c1,rfl,h1,hb1⟩;have hn1:n1≤1000:=by have:=h1.len;have:=HJL.out;omega
 replace E:=Jh (St.push E.out hb1 h1);clear h1 hb1;clear q0 q1 q2 qf0 qf1 qf2 qlt;obtain⟨p0,p1,p2,pf0,pf1,pf2,plt⟩:=St.ad i A n c s (g:=w.heap.size) E (by simp);obtain⟨q0,q1,q2,qf0,qf1,qf2,qlt⟩:=St.ad j A' n' c' t (g:=(w.heap.size+1)) E (by simp);go_wp2_with fail;replace E:=Jh (St.store E.out (g:=(w.heap.size+1)) (x0:=.bool (ngB j)) (x1:=.slice A' n' c') (x2:=.int .i64 (t:Int)) (by simp) (noLimb_bool _) (noLimb_slice _ _ _) (noLimb_int _) [((w.heap.size+1+1),.bool false,.slice none 0 0,.int .i64 0),(w.heap.size,(.bool (ngB i)),(.slice A n c),(.int .i64 (s:Int)))] (by simp<;>omega) (.bool (ngB J)) (.slice A1 n1 c1) (.int .i64 (T:Int)));clear p0 p1 p2 pf0 pf1 pf2 plt q0 q1 q2 qf0 qf1 qf2 qlt;obtain⟨W1,hW⟩:∃W1,put3 w1 (w.heap.size+1) (.bool (ngB J)) (.slice A1 n1 c1) (.int .i64 (T:Int))=W1:=⟨_,rfl⟩;rw[hW] at E;unfold put3 at hW;rw[hW];clear hW;refine(HN.out _ A1 n1 c1 (St.got E (A:=A) (n:=n) (c:=c) (a:=i.natAbs) (by simp)) (St.got E (A:=A1) (n:=n1) (c:=c1) (a:=J.natAbs) (by simp)) hn1).mono ?_;rintro e w2 ⟨A2,n2,c2,rfl,h1,hb1⟩;have hnz:=num_pos h1;replace E:=Jh (St.push E.out hb1 h1);clear h1 hb1;clear hmS hmS2 hms hmT;have HNZ:=Jh hnz;clear hnz;go_wp2_with fail;replace E:=Jh (St.drew E.out);go_region_held3 (fun v=>v.cell? ⟨w.heap.size,0,none⟩=some (.bool (ngB i))∧v.cell? ⟨w.heap.size,1,none⟩=some (.slice A n c)∧v.cell? ⟨w.heap.size,2,none⟩=some (.int .i64 (s:Int))∧v.cell? ⟨w.heap.size+1,0,none⟩=some (.bool (ngB J))∧v.cell? ⟨w.heap.size+1,1,none⟩=some (.slice A1 n1 c1)∧v.cell? ⟨w.heap.size+1,2,none⟩=some (.int .i64 (T:Int))) (first|(have X0:=St.ad i A n c s (g:=w.heap.size) E (by simp);have X1:=St.ad J A1 n1 c1 T (g:=(w.heap.size+1)) E (by simp);with_reducible exact⟨X0.c0,X0.c1,X0.c2,X1.c0,X1.c1,X1.c2⟩))
  (first|(go_at_call 183;first|((with_reducible refine(isBelow_any A n c s i _ (St.got E (A:=A) (n:=n) (c:=c) (a:=i.natAbs) (by simp))).mono ?_);rintro e w3 ⟨rfl,hb1⟩;replace E:=Jh (St.step E.out hb1);clear hb1)|((with_reducible refine(isBelow_any A1 n1 c1 T J _ (St.got E (A:=A1) (n:=n1) (c:=c1) (a:=J.natAbs) (by simp))).mono ?_);rintro e w4 ⟨rfl,hb1⟩;replace E:=Jh (St.step E.out hb1);clear hb1)))
 all_goals
  rw[show(!(ngB i == ngB J))=false from hb3];clear hb3;obtain⟨r0,r1,r2,rf0,rf1,rf2,rlt⟩:=St.az (g:=(w.heap.size+1+1)) E (by simp);go_wp2_with fail;have EF:=Jh (St.sz E.out (g:=(w.heap.size+1+1)) (by simp) (.bool false) (.slice A2 n2 c2) (.int .i64 (S:Int)));obtain⟨e0,e1,e2,_,_,_,_⟩:=St.at_ (x0:=.bool false) (x1:=.slice A2 n2 c2) (x2:=.int .i64 (S:Int)) (g:=(w.heap.size+1+1)) EF (by simp);exact bodyPost_ret (v:=.tuple #[.agg #[.bool false,.slice A2 n2 c2,.int .i64 (S:Int)],.int .i64 0]) (by simp[results,Tryz.results171,go_sem,e0,e1,e2]) rfl ⟨A2,n2,c2,by rw[← HD.out,ng_sgn];simp[HNZ.out],by rw[← HD.out,abs_sgn];exact St.got EF (by simp),EF.out.bel⟩
theorem div_apart(A A':Option Addr)(n c n' c' s t S:Nat)(i j v:Int)(w:World)(h:Num w w.heap.size A n c i.natAbs)(h':Num w w.heap.size A' n' c' j.natAbs)(hn:n≤1000)(hn':n'≤1000)(hs:s≤4100)(ht:t≤4100)(hv:max v 0=(S:Int))(hS:S≤4100)(h0:j≠0)(hb:ngB i≠ngB j) :
  Calls Tryz.prog 171 #[.agg #[.bool (ngB i),.slice A n c,.int .i64 (s:Int)],.agg #[.bool (ngB j),.slice A' n' c',.int .i64 (t:Int)],.int .i64 v] w (RetDecE w (divZ i s j t S) S):=by
 have hkt:=stripK_le j t 0;obtain⟨T,hT⟩:∃T,t-stripK j t 0=T:=⟨_,rfl⟩;obtain⟨J,hJ⟩:∃J,stripI j t 0=J:=⟨_,rfl⟩;have HJ:=Jh hJ;have HT:=Jh hT;have HJL:Hid ((dg J.natAbs).length≤1000):=by
  show _≤_;have e:=(strip_abs j t 0).1;rw[hJ] at e;have:J.natAbs≤j.natAbs:=by rw[← e];exact Nat.le_mul_of_pos_right _ (ten_pos _)
  have:=dg_len_mono this;rw[h'.len] at this;omega
 have hTt:T≤t:=by omega
 have hmS:=max_gen (P:=Tryz.prog) hv;have hmS2:=min_gen (P:=Tryz.prog) (x:=(S:Int)) (y:=2000000) (z:=(S:Int)) (by omega);have hms:=max_zero (P:=Tryz.prog) (s:=s);have hmT:=min_gen (P:=Tryz.prog) (x:=(T:Int)-(s:Int)) (y:=2000000) (z:=(T:Int)-(s:Int)) (by omega);have H:=Jh h;have H':=Jh h';have HN:Hid (∀(w0:World) (A1:Option Addr) (n1 c1:Nat),Num w0 w0.heap.size A n c i.natAbs→Num w0 w0.heap.size A1 n1 c1 J.natAbs→n1≤1000→Calls Tryz.prog 182 #[.slice A n c,.slice A1 n1 c1,.int .i64 ((S:Int)+((T:Int)-(s:Int)))] w0 (RetSub w0 (nearN (i.natAbs*10^(S+t)) (j.natAbs*10^s)))):=by
  intro w0 A1 n1 c1 g1 g2 g3;have hJ0:0<J.natAbs:=by
   have e:=(strip_abs j t 0).1;rw[hJ] at e;rcases Nat.eq_zero_or_pos J.natAbs with h1|h1
   ·rw[h1] at e;omega
   ·exact h1
  rcases Int.lt_or_le ((S:Int)+((T:Int)-(s:Int))) 0 with hh|hh
  ·obtain⟨d,hd⟩:∃d:Nat,((S:Int)+((T:Int)-(s:Int))) = -(d:Int):=⟨(-((S:Int)+((T:Int)-(s:Int)))).toNat,by omega⟩
   refine nearest_down (d:=d) g1 g2 (by omega) (by omega) (by omega) (by omega) hd hJ0 ?_;rw[← hJ];exact div_down h0 rfl (by rw[hT];omega) g1.len (by omega)
  ·obtain⟨d,hd⟩:∃d:Nat,((S:Int)+((T:Int)-(s:Int)))=(d:Int):=⟨((S:Int)+((T:Int)-(s:Int))).toNat,by omega⟩
   refine nearest_up (k:=d) g1 g2 (by omega) (by omega) hd hJ0 ?_ ?_
   ·have:=up_len (i:=i) (s:=0) (M:=d) g1.len
    rw[abs_up,Nat.sub_zero] at this;omega
   ·rw[← hJ]
    exact div_up h0 rfl (by rw[hT];omega)
 have HD:Hid (sgn true (nearN (i.natAbs*10^(S+t)) (j.natAbs*10^s))=divZ i s j t S):=by show _=_;unfold divZ;rw[bool_neq hb]
 have hJb:ngB i≠ngB J:=by rw[← hJ,strip_ng];exact hb
 obtain⟨x,hx⟩:∃x,nearN (i.natAbs*10^(S+t)) (j.natAbs*10^s)=x:=⟨_,rfl⟩;obtain⟨z,hz⟩:∃z,divZ i s j t S=z:=⟨_,rfl⟩;rw[hx] at HN HD;rw[hz] at HD ⊢;have hb3:=bool_neq hJb;clear h h' hv hJ hT hkt h0 hb hx hz hJb;go_enter Tryz.func171,Tryz.ntmps171;go_wp2_with fail;generalize hW:World.alloc (World.alloc (World.alloc w _) _) _=W0;have E0:St w W0 [(A,n,c,(i).natAbs),(A',n',c',(j).natAbs)] [((w.heap.size+1+1),.bool false,.slice none 0 0,.int .i64 0),((w.heap.size+1),(.bool (ngB j)),(.slice A' n' c'),(.int .i64 (t:Int))),(w.heap.size,(.bool (ngB i)),(.slice A n c),(.int .i64 (s:Int)))]:=by rw[← hW];exact(((start_two H.out H'.out).lay rfl).lay (by simp)).lay (by simp)
 have E:=Jh E0;clear hW E0;obtain⟨q0,q1,q2,qf0,qf1,qf2,qlt⟩:=St.ad j A' n' c' t (g:=(w.heap.size+1)) E (by simp);go_wp2_with fail;refine(strip_is5 (L:=0) (St.got E (A:=A') (n:=n') (c:=c') (a:=j.natAbs) (by simp)) (by omega) (by omega) rfl (by omega) HT.out HJ.out).mono ?_;rintro e w1 ⟨A1,n1,c1,rfl,h1,hb1⟩;have hn1:n1≤1000:=by have:=h1.len;have:=HJL.out;omega
 replace E:=Jh (St.push E.out hb1 h1);clear h1 hb1;clear q0 q1 q2 qf0 qf1 qf2 qlt;obtain⟨p0,p1,p2,pf0,pf1,pf2,plt⟩:=St.ad i A n c s (g:=w.heap.size) E (by simp);obtain⟨q0,q1,q2,qf0,qf1,qf2,qlt⟩:=St.ad j A' n' c' t (g:=(w.heap.size+1)) E (by simp);go_wp2_with fail;replace E:=Jh (St.store E.out (g:=(w.heap.size+1)) (x0:=.bool (ngB j)) (x1:=.slice A' n' c') (x2:=.int .i64 (t:Int)) (by simp) (noLimb_bool _) (noLimb_slice _ _ _) (noLimb_int _) [((w.heap.size+1+1),.bool false,.slice none 0 0,.int .i64 0),(w.heap.size,(.bool (ngB i)),(.slice A n c),(.int .i64 (s:Int)))] (by simp<;>omega) (.bool (ngB J)) (.slice A1 n1 c1) (.int .i64 (T:Int)));clear p0 p1 p2 pf0 pf1 pf2 plt q0 q1 q2 qf0 qf1 qf2 qlt;obtain⟨W1,hW⟩:∃W1,put3 w1 (w.heap.size+1) (.bool (ngB J)) (.slice A1 n1 c1) (.int .i64 (T:Int))=W1:=⟨_,rfl⟩;rw[hW] at E;unfold put3 at hW;rw[hW];clear hW;refine(HN.out _ A1 n1 c1 (St.got E (A:=A) (n:=n) (c:=c) (a:=i.natAbs) (by simp)) (St.got E (A:=A1) (n:=n1) (c:=c1) (a:=J.natAbs) (by simp)) hn1).mono ?_;rintro e w2 ⟨A2,n2,c2,rfl,h1,hb1⟩;have hnz:=num_pos h1;replace E:=Jh (St.push E.out hb1 h1);clear h1 hb1;clear hmS hmS2 hms hmT;have HNZ:=Jh hnz;clear hnz;go_wp2_with fail;replace E:=Jh (St.drew E.out);go_region_held3 (fun v=>v.cell? ⟨w.heap.size,0,none⟩=some (.bool (ngB i))∧v.cell? ⟨w.heap.size,1,none⟩=some (.slice A n c)∧v.cell? ⟨w.heap.size,2,none⟩=some (.int .i64 (s:Int))∧v.cell? ⟨w.heap.size+1,0,none⟩=some (.bool (ngB J))∧v.cell? ⟨w.heap.size+1,1,none⟩=some (.slice A1 n1 c1)∧v.cell? ⟨w.heap.size+1,2,none⟩=some (.int .i64 (T:Int))) (first|(have X0:=St.ad i A n c s (g:=w.heap.size) E (by simp);have X1:=St.ad J A1 n1 c1 T (g:=(w.heap.size+1)) E (by simp);with_reducible exact⟨X0.c0,X0.c1,X0.c2,X1.c0,X1.c1,X1.c2⟩))
  (first|(go_at_call 183;first|((with_reducible refine(isBelow_any A n c s i _ (St.got E (A:=A) (n:=n) (c:=c) (a:=i.natAbs) (by simp))).mono ?_);rintro e w3 ⟨rfl,hb1⟩;replace E:=Jh (St.step E.out hb1);clear hb1)|((with_reducible refine(isBelow_any A1 n1 c1 T J _ (St.got E (A:=A1) (n:=n1) (c:=c1) (a:=J.natAbs) (by simp))).mono ?_);rintro e w4 ⟨rfl,hb1⟩;replace E:=Jh (St.step E.out hb1);clear hb1)))
 all_goals
  rw[show(!(ngB i == ngB J))=true from hb3];clear hb3;obtain⟨r0,r1,r2,rf0,rf1,rf2,rlt⟩:=St.az (g:=(w.heap.size+1+1)) E (by simp);go_wp2_with fail;have EF:=Jh (St.sz E.out (g:=(w.heap.size+1+1)) (by simp) (.bool (decide (0<n2))) (.slice A2 n2 c2) (.int .i64 (S:Int)));obtain⟨e0,e1,e2,_,_,_,_⟩:=St.at_ (x0:=.bool (decide (0<n2))) (x1:=.slice A2 n2 c2) (x2:=.int .i64 (S:Int)) (g:=(w.heap.size+1+1)) EF (by simp);exact bodyPost_ret (v:=.tuple #[.agg #[.bool (decide (0<n2)),.slice A2 n2 c2,.int .i64 (S:Int)],.int .i64 0]) (by simp[results,Tryz.results171,go_sem,e0,e1,e2]) rfl ⟨A2,n2,c2,by rw[← HD.out,ng_sgn];simp[HNZ.out],by rw[← HD.out,abs_sgn];exact St.got EF (by simp),EF.out.bel⟩
theorem rdiv_is{A A':Option Addr}{n c n' c' s t S:Nat}{i j v z:Int}{w:World}(h:Num w w.heap.size A n c i.natAbs)(h':Num w w.heap.size A' n' c' j.natAbs)(hn:n≤1000)(hn':n'≤1000)(hs:s≤4100)(ht:t≤4100)(hv:max v 0=(S:Int))(hS:S≤4100)(h0:j≠0)(hz:divZ i s j t S=z) :
  Calls Tryz.prog 171 #[.agg #[.bool (ngB i),.slice A n c,.int .i64 (s:Int)],.agg #[.bool (ngB j),.slice A' n' c',.int .i64 (t:Int)],.int .i64 v] w (RetDecE w z S):=by
 subst hz;by_cases hb:ngB i=ngB j
 ·exact div_same A A' n c n' c' s t S i j v w h h' hn hn' hs ht hv hS h0 hb
 ·exact div_apart A A' n c n' c' s t S i j v w h h' hn hn' hs ht hv hS h0 hb
theorem rdiv_zero{A A':Option Addr}{n c n' c' s t S:Nat}{i j v:Int}{w:World}(h:Num w w.heap.size A n c i.natAbs)(h':Num w w.heap.size A' n' c' j.natAbs)(hn:n≤1000)(hn':n'≤1000)(hs:s≤4100)(ht:t≤4100)(hv:max v 0=(S:Int))(hS:S≤4100)(h0:j=0) :
  Calls Tryz.prog 171 #[.agg #[.bool (ngB i),.slice A n c,.int .i64 (s:Int)],.agg #[.bool (ngB j),.slice A' n' c',.int .i64 (t:Int)],.int .i64 v] w (RetVal w (.tuple #[.agg #[.bool false,.slice none 0 0,.int .i64 0],.int .i64 4])):=
 divZero_any A A' n c n' c' s t S i j v w h h' hn hn' hs ht hv hS h0
end Go.Proofs.YtpbbolgnnegmlaaGreatDoor.Num
