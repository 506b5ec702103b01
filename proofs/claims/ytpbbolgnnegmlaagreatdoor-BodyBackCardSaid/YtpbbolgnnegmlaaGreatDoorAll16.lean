/- Lemmas of the proof: DecC. -/
import Derived.Test.YtpbbolgnnegmlaaGreatDoorAll15
import Derived.Test.YtpbbolgnnegmlaaGreatDoorAll12
set_option linter.unusedVariables false
set_option linter.unusedSimpArgs false
set_option maxRecDepth 100000
set_option maxHeartbeats 32000000
open Go.Lib renaming hid→Jh
namespace Go.Proofs.YtpbbolgnnegmlaaGreatDoor.Num
open Go.RowKit
theorem sgn_mul(i:Int)(m:Nat)(hm:0<m):sgn (ngB i) (i.natAbs*m)=i*(m:Int):=by
 unfold sgn ngB;by_cases h:i<0
 ·rw[decide_eq_true h,if_pos rfl]
  have e:(i.natAbs:Int) = -i:=by omega
  rw[Int.natCast_mul,e,Int.neg_mul,Int.neg_neg]
 ·rw[decide_eq_false h]
  have e:(i.natAbs:Int)=i:=by omega
  rw[if_neg (by simp),Int.natCast_mul,e]
theorem ten_pos(k:Nat):0<10^k:=Nat.pow_pos (by omega)
def up(i:Int)(s S:Nat):Int:=i*((10^(S-s):Nat):Int)
theorem up_same(i:Int)(s:Nat):up i s s=i:=by unfold up;rw[Nat.sub_self];simp
theorem sgn_up(i:Int)(s S:Nat):sgn (ngB i) (i.natAbs*10^(S-s))=up i s S:=sgn_mul i _ (ten_pos _)
theorem abs_up(i:Int)(s S:Nat):(up i s S).natAbs=i.natAbs*10^(S-s):=by unfold up;rw[Int.natAbs_mul,Int.natAbs_natCast]
def RetDec2(W:World)(i:Int)(s:Nat)(j:Int)(t:Nat)(e:Ending)(w':World):Prop:=
 ∃A n c A' n' c',e=.returned (.tuple #[.agg #[.bool (ngB i),.slice A n c,.int .i64 (s:Int)],.agg #[.bool (ngB j),.slice A' n' c',.int .i64 (t:Int)]])∧Num w' w'.heap.size A n c i.natAbs∧Num w' w'.heap.size A' n' c' j.natAbs∧Below W.heap.size W w'
theorem raised_any(A:Option Addr)(n c s S:Nat)(i:Int)(w:World)(h:Num w w.heap.size A n c i.natAbs)(hn:n≤1000000)(hs:s≤S)(hS:S≤100000) :
  Calls Tryz.prog 177 #[.agg #[.bool (ngB i),.slice A n c,.int .i64 (s:Int)],.int .i64 (S:Int)] w (RetDec w (up i s S) S):=by
 have H:=Jh h;have HI:=Jh (sgn_up i s S);obtain⟨b,hb⟩:∃b,b=ngB i:=⟨_,rfl⟩;have HBI:=Jh hb;rw[← hb] at HI;rw[← hb];clear h hb;obtain⟨k,hk⟩:∃k,k=S-s:=⟨_,rfl⟩;rw[← hk] at HI;have hkS:(S:Int)-(s:Int)=(k:Int):=by omega
 have hk1:k≤100000:=by omega
 rcases Nat.eq_zero_or_pos k with h0|h0
 ·subst h0
  obtain rfl:s=S:=by omega
  have HU:=Jh (up_same i s);clear hk HI hkS hk1;go_enter Tryz.func177,Tryz.ntmps177;go_wp2_with fail;generalize hW:World.alloc (World.alloc w _) _=W0;have E0:St w W0 [(A,n,c,(i).natAbs)] [((w.heap.size+1),.bool false,.slice none 0 0,.int .i64 0),(w.heap.size,(.bool b),(.slice A n c),(.int .i64 (s:Int)))]:=by rw[← hW];exact((start_one H.out).lay rfl).lay (by simp)
  have E:=Jh E0;clear hW E0;obtain⟨p0,p1,p2,pf0,pf1,pf2,plt⟩:=St.at_ (x0:=(.bool b)) (x1:=(.slice A n c)) (x2:=(.int .i64 (s:Int))) (g:=w.heap.size) E (by simp);rw[HBI.out];refine(copied_any A n c s i _ (St.got E (by simp)) (by omega) (by omega)).mono ?_;rintro e w2 ⟨A1,n1,c1,rfl,h1,hb2⟩;replace E:=Jh (St.push E.out hb2 h1);clear h1 hb2 p0 p1 p2 pf0 pf1 pf2 plt;obtain⟨r0,r1,r2,rf0,rf1,rf2,rlt⟩:=St.az (g:=(w.heap.size+1)) E (by simp);go_wp2_with fail;have EF:=Jh (St.sz E.out (g:=(w.heap.size+1)) (by simp) (.bool (ngB i)) (.slice A1 n1 c1) (.int .i64 (s:Int)));obtain⟨e0,e1,e2,_,_,_,_⟩:=St.ad i A1 n1 c1 s (g:=(w.heap.size+1)) EF (by simp);exact bodyPost_ret (v:=.agg #[.bool (ngB i),.slice A1 n1 c1,.int .i64 (s:Int)]) (by simp[results,Tryz.results177,go_sem,e0,e1,e2]) rfl ⟨A1,n1,c1,by rw[HU.out],by rw[HU.out];exact St.got EF (by simp),EF.out.bel⟩
 ·have hz:((k:Int) == 0)=false:=by simp;omega
  have hf:decide ((10000000:Int)<(k:Int))=false:=decide_eq_false (by omega);clear hk;go_enter Tryz.func177,Tryz.ntmps177;go_wp2_with fail;generalize hW:World.alloc (World.alloc w _) _=W0;have E0:St w W0 [(A,n,c,(i).natAbs)] [((w.heap.size+1),.bool false,.slice none 0 0,.int .i64 0),(w.heap.size,(.bool b),(.slice A n c),(.int .i64 (s:Int)))]:=by rw[← hW];exact((start_one H.out).lay rfl).lay (by simp)
  have E:=Jh E0;clear hW E0;obtain⟨p0,p1,p2,pf0,pf1,pf2,plt⟩:=St.at_ (x0:=(.bool b)) (x1:=(.slice A n c)) (x2:=(.int .i64 (s:Int))) (g:=w.heap.size) E (by simp);go_wp2_with fail
  refine(shift_is (a:=i.natAbs) (k:=k) (St.got E (by simp)) (by omega) (by omega) rfl rfl).mono ?_;rintro e w1 ⟨A1,n1,c1,rfl,h1,hb1⟩;replace E:=Jh (St.push E.out hb1 h1);clear h1 hb1 p0 p1 p2 pf0 pf1 pf2 plt;obtain⟨p0,p1,p2,pf0,pf1,pf2,plt⟩:=St.at_ (x0:=(.bool b)) (x1:=(.slice A n c)) (x2:=(.int .i64 (s:Int))) (g:=w.heap.size) E (by simp);go_wp2_with fail;refine(decimal_any b A1 n1 c1 (i.natAbs*10^k) S _ (St.got E (by simp)) (by omega)).mono ?_;rintro e w2 ⟨rfl,hb2⟩;replace E:=Jh (St.step E.out hb2);clear hb2 p0 p1 p2 pf0 pf1 pf2 plt;obtain⟨r0,r1,r2,rf0,rf1,rf2,rlt⟩:=St.az (g:=(w.heap.size+1)) E (by simp);go_wp2_with fail;have EF:=Jh (St.sz E.out (g:=(w.heap.size+1)) (by simp) (.bool (ngB (sgn b (i.natAbs*10^k)))) (.slice A1 n1 c1) (.int .i64 (S:Int)));obtain⟨e0,e1,e2,_,_,_,_⟩:=St.at_ (x0:=.bool (ngB (sgn b (i.natAbs*10^k)))) (x1:=.slice A1 n1 c1) (x2:=.int .i64 (S:Int)) (g:=(w.heap.size+1)) EF (by simp);exact bodyPost_ret (v:=.agg #[.bool (ngB (sgn b (i.natAbs*10^k))),.slice A1 n1 c1,.int .i64 (S:Int)]) (by simp[results,Tryz.results177,go_sem,e0,e1,e2]) rfl ⟨A1,n1,c1,by rw[HI.out],by rw[← HI.out,abs_sgn];exact St.got EF (by simp),EF.out.bel⟩
end Go.Proofs.YtpbbolgnnegmlaaGreatDoor.Num
