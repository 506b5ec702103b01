/- Lemmas of the proof: DecD, DecE, DecF, DecG, DecH, DecI, DecJ, DecL, DecM, DecN, DecQ, DecP, DecR, DecS, DecU. -/
import Derived.Test.YtpbbolgnnegmlaaGreatDoorAll16
import Derived.Laws.Cover1
import Derived.Test.YtpbbolgnnegmlaaGreatDoorAll10
import Derived.Test.YtpbbolgnnegmlaaGreatDoorAll14
import Derived.Deep.QuietTactic
import Derived.BigQuiet
set_option linter.unusedVariables false
set_option linter.unusedSimpArgs false
set_option maxRecDepth 100000
set_option maxHeartbeats 32000000
open Go.Lib renaming hid→Jh
namespace Go.Proofs.YtpbbolgnnegmlaaGreatDoor.Num
open Go.RowKit
theorem max_three{P:Program}{s t M:Nat}(h:max s t=M)(ts:Array TypeId)(ty:TypeId)(W:World):(Builtin.max_ ts ty #[.int .i64 (s:Int),.int .i64 (t:Int),.int .i64 0]).run P W=.ok (.int .i64 (M:Int)) W:=by
 rw[run_max_int3];have e:(if (0:Int)>(if (t:Int)>(s:Int) then (t:Int) else (s:Int)) then (0:Int) else (if (t:Int)>(s:Int) then (t:Int) else (s:Int)))=(M:Int):=by
  split<;>split<;>omega
 rw[e]
theorem align_any(A A':Option Addr)(n c n' c' s t:Nat)(i j:Int)(w:World)(h:Num w w.heap.size A n c i.natAbs)(h':Num w w.heap.size A' n' c' j.natAbs)(hn:n≤1000000)(hn':n'≤1000000)(hs:s≤100000)(ht:t≤100000) :
  Calls Tryz.prog 165 #[.agg #[.bool (ngB i),.slice A n c,.int .i64 (s:Int)],.agg #[.bool (ngB j),.slice A' n' c',.int .i64 (t:Int)]] w (RetDec2 w (up i s (max s t)) (max s t) (up j t (max s t)) (max s t)):=by
 have H:=Jh h;have H':=Jh h';clear h h';obtain⟨M,hm⟩:∃M,max s t=M:=⟨_,rfl⟩;have hsM:s≤M:=by omega
 have htM:t≤M:=by omega
 have hM:M≤100000:=by omega
 rw[hm];clear hs ht;have hmx:=max_three (P:=Tryz.prog) hm;go_enter Tryz.func165,Tryz.ntmps165;go_wp2_with fail;generalize hW:World.alloc (World.alloc (World.alloc (World.alloc w _) _) _) _=W0;have E0:St w W0 [(A,n,c,(i).natAbs),(A',n',c',(j).natAbs)] [((w.heap.size+1+1+1),.bool false,.slice none 0 0,.int .i64 0),((w.heap.size+1+1),.bool false,.slice none 0 0,.int .i64 0),((w.heap.size+1),(.bool (ngB j)),(.slice A' n' c'),(.int .i64 (t:Int))),(w.heap.size,(.bool (ngB i)),(.slice A n c),(.int .i64 (s:Int)))]:=by rw[← hW];exact((((start_two H.out H'.out).lay rfl).lay (by simp)).lay (by simp)).lay (by simp)
 have E:=Jh E0;clear hW E0;obtain⟨p0,p1,p2,pf0,pf1,pf2,plt⟩:=St.ad i A n c s (g:=w.heap.size) E (by simp);obtain⟨q0,q1,q2,qf0,qf1,qf2,qlt⟩:=St.ad j A' n' c' t (g:=(w.heap.size+1)) E (by simp);go_wp2_with fail;clear hmx hm p0 p1 p2 pf0 pf1 pf2 plt q0 q1 q2 qf0 qf1 qf2 qlt;replace E:=Jh (St.drew E.out);go_region_held3 (fun v=>v.cell? ⟨w.heap.size,0,none⟩=some (.bool (ngB i))∧v.cell? ⟨w.heap.size,1,none⟩=some (.slice A n c)∧v.cell? ⟨w.heap.size,2,none⟩=some (.int .i64 (s:Int))∧v.cell? ⟨w.heap.size+1,0,none⟩=some (.bool (ngB j))∧v.cell? ⟨w.heap.size+1,1,none⟩=some (.slice A' n' c')∧v.cell? ⟨w.heap.size+1,2,none⟩=some (.int .i64 (t:Int))) (first|(have X0:=St.ad i A n c s (g:=w.heap.size) E (by simp);have X1:=St.ad j A' n' c' t (g:=(w.heap.size+1)) E (by simp);with_reducible exact⟨X0.c0,X0.c1,X0.c2,X1.c0,X1.c1,X1.c2⟩)|(with_reducible exact⟨((St.ad i A n c s (g:=w.heap.size) E (by simp)).apart (g':=(w.heap.size+1+1)) _ _ _ (by omega)).c0,((St.ad i A n c s (g:=w.heap.size) E (by simp)).apart (g':=(w.heap.size+1+1)) _ _ _ (by omega)).c1,((St.ad i A n c s (g:=w.heap.size) E (by simp)).apart (g':=(w.heap.size+1+1)) _ _ _ (by omega)).c2,((St.ad j A' n' c' t (g:=(w.heap.size+1)) E (by simp)).apart (g':=(w.heap.size+1+1)) _ _ _ (by omega)).c0,((St.ad j A' n' c' t (g:=(w.heap.size+1)) E (by simp)).apart (g':=(w.heap.size+1+1)) _ _ _ (by omega)).c1,((St.ad j A' n' c' t (g:=(w.heap.size+1)) E (by simp)).apart (g':=(w.heap.size+1+1)) _ _ _ (by omega)).c2⟩)|(with_reducible exact⟨(((St.ad i A n c s (g:=w.heap.size) E (by simp)).apart (g':=(w.heap.size+1+1)) _ _ _ (by omega)).apart (g':=(w.heap.size+1+1+1)) _ _ _ (by omega)).c0,(((St.ad i A n c s (g:=w.heap.size) E (by simp)).apart (g':=(w.heap.size+1+1)) _ _ _ (by omega)).apart (g':=(w.heap.size+1+1+1)) _ _ _ (by omega)).c1,(((St.ad i A n c s (g:=w.heap.size) E (by simp)).apart (g':=(w.heap.size+1+1)) _ _ _ (by omega)).apart (g':=(w.heap.size+1+1+1)) _ _ _ (by omega)).c2,(((St.ad j A' n' c' t (g:=(w.heap.size+1)) E (by simp)).apart (g':=(w.heap.size+1+1)) _ _ _ (by omega)).apart (g':=(w.heap.size+1+1+1)) _ _ _ (by omega)).c0,(((St.ad j A' n' c' t (g:=(w.heap.size+1)) E (by simp)).apart (g':=(w.heap.size+1+1)) _ _ _ (by omega)).apart (g':=(w.heap.size+1+1+1)) _ _ _ (by omega)).c1,(((St.ad j A' n' c' t (g:=(w.heap.size+1)) E (by simp)).apart (g':=(w.heap.size+1+1)) _ _ _ (by omega)).apart (g':=(w.heap.size+1+1+1)) _ _ _ (by omega)).c2⟩))
  (first|(go_at_call 177;first|((with_reducible refine(raised_any A n c s M i _ (St.got E (by simp)) hn hsM hM).mono ?_);rintro e w1 ⟨A1,n1,c1,rfl,h1,hb1⟩;replace E:=Jh (St.push E.out hb1 h1);clear h1 hb1)|((with_reducible refine(raised_any A' n' c' t M j _ (St.got E (by simp)) hn' htM hM).mono ?_);rintro e w2 ⟨A2,n2,c2,rfl,h2,hb2⟩;replace E:=Jh (St.push E.out hb2 h2);clear h2 hb2;obtain⟨r0,r1,r2,rf0,rf1,rf2,rlt⟩:=St.az (g:=(w.heap.size+1+1)) E (by simp);obtain⟨z0,z1,z2,zf0,zf1,zf2,zlt⟩:=St.az (g:=(w.heap.size+1+1+1)) E (by simp))))
 go_wp2_with fail;have F:=Jh (St.store E.out (g:=(w.heap.size+1+1)) (x0:=.bool false) (x1:=.slice none 0 0) (x2:=.int .i64 0) (by simp) (noLimb_bool _) (noLimb_slice _ _ _) (noLimb_int _) [((w.heap.size+1+1+1),.bool false,.slice none 0 0,.int .i64 0)] (by simp<;>omega) (.bool (ngB (up i s M))) (.slice A1 n1 c1) (.int .i64 (M:Int)));have G:=Jh (St.store F.out (g:=(w.heap.size+1+1+1)) (x0:=.bool false) (x1:=.slice none 0 0) (x2:=.int .i64 0) (by simp) (noLimb_bool _) (noLimb_slice _ _ _) (noLimb_int _) [((w.heap.size+1+1),.bool (ngB (up i s M)),.slice A1 n1 c1,.int .i64 (M:Int))] (by simp<;>omega) (.bool (ngB (up j t M))) (.slice A2 n2 c2) (.int .i64 (M:Int)));obtain⟨u0,u1,u2,_,_,_,_⟩:=St.ad (up i s M) A1 n1 c1 M (g:=(w.heap.size+1+1)) G (by simp);obtain⟨v0,v1,v2,_,_,_,_⟩:=St.ad (up j t M) A2 n2 c2 M (g:=(w.heap.size+1+1+1)) G (by simp);exact bodyPost_ret (v:=.tuple #[.agg #[.bool (ngB (up i s M)),.slice A1 n1 c1,.int .i64 (M:Int)],.agg #[.bool (ngB (up j t M)),.slice A2 n2 c2,.int .i64 (M:Int)]]) (by simp[results,Tryz.results165,go_sem,u0,u1,u2,v0,v1,v2]) rfl ⟨A1,n1,c1,A2,n2,c2,rfl,St.got G (by simp),St.got G (by simp),G.out.bel⟩
theorem max_zero{P:Program}{s:Nat}(ts:Array TypeId)(ty:TypeId)(W:World):(Builtin.max_ ts ty #[.int .i64 (s:Int),.int .i64 0]).run P W=.ok (.int .i64 (s:Int)) W:=by
 rw[run_max_int2];have e:(if (0:Int)>(s:Int) then (0:Int) else (s:Int))=(s:Int):=by split<;>omega
 rw[e]
theorem decimal_is{b:Bool}{A:Option Addr}{n c a s:Nat}{x:Int}{w:World}(h:Num w w.heap.size A n c a)(hs:s≤1000000000000)(hx:sgn b a=x) :
  Calls Tryz.prog 166 #[.bool b,.slice A n c,.int .i64 (s:Int)] w fun e w'=>e=.returned (.agg #[.bool (ngB x),.slice A n c,.int .i64 (s:Int)])∧Below w.heap.size w w':=by
 subst hx;exact decimal_any b A n c a s w h hs
def cmpZ(x y:Int):Int:=if x<y then -1 else if y<x then 1 else 0
def cmpD(i:Int)(s:Nat)(j:Int)(t:Nat):Int:=cmpZ (up i s (max s t)) (up j t (max s t))
theorem cmpN_size(a b:Nat) : -1≤cmpN a b∧cmpN a b≤1:=by
 unfold cmpN;split
 ·omega
 ·split<;>omega
def alikeB(i:Int)(s:Nat)(j:Int)(t:Nat):Bool:=decide (i=j∧s=t)
theorem alike_no{i j:Int}{s t:Nat}(h:¬(i=j∧s=t)):alikeB i s j t=false:=decide_eq_false h
theorem alike_abs{i j:Int}{s:Nat}(h:ngB i=ngB j):decide (i.natAbs=j.natAbs)=alikeB i s j s:=by
 unfold alikeB;unfold ngB at h;by_cases e:i.natAbs=j.natAbs
 ·have:i=j:=by
   have h2:(i<0)↔(j<0):=by simpa using h
   omega
  rw[decide_eq_true e,decide_eq_true ⟨this,rfl⟩]
 ·rw[decide_eq_false e,decide_eq_false (by intro h3;exact e (by rw[h3.1]))]
theorem bool_eq{a b:Bool}(h:a=b):(a == b)=true:=by subst h;simp
theorem bool_ne{a b:Bool}(h:a≠b):(a == b)=false:=by simpa using h
theorem alike_sign(A A':Option Addr)(n c n' c' s t:Nat)(i j:Int)(w:World)(h:Num w w.heap.size A n c i.natAbs)(h':Num w w.heap.size A' n' c' j.natAbs)(hb:ngB i≠ngB j) :
  Calls Tryz.prog 57 #[.agg #[.bool (ngB i),.slice A n c,.int .i64 (s:Int)],.agg #[.bool (ngB j),.slice A' n' c',.int .i64 (t:Int)]] w (RetVal w (.bool false)):=by
 have H:=Jh h;have H':=Jh h';clear h h';have hb2:=bool_ne hb;clear hb;go_enter Tryz.func57,Tryz.ntmps57;go_wp2_with fail;generalize hW:World.alloc (World.alloc w _) _=W0;have E0:St w W0 [(A,n,c,(i).natAbs),(A',n',c',(j).natAbs)] [((w.heap.size+1),(.bool (ngB j)),(.slice A' n' c'),(.int .i64 (t:Int))),(w.heap.size,(.bool (ngB i)),(.slice A n c),(.int .i64 (s:Int)))]:=by rw[← hW];exact((start_two H.out H'.out).lay rfl).lay (by simp)
 have E:=Jh E0;clear hW E0;obtain⟨p0,p1,p2,pf0,pf1,pf2,plt⟩:=St.ad i A n c s (g:=w.heap.size) E (by simp);obtain⟨q0,q1,q2,qf0,qf1,qf2,qlt⟩:=St.ad j A' n' c' t (g:=(w.heap.size+1)) E (by simp);go_wp2_with fail;go_ret;exact⟨rfl,E.out.bel⟩
theorem alike_scale(A A':Option Addr)(n c n' c' s t:Nat)(i j:Int)(w:World)(h:Num w w.heap.size A n c i.natAbs)(h':Num w w.heap.size A' n' c' j.natAbs)(hb:ngB i=ngB j)(hst:s≠t) :
  Calls Tryz.prog 57 #[.agg #[.bool (ngB i),.slice A n c,.int .i64 (s:Int)],.agg #[.bool (ngB j),.slice A' n' c',.int .i64 (t:Int)]] w (RetVal w (.bool false)):=by
 have H:=Jh h;have H':=Jh h';clear h h';have hb2:=bool_eq hb;have hst2:((s:Int) == (t:Int))=false:=by simp;omega
 clear hb hst;go_enter Tryz.func57,Tryz.ntmps57;go_wp2_with fail;generalize hW:World.alloc (World.alloc w _) _=W0;have E0:St w W0 [(A,n,c,(i).natAbs),(A',n',c',(j).natAbs)] [((w.heap.size+1),(.bool (ngB j)),(.slice A' n' c'),(.int .i64 (t:Int))),(w.heap.size,(.bool (ngB i)),(.slice A n c),(.int .i64 (s:Int)))]:=by rw[← hW];exact((start_two H.out H'.out).lay rfl).lay (by simp)
 have E:=Jh E0;clear hW E0;obtain⟨p0,p1,p2,pf0,pf1,pf2,plt⟩:=St.ad i A n c s (g:=w.heap.size) E (by simp);obtain⟨q0,q1,q2,qf0,qf1,qf2,qlt⟩:=St.ad j A' n' c' t (g:=(w.heap.size+1)) E (by simp);go_wp2_with fail;go_ret;exact⟨rfl,E.out.bel⟩
theorem alike_rest(A A':Option Addr)(n c n' c' s:Nat)(i j:Int)(w:World)(h:Num w w.heap.size A n c i.natAbs)(h':Num w w.heap.size A' n' c' j.natAbs)(hb:ngB i=ngB j) :
  Calls Tryz.prog 57 #[.agg #[.bool (ngB i),.slice A n c,.int .i64 (s:Int)],.agg #[.bool (ngB j),.slice A' n' c',.int .i64 (s:Int)]] w (RetVal w (.bool (alikeB i s j s))):=by
 have H:=Jh h;have H':=Jh h';clear h h';have hb2:=bool_eq hb;have HX:=Jh (alike_abs (s:=s) hb);clear hb;go_enter Tryz.func57,Tryz.ntmps57;go_wp2_with fail;generalize hW:World.alloc (World.alloc w _) _=W0;have E0:St w W0 [(A,n,c,(i).natAbs),(A',n',c',(j).natAbs)] [((w.heap.size+1),(.bool (ngB j)),(.slice A' n' c'),(.int .i64 (s:Int))),(w.heap.size,(.bool (ngB i)),(.slice A n c),(.int .i64 (s:Int)))]:=by rw[← hW];exact((start_two H.out H'.out).lay rfl).lay (by simp)
 have E:=Jh E0;clear hW E0;obtain⟨p0,p1,p2,pf0,pf1,pf2,plt⟩:=St.ad i A n c s (g:=w.heap.size) E (by simp);obtain⟨q0,q1,q2,qf0,qf1,qf2,qlt⟩:=St.ad j A' n' c' s (g:=(w.heap.size+1)) E (by simp);go_wp2_with fail;refine(same_any A A' n c n' c' i.natAbs j.natAbs _ (St.got E (by simp)) (St.got E (by simp))).mono ?_;rintro e w1 ⟨rfl,hb1⟩;replace E:=Jh (St.step E.out hb1);clear hb1;rw[HX.out];go_wp2_with fail;go_ret;exact⟨rfl,E.out.bel⟩
theorem alike_any(A A':Option Addr)(n c n' c' s t:Nat)(i j:Int)(w:World)(h:Num w w.heap.size A n c i.natAbs)(h':Num w w.heap.size A' n' c' j.natAbs) :
  Calls Tryz.prog 57 #[.agg #[.bool (ngB i),.slice A n c,.int .i64 (s:Int)],.agg #[.bool (ngB j),.slice A' n' c',.int .i64 (t:Int)]] w (RetVal w (.bool (alikeB i s j t))):=by
 by_cases hb:ngB i=ngB j
 ·by_cases hst:s=t
  ·subst hst
   exact alike_rest A A' n c n' c' s i j w h h' hb
  ·rw[alike_no (by omega)]
   exact alike_scale A A' n c n' c' s t i j w h h' hb hst
 ·rw[alike_no (by rintro⟨h1,_⟩;exact hb (by rw[h1]))]
  exact alike_sign A A' n c n' c' s t i j w h h' hb
theorem up_len{i:Int}{s M n:Nat}(h:(dg i.natAbs).length=n):(dg (up i s M).natAbs).length≤n+(M-s)+1:=by
 rw[abs_up];have h1:=dg_len_mul i.natAbs (10^(M-s));have h2:=pow10_len (N:=M-s) (k:=M-s+1) (by omega);omega
theorem sgn_add{x y:Int}(h:ngB x=ngB y):sgn (ngB x) (x.natAbs+y.natAbs)=x+y:=by
 unfold ngB at h;have h2:(x<0)↔(y<0):=by simpa using h
 unfold sgn ngB;by_cases h0:x<0
 ·rw[decide_eq_true h0,if_pos rfl];omega
 ·rw[decide_eq_false h0,if_neg (by simp)];omega
theorem sgn_sub{x y:Int}(h:ngB x≠ngB y)(hl:y.natAbs≤x.natAbs):sgn (ngB x) (x.natAbs-y.natAbs)=x+y:=by
 unfold ngB at h;have h2:¬((x<0)↔(y<0)):=by simpa using h
 unfold sgn ngB;by_cases h0:x<0
 ·rw[decide_eq_true h0,if_pos rfl];omega
 ·rw[decide_eq_false h0,if_neg (by simp)];omega
theorem sgn_bus{x y:Int}(h:ngB x≠ngB y)(hl:x.natAbs≤y.natAbs):sgn (ngB y) (y.natAbs-x.natAbs)=x+y:=by
 rw[sgn_sub (fun e=>h e.symm) hl,Int.add_comm]
def addZ(i:Int)(s:Nat)(j:Int)(t:Nat):Int:=up i s (max s t)+up j t (max s t)
theorem add5_same(A A':Option Addr)(n c n' c' s t:Nat)(i j:Int)(w:World)(h:Num w w.heap.size A n c i.natAbs)(h':Num w w.heap.size A' n' c' j.natAbs)(hn:n≤1000000)(hn':n'≤1000000)(hs:s≤100000)(ht:t≤100000)(M:Nat)(hm:max s t=M)(x y:Int)(hx:up i s M=x)(hy:up j t M=y)(hb:ngB x=ngB y) :
  Calls Tryz.prog 151 #[.agg #[.bool (ngB i),.slice A n c,.int .i64 (s:Int)],.agg #[.bool (ngB j),.slice A' n' c',.int .i64 (t:Int)]] w (RetDec w (x+y) M):=by
 have L1:(dg x.natAbs).length≤n+(M-s)+1:=by rw[← hx];exact up_len h.len
 have L2:(dg y.natAbs).length≤n'+(M-t)+1:=by rw[← hy];exact up_len h'.len
 have HA:Hid (∀(w:World),Num w w.heap.size A n c i.natAbs→Num w w.heap.size A' n' c' j.natAbs→Calls Tryz.prog 165 #[.agg #[.bool (ngB i),.slice A n c,.int .i64 (s:Int)],.agg #[.bool (ngB j),.slice A' n' c',.int .i64 (t:Int)]] w (RetDec2 w x M y M)):=fun w h h'=>by
  subst hx;subst hy;subst hm;exact align_any A A' n c n' c' s t i j w h h' hn hn' hs ht
 have hM:M≤100000:=by omega
 have HX0:sgn (ngB x) (x.natAbs+y.natAbs)=x+y:=sgn_add hb;have HXA:Hid (x.natAbs+y.natAbs=(x+y).natAbs):=(by show _=_;rw[← HX0,abs_sgn]);have HX:Hid (sgn (ngB x) (x+y).natAbs=x+y):=(by show _=_;rw[← HXA.out];exact HX0);clear HX0;have hb2:=bool_eq hb;skip
 have HL1:Hid ((dg x.natAbs).length≤2000000):=(by show _≤_;omega);have HL2:Hid ((dg y.natAbs).length≤2000000):=(by show _≤_;omega);have H:=Jh h;have H':=Jh h';clear h h';clear L1 L2 hx hy hm hb;go_enter Tryz.func151,Tryz.ntmps151;go_wp2_with fail;generalize hW:World.alloc (World.alloc (World.alloc w _) _) _=W0;have E0:St w W0 [(A,n,c,(i).natAbs),(A',n',c',(j).natAbs)] [((w.heap.size+1+1),.bool false,.slice none 0 0,.int .i64 0),((w.heap.size+1),(.bool (ngB j)),(.slice A' n' c'),(.int .i64 (t:Int))),(w.heap.size,(.bool (ngB i)),(.slice A n c),(.int .i64 (s:Int)))]:=by rw[← hW];exact(((start_two H.out H'.out).lay rfl).lay (by simp)).lay (by simp)
 have E:=Jh E0;clear hW E0;obtain⟨p0,p1,p2,pf0,pf1,pf2,plt⟩:=St.ad i A n c s (g:=w.heap.size) E (by simp);obtain⟨q0,q1,q2,qf0,qf1,qf2,qlt⟩:=St.ad j A' n' c' t (g:=(w.heap.size+1)) E (by simp)
  
 go_wp2_with fail;refine(HA.out _ (St.got E (by simp)) (St.got E (by simp))).mono ?_;rintro e w4 ⟨A1,n1,c1,A2,n2,c2,rfl,h1,h2,hb4⟩;have hn1:n1≤2000000:=by have:=h1.len;have:=HL1.out;omega
 have hn2:n2≤2000000:=by have:=h2.len;have:=HL2.out;omega
 replace E:Hid (St w w4 [(A1,n1,c1,(x).natAbs),(A2,n2,c2,(y).natAbs)] [((w.heap.size+1+1),.bool false,.slice none 0 0,.int .i64 0),((w.heap.size+1),(.bool (ngB j)),(.slice A' n' c'),(.int .i64 (t:Int))),(w.heap.size,(.bool (ngB i)),(.slice A n c),(.int .i64 (s:Int)))]):=⟨(E.out.step hb4).bel,(St.start w4 (l:=[(A1,n1,c1,(x).natAbs),(A2,n2,c2,(y).natAbs)]) (by simp;exact⟨h1,h2⟩)).num,(E.out.step hb4).box⟩;clear h1 h2 hb4 p0 p1 p2 pf0 pf1 pf2 plt q0 q1 q2 qf0 qf1 qf2 qlt;obtain⟨p0,p1,p2,pf0,pf1,pf2,plt⟩:=St.ad i A n c s (g:=w.heap.size) E (by simp);obtain⟨q0,q1,q2,qf0,qf1,qf2,qlt⟩:=St.ad j A' n' c' t (g:=(w.heap.size+1)) E (by simp);obtain⟨r0,r1,r2,rf0,rf1,rf2,rlt⟩:=St.az (g:=(w.heap.size+1+1)) E (by simp);go_wp2_with fail;have E4:=Jh (St.store E.out (g:=w.heap.size) (x0:=(.bool (ngB i))) (x1:=(.slice A n c)) (x2:=(.int .i64 (s:Int))) (by simp) (noLimb_bool _) (noLimb_slice _ _ _) (noLimb_int _) [((w.heap.size+1+1),.bool false,.slice none 0 0,.int .i64 0),((w.heap.size+1),(.bool (ngB j)),(.slice A' n' c'),(.int .i64 (t:Int)))] (by simp<;>omega) (.bool (ngB x)) (.slice A1 n1 c1) (.int .i64 (M:Int)));have E5:=Jh (St.store E4.out (g:=(w.heap.size+1)) (x0:=(.bool (ngB j))) (x1:=(.slice A' n' c')) (x2:=(.int .i64 (t:Int))) (by simp) (noLimb_bool _) (noLimb_slice _ _ _) (noLimb_int _) [((w.heap.size+1+1),.bool false,.slice none 0 0,.int .i64 0),(w.heap.size,(.bool (ngB x)),(.slice A1 n1 c1),(.int .i64 (M:Int)))] (by simp<;>omega) (.bool (ngB y)) (.slice A2 n2 c2) (.int .i64 (M:Int)));unfold put3 at E5;clear p0 p1 p2 pf0 pf1 pf2 plt q0 q1 q2 qf0 qf1 qf2 qlt;clear r0 r1 r2 rf0 rf1 rf2 rlt;generalize hW2:(World.setCell (World.setCell (World.setCell (World.setCell (World.setCell (World.setCell w4 _ _) _ _) _ _) _ _) _ _) _ _)=W1 at E5 ⊢;clear hW2 E;have E:=Jh (St.drew E5.out);clear E5;go_region_held3 (fun v=>v.cell? ⟨w.heap.size,0,none⟩=some (.bool (ngB x))∧v.cell? ⟨w.heap.size,1,none⟩=some (.slice A1 n1 c1)∧v.cell? ⟨w.heap.size,2,none⟩=some (.int .i64 (M:Int))∧v.cell? ⟨w.heap.size+1,0,none⟩=some (.bool (ngB y))∧v.cell? ⟨w.heap.size+1,1,none⟩=some (.slice A2 n2 c2)∧v.cell? ⟨w.heap.size+1,2,none⟩=some (.int .i64 (M:Int))) (first|(have X0:=St.ad x A1 n1 c1 M (g:=w.heap.size) E (by simp);have X1:=St.ad y A2 n2 c2 M (g:=(w.heap.size+1)) E (by simp);with_reducible exact⟨X0.c0,X0.c1,X0.c2,X1.c0,X1.c1,X1.c2⟩)|(with_reducible exact⟨((St.ad x A1 n1 c1 M (g:=w.heap.size) E (by simp)).apart (g':=(w.heap.size+1+1)) _ _ _ (by omega)).c0,((St.ad x A1 n1 c1 M (g:=w.heap.size) E (by simp)).apart (g':=(w.heap.size+1+1)) _ _ _ (by omega)).c1,((St.ad x A1 n1 c1 M (g:=w.heap.size) E (by simp)).apart (g':=(w.heap.size+1+1)) _ _ _ (by omega)).c2,((St.ad y A2 n2 c2 M (g:=(w.heap.size+1)) E (by simp)).apart (g':=(w.heap.size+1+1)) _ _ _ (by omega)).c0,((St.ad y A2 n2 c2 M (g:=(w.heap.size+1)) E (by simp)).apart (g':=(w.heap.size+1+1)) _ _ _ (by omega)).c1,((St.ad y A2 n2 c2 M (g:=(w.heap.size+1)) E (by simp)).apart (g':=(w.heap.size+1+1)) _ _ _ (by omega)).c2⟩))
  (first|(go_at_call 167;refine(add_any A1 A2 n1 c1 n2 c2 x.natAbs y.natAbs _ (St.got E (by simp)) (St.got E (by simp)) (by omega) (by omega)).mono ?_;rintro e w6 ⟨A3,n3,c3,rfl,h1,hb1⟩;rw[HXA.out] at h1;replace E:=Jh (St.push E.out hb1 h1);clear h1 hb1)|(go_at_call 166;refine(decimal_is (b:=ngB x) (A:=A3) (n:=n3) (c:=c3) (s:=M) (St.got E (by simp)) (by omega) HX.out).mono ?_;rintro e w7 ⟨rfl,hb1⟩;replace E:=Jh (St.step E.out hb1);clear hb1;obtain⟨r0,r1,r2,rf0,rf1,rf2,rlt⟩:=St.az (g:=(w.heap.size+1+1)) E (by simp)))
 all_goals
  go_wp2_with fail;have EF:=Jh (St.sz E.out (g:=(w.heap.size+1+1)) (by simp) (.bool (ngB (x+y))) (.slice A3 n3 c3) (.int .i64 (M:Int)));obtain⟨e0,e1,e2,_,_,_,_⟩:=St.at_ (x0:=.bool (ngB (x+y))) (x1:=.slice A3 n3 c3) (x2:=.int .i64 (M:Int)) (g:=(w.heap.size+1+1)) EF (by simp);exact bodyPost_ret (v:=.agg #[.bool (ngB (x+y)),.slice A3 n3 c3,.int .i64 (M:Int)]) (by simp[results,Tryz.results151,go_sem,e0,e1,e2]) rfl ⟨A3,n3,c3,rfl,St.got EF (by simp),EF.out.bel⟩
theorem add5_ge(A A':Option Addr)(n c n' c' s t:Nat)(i j:Int)(w:World)(h:Num w w.heap.size A n c i.natAbs)(h':Num w w.heap.size A' n' c' j.natAbs)(hn:n≤1000000)(hn':n'≤1000000)(hs:s≤100000)(ht:t≤100000)(M:Nat)(hm:max s t=M)(x y:Int)(hx:up i s M=x)(hy:up j t M=y)(hb:ngB x≠ngB y)(hl:y.natAbs≤x.natAbs) :
  Calls Tryz.prog 151 #[.agg #[.bool (ngB i),.slice A n c,.int .i64 (s:Int)],.agg #[.bool (ngB j),.slice A' n' c',.int .i64 (t:Int)]] w (RetDec w (x+y) M):=by
 have L1:(dg x.natAbs).length≤n+(M-s)+1:=by rw[← hx];exact up_len h.len
 have L2:(dg y.natAbs).length≤n'+(M-t)+1:=by rw[← hy];exact up_len h'.len
 have HA:Hid (∀(w:World),Num w w.heap.size A n c i.natAbs→Num w w.heap.size A' n' c' j.natAbs→Calls Tryz.prog 165 #[.agg #[.bool (ngB i),.slice A n c,.int .i64 (s:Int)],.agg #[.bool (ngB j),.slice A' n' c',.int .i64 (t:Int)]] w (RetDec2 w x M y M)):=fun w h h'=>by
  subst hx;subst hy;subst hm;exact align_any A A' n c n' c' s t i j w h h' hn hn' hs ht
 have hM:M≤100000:=by omega
 have HX0:sgn (ngB x) (x.natAbs-y.natAbs)=x+y:=sgn_sub hb hl;have HXA:Hid (x.natAbs-y.natAbs=(x+y).natAbs):=(by show _=_;rw[← HX0,abs_sgn]);have HX:Hid (sgn (ngB x) (x+y).natAbs=x+y):=(by show _=_;rw[← HXA.out];exact HX0);clear HX0;have hb2:=bool_ne hb;have hz1:=(cmpN_size x.natAbs y.natAbs);have hz2:0≤cmpN x.natAbs y.natAbs:=(by rcases Int.lt_or_le (cmpN x.natAbs y.natAbs) 0 with h1|h1;(rw[cmpN_neg] at h1;omega);exact h1);obtain⟨z,hz⟩:∃z,cmpN x.natAbs y.natAbs=z:=⟨_,rfl⟩;rw[hz] at hz1 hz2;have HZ:=Jh hz;obtain⟨_,hz1⟩:=hz1;clear hz;have HLE:=Jh hl;have HL1:Hid ((dg x.natAbs).length≤2000000):=(by show _≤_;omega);have HL2:Hid ((dg y.natAbs).length≤2000000):=(by show _≤_;omega);have H:=Jh h;have H':=Jh h';clear h h';clear L1 L2 hx hy hm hb hl;go_enter Tryz.func151,Tryz.ntmps151;go_wp2_with fail;generalize hW:World.alloc (World.alloc (World.alloc w _) _) _=W0;have E0:St w W0 [(A,n,c,(i).natAbs),(A',n',c',(j).natAbs)] [((w.heap.size+1+1),.bool false,.slice none 0 0,.int .i64 0),((w.heap.size+1),(.bool (ngB j)),(.slice A' n' c'),(.int .i64 (t:Int))),(w.heap.size,(.bool (ngB i)),(.slice A n c),(.int .i64 (s:Int)))]:=by rw[← hW];exact(((start_two H.out H'.out).lay rfl).lay (by simp)).lay (by simp)
 have E:=Jh E0;clear hW E0;obtain⟨p0,p1,p2,pf0,pf1,pf2,plt⟩:=St.ad i A n c s (g:=w.heap.size) E (by simp);obtain⟨q0,q1,q2,qf0,qf1,qf2,qlt⟩:=St.ad j A' n' c' t (g:=(w.heap.size+1)) E (by simp)
  
 go_wp2_with fail;refine(HA.out _ (St.got E (by simp)) (St.got E (by simp))).mono ?_;rintro e w4 ⟨A1,n1,c1,A2,n2,c2,rfl,h1,h2,hb4⟩;have hn1:n1≤2000000:=by have:=h1.len;have:=HL1.out;omega
 have hn2:n2≤2000000:=by have:=h2.len;have:=HL2.out;omega
 replace E:Hid (St w w4 [(A1,n1,c1,(x).natAbs),(A2,n2,c2,(y).natAbs)] [((w.heap.size+1+1),.bool false,.slice none 0 0,.int .i64 0),((w.heap.size+1),(.bool (ngB j)),(.slice A' n' c'),(.int .i64 (t:Int))),(w.heap.size,(.bool (ngB i)),(.slice A n c),(.int .i64 (s:Int)))]):=⟨(E.out.step hb4).bel,(St.start w4 (l:=[(A1,n1,c1,(x).natAbs),(A2,n2,c2,(y).natAbs)]) (by simp;exact⟨h1,h2⟩)).num,(E.out.step hb4).box⟩;clear h1 h2 hb4 p0 p1 p2 pf0 pf1 pf2 plt q0 q1 q2 qf0 qf1 qf2 qlt;obtain⟨p0,p1,p2,pf0,pf1,pf2,plt⟩:=St.ad i A n c s (g:=w.heap.size) E (by simp);obtain⟨q0,q1,q2,qf0,qf1,qf2,qlt⟩:=St.ad j A' n' c' t (g:=(w.heap.size+1)) E (by simp);obtain⟨r0,r1,r2,rf0,rf1,rf2,rlt⟩:=St.az (g:=(w.heap.size+1+1)) E (by simp);go_wp2_with fail;have E4:=Jh (St.store E.out (g:=w.heap.size) (x0:=(.bool (ngB i))) (x1:=(.slice A n c)) (x2:=(.int .i64 (s:Int))) (by simp) (noLimb_bool _) (noLimb_slice _ _ _) (noLimb_int _) [((w.heap.size+1+1),.bool false,.slice none 0 0,.int .i64 0),((w.heap.size+1),(.bool (ngB j)),(.slice A' n' c'),(.int .i64 (t:Int)))] (by simp<;>omega) (.bool (ngB x)) (.slice A1 n1 c1) (.int .i64 (M:Int)));have E5:=Jh (St.store E4.out (g:=(w.heap.size+1)) (x0:=(.bool (ngB j))) (x1:=(.slice A' n' c')) (x2:=(.int .i64 (t:Int))) (by simp) (noLimb_bool _) (noLimb_slice _ _ _) (noLimb_int _) [((w.heap.size+1+1),.bool false,.slice none 0 0,.int .i64 0),(w.heap.size,(.bool (ngB x)),(.slice A1 n1 c1),(.int .i64 (M:Int)))] (by simp<;>omega) (.bool (ngB y)) (.slice A2 n2 c2) (.int .i64 (M:Int)));unfold put3 at E5;clear p0 p1 p2 pf0 pf1 pf2 plt q0 q1 q2 qf0 qf1 qf2 qlt;clear r0 r1 r2 rf0 rf1 rf2 rlt;generalize hW2:(World.setCell (World.setCell (World.setCell (World.setCell (World.setCell (World.setCell w4 _ _) _ _) _ _) _ _) _ _) _ _)=W1 at E5 ⊢;clear hW2 E;have E:=E5;clear E5;refine(cmp_is (St.got E (by simp)) (St.got E (by simp)) HZ.out).mono ?_;rintro e w5 ⟨rfl,hb1⟩;replace E:=Jh (St.step E.out hb1);clear hb1;obtain⟨p0,p1,p2,pf0,pf1,pf2,plt⟩:=St.ad x A1 n1 c1 M (g:=w.heap.size) E (by simp);obtain⟨q0,q1,q2,qf0,qf1,qf2,qlt⟩:=St.ad y A2 n2 c2 M (g:=(w.heap.size+1)) E (by simp);go_wp2_with fail;clear p0 p1 p2 pf0 pf1 pf2 plt q0 q1 q2 qf0 qf1 qf2 qlt;refine(sub_ge A1 A2 n1 c1 n2 c2 (x).natAbs (y).natAbs _ (St.got E (by simp)) (St.got E (by simp)) (by omega) HLE.out).mono ?_;rintro e w6 ⟨A3,n3,c3,rfl,h1,hb1⟩;rw[HXA.out] at h1;replace E:=Jh (St.push E.out hb1 h1);clear h1 hb1;obtain⟨p0,p1,p2,pf0,pf1,pf2,plt⟩:=St.ad x A1 n1 c1 M (g:=w.heap.size) E (by simp);go_wp2_with fail;refine(decimal_is (b:=(ngB x)) (A:=A3) (n:=n3) (c:=c3) (s:=M) (St.got E (by simp)) (by omega) HX.out).mono ?_;rintro e w7 ⟨rfl,hb1⟩;replace E:=Jh (St.step E.out hb1);clear hb1;clear p0 p1 p2 pf0 pf1 pf2 plt;obtain⟨r0,r1,r2,rf0,rf1,rf2,rlt⟩:=St.az (g:=(w.heap.size+1+1)) E (by simp);go_wp2_with fail;have EF:=Jh (St.sz E.out (g:=(w.heap.size+1+1)) (by simp) (.bool (ngB (x+y))) (.slice A3 n3 c3) (.int .i64 (M:Int)));obtain⟨e0,e1,e2,_,_,_,_⟩:=St.at_ (x0:=.bool (ngB (x+y))) (x1:=.slice A3 n3 c3) (x2:=.int .i64 (M:Int)) (g:=(w.heap.size+1+1)) EF (by simp);exact bodyPost_ret (v:=.agg #[.bool (ngB (x+y)),.slice A3 n3 c3,.int .i64 (M:Int)]) (by simp[results,Tryz.results151,go_sem,e0,e1,e2]) rfl ⟨A3,n3,c3,rfl,St.got EF (by simp),EF.out.bel⟩
theorem add5_lt(A A':Option Addr)(n c n' c' s t:Nat)(i j:Int)(w:World)(h:Num w w.heap.size A n c i.natAbs)(h':Num w w.heap.size A' n' c' j.natAbs)(hn:n≤1000000)(hn':n'≤1000000)(hs:s≤100000)(ht:t≤100000)(M:Nat)(hm:max s t=M)(x y:Int)(hx:up i s M=x)(hy:up j t M=y)(hb:ngB x≠ngB y)(hl:x.natAbs<y.natAbs) :
  Calls Tryz.prog 151 #[.agg #[.bool (ngB i),.slice A n c,.int .i64 (s:Int)],.agg #[.bool (ngB j),.slice A' n' c',.int .i64 (t:Int)]] w (RetDec w (x+y) M):=by
 have L1:(dg x.natAbs).length≤n+(M-s)+1:=by rw[← hx];exact up_len h.len
 have L2:(dg y.natAbs).length≤n'+(M-t)+1:=by rw[← hy];exact up_len h'.len
 have HA:Hid (∀(w:World),Num w w.heap.size A n c i.natAbs→Num w w.heap.size A' n' c' j.natAbs→Calls Tryz.prog 165 #[.agg #[.bool (ngB i),.slice A n c,.int .i64 (s:Int)],.agg #[.bool (ngB j),.slice A' n' c',.int .i64 (t:Int)]] w (RetDec2 w x M y M)):=fun w h h'=>by
  subst hx;subst hy;subst hm;exact align_any A A' n c n' c' s t i j w h h' hn hn' hs ht
 have hM:M≤100000:=by omega
 have HX0:sgn (ngB y) (y.natAbs-x.natAbs)=x+y:=sgn_bus hb (Nat.le_of_lt hl);have HXA:Hid (y.natAbs-x.natAbs=(x+y).natAbs):=(by show _=_;rw[← HX0,abs_sgn]);have HX:Hid (sgn (ngB y) (x+y).natAbs=x+y):=(by show _=_;rw[← HXA.out];exact HX0);clear HX0;have hb2:=bool_ne hb;have HZ:=Jh (cmpN_lt hl);have HLE:=Jh (Nat.le_of_lt hl);have HL1:Hid ((dg x.natAbs).length≤2000000):=(by show _≤_;omega);have HL2:Hid ((dg y.natAbs).length≤2000000):=(by show _≤_;omega);have H:=Jh h;have H':=Jh h';clear h h';clear L1 L2 hx hy hm hb hl;go_enter Tryz.func151,Tryz.ntmps151;go_wp2_with fail;generalize hW:World.alloc (World.alloc (World.alloc w _) _) _=W0;have E0:St w W0 [(A,n,c,(i).natAbs),(A',n',c',(j).natAbs)] [((w.heap.size+1+1),.bool false,.slice none 0 0,.int .i64 0),((w.heap.size+1),(.bool (ngB j)),(.slice A' n' c'),(.int .i64 (t:Int))),(w.heap.size,(.bool (ngB i)),(.slice A n c),(.int .i64 (s:Int)))]:=by rw[← hW];exact(((start_two H.out H'.out).lay rfl).lay (by simp)).lay (by simp)
 have E:=Jh E0;clear hW E0;obtain⟨p0,p1,p2,pf0,pf1,pf2,plt⟩:=St.ad i A n c s (g:=w.heap.size) E (by simp);obtain⟨q0,q1,q2,qf0,qf1,qf2,qlt⟩:=St.ad j A' n' c' t (g:=(w.heap.size+1)) E (by simp)
  
 go_wp2_with fail;refine(HA.out _ (St.got E (by simp)) (St.got E (by simp))).mono ?_;rintro e w4 ⟨A1,n1,c1,A2,n2,c2,rfl,h1,h2,hb4⟩;have hn1:n1≤2000000:=by have:=h1.len;have:=HL1.out;omega
 have hn2:n2≤2000000:=by have:=h2.len;have:=HL2.out;omega
 replace E:Hid (St w w4 [(A1,n1,c1,(x).natAbs),(A2,n2,c2,(y).natAbs)] [((w.heap.size+1+1),.bool false,.slice none 0 0,.int .i64 0),((w.heap.size+1),(.bool (ngB j)),(.slice A' n' c'),(.int .i64 (t:Int))),(w.heap.size,(.bool (ngB i)),(.slice A n c),(.int .i64 (s:Int)))]):=⟨(E.out.step hb4).bel,(St.start w4 (l:=[(A1,n1,c1,(x).natAbs),(A2,n2,c2,(y).natAbs)]) (by simp;exact⟨h1,h2⟩)).num,(E.out.step hb4).box⟩;clear h1 h2 hb4 p0 p1 p2 pf0 pf1 pf2 plt q0 q1 q2 qf0 qf1 qf2 qlt;obtain⟨p0,p1,p2,pf0,pf1,pf2,plt⟩:=St.ad i A n c s (g:=w.heap.size) E (by simp);obtain⟨q0,q1,q2,qf0,qf1,qf2,qlt⟩:=St.ad j A' n' c' t (g:=(w.heap.size+1)) E (by simp);obtain⟨r0,r1,r2,rf0,rf1,rf2,rlt⟩:=St.az (g:=(w.heap.size+1+1)) E (by simp);go_wp2_with fail;have E4:=Jh (St.store E.out (g:=w.heap.size) (x0:=(.bool (ngB i))) (x1:=(.slice A n c)) (x2:=(.int .i64 (s:Int))) (by simp) (noLimb_bool _) (noLimb_slice _ _ _) (noLimb_int _) [((w.heap.size+1+1),.bool false,.slice none 0 0,.int .i64 0),((w.heap.size+1),(.bool (ngB j)),(.slice A' n' c'),(.int .i64 (t:Int)))] (by simp<;>omega) (.bool (ngB x)) (.slice A1 n1 c1) (.int .i64 (M:Int)));have E5:=Jh (St.store E4.out (g:=(w.heap.size+1)) (x0:=(.bool (ngB j))) (x1:=(.slice A' n' c')) (x2:=(.int .i64 (t:Int))) (by simp) (noLimb_bool _) (noLimb_slice _ _ _) (noLimb_int _) [((w.heap.size+1+1),.bool false,.slice none 0 0,.int .i64 0),(w.heap.size,(.bool (ngB x)),(.slice A1 n1 c1),(.int .i64 (M:Int)))] (by simp<;>omega) (.bool (ngB y)) (.slice A2 n2 c2) (.int .i64 (M:Int)));unfold put3 at E5;clear p0 p1 p2 pf0 pf1 pf2 plt q0 q1 q2 qf0 qf1 qf2 qlt;clear r0 r1 r2 rf0 rf1 rf2 rlt;generalize hW2:(World.setCell (World.setCell (World.setCell (World.setCell (World.setCell (World.setCell w4 _ _) _ _) _ _) _ _) _ _) _ _)=W1 at E5 ⊢;clear hW2 E;have E:=E5;clear E5;refine(cmp_is (St.got E (by simp)) (St.got E (by simp)) HZ.out).mono ?_;rintro e w5 ⟨rfl,hb1⟩;replace E:=Jh (St.step E.out hb1);clear hb1;obtain⟨p0,p1,p2,pf0,pf1,pf2,plt⟩:=St.ad x A1 n1 c1 M (g:=w.heap.size) E (by simp);obtain⟨q0,q1,q2,qf0,qf1,qf2,qlt⟩:=St.ad y A2 n2 c2 M (g:=(w.heap.size+1)) E (by simp);go_wp2_with fail;have E6:=Jh (St.store E.out (g:=w.heap.size) (x0:=(.bool (ngB x))) (x1:=(.slice A1 n1 c1)) (x2:=(.int .i64 (M:Int))) (by simp) (noLimb_bool _) (noLimb_slice _ _ _) (noLimb_int _) [((w.heap.size+1+1),.bool false,.slice none 0 0,.int .i64 0),((w.heap.size+1),(.bool (ngB y)),(.slice A2 n2 c2),(.int .i64 (M:Int)))] (by simp<;>omega) (.bool (ngB y)) (.slice A2 n2 c2) (.int .i64 (M:Int)));have E7:=Jh (St.store E6.out (g:=(w.heap.size+1)) (x0:=(.bool (ngB y))) (x1:=(.slice A2 n2 c2)) (x2:=(.int .i64 (M:Int))) (by simp) (noLimb_bool _) (noLimb_slice _ _ _) (noLimb_int _) [((w.heap.size+1+1),.bool false,.slice none 0 0,.int .i64 0),(w.heap.size,(.bool (ngB y)),(.slice A2 n2 c2),(.int .i64 (M:Int)))] (by simp<;>omega) (.bool (ngB x)) (.slice A1 n1 c1) (.int .i64 (M:Int)));clear p0 p1 p2 pf0 pf1 pf2 plt q0 q1 q2 qf0 qf1 qf2 qlt;unfold put3 at E7;generalize hW2:(World.setCell (World.setCell (World.setCell (World.setCell (World.setCell (World.setCell w5 _ _) _ _) _ _) _ _) _ _) _ _)=W2 at E7 ⊢;have E:=E7;clear hW2 E7 E6;refine(sub_ge A2 A1 n2 c2 n1 c1 (y).natAbs (x).natAbs _ (St.got E (by simp)) (St.got E (by simp)) (by omega) HLE.out).mono ?_;rintro e w6 ⟨A3,n3,c3,rfl,h1,hb1⟩;rw[HXA.out] at h1;replace E:=Jh (St.push E.out hb1 h1);clear h1 hb1;obtain⟨p0,p1,p2,pf0,pf1,pf2,plt⟩:=St.ad y A2 n2 c2 M (g:=w.heap.size) E (by simp);go_wp2_with fail;refine(decimal_is (b:=(ngB y)) (A:=A3) (n:=n3) (c:=c3) (s:=M) (St.got E (by simp)) (by omega) HX.out).mono ?_;rintro e w7 ⟨rfl,hb1⟩;replace E:=Jh (St.step E.out hb1);clear hb1;clear p0 p1 p2 pf0 pf1 pf2 plt;obtain⟨r0,r1,r2,rf0,rf1,rf2,rlt⟩:=St.az (g:=(w.heap.size+1+1)) E (by simp);go_wp2_with fail;have EF:=Jh (St.sz E.out (g:=(w.heap.size+1+1)) (by simp) (.bool (ngB (x+y))) (.slice A3 n3 c3) (.int .i64 (M:Int)));obtain⟨e0,e1,e2,_,_,_,_⟩:=St.at_ (x0:=.bool (ngB (x+y))) (x1:=.slice A3 n3 c3) (x2:=.int .i64 (M:Int)) (g:=(w.heap.size+1+1)) EF (by simp);exact bodyPost_ret (v:=.agg #[.bool (ngB (x+y)),.slice A3 n3 c3,.int .i64 (M:Int)]) (by simp[results,Tryz.results151,go_sem,e0,e1,e2]) rfl ⟨A3,n3,c3,rfl,St.got EF (by simp),EF.out.bel⟩
theorem add5_any(A A':Option Addr)(n c n' c' s t:Nat)(i j:Int)(w:World)(h:Num w w.heap.size A n c i.natAbs)(h':Num w w.heap.size A' n' c' j.natAbs)(hn:n≤1000000)(hn':n'≤1000000)(hs:s≤100000)(ht:t≤100000) :
  Calls Tryz.prog 151 #[.agg #[.bool (ngB i),.slice A n c,.int .i64 (s:Int)],.agg #[.bool (ngB j),.slice A' n' c',.int .i64 (t:Int)]] w (RetDec w (addZ i s j t) (max s t)):=by
 unfold addZ;by_cases hb:ngB (up i s (max s t))=ngB (up j t (max s t))
 ·exact add5_same A A' n c n' c' s t i j w h h' hn hn' hs ht _ rfl _ _ rfl rfl hb
 ·rcases Nat.lt_or_ge (up i s (max s t)).natAbs (up j t (max s t)).natAbs with hl|hl
  ·exact add5_lt A A' n c n' c' s t i j w h h' hn hn' hs ht _ rfl _ _ rfl rfl hb hl
  ·exact add5_ge A A' n c n' c' s t i j w h h' hn hn' hs ht _ rfl _ _ rfl rfl hb hl
def subZ(i:Int)(s:Nat)(j:Int)(t:Nat):Int:=up i s (max s t)-up j t (max s t)
theorem up_neg_eq(i:Int)(s M:Nat):up (-i) s M = -up i s M:=Int.neg_mul _ _
theorem sub_add(i:Int)(s:Nat)(j:Int)(t:Nat):addZ i s (-j) t=subZ i s j t:=by
 unfold addZ subZ;rw[up_neg_eq];omega
theorem mul_num(i j:Int):i.natAbs*j.natAbs=(i*j).natAbs:=(Int.natAbs_mul i j).symm
theorem sgn_mul_same{i j:Int}(h:ngB i=ngB j):sgn false (i*j).natAbs=i*j:=by
 unfold ngB at h;have h2:(i<0)↔(j<0):=by simpa using h
 rw[sgn_false];have:0≤i*j:=by
  by_cases h0:i<0
  ·exact Int.mul_nonneg_of_nonpos_of_nonpos (by omega) (by have:=h2.1 h0;omega)
  ·exact Int.mul_nonneg (by omega) (by omega)
 omega
theorem sgn_mul_apart{i j:Int}(h:ngB i≠ngB j):sgn true (i*j).natAbs=i*j:=by
 unfold ngB at h;have h2:¬((i<0)↔(j<0)):=by simpa using h
 have e:∀a:Nat,sgn true a = -(a:Int):=fun a=>rfl
 rw[e];have:i*j≤0:=by
  by_cases h0:i<0
  ·exact Int.mul_nonpos_of_nonpos_of_nonneg (by omega) (by omega)
  ·exact Int.mul_nonpos_of_nonneg_of_nonpos (by omega) (by omega)
 omega
theorem bool_neq{a b:Bool}(h:a≠b):(a != b)=true:=by simpa using h
theorem bool_neq'{a b:Bool}(h:a=b):(a != b)=false:=by subst h;simp
theorem sub5_any(A A':Option Addr)(n c n' c' s t:Nat)(i j:Int)(w:World)(h:Num w w.heap.size A n c i.natAbs)(h':Num w w.heap.size A' n' c' j.natAbs)(hn:n≤1000000)(hn':n'≤1000000)(hs:s≤100000)(ht:t≤100000) :
  Calls Tryz.prog 152 #[.agg #[.bool (ngB i),.slice A n c,.int .i64 (s:Int)],.agg #[.bool (ngB j),.slice A' n' c',.int .i64 (t:Int)]] w (RetDec w (subZ i s j t) (max s t)):=by
 rw[← sub_add];have HLN:Hid ((dg (-j).natAbs).length≤1000000):=by show _≤_;rw[Int.natAbs_neg,h'.len];exact hn'
 obtain⟨M,hm⟩:∃M,max s t=M:=⟨_,rfl⟩;obtain⟨x,hx⟩:∃x,addZ i s (-j) t=x:=⟨_,rfl⟩;have HA:Hid (∀(A3:Option Addr) (n3 c3:Nat) (w:World),Num w w.heap.size A n c i.natAbs→Num w w.heap.size A3 n3 c3 (-j).natAbs→n3≤1000000→Calls Tryz.prog 151 #[.agg #[.bool (ngB i),.slice A n c,.int .i64 (s:Int)],.agg #[.bool (ngB (-j)),.slice A3 n3 c3,.int .i64 (t:Int)]] w (RetDec w x M)):=fun A3 n3 c3 w h h' hn3=>by
  subst hx;subst hm;exact add5_any A A3 n c n3 c3 s t i (-j) w h h' hn hn3 hs ht
 rw[hm,hx];clear hm hx;have H:=Jh h;have H':=Jh h';clear h h';go_enter Tryz.func152,Tryz.ntmps152;go_wp2_with fail;generalize hW:World.alloc (World.alloc (World.alloc w _) _) _=W0;have E0:St w W0 [(A,n,c,(i).natAbs),(A',n',c',(j).natAbs)] [((w.heap.size+1+1),.bool false,.slice none 0 0,.int .i64 0),((w.heap.size+1),(.bool (ngB j)),(.slice A' n' c'),(.int .i64 (t:Int))),(w.heap.size,(.bool (ngB i)),(.slice A n c),(.int .i64 (s:Int)))]:=by rw[← hW];exact(((start_two H.out H'.out).lay rfl).lay (by simp)).lay (by simp)
 have E:=Jh E0;clear hW E0;obtain⟨p0,p1,p2,pf0,pf1,pf2,plt⟩:=St.ad i A n c s (g:=w.heap.size) E (by simp);obtain⟨q0,q1,q2,qf0,qf1,qf2,qlt⟩:=St.ad j A' n' c' t (g:=(w.heap.size+1)) E (by simp)
  
 clear p0 p1 p2 pf0 pf1 pf2 plt q0 q1 q2 qf0 qf1 qf2 qlt;replace E:=Jh (St.drew E.out);go_region_held3 (fun v=>v.cell? ⟨w.heap.size,0,none⟩=some (.bool (ngB i))∧v.cell? ⟨w.heap.size,1,none⟩=some (.slice A n c)∧v.cell? ⟨w.heap.size,2,none⟩=some (.int .i64 (s:Int))∧v.cell? ⟨w.heap.size+1,0,none⟩=some (.bool (ngB j))∧v.cell? ⟨w.heap.size+1,1,none⟩=some (.slice A' n' c')∧v.cell? ⟨w.heap.size+1,2,none⟩=some (.int .i64 (t:Int))) (first|(have X0:=St.ad i A n c s (g:=w.heap.size) E (by simp);have X1:=St.ad j A' n' c' t (g:=(w.heap.size+1)) E (by simp);with_reducible exact⟨X0.c0,X0.c1,X0.c2,X1.c0,X1.c1,X1.c2⟩)|(with_reducible exact⟨((St.ad i A n c s (g:=w.heap.size) E (by simp)).apart (g':=(w.heap.size+1+1)) _ _ _ (by omega)).c0,((St.ad i A n c s (g:=w.heap.size) E (by simp)).apart (g':=(w.heap.size+1+1)) _ _ _ (by omega)).c1,((St.ad i A n c s (g:=w.heap.size) E (by simp)).apart (g':=(w.heap.size+1+1)) _ _ _ (by omega)).c2,((St.ad j A' n' c' t (g:=(w.heap.size+1)) E (by simp)).apart (g':=(w.heap.size+1+1)) _ _ _ (by omega)).c0,((St.ad j A' n' c' t (g:=(w.heap.size+1)) E (by simp)).apart (g':=(w.heap.size+1+1)) _ _ _ (by omega)).c1,((St.ad j A' n' c' t (g:=(w.heap.size+1)) E (by simp)).apart (g':=(w.heap.size+1+1)) _ _ _ (by omega)).c2⟩))
  (first|(go_at_call 169;refine(neg_any A' n' c' t j _ (St.got E (by simp)) (by omega) (by omega)).mono ?_;rintro e w5 ⟨A3,n3,c3,rfl,h1,hb1⟩;have hn3:n3≤1000000:=(by have e1:=h1.len;have e2:=HLN.out;omega);replace E:=Jh (St.push E.out hb1 h1);clear h1 hb1)|(go_at_call 151;refine(HA.out A3 n3 c3 _ (St.got E (by simp)) (St.got E (by simp)) hn3).mono ?_;rintro e w6 ⟨A4,n4,c4,rfl,h1,hb1⟩;replace E:=Jh (St.push E.out hb1 h1);clear h1 hb1;obtain⟨r0,r1,r2,rf0,rf1,rf2,rlt⟩:=St.az (g:=(w.heap.size+1+1)) E (by simp)))
 all_goals
  go_wp2_with fail;have EF:=Jh (St.sz E.out (g:=(w.heap.size+1+1)) (by simp) (.bool (ngB (x))) (.slice A4 n4 c4) (.int .i64 (M:Int)));obtain⟨e0,e1,e2,_,_,_,_⟩:=St.ad (x) A4 n4 c4 M (g:=(w.heap.size+1+1)) EF (by simp);exact bodyPost_ret (v:=.agg #[.bool (ngB (x)),.slice A4 n4 c4,.int .i64 (M:Int)]) (by simp[results,Tryz.results152,go_sem,e0,e1,e2]) rfl ⟨A4,n4,c4,rfl,St.got EF (by simp),EF.out.bel⟩
theorem mul5_same(A A':Option Addr)(n c n' c' s t:Nat)(i j:Int)(w:World)(h:Num w w.heap.size A n c i.natAbs)(h':Num w w.heap.size A' n' c' j.natAbs)(hn:n≤1000000)(hn':n'≤1000000)(hs:s≤100000)(ht:t≤100000)(hb:ngB i=ngB j) :
  Calls Tryz.prog 153 #[.agg #[.bool (ngB i),.slice A n c,.int .i64 (s:Int)],.agg #[.bool (ngB j),.slice A' n' c',.int .i64 (t:Int)]] w (RetDec w (i*j) (s+t)):=by
 have HM:=Jh (mul_num i j);obtain⟨x,hx⟩:∃x,i*j=x:=⟨_,rfl⟩;have HX:=Jh (sgn_mul_same hb);rw[hx] at HM HX;rw[hx];have hb2:=bool_eq hb;have hb3:=bool_neq' hb;clear hb hx;have H:=Jh h;have H':=Jh h';clear h h';have hw:IntKind.i64.wrap ((s:Int)+(t:Int))=(s:Int)+(t:Int):=IntWalk.i64_in _ ⟨by omega,by omega⟩;have hmx:=max_zero (P:=Tryz.prog) (s:=s);have hmy:=max_zero (P:=Tryz.prog) (s:=t);have hst:(s:Int)+(t:Int)=((s+t:Nat):Int):=by omega
 have hdc:decide ((s:Int)≤9223372036854775807-(t:Int))=true:=decide_eq_true (by omega);obtain⟨r,hr⟩:∃r,r=s+t:=⟨_,rfl⟩;rw[← hr] at hst ⊢;rw[hst] at hw;have hrb:r≤200000:=by omega
 clear hr;go_enter Tryz.func153,Tryz.ntmps153;go_wp2_with fail;generalize hW:World.alloc (World.alloc (World.alloc w _) _) _=W0;have E0:St w W0 [(A,n,c,(i).natAbs),(A',n',c',(j).natAbs)] [((w.heap.size+1+1),.bool false,.slice none 0 0,.int .i64 0),((w.heap.size+1),(.bool (ngB j)),(.slice A' n' c'),(.int .i64 (t:Int))),(w.heap.size,(.bool (ngB i)),(.slice A n c),(.int .i64 (s:Int)))]:=by rw[← hW];exact(((start_two H.out H'.out).lay rfl).lay (by simp)).lay (by simp)
 have E:=Jh E0;clear hW E0;obtain⟨p0,p1,p2,pf0,pf1,pf2,plt⟩:=St.ad i A n c s (g:=w.heap.size) E (by simp);obtain⟨q0,q1,q2,qf0,qf1,qf2,qlt⟩:=St.ad j A' n' c' t (g:=(w.heap.size+1)) E (by simp)
  
 clear p0 p1 p2 pf0 pf1 pf2 plt q0 q1 q2 qf0 qf1 qf2 qlt;replace E:=Jh (St.drew E.out);go_region_held3 (fun v=>v.cell? ⟨w.heap.size,0,none⟩=some (.bool (ngB i))∧v.cell? ⟨w.heap.size,1,none⟩=some (.slice A n c)∧v.cell? ⟨w.heap.size,2,none⟩=some (.int .i64 (s:Int))∧v.cell? ⟨w.heap.size+1,0,none⟩=some (.bool (ngB j))∧v.cell? ⟨w.heap.size+1,1,none⟩=some (.slice A' n' c')∧v.cell? ⟨w.heap.size+1,2,none⟩=some (.int .i64 (t:Int))) (first|(have X0:=St.ad i A n c s (g:=w.heap.size) E (by simp);have X1:=St.ad j A' n' c' t (g:=(w.heap.size+1)) E (by simp);with_reducible exact⟨X0.c0,X0.c1,X0.c2,X1.c0,X1.c1,X1.c2⟩))
  (fail)
 all_goals
  go_wp2_with fail;clear hmx hmy hdc;replace E:=Jh (St.drew E.out);go_region_held3 (fun v=>v.cell? ⟨w.heap.size,0,none⟩=some (.bool (ngB i))∧v.cell? ⟨w.heap.size,1,none⟩=some (.slice A n c)∧v.cell? ⟨w.heap.size,2,none⟩=some (.int .i64 (s:Int))∧v.cell? ⟨w.heap.size+1,0,none⟩=some (.bool (ngB j))∧v.cell? ⟨w.heap.size+1,1,none⟩=some (.slice A' n' c')∧v.cell? ⟨w.heap.size+1,2,none⟩=some (.int .i64 (t:Int))) (first|(have X0:=St.ad i A n c s (g:=w.heap.size) E (by simp);have X1:=St.ad j A' n' c' t (g:=(w.heap.size+1)) E (by simp);with_reducible exact⟨X0.c0,X0.c1,X0.c2,X1.c0,X1.c1,X1.c2⟩)|(with_reducible exact⟨((St.ad i A n c s (g:=w.heap.size) E (by simp)).apart (g':=(w.heap.size+1+1)) _ _ _ (by omega)).c0,((St.ad i A n c s (g:=w.heap.size) E (by simp)).apart (g':=(w.heap.size+1+1)) _ _ _ (by omega)).c1,((St.ad i A n c s (g:=w.heap.size) E (by simp)).apart (g':=(w.heap.size+1+1)) _ _ _ (by omega)).c2,((St.ad j A' n' c' t (g:=(w.heap.size+1)) E (by simp)).apart (g':=(w.heap.size+1+1)) _ _ _ (by omega)).c0,((St.ad j A' n' c' t (g:=(w.heap.size+1)) E (by simp)).apart (g':=(w.heap.size+1+1)) _ _ _ (by omega)).c1,((St.ad j A' n' c' t (g:=(w.heap.size+1)) E (by simp)).apart (g':=(w.heap.size+1+1)) _ _ _ (by omega)).c2⟩))
   (first|(go_at_call 170;refine(fast_is (a:=i.natAbs) (b:=j.natAbs) (St.got E (by simp)) (St.got E (by simp)) hn hn' HM.out).mono ?_;rintro e w5 ⟨A3,n3,c3,rfl,h1,_,hb1⟩;replace E:=Jh (St.push E.out hb1 h1);clear h1 hb1)|(go_at_call 166;refine(decimal_is (b:=false) (A:=A3) (n:=n3) (c:=c3) (s:=r) (St.got E (by simp)) (by omega) HX.out).mono ?_;rintro e w6 ⟨rfl,hb1⟩;replace E:=Jh (St.step E.out hb1);clear hb1;obtain⟨r0,r1,r2,rf0,rf1,rf2,rlt⟩:=St.az (g:=(w.heap.size+1+1)) E (by simp)))
  all_goals
   go_wp2_with fail;have EF:=Jh (St.sz E.out (g:=(w.heap.size+1+1)) (by simp) (.bool (ngB (x))) (.slice A3 n3 c3) (.int .i64 (r:Int)));obtain⟨e0,e1,e2,_,_,_,_⟩:=St.ad (x) A3 n3 c3 r (g:=(w.heap.size+1+1)) EF (by simp);exact bodyPost_ret (v:=.agg #[.bool (ngB (x)),.slice A3 n3 c3,.int .i64 (r:Int)]) (by simp[results,Tryz.results153,go_sem,e0,e1,e2]) rfl ⟨A3,n3,c3,rfl,St.got EF (by simp),EF.out.bel⟩
theorem mul5_apart(A A':Option Addr)(n c n' c' s t:Nat)(i j:Int)(w:World)(h:Num w w.heap.size A n c i.natAbs)(h':Num w w.heap.size A' n' c' j.natAbs)(hn:n≤1000000)(hn':n'≤1000000)(hs:s≤100000)(ht:t≤100000)(hb:ngB i≠ngB j) :
  Calls Tryz.prog 153 #[.agg #[.bool (ngB i),.slice A n c,.int .i64 (s:Int)],.agg #[.bool (ngB j),.slice A' n' c',.int .i64 (t:Int)]] w (RetDec w (i*j) (s+t)):=by
 have HM:=Jh (mul_num i j);obtain⟨x,hx⟩:∃x,i*j=x:=⟨_,rfl⟩;have HX:=Jh (sgn_mul_apart hb);rw[hx] at HM HX;rw[hx];have hb2:=bool_ne hb;have hb3:=bool_neq hb;clear hb hx;have H:=Jh h;have H':=Jh h';clear h h';have hw:IntKind.i64.wrap ((s:Int)+(t:Int))=(s:Int)+(t:Int):=IntWalk.i64_in _ ⟨by omega,by omega⟩;have hmx:=max_zero (P:=Tryz.prog) (s:=s);have hmy:=max_zero (P:=Tryz.prog) (s:=t);have hst:(s:Int)+(t:Int)=((s+t:Nat):Int):=by omega
 have hdc:decide ((s:Int)≤9223372036854775807-(t:Int))=true:=decide_eq_true (by omega);obtain⟨r,hr⟩:∃r,r=s+t:=⟨_,rfl⟩;rw[← hr] at hst ⊢;rw[hst] at hw;have hrb:r≤200000:=by omega
 clear hr;go_enter Tryz.func153,Tryz.ntmps153;go_wp2_with fail;generalize hW:World.alloc (World.alloc (World.alloc w _) _) _=W0;have E0:St w W0 [(A,n,c,(i).natAbs),(A',n',c',(j).natAbs)] [((w.heap.size+1+1),.bool false,.slice none 0 0,.int .i64 0),((w.heap.size+1),(.bool (ngB j)),(.slice A' n' c'),(.int .i64 (t:Int))),(w.heap.size,(.bool (ngB i)),(.slice A n c),(.int .i64 (s:Int)))]:=by rw[← hW];exact(((start_two H.out H'.out).lay rfl).lay (by simp)).lay (by simp)
 have E:=Jh E0;clear hW E0;obtain⟨p0,p1,p2,pf0,pf1,pf2,plt⟩:=St.ad i A n c s (g:=w.heap.size) E (by simp);obtain⟨q0,q1,q2,qf0,qf1,qf2,qlt⟩:=St.ad j A' n' c' t (g:=(w.heap.size+1)) E (by simp)
  
 clear p0 p1 p2 pf0 pf1 pf2 plt q0 q1 q2 qf0 qf1 qf2 qlt;replace E:=Jh (St.drew E.out);go_region_held3 (fun v=>v.cell? ⟨w.heap.size,0,none⟩=some (.bool (ngB i))∧v.cell? ⟨w.heap.size,1,none⟩=some (.slice A n c)∧v.cell? ⟨w.heap.size,2,none⟩=some (.int .i64 (s:Int))∧v.cell? ⟨w.heap.size+1,0,none⟩=some (.bool (ngB j))∧v.cell? ⟨w.heap.size+1,1,none⟩=some (.slice A' n' c')∧v.cell? ⟨w.heap.size+1,2,none⟩=some (.int .i64 (t:Int))) (first|(have X0:=St.ad i A n c s (g:=w.heap.size) E (by simp);have X1:=St.ad j A' n' c' t (g:=(w.heap.size+1)) E (by simp);with_reducible exact⟨X0.c0,X0.c1,X0.c2,X1.c0,X1.c1,X1.c2⟩))
  (fail)
 all_goals
  go_wp2_with fail;clear hmx hmy hdc;replace E:=Jh (St.drew E.out);go_region_held3 (fun v=>v.cell? ⟨w.heap.size,0,none⟩=some (.bool (ngB i))∧v.cell? ⟨w.heap.size,1,none⟩=some (.slice A n c)∧v.cell? ⟨w.heap.size,2,none⟩=some (.int .i64 (s:Int))∧v.cell? ⟨w.heap.size+1,0,none⟩=some (.bool (ngB j))∧v.cell? ⟨w.heap.size+1,1,none⟩=some (.slice A' n' c')∧v.cell? ⟨w.heap.size+1,2,none⟩=some (.int .i64 (t:Int))) (first|(have X0:=St.ad i A n c s (g:=w.heap.size) E (by simp);have X1:=St.ad j A' n' c' t (g:=(w.heap.size+1)) E (by simp);with_reducible exact⟨X0.c0,X0.c1,X0.c2,X1.c0,X1.c1,X1.c2⟩)|(with_reducible exact⟨((St.ad i A n c s (g:=w.heap.size) E (by simp)).apart (g':=(w.heap.size+1+1)) _ _ _ (by omega)).c0,((St.ad i A n c s (g:=w.heap.size) E (by simp)).apart (g':=(w.heap.size+1+1)) _ _ _ (by omega)).c1,((St.ad i A n c s (g:=w.heap.size) E (by simp)).apart (g':=(w.heap.size+1+1)) _ _ _ (by omega)).c2,((St.ad j A' n' c' t (g:=(w.heap.size+1)) E (by simp)).apart (g':=(w.heap.size+1+1)) _ _ _ (by omega)).c0,((St.ad j A' n' c' t (g:=(w.heap.size+1)) E (by simp)).apart (g':=(w.heap.size+1+1)) _ _ _ (by omega)).c1,((St.ad j A' n' c' t (g:=(w.heap.size+1)) E (by simp)).apart (g':=(w.heap.size+1+1)) _ _ _ (by omega)).c2⟩))
   (first|(go_at_call 170;refine(fast_is (a:=i.natAbs) (b:=j.natAbs) (St.got E (by simp)) (St.got E (by simp)) hn hn' HM.out).mono ?_;rintro e w5 ⟨A3,n3,c3,rfl,h1,_,hb1⟩;replace E:=Jh (St.push E.out hb1 h1);clear h1 hb1)|(go_at_call 166;refine(decimal_is (b:=true) (A:=A3) (n:=n3) (c:=c3) (s:=r) (St.got E (by simp)) (by omega) HX.out).mono ?_;rintro e w6 ⟨rfl,hb1⟩;replace E:=Jh (St.step E.out hb1);clear hb1;obtain⟨r0,r1,r2,rf0,rf1,rf2,rlt⟩:=St.az (g:=(w.heap.size+1+1)) E (by simp)))
  all_goals
   go_wp2_with fail;have EF:=Jh (St.sz E.out (g:=(w.heap.size+1+1)) (by simp) (.bool (ngB (x))) (.slice A3 n3 c3) (.int .i64 (r:Int)));obtain⟨e0,e1,e2,_,_,_,_⟩:=St.ad (x) A3 n3 c3 r (g:=(w.heap.size+1+1)) EF (by simp);exact bodyPost_ret (v:=.agg #[.bool (ngB (x)),.slice A3 n3 c3,.int .i64 (r:Int)]) (by simp[results,Tryz.results153,go_sem,e0,e1,e2]) rfl ⟨A3,n3,c3,rfl,St.got EF (by simp),EF.out.bel⟩
theorem mul5_any(A A':Option Addr)(n c n' c' s t:Nat)(i j:Int)(w:World)(h:Num w w.heap.size A n c i.natAbs)(h':Num w w.heap.size A' n' c' j.natAbs)(hn:n≤1000000)(hn':n'≤1000000)(hs:s≤100000)(ht:t≤100000) :
  Calls Tryz.prog 153 #[.agg #[.bool (ngB i),.slice A n c,.int .i64 (s:Int)],.agg #[.bool (ngB j),.slice A' n' c',.int .i64 (t:Int)]] w (RetDec w (i*j) (s+t)):=by
 by_cases hb:ngB i=ngB j
 ·exact mul5_same A A' n c n' c' s t i j w h h' hn hn' hs ht hb
 ·exact mul5_apart A A' n c n' c' s t i j w h h' hn hn' hs ht hb
theorem max_gen{P:Program}{x y z:Int}(h:max x y=z)(ts:Array TypeId)(ty:TypeId)(W:World):(Builtin.max_ ts ty #[.int .i64 x,.int .i64 y]).run P W=.ok (.int .i64 z) W:=by
 rw[run_max_int2];have e:(if y>x then y else x)=z:=by rw[← h];split<;>omega
 rw[e]
theorem min_gen{P:Program}{x y z:Int}(h:min x y=z)(ts:Array TypeId)(ty:TypeId)(W:World):(Builtin.min_ ts ty #[.int .i64 x,.int .i64 y]).run P W=.ok (.int .i64 z) W:=by
 rw[run_min_int2];have e:(if y<x then y else x)=z:=by rw[← h];split<;>omega
 rw[e]
def stripK(i:Int)(s L:Nat):Nat:=if i=0 then s-L else min (s-L) (tz i.natAbs)
def stripI(i:Int)(s L:Nat):Int:=sgn (ngB i) (i.natAbs/10^stripK i s L)
theorem stripK_le(i:Int)(s L:Nat):stripK i s L≤s:=by unfold stripK;split<;>omega
theorem strip_zero(A:Option Addr)(n c s L:Nat)(i v:Int)(w:World)(h:Num w w.heap.size A n c i.natAbs)(hn:n≤1000)(hs:s≤100000)(hv:max v 0=(L:Int))(hL:L≤9223372036854775807)(h0:i=0) :
  Calls Tryz.prog 172 #[.agg #[.bool (ngB i),.slice A n c,.int .i64 (s:Int)],.int .i64 v] w (RetDec w (stripI i s L) (s-stripK i s L)):=by
 have hnz:=num_pos_iff h;obtain⟨k,hk⟩:∃k,stripK i s L=k:=⟨_,rfl⟩;have hks:=stripK_le i s L;obtain⟨x,hx⟩:∃x,stripI i s L=x:=⟨_,rfl⟩;have HX0:sgn (ngB i) (i.natAbs/10^k)=x:=by rw[← hx,← hk];rfl
 have HXA:Hid (i.natAbs/10^k=x.natAbs):=(by show _=_;rw[← HX0,abs_sgn]);have HX:Hid (sgn (ngB i) x.natAbs=x):=(by show _=_;rw[← HXA.out];exact HX0);rw[hx,hk];rw[hk] at hks;unfold stripK at hk;clear hx HX0;rw[if_pos h0] at hk;have hn0:n=0:=by rcases Nat.eq_zero_or_pos n with h1|h1;exact h1;have:=hnz.1 h1;omega
 subst hn0;have hm1:=max_gen (P:=Tryz.prog) hv;have hm2:=max_gen (P:=Tryz.prog) (x:=(s:Int)-(L:Int)) (y:=0) (z:=((s-L:Nat):Int)) (by omega);obtain⟨d0,hd0⟩:∃d0,s-L=d0:=⟨_,rfl⟩;rw[hd0] at hm2 hk;subst hk;have hsm:=max_zero (P:=Tryz.prog) (s:=s);obtain⟨r,hr⟩:∃r,s-d0=r:=⟨_,rfl⟩;have hsk:(s:Int)-(d0:Int)=(r:Int):=by omega
 rw[hr];have hrb:r≤100000:=by omega
 have hkb:d0≤100000:=by omega
 have H:=Jh h;have HZ:Hid (i=0):=h0;clear h hv hr hd0 hnz h0;go_enter Tryz.func172,Tryz.ntmps172;go_wp2_with fail;generalize hW:World.alloc (World.alloc w _) _=W0;have E0:St w W0 [(A,0,c,(i).natAbs)] [((w.heap.size+1),.bool false,.slice none 0 0,.int .i64 0),(w.heap.size,(.bool (ngB i)),(.slice A 0 c),(.int .i64 (s:Int)))]:=by rw[← hW];exact((start_one H.out).lay rfl).lay (by simp)
 have E:=Jh E0;clear hW E0;obtain⟨p0,p1,p2,pf0,pf1,pf2,plt⟩:=St.ad i A 0 c s (g:=w.heap.size) E (by simp);go_wp2_with fail;clear hm1 hm2 hsm;refine(drop_is (a:=i.natAbs) (k:=d0) (St.got E (by simp)) (by omega) (by omega) rfl HXA.out).mono ?_;rintro e w2 ⟨A1,n1,c1,rfl,h1,hb1⟩;replace E:=Jh (St.push E.out hb1 h1);clear h1 hb1;clear p0 p1 p2 pf0 pf1 pf2 plt;obtain⟨p0,p1,p2,pf0,pf1,pf2,plt⟩:=St.ad i A 0 c s (g:=w.heap.size) E (by simp);go_wp2_with fail;refine(decimal_is (b:=ngB i) (A:=A1) (n:=n1) (c:=c1) (s:=r) (St.got E (by simp)) (by omega) HX.out).mono ?_;rintro e w3 ⟨rfl,hb1⟩;replace E:=Jh (St.step E.out hb1);clear hb1;clear p0 p1 p2 pf0 pf1 pf2 plt;obtain⟨r0,r1,r2,rf0,rf1,rf2,rlt⟩:=St.az (g:=(w.heap.size+1)) E (by simp);go_wp2_with fail;have EF:=Jh (St.sz E.out (g:=(w.heap.size+1)) (by simp) (.bool (ngB (x))) (.slice A1 n1 c1) (.int .i64 (r:Int)));obtain⟨e0,e1,e2,_,_,_,_⟩:=St.ad (x) A1 n1 c1 r (g:=(w.heap.size+1)) EF (by simp);exact bodyPost_ret (v:=.agg #[.bool (ngB (x)),.slice A1 n1 c1,.int .i64 (r:Int)]) (by simp[results,Tryz.results172,go_sem,e0,e1,e2]) rfl ⟨A1,n1,c1,rfl,St.got EF (by simp),EF.out.bel⟩
theorem strip_pos(A:Option Addr)(n c s L:Nat)(i v:Int)(w:World)(h:Num w w.heap.size A n c i.natAbs)(hn:n≤1000)(hs:s≤100000)(hv:max v 0=(L:Int))(hL:L≤9223372036854775807)(h0:i≠0) :
  Calls Tryz.prog 172 #[.agg #[.bool (ngB i),.slice A n c,.int .i64 (s:Int)],.int .i64 v] w (RetDec w (stripI i s L) (s-stripK i s L)):=by
 have hnz:=num_pos_iff h;obtain⟨k,hk⟩:∃k,stripK i s L=k:=⟨_,rfl⟩;have hks:=stripK_le i s L;obtain⟨x,hx⟩:∃x,stripI i s L=x:=⟨_,rfl⟩;have HX0:sgn (ngB i) (i.natAbs/10^k)=x:=by rw[← hx,← hk];rfl
 have HXA:Hid (i.natAbs/10^k=x.natAbs):=(by show _=_;rw[← HX0,abs_sgn]);have HX:Hid (sgn (ngB i) x.natAbs=x):=(by show _=_;rw[← HXA.out];exact HX0);rw[hx,hk];rw[hk] at hks;unfold stripK at hk;clear hx HX0;rw[if_neg h0] at hk;have hn0:0<n:=hnz.2 (by omega);obtain⟨T,hT⟩:∃T,tz i.natAbs=T:=⟨_,rfl⟩;rw[hT] at hk;have HT:=Jh hT;clear hT;have hm1:=max_gen (P:=Tryz.prog) hv;have hm2:=max_gen (P:=Tryz.prog) (x:=(s:Int)-(L:Int)) (y:=0) (z:=((s-L:Nat):Int)) (by omega);obtain⟨d0,hd0⟩:∃d0,s-L=d0:=⟨_,rfl⟩;rw[hd0] at hm2 hk;have hm3:=min_gen (P:=Tryz.prog) (x:=(d0:Int)) (y:=(T:Int)) (z:=(k:Int)) (by omega);have hsm:=max_zero (P:=Tryz.prog) (s:=s);obtain⟨r,hr⟩:∃r,s-k=r:=⟨_,rfl⟩;have hsk:(s:Int)-(k:Int)=(r:Int):=by omega
 rw[hr];have hrb:r≤100000:=by omega
 have hkb:k≤100000:=by omega
 have H:=Jh h;have HZ:Hid (i≠0):=h0;clear h hv hr hd0 hnz h0 hk;go_enter Tryz.func172,Tryz.ntmps172;go_wp2_with fail;generalize hW:World.alloc (World.alloc w _) _=W0;have E0:St w W0 [(A,n,c,(i).natAbs)] [((w.heap.size+1),.bool false,.slice none 0 0,.int .i64 0),(w.heap.size,(.bool (ngB i)),(.slice A n c),(.int .i64 (s:Int)))]:=by rw[← hW];exact((start_one H.out).lay rfl).lay (by simp)
 have E:=Jh E0;clear hW E0;obtain⟨p0,p1,p2,pf0,pf1,pf2,plt⟩:=St.ad i A n c s (g:=w.heap.size) E (by simp);go_wp2_with fail;refine(noughts_is (B:=W0.heap.size) (St.got E (by simp)) (by omega) HT.out).mono ?_;rintro e w1 ⟨rfl,rfl⟩;go_wp2_with fail;clear hm1 hm2 hm3 hsm;refine(drop_is (a:=i.natAbs) (k:=k) (St.got E (by simp)) (by omega) (by omega) rfl HXA.out).mono ?_;rintro e w2 ⟨A1,n1,c1,rfl,h1,hb1⟩;replace E:=Jh (St.push E.out hb1 h1);clear h1 hb1;clear p0 p1 p2 pf0 pf1 pf2 plt;obtain⟨p0,p1,p2,pf0,pf1,pf2,plt⟩:=St.ad i A n c s (g:=w.heap.size) E (by simp);go_wp2_with fail;refine(decimal_is (b:=ngB i) (A:=A1) (n:=n1) (c:=c1) (s:=r) (St.got E (by simp)) (by omega) HX.out).mono ?_;rintro e w3 ⟨rfl,hb1⟩;replace E:=Jh (St.step E.out hb1);clear hb1;clear p0 p1 p2 pf0 pf1 pf2 plt;obtain⟨r0,r1,r2,rf0,rf1,rf2,rlt⟩:=St.az (g:=(w.heap.size+1)) E (by simp);go_wp2_with fail;have EF:=Jh (St.sz E.out (g:=(w.heap.size+1)) (by simp) (.bool (ngB (x))) (.slice A1 n1 c1) (.int .i64 (r:Int)));obtain⟨e0,e1,e2,_,_,_,_⟩:=St.ad (x) A1 n1 c1 r (g:=(w.heap.size+1)) EF (by simp);exact bodyPost_ret (v:=.agg #[.bool (ngB (x)),.slice A1 n1 c1,.int .i64 (r:Int)]) (by simp[results,Tryz.results172,go_sem,e0,e1,e2]) rfl ⟨A1,n1,c1,rfl,St.got EF (by simp),EF.out.bel⟩
theorem strip_any(A:Option Addr)(n c s L:Nat)(i v:Int)(w:World)(h:Num w w.heap.size A n c i.natAbs)(hn:n≤1000)(hs:s≤100000)(hv:max v 0=(L:Int))(hL:L≤9223372036854775807) :
  Calls Tryz.prog 172 #[.agg #[.bool (ngB i),.slice A n c,.int .i64 (s:Int)],.int .i64 v] w (RetDec w (stripI i s L) (s-stripK i s L)):=by
 by_cases h0:i=0
 ·exact strip_zero A n c s L i v w h hn hs hv hL h0
 ·exact strip_pos A n c s L i v w h hn hs hv hL h0
def RetDecE(W:World)(i:Int)(s:Nat)(e:Ending)(w':World):Prop:=
 ∃A n c,e=.returned (.tuple #[.agg #[.bool (ngB i),.slice A n c,.int .i64 (s:Int)],.int .i64 0])∧Num w' w'.heap.size A n c i.natAbs∧Below W.heap.size W w'
/-! Decimals at a common scale. -/
theorem ten_of_len{a n:Nat}(h:(dg a).length≤n):a<10^(9*n):=by
 rw[Nat.pow_mul];exact pow_of_len rfl h
def tot(d:Nat→Int×Nat)(M:Nat):Nat→Int
 | 0=>0
 | k+1=>tot d M k+up (d k).1 (d k).2 M
def Short(d:Nat→Int×Nat)(n:Nat):Prop:=∀j,j<n→(dg (d j).1.natAbs).length≤12∧(d j).2≤60
structure Decs (w:World) (B:Nat) (A:Option Addr) (n c:Nat) (d:Nat→Int×Nat) (p:Nat→Option Addr×Nat×Nat):Prop where
 cap:n≤c
 room:c≤maxLen
 row:n=0∨∃b o,A=some ⟨b,o,none⟩∧b<B∧∀j,j<n→w.cell? ⟨b,o+j*3,none⟩=some (.bool (ngB (d j).1))∧w.cell? ⟨b,o+j*3+1,none⟩=some (.slice (p j).1 (p j).2.1 (p j).2.2)∧w.cell? ⟨b,o+j*3+2,none⟩=some (.int .i64 ((d j).2:Int))
 num:∀j,j<n→Num w B (p j).1 (p j).2.1 (p j).2.2 (d j).1.natAbs
 short:Short d n
 addr:A=none→c=0
def low(d:Nat→Int×Nat):Nat→Nat
 | 0=>0
 | k+1=>if cmpD (d k).1 (d k).2 (d (low d k)).1 (d (low d k)).2<0 then k else low d k
def high(d:Nat→Int×Nat):Nat→Nat
 | 0=>0
 | k+1=>if 0<cmpD (d k).1 (d k).2 (d (high d k)).1 (d (high d k)).2 then k else high d k
structure Cel (v:World) (b o:Nat) (x0 x1 x2:Value):Prop where
 c0:v.cell? ⟨b,o,none⟩=some x0
 c1:v.cell? ⟨b,o+1,none⟩=some x1
 c2:v.cell? ⟨b,o+2,none⟩=some x2
 lt:b<v.heap.size
def Sz(x:Int)(s K:Nat):Prop:=x.natAbs<10^(K+s)
theorem Sz.mono{x:Int}{s K L:Nat}(h:Sz x s K)(hl:K≤L):Sz x s L:=Nat.lt_of_lt_of_le h (Nat.pow_le_pow_right (by omega) (by omega))
theorem Sz.up{x:Int}{s K M:Nat}(h:Sz x s K)(hM:s≤M):Sz (up x s M) M K:=by
 unfold Sz at h ⊢;rw[abs_up];have e:K+M=(K+s)+(M-s):=by omega
 rw[e,Nat.pow_add];exact Nat.mul_lt_mul_of_pos_right h (ten_pos _)
theorem Sz.add_same{x y:Int}{s K:Nat}(h:Sz x s K)(h':Sz y s K):Sz (x+y) s (K+1):=by
 unfold Sz at h h' ⊢;have e:K+1+s=(K+s)+1:=by omega
 rw[e,Nat.pow_succ];omega
theorem Sz.add{x y:Int}{s t K L:Nat}(h:Sz x s K)(h':Sz y t L):Sz (addZ x s y t) (max s t) (max K L+1):=by
 unfold addZ;exact Sz.add_same ((h.mono (by omega)).up (by omega)) ((h'.mono (by omega)).up (by omega))
theorem Sz.neg{x:Int}{s K:Nat}(h:Sz x s K):Sz (-x) s K:=by unfold Sz at h ⊢;rw[Int.natAbs_neg];exact h
theorem Sz.sub{x y:Int}{s t K L:Nat}(h:Sz x s K)(h':Sz y t L):Sz (subZ x s y t) (max s t) (max K L+1):=by
 rw[← sub_add];exact h.add h'.neg
theorem Sz.mul{x y:Int}{s t K L:Nat}(h:Sz x s K)(h':Sz y t L):Sz (x*y) (s+t) (K+L):=by
 unfold Sz at h h' ⊢;rw[Int.natAbs_mul];have e:K+L+(s+t)=(K+s)+(L+t):=by omega
 rw[e,Nat.pow_add];exact Nat.mul_lt_mul'' h h'
theorem Sz.of_len{x:Int}{s n:Nat}(h:(dg x.natAbs).length≤n):Sz x s (9*n):=Nat.lt_of_lt_of_le (ten_of_len h) (Nat.pow_le_pow_right (by omega) (by omega))
theorem Sz.strip{x:Int}{s K L:Nat}(h:Sz x s K):Sz (stripI x s L) (s-stripK x s L) K:=by
 unfold Sz at h ⊢;have hk:=stripK_le x s L;unfold stripI;rw[abs_sgn];refine Nat.div_lt_of_lt_mul ?_;rw[← Nat.pow_add];have e:stripK x s L+(K+(s-stripK x s L))=K+s:=by omega
 rw[e];exact h
section
variable {A A':Option Addr}{n c n' c' s t M:Nat}{i j x y:Int}{w:World}
theorem add_is5(h:Num w w.heap.size A n c i.natAbs)(h':Num w w.heap.size A' n' c' j.natAbs)(hn:n≤1000000)(hn':n'≤1000000)(hs:s≤100000)(ht:t≤100000)(hM:max s t=M)(hx:addZ i s j t=x):Calls Tryz.prog 151 #[.agg #[.bool (ngB i),.slice A n c,.int .i64 (s:Int)],.agg #[.bool (ngB j),.slice A' n' c',.int .i64 (t:Int)]] w (RetDec w x M):=by
 subst hM;subst hx;exact add5_any A A' n c n' c' s t i j w h h' hn hn' hs ht
theorem sub_is5(h:Num w w.heap.size A n c i.natAbs)(h':Num w w.heap.size A' n' c' j.natAbs)(hn:n≤1000000)(hn':n'≤1000000)(hs:s≤100000)(ht:t≤100000)(hM:max s t=M)(hx:subZ i s j t=x):Calls Tryz.prog 152 #[.agg #[.bool (ngB i),.slice A n c,.int .i64 (s:Int)],.agg #[.bool (ngB j),.slice A' n' c',.int .i64 (t:Int)]] w (RetDec w x M):=by
 subst hM;subst hx;exact sub5_any A A' n c n' c' s t i j w h h' hn hn' hs ht
theorem mul_is5(h:Num w w.heap.size A n c i.natAbs)(h':Num w w.heap.size A' n' c' j.natAbs)(hn:n≤1000000)(hn':n'≤1000000)(hs:s≤100000)(ht:t≤100000)(hM:s+t=M)(hx:i*j=x):Calls Tryz.prog 153 #[.agg #[.bool (ngB i),.slice A n c,.int .i64 (s:Int)],.agg #[.bool (ngB j),.slice A' n' c',.int .i64 (t:Int)]] w (RetDec w x M):=by
 subst hM;subst hx;exact mul5_any A A' n c n' c' s t i j w h h' hn hn' hs ht
theorem alike_is5(h:Num w w.heap.size A n c i.natAbs)(h':Num w w.heap.size A' n' c' j.natAbs){b:Bool}(hb:alikeB i s j t=b):Calls Tryz.prog 57 #[.agg #[.bool (ngB i),.slice A n c,.int .i64 (s:Int)],.agg #[.bool (ngB j),.slice A' n' c',.int .i64 (t:Int)]] w (RetVal w (.bool b)):=by
 subst hb;exact alike_any A A' n c n' c' s t i j w h h'
theorem neg_is5(h:Num w w.heap.size A n c i.natAbs)(hn:n≤1000000)(hs:s≤100000)(hx : -i=x):Calls Tryz.prog 169 #[.agg #[.bool (ngB i),.slice A n c,.int .i64 (s:Int)]] w (RetDec w x s):=by
 subst hx;exact neg_any A n c s i w h (by omega) (by omega)
theorem strip_is5{L:Nat}{v:Int}(h:Num w w.heap.size A n c i.natAbs)(hn:n≤1000)(hs:s≤100000)(hv:max v 0=(L:Int))(hL:L≤9223372036854775807)(hM:s-stripK i s L=M)(hx:stripI i s L=x):Calls Tryz.prog 172 #[.agg #[.bool (ngB i),.slice A n c,.int .i64 (s:Int)],.int .i64 v] w (RetDec w x M):=by
 subst hM;subst hx;exact strip_any A n c s L i v w h hn hs hv hL
end
end Go.Proofs.YtpbbolgnnegmlaaGreatDoor.Num
