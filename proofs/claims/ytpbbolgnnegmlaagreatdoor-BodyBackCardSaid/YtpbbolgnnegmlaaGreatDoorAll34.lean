/- Lemmas of the proof: ExpA, ExpB, ExpL, ExpC, ExpD, ExpE, ExpF, ExpG, ExpH, ExpI, ExpJ, ExpK, ExpM. -/
import Derived.Test.YtpbbolgnnegmlaaGreatDoorAll29
import Derived.Test.YtpbbolgnnegmlaaGreatDoorAll23
import Derived.Test.YtpbbolgnnegmlaaGreatDoorAll33
import Derived.Test.YtpbbolgnnegmlaaGreatDoorAll21
import Derived.Test.YtpbbolgnnegmlaaGreatDoorAll28
set_option linter.unusedVariables false
set_option linter.unusedSimpArgs false
set_option maxRecDepth 100000
set_option maxHeartbeats 32000000
namespace Go.Proofs.YtpbbolgnnegmlaaGreatDoor.Num
open Go.RowKit
abbrev Tk4:=Int×ByteArray×Int×Int
def tok(t:Tk4):Tok:=(t.1,t.2.1)
def tk4(t:Tk4):Value:=.agg #[.int .i64 t.1,.string t.2.1,.int .i64 t.2.2.1,.int .i64 t.2.2.2]
def rowK:List Tk4→List Value
 | []=>[]
 | t::r=>.int .i64 t.1::.string t.2.1::.int .i64 t.2.2.1::.int .i64 t.2.2.2::rowK r
theorem rowK_get:∀(L:List Tk4) (j:Nat) (t:Tk4),L[j]?=some t→(rowK L)[j*4]?=some (.int .i64 t.1)∧(rowK L)[j*4+1]?=some (.string t.2.1)∧(rowK L)[j*4+2]?=some (.int .i64 t.2.2.1)∧(rowK L)[j*4+3]?=some (.int .i64 t.2.2.2)
 | [],j,t,h=>by cases h
 | x::r,0,t,h=>by obtain rfl:=Option.some.inj h;exact⟨rfl,rfl,rfl,rfl⟩
 | x::r,j+1,t,h=>by
  have:=rowK_get r j t h;have e:(j+1)*4=j*4+4:=by omega
  rw[e];exact this
structure RdK (w:World) (B:Nat) (A:Option Addr) (n c:Nat) (L:List Tk4):Prop where
 len:n=L.length
 cap:n≤c
 room:c≤maxLen
 row:Row w B A (rowK L)
section
variable {w w':World}{B n c k:Nat}{A:Option Addr}{L:List Tk4}
theorem RdK.at_{t:Tk4}(h:RdK w B A n c L)(hk:L[k]?=some t):∃b o,A=some ⟨b,o,none⟩∧n≤c∧c≤maxLen∧b<B∧k<n∧
  w.cell? ⟨b,o+k*4,none⟩=some (.int .i64 t.1)∧w.cell? ⟨b,o+k*4+1,none⟩=some (.string t.2.1)∧w.cell? ⟨b,o+k*4+2,none⟩=some (.int .i64 t.2.2.1)∧w.cell? ⟨b,o+k*4+3,none⟩=some (.int .i64 t.2.2.2):=by
 obtain⟨r0,r1,r2,r3⟩:=rowK_get L k t hk;rcases h.row with h0|⟨b,o,rfl,hb,hc⟩
 ·rw[h0] at r0;cases r0
 ·refine⟨b,o,rfl,h.cap,h.room,hb,by rw[h.len];exact(List.getElem?_eq_some_iff.1 hk).1,hc _ _ r0,?_,?_,?_⟩
  ·rw[Nat.add_assoc];exact hc _ _ r1
  ·rw[Nat.add_assoc];exact hc _ _ r2
  ·rw[Nat.add_assoc];exact hc _ _ r3
theorem RdK.on(h:RdK w B A n c L)(hB:B≤w.heap.size)(hb:Below w.heap.size w w'):RdK w' B A n c L:=
 ⟨h.len,h.cap,h.room,h.row.keep fun p hp=>hb.cell (Nat.lt_of_lt_of_le hp hB)⟩
theorem RdK.kp{g:Nat}(h:RdK w B A n c L)(hg:B≤g)(hB:B≤w.heap.size)(hk:Kp g none w w'):RdK w' B A n c L:=
 ⟨h.len,h.cap,h.room,h.row.keep fun p hp=>World.cell?_of_block (hk.block p.block (by omega) (by omega) (by simp))⟩
end
theorem kp_trans{c:Nat}{u v w:World}(h:Kp c none u v)(h2:Kp c none v w):Kp c none u w:=
 ⟨h2.os.trans h.os,h2.tape.trans h.tape,h2.output.trans h.output,Nat.le_trans h.size h2.size,fun k hk hc hr=>(h2.block k (Nat.lt_of_lt_of_le hk h.size) hc hr).trans (h.block k hk hc hr)⟩
theorem kp_set(w:World)(g j:Nat)(u:Value):Kp g none w (w.setCell ⟨g,j,none⟩ u):=
 ⟨rfl,rfl,rfl,by simp,fun k _ hc _=>heap_setCell_other w ⟨g,j,none⟩ k u hc⟩
theorem kp_of{c B:Nat}{w w':World}(h:Below B w w')(hB:w.heap.size≤B):Kp c none w w':=
 ⟨h.os,h.tape,h.output,h.size,fun k hk _ _=>h.block k (Nat.lt_of_lt_of_le hk hB)⟩
theorem Box.kp{g c:Nat}{v v':World}{x0 x1 x2:Value}(h:Box v g x0 x1 x2)(hk:Kp c none v v')(hc:g≠c):Box v' g x0 x1 x2:=by
 have hb:=hk.block g h.lt hc (by simp);have hcell:∀j,v'.cell? ⟨g,j,none⟩=v.cell? ⟨g,j,none⟩:=fun j=>World.cell?_of_block hb
 have hfr:∀j,v'.frozen? ⟨g,j,none⟩=v.frozen? ⟨g,j,none⟩:=fun j=>World.frozen?_of_block hb
 exact⟨(hcell 0).trans h.c0,(hcell 1).trans h.c1,(hcell 2).trans h.c2,(hfr 0).trans h.f0,(hfr 1).trans h.f1,(hfr 2).trans h.f2,Nat.lt_of_lt_of_le h.lt hk.size⟩
theorem isg_is{k:Int}{T:ByteArray}{c:Nat}:isg (k,T) c=(decide (k=10)&&decide (bs9 T=[c])):=rfl
theorem txt_eq{T s:ByteArray}:(T.toList == s.toList)=decide (bs9 T=bs9 s):=by
 rw[Bool.eq_iff_iff,beq_iff_eq,decide_eq_true_iff];constructor
 ·intro h
  have:T=s:=by
   have h2:T.data.toList=s.data.toList:=by rw[← ByteArray.toList_eq,← ByteArray.toList_eq];exact h
   cases T;cases s
   exact congrArg ByteArray.mk (Array.toList_inj.1 h2)
  rw[this]
 ·intro h;rw[bs9_inj h]
theorem isAt_some{L:List Tk4}{a x:Nat}{t:Tk4}(h:L[a]?=some t):isAt (L.map tok) a x=isg (t.1,t.2.1) x:=by
 unfold isAt;rw[List.getElem?_map,h];rfl
theorem isAt_none{L:List Tk4}{a x:Nat}(h:L.length≤a):isAt (L.map tok) a x=false:=by
 unfold isAt;rw[List.getElem?_map,List.getElem?_eq_none h];rfl
section
variable {o:Oper}{ρ:Operand→Value}{x y:Operand}{w:World}
def okF13(P:Program)(f:FuncId):Bool:=match P.funcs[f]? with
 | some fn => !(fn.name == "runtime.NumGoroutine") && !fn.body.isNone
 | none=>false
theorem run_enter13{P:Program}{f:FuncId}{args:Array Value}(h:okF13 P f=true):(callFunc f args).run P w=.ok (.enter f args) w:=by
 unfold okF13 at h;cases hf:P.funcs[f]? with
 | none=>rw[hf] at h;cases h
 | some fn=>
  rw[hf] at h;obtain⟨h1,h2⟩:=Bool.and_eq_true_iff.1 h;have h1:(fn.name == "runtime.NumGoroutine")=false:=by simpa using h1
  have h2:fn.body.isNone=false:=by simpa using h2
  unfold callFunc;simp only[Sem.run_bind,run_program,Result.andThen_ok,hf,h1,h2,Bool.false_eq_true,if_false,ite_false,Sem.run_pure]
theorem e_call13{f:FuncId}{xs:Array Operand}{ts:Array TypeId}{args:Array Value}(hk:okF13 Tryz.prog f=true)(h:o.op=.call { callee:=.value (.func f),args:=xs,argTypes:=ts })(hf:ρ (.func f)=.func (.func f) #[] #[])(hx:xs.map ρ=args):(execOp ρ o).run Tryz.prog w=.ok (.enter f args) w:=by
 unfold execOp;rw[h];simp only[resolve,hf,hx]
 go_simp;exact run_enter13 hk
end
theorem some_addr{q o q' o':Nat}(h:(some (⟨q,o,none⟩:Addr))=some ⟨q',o',none⟩):q'=q∧o'=o:=by
 injection h with h
 injection h with h1 h2
 exact⟨h1.symm,h2.symm⟩
theorem num_zero(w:World)(B:Nat):Num w B none 0 0 0:=by
 show Lim _ _ _ _ _ (dg 0);rw[dg_zero];exact Lim.nil
def RetP(w0:World)(s:ByteArray)(e:Ending)(w':World):Prop:=∃(x:Int) (k:Nat) (A1:Option Addr) (n1 c1 z:Nat),e=.returned (.tuple #[.agg #[.bool (ngB x),.slice A1 n1 c1,.int .i64 (k:Int)],.int .i64 (z:Int)])∧Num w' w'.heap.size A1 n1 c1 x.natAbs∧Below w0.heap.size w0 w'∧numV s=if z=0 then some (x,k) else none
theorem tok_cells{w:World}{B n c i q u0:Nat}{L:List Tk4}{k l m:Int}{T:ByteArray}(h:RdK w B (some ⟨q,u0,none⟩) n c L)(ht:L[i]?=some (k,T,l,m)):w.cell? ⟨q,u0+i*4,none⟩=some (.int .i64 k)∧w.cell? ⟨q,u0+i*4+1,none⟩=some (.string T)∧w.cell? ⟨q,u0+i*4+2,none⟩=some (.int .i64 l)∧w.cell? ⟨q,u0+i*4+3,none⟩=some (.int .i64 m):=by
 obtain⟨q9,u9,hA9,_,_,_,_,a0,a1,a2,a3⟩:=h.at_ ht;obtain⟨y1,y2⟩:=some_addr hA9;rw[y1,y2] at a0 a1 a2 a3;exact⟨a0,a1,a2,a3⟩
theorem isg_txt{k:Int}{T:ByteArray}{c:Nat}{b:Bool}(h:isg (k,T) c=b)(hk:k=10):decide (bs9 T=[c])=b:=by
 rw[← h,isg_is,decide_eq_true hk,Bool.true_and]
theorem sta_ten{k:Int}{T:ByteArray}(h:sta (k,T)=true)(hk:k≠4):k=10:=by
 unfold sta at h;rw[decide_eq_false hk,Bool.false_or] at h;rcases Int.decEq k 10 with h1|h1
 ·simp[isg_is,decide_eq_false h1] at h
 ·exact h1
section
variable {L:List Tok}(hL:∀t∈L,t.2.size≤30) (hn:L.length≤200) {d i i1 d1 e1 i2 d2 e2 k t F:Nat}{x y:Int}(hd:d≤64)
include hn in
theorem Grt.sz(h:Grt L i i1 x k):Sz x k 4010∧k≤4010∧i1≤200:=by
 obtain⟨q1,q2,q3,q4⟩:=h;exact⟨q3.mono (by omega),by omega,by omega⟩
include hL in
include hL in
include hL hn hd in
include hL hn hd in
include hn hd in
include hL in
include hL in
include hL hn in
include hL hn hd in
include hL hn hd in
end
def evl(L:List Tok)(a:Int):Int×Nat×Int×Nat:=
 if a<0∨(L.length:Int)<a then (0,0,a,1)
 else match SUM L 0 a.toNat with
  | .inl (z,b)=>(0,0,(b:Int),z)
  | .inr (x,k,b)=>(x,k,(b:Int),0)
def RetE(w:World)(r:Int×Nat×Int×Nat)(e:Ending)(w':World):Prop:=
 ∃(A:Option Addr) (n c:Nat),e=.returned (.tuple #[.agg #[.bool (ngB r.1),.slice A n c,.int .i64 (r.2.1:Int)],.int .i64 r.2.2.1,.int .i64 (r.2.2.2:Int)])∧Num w' w'.heap.size A n c r.1.natAbs∧Below w.heap.size w w'
end Go.Proofs.YtpbbolgnnegmlaaGreatDoor.Num
