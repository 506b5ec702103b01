/- Lemmas of the proof: HeaO. -/
import Derived.Test.YthpmaoimceojgaaGreatDoorAll40
import Derived.Test.YthpmaoimceojgaaGreatDoorAll41
set_option linter.unusedVariables false
set_option linter.unusedSimpArgs false
set_option maxRecDepth 100000
set_option maxHeartbeats 32000000
namespace Go.Proofs.YthpmaoimceojgaaGreatDoor.Num
open Go.RowKit
structure Row27 (X:Array Value):Prop where
 size:X.size=27
 one:X.all (·.oneCell')=true
 cl:Cl X
theorem Row27.set{X:Array Value}(h:Row27 X){j:Nat}{y:Value}(h1:y.oneCell'=true)(h2:NoLimb y):Row27 (X.setIfInBounds j y):=by
 refine⟨by rw[Array.size_setIfInBounds];exact h.size,?_,fun x hx=>?_⟩
 ·rw[Array.all_eq_true_iff_forall_mem]
  intro x hx;rcases Array.mem_or_eq_of_mem_setIfInBounds hx with hx|rfl
  ·exact Array.all_eq_true_iff_forall_mem.1 h.one x hx
  ·exact h1
 ·rcases Array.mem_or_eq_of_mem_setIfInBounds (Array.mem_toList_iff.1 hx) with hx|rfl
  ·exact h.cl x (by simpa using hx)
  ·exact h2
theorem row27_cD(f:FD)(m:DM):Row27 (cD f m):=by
 refine⟨rfl,cD_one f m,fun x hx=>?_⟩;simp only[cD,List.mem_cons,List.not_mem_nil,or_false] at hx
 rcases hx with rfl|rfl|rfl|rfl|rfl|rfl|rfl|rfl|rfl|rfl|rfl|rfl|rfl|rfl|rfl|rfl|rfl|rfl|rfl|rfl|rfl|rfl|rfl|rfl|rfl|rfl|rfl<;>exact fun k h=>by cases h
theorem st_newX(w:World){X Z:Array Value}(hX:Row27 X)(hZ:cD FD.zero DM.zero=Z):(storeCells ⟨w.heap.size,0,none⟩ X.toList 0).run Tryz.prog (w.alloc (.cells Z 45))=.ok () (w.alloc (.cells X 45)):=by
 subst hZ;exact run_storeCells_new (P:=Tryz.prog) w 45 _ _ (by rw[dir_size,hX.size]) (by rw[hX.size];rfl) hX.one
theorem st_newL{X:Array Value}(hX:Row27 X):∀w:World,(storeCells ⟨w.heap.size,0,none⟩ X.toList 0).run Tryz.prog (w.alloc (.cells #[.int .i64 0,.int .i64 0,.int .i64 0,.int .i64 0,.string ⟨#[]⟩,.string ⟨#[]⟩,.slice none 0 0,.int .i64 0,.bool false,.slice none 0 0,.int .i64 0,.string ⟨#[]⟩,.bool false,.bool false,.slice none 0 0,.int .i64 0,.string ⟨#[]⟩,.string ⟨#[]⟩,.string ⟨#[]⟩,.slice none 0 0,.slice none 0 0,.slice none 0 0,.slice none 0 0,.string ⟨#[]⟩,.string ⟨#[]⟩,.int .i64 0,.int .i64 0] 45))=.ok () (w.alloc (.cells X 45)):=fun w=>st_newX w hX rfl
theorem st_rowX{w:World}{g:Nat}{X Z:Array Value}{t:TypeId}(hX:Row27 X)(hz:Z.size=27)(hb:w.heap[g]?=some (.cells Z t (0,0))):(storeCells ⟨g,0,none⟩ X.toList 0).run Tryz.prog w=.ok () (w.setRow g X):=by
 have q:=run_storeCells_from (P:=Tryz.prog) g t X.toList 0 Z w hb (by rw[hz,Array.length_toList,hX.size]) (fun v hv=>(Array.all_eq_true_iff_forall_mem.1 hX.one) v (by simpa using hv));rw[List.take_zero,List.nil_append] at q;exact q
theorem wp_build{P:Program}{o:Oper}{a:Act}{w:World}{K:Act→World→Prop}{Q:Exit→Act→World→Prop}(t:TypeId)(parts:Array (Nat×Operand))(ho:o.op=.build t parts)(vs:Array (Nat×Value))(hp:(parts.map fun(i,x)=>(i,a.eval x))=vs)(v:Value)(hrun:(Instr.build t vs).run P w=.ok v w)(h:K (a.put o.dst v) w):o.wp P a w K Q:=by
 unfold Oper.wp execOp;simp only[ho,hp,Sem.run_bind,Sem.run_pure,Result.andThen_ok,hrun]
 exact h
theorem wpList_build{P:Program}{ops:Array Oper}{rest:List Oper}{o:Oper}{a:Act}{w:World}{Q:Exit→Act→World→Prop}(hgd:o.guard=none)(t:TypeId)(parts:Array (Nat×Operand))(ho:o.op=.build t parts)(vs:Array (Nat×Value))(hp:(parts.map fun(i,x)=>(i,a.eval x))=vs)(v:Value)(hrun:(Instr.build t vs).run P w=.ok v w)(h:wpList P ops Q rest (a.put o.dst v) w):wpList P ops Q (o::rest) a w:=
 wpList_plain hgd fun _ hK=>wp_build t parts ho vs hp v hrun (hK _ _ h)
def RtX(w:World)(g:Nat)(A:Option Addr)(n c a e:Nat)(m:Nat→RH Dr)(en:Ending)(w':World):Prop:=∃(X:Array Value) (f:FD) (md:DM) (a' e':Nat),en=.returned (.agg X)∧Row27 X∧Kp g none w w'∧StR w' g A n c a' e'∧(e'=0→X=cD f md∧e=0∧a'≤n)∧MD w' f md∧Far w.heap.size md∧Aft (nxr e a m) a' e' (fun d=>f=fdOf (some d))
theorem bd_nil  (w:World):(Instr.build 45 #[]).run Tryz.prog w=.ok (.agg (cD FD.zero DM.zero)) w:=by kernel_rfl
theorem bd_opn(s:ByteArray)(w:World):(Instr.build 45 #[(0,.int .i64 1),(2,.string s)]).run Tryz.prog w=.ok (.agg (cD { FD.at_ 1 (0,0,0) with acc:=s } DM.zero)) w:=by kernel_rfl
theorem bd_cls(s:ByteArray)(w:World):(Instr.build 45 #[(0,.int .i64 2),(2,.string s)]).run Tryz.prog w=.ok (.agg (cD { FD.at_ 2 (0,0,0) with acc:=s } DM.zero)) w:=by kernel_rfl
theorem bd_bal(s:ByteArray)(w:World):(Instr.build 45 #[(0,.int .i64 6),(2,.string s)]).run Tryz.prog w=.ok (.agg (cD { FD.at_ 6 (0,0,0) with acc:=s } DM.zero)) w:=by kernel_rfl
theorem bd_com(s:ByteArray)(A:Option Addr)(n c:Nat)(w:World):(Instr.build 45 #[(0,.int .i64 3),(4,.slice A n c)]).run Tryz.prog w=.ok (.agg (cD { FD.at_ 3 (0,0,0) with curs:=[s] } { DM.zero with Ac:=A,nc:=n,cc:=c })) w:=by kernel_rfl
theorem bd_prc(s u:ByteArray)(A A2:Option Addr)(n c n2 c2 k:Nat)(i:Int)(w:World):(Instr.build 45 #[(0,.int .i64 4),(4,.slice A n c),(6,.agg #[.bool (ngB i),.slice A2 n2 c2,.int .i64 (k:Int),.string u])]).run Tryz.prog w=.ok (.agg (cD { FD.at_ 4 (0,0,0) with curs:=[s],i:=i,k:=k,cur:=u } { DM.zero with Ac:=A,nc:=n,cc:=c,A:=A2,n:=n2,c:=c2 })) w:=by kernel_rfl
theorem bd_pad(s u:ByteArray)(w:World):(Instr.build 45 #[(0,.int .i64 5),(2,.string s),(3,.string u)]).run Tryz.prog w=.ok (.agg (cD { FD.at_ 5 (0,0,0) with acc:=s,oth:=u } DM.zero)) w:=by kernel_rfl
theorem bd_nte(s u:ByteArray)(w:World):(Instr.build 45 #[(0,.int .i64 8),(2,.string s),(17,.string u)]).run Tryz.prog w=.ok (.agg (cD { FD.at_ 8 (0,0,0) with acc:=s,text:=u } DM.zero)) w:=by kernel_rfl
theorem bd_txn(s:ByteArray)(w:World):(Instr.build 45 #[(0,.int .i64 7),(9,.string s)]).run Tryz.prog w=.ok (.agg (cD { FD.at_ 7 (0,0,0) with flag:=s } DM.zero)) w:=by kernel_rfl
theorem bd_opt(s u:ByteArray)(w:World):(Instr.build 45 #[(0,.int .i64 9),(16,.string s),(17,.string u)]).run Tryz.prog w=.ok (.agg (cD { FD.zero with kind:=9,name:=s,text:=u } DM.zero)) w:=by kernel_rfl
end Go.Proofs.YthpmaoimceojgaaGreatDoor.Num
