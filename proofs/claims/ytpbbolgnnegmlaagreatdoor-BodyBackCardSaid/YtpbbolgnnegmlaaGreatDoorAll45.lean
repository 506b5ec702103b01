/- Lemmas of the proof: HeaP, HeaQ, HeaR, HeaS, HeaT, HeaU, HeaV, HeaW, HeaX, HeaY, HeaSa. -/
import Derived.Test.YtpbbolgnnegmlaaGreatDoorAll44
import Derived.Maps.OwnSet
import Derived.Maps.AppendAt
import Derived.Test.YtpbbolgnnegmlaaGreatDoorAll39
import Derived.Laws.OwnMore
import Derived.Deep.AppendLies
set_option linter.unusedVariables false
set_option linter.unusedSimpArgs false
set_option maxRecDepth 100000
set_option maxHeartbeats 32000000
namespace Go.Proofs.YtpbbolgnnegmlaaGreatDoor.Num
open Go.RowKit
structure MkI (L:List Tok) (n a e f a2:Nat) (T K:List ByteArray):Prop where
 run:e=0→rTgP L f T K a2=rTgP L (n+1) [] [] a∧a2≤n∧n<f+a2∧T.length+K.length≤a2
 halt:e≠0→a2=a
 few:T.length≤400∧K.length≤400
 szT:∀s∈T,s.size≤6000
 szK:∀s∈K,s.size≤6000
theorem results_cell_two{P:Program}{fn:Func}{p q r:Tmp}{ty:TypeId}(h:fn.results=#[.cell p ty,.tmp q,.tmp r])(tmps:Array Value)(w:World)(g:Nat)(t:TypeId)(cs:Array Value)(fr:Nat×Nat)(d:TypeDesc)(v u:Value)
  (hp:tmps.getD p undef=.pointer (some ⟨g,0,none⟩)) (hv:tmps.getD q undef=v) (hu2:tmps.getD r undef=u) (hg:w.heap[g]?=some (.cells cs t fr))
  (hu:P.underlying ty=some d) (hd:(match d with | .struct _ | .array _ _=>true|_=>false)=true) (hi:(P.info? ty).map (·.size)=some cs.size) :
  (results fn tmps).run P w=.ok (.tuple #[.agg cs,v,u]) w:=by
 have hp':tmps[p]?.getD undef=.pointer (some ⟨g,0,none⟩):=by simpa using hp
 have hv':tmps[q]?.getD undef=v:=by simpa using hv
 have hu':tmps[r]?.getD undef=u:=by simpa using hu2
 simp[results,h,hp',hv',hu',asAddr,run_loadVar_row w g t ty cs fr d hg hu hd hi]
theorem step_store_row{P:Program}{ops:Array Oper}{o:Oper}{a:Act}{w:World}{K:Act→World→Prop}{Q:Exit→Act→World→Prop}{E:Prop}(hgd:o.guard=none)(ty:TypeId)(x y:Operand)(ho:o.op=.store ty x y)(g:Nat)(X Z:Array Value)(t:TypeId)
  (hx:a.eval x=.pointer (some ⟨g,0,none⟩)) (hy:a.eval y=.agg X) (hb:w.heap[g]?=some (.cells Z t (0,0))) (hi:(P.info? ty).map (·.size)=some X.size) (hz:Z.size=X.size) (h1:X.all (·.oneCell')=true)
  (h:K (a.put o.dst undef) (w.setRow g X)):if Region.wanted o (yielded ops a.tmps)=true then Oper.wp P o a w K Q else E:=by
 have hw:Region.wanted o (yielded ops a.tmps)=true:=by simp[Region.wanted,hgd]
 rw[if_pos hw];unfold Oper.wp execOp;simp only[ho,hx,hy,Instr.storeAt,Instr.sureAddr,Sem.run_bind,Sem.run_pure,Result.andThen_ok,run_storeVar_row w g t ty Z X hb hi hz h1]
 exact h
theorem exec_load_row{P:Program}{o:Oper}{a:Act}{w:World}(ty:TypeId)(x:Operand)(ho:o.op=.load ty x)(g:Nat)(hx:a.eval x=.pointer (some ⟨g,0,none⟩))(t:TypeId)(cs:Array Value)(fr:Nat×Nat)(d:TypeDesc)(hg:w.heap[g]?=some (.cells cs t fr))
  (hu:P.underlying ty=some d) (hd:(match d with | .struct _ | .array _ _=>true|_=>false)=true) (hi:(P.info? ty).map (·.size)=some cs.size):(execOp a.eval o).run P w=.ok (.value (.agg cs)) w:=by
 unfold execOp;simp only[ho,hx,Instr.loadAt,Instr.sureAddr,Sem.run_bind,Sem.run_pure,Result.andThen_ok,run_loadVar_row w g t ty cs fr d hg hu hd hi]
theorem bk_setRow_other{w:World}{g g':Nat}{xs cs:Array Value}{t:TypeId}(h:Bk w g xs t)(hne:g≠g'):Bk (w.setRow g' cs) g xs t:=(setRow_other w g' g cs hne).trans h
structure Low15 (hi:Nat) (f:FD) (m:DM):Prop where
 cur:f.curs.map bs9=[]∨∀a,m.Ac=some a→a.block<hi
 tag:f.tags.map bs9=[]∨∀a,m.Ag=some a→a.block<hi
 lnk:f.links.map bs9=[]∨∀a,m.Al=some a→a.block<hi
theorem wpList_load_rowG{P:Program}{ops:Array Oper}{rest:List Oper}{o:Oper}{a:Act}{w:World}{Q:Exit→Act→World→Prop}(hw:Region.wanted o (yielded ops a.tmps)=true)(ty:TypeId)(x:Operand)(ho:o.op=.load ty x)
  (g:Nat) (hx:a.eval x=.pointer (some ⟨g,0,none⟩)) (t:TypeId) (cs:Array Value) (fr:Nat×Nat) (d:TypeDesc) (hg:w.heap[g]?=some (.cells cs t fr))
  (hu:P.underlying ty=some d) (hd:(match d with | .struct _ | .array _ _=>true|_=>false)=true) (hi:(P.info? ty).map (·.size)=some cs.size)
  (h:wpList P ops Q rest (a.put o.dst (.agg cs)) w):wpList P ops Q (o::rest) a w:=
 BigFrame.wpList_want hw fun _ hK=>wp_load_row ty x ho g hx t cs fr d hg hu hd hi (hK _ _ h)
end Go.Proofs.YtpbbolgnnegmlaaGreatDoor.Num
