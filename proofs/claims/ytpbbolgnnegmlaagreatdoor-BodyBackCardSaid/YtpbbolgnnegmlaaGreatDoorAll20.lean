/- Lemmas of the proof: Line. -/
import Derived.Deep.RegionHeld3
import Derived.Great.Frames
import Derived.KernelRfl
import Derived.WalkKit
set_option linter.unusedVariables false
set_option linter.unusedSimpArgs false
set_option maxRecDepth 100000
set_option maxHeartbeats 32000000
namespace Go.Proofs.YtpbbolgnnegmlaaGreatDoor.Num
open Go.RowKit
def regs:Code→List (Nat×Array Oper)
 | .region id ops _=>[(id,ops)]
 | .seq a b=>regs a++regs b
 | .cond _ a b=>regs a++regs b
 | .block _ c=>regs c
 | .loop c=>regs c
 | .scope c=>regs c
 | _=>[]
def opsAt(P:Program)(f id:Nat):Array Oper:=match P.funcs[f]? with
 | some fn=>((((fn.body.map regs).getD []).find? (fun q=>q.1 == id)).map (·.2)).getD #[]
 | none=>#[]
def upto(n k:Nat)(ex:List Nat):Array Bool:=Array.ofFn (n:=n) fun i=>decide (i.val<k)||ex.contains i.val
theorem upto_zero(n:Nat):Array.replicate n false=upto n 0 []:=by
 apply Array.ext
 ·simp[upto]
 ·intro i h1 h2;simp[upto]
theorem upto_set(n k:Nat)(ex:List Nat):(upto n k ex).setIfInBounds k true=upto n (k+1) ex:=by
 apply Array.ext
 ·simp[upto]
 ·intro i h1 h2
  rw[Array.getElem_setIfInBounds]
  ·simp[upto]
   rw[Bool.eq_iff_iff];simp;constructor
   ·rintro(h|h|h)
    ·left;omega
    ·left;omega
    ·exact .inr h
   ·rintro(h|h)
    ·rcases Nat.lt_or_ge i k with h3|h3
     ·exact .inr (.inl h3)
     ·exact .inl (by omega)
    ·exact .inr (.inr h)
  ·simpa [upto] using h2
theorem upto_more(n k j:Nat)(ex:List Nat):(upto n k ex).setIfInBounds j true=upto n k (j::ex):=by
 apply Array.ext
 ·simp[upto]
 ·intro i h1 h2
  rw[Array.getElem_setIfInBounds]
  ·simp[upto]
   rw[Bool.eq_iff_iff];simp;constructor
   ·rintro(h|h|h)
    ·exact .inr (.inl h.symm)
    ·exact .inl h
    ·exact .inr (.inr h)
   ·rintro(h|h|h)
    ·exact .inr (.inl h)
    ·exact .inl h.symm
    ·exact .inr (.inr h)
  ·simpa [upto] using h2
theorem upto_skip{n k:Nat}{ex ex':List Nat}(h:∀i,(i=k∨i∈ex')↔i∈ex):upto n k ex=upto n (k+1) ex':=by
 apply Array.ext
 ·simp[upto]
 ·intro i h1 h2
  simp[upto]
  rw[Bool.eq_iff_iff];simp;have:=h i;constructor
  ·rintro(h3|h3)
   ·left;omega
   ·rcases this.2 h3 with h4|h4
    ·left;omega
    ·exact .inr h4
  ·rintro(h3|h3)
   ·rcases Nat.lt_or_ge i k with h4|h4
    ·exact .inl h4
    ·exact .inr (this.1 (.inl (by omega)))
   ·exact .inr (this.1 (.inr h3))
section
variable {P:Program}{ops:Array Oper}{Q:Exit→Act→World→Prop}{S:World→Prop}{N:Nat}
def Line(P:Program)(ops:Array Oper)(Q:Exit→Act→World→Prop)(S:World→Prop)(c k:Nat)(ex:List Nat)(a:Act)(w:World):Prop:=
 wpAnyH P .any ops Q S (ops.size-c) (upto ops.size k ex) a w
abbrev Spot3:=Nat×List Nat×Nat
def stillB(ops:Array Oper)(q:Spot3):Bool:=(Region.ready .any ops (upto ops.size q.1 q.2.1)).contains q.2.2&&Region.free .any ops (upto ops.size q.1 q.2.1) q.2.2
def soleB(ops:Array Oper)(q:Spot3):Bool:=Region.ready .any ops (upto ops.size q.1 q.2.1) == [q.2.2]
def Fr(N:Nat)(a:Act)(l:List (Nat×Value)):Prop:=a.tmps.size=N∧a.defers=[]∧∀q∈l,a.tmps[q.1]?=some q.2
theorem Fr.put{a:Act}{l l':List (Nat×Value)}{d:Nat}{v:Value}(h:Fr N a l)(hd:d<N)(hs:∀q∈l',q∈l∧q.1≠d):Fr N (a.put (some d) v) ((d,v)::l'):=by
 refine⟨by rw[Act.size_put];exact h.1,h.2.1,fun q hq=>?_⟩;rcases List.mem_cons.1 hq with rfl|hq
 ·show(a.tmps.setIfInBounds d v)[d]?=_
  rw[Array.getElem?_setIfInBounds_self_of_lt (by rw[h.1];exact hd)]
 ·show(a.tmps.setIfInBounds d v)[q.1]?=_
  rw[Array.getElem?_setIfInBounds_ne (Ne.symm (hs q hq).2)];exact h.2.2 q (hs q hq).1
theorem Fr.ev{a:Act}{l:List (Nat×Value)}{i:Nat}{v:Value}(h:Fr N a l)(hm:(i,v)∈l):a.eval (.tmp i)=v:=by
 have:=h.2.2 _ hm;show a.tmps.getD i undef=v;rw[Array.getD_eq_getD_getElem?,this];rfl
theorem wanted_none{o:Oper}{y:Nat→Option Bool}(h:o.guard=none):Region.wanted o y=true:=by unfold Region.wanted;rw[h]
theorem wanted_some{o:Oper}{a:Act}{l:List (Nat×Value)}{j d:Nat}{b:Bool}(h:o.guard=some (j,b))(hj:(ops[j]?).bind (·.dst)=some d)(hf:Fr N a l)(hm:(d,Value.bool b)∈l):Region.wanted o (yielded ops a.tmps)=true:=by
 have h1:yielded ops a.tmps j=some b:=by
  unfold yielded;rw[hj];show(match a.tmps[d]? with|some (.bool b)=>some b|_=>none)=some b;rw[hf.2.2 _ hm]
 unfold Region.wanted;rw[h];show(yielded ops a.tmps j == some b)=true;rw[h1];simp
theorem wanted_not{o:Oper}{a:Act}{l:List (Nat×Value)}{j d:Nat}{b:Bool}(h:o.guard=some (j,b))(hj:(ops[j]?).bind (·.dst)=some d)(hf:Fr N a l)(hm:(d,Value.bool !b)∈l):Region.wanted o (yielded ops a.tmps)=false:=by
 have h1:yielded ops a.tmps j=some !b:=by
  unfold yielded;rw[hj];show(match a.tmps[d]? with|some (.bool b)=>some b|_=>none)=some !b;rw[hf.2.2 _ hm]
 unfold Region.wanted;rw[h];show(yielded ops a.tmps j == some b)=false;rw[h1];cases b<;>rfl
abbrev Row3:=Option Nat×Option (Nat×Bool)×Op
def row3(o:Oper):Row3:=(o.dst,o.guard,o.op)
structure Reg (ops:Array Oper) (T:List Row3) (sts sos:List Spot3):Prop where
 rows:ops.toList.map row3=T
 sel:Region.noSelect ops=true
 still:∀k∈sts,stillB ops k=true
 sole:∀k∈sos,soleB ops k=true
 done:Region.ready .any ops (upto ops.size ops.size [])=[]
theorem all_parts{f:Spot3→Bool}{l m:List Spot3}(h:l.all f=true)(h':∀k∈m,f k=true):∀k∈l++m,f k=true:=fun k hk=>by
 rcases List.mem_append.1 hk with hk|hk
 ·exact List.all_eq_true.1 h k hk
 ·exact h' k hk
theorem ev_const(a:Act)(v:Value):a.eval (.const v)=v:=rfl
theorem Reg.at_{T:List Row3}{sts sos:List Spot3}(R:Reg ops T sts sos){k:Nat}{d:Option Nat}{gd:Option (Nat×Bool)}{p:Op}(h:T[k]?=some (d,gd,p)):∃o,ops[k]?=some o∧o.dst=d∧o.guard=gd∧o.op=p:=by
 rw[← R.rows,List.getElem?_map] at h;cases ho:ops.toList[k]? with
 | none=>rw[ho] at h;cases h
 | some o=>
  rw[ho] at h;have h:row3 o=(d,gd,p):=by simpa using h
  unfold row3 at h;injection h with h1 h2
  injection h2 with h2 h3
  exact⟨o,by simpa using ho,h1,h2,h3⟩
theorem Reg.st{T:List Row3}{sts sos:List Spot3}(R:Reg ops T sts sos){k:Spot3}(h:k∈sts):stillB ops k=true:=R.still k h
theorem Reg.so{T:List Row3}{sts sos:List Spot3}(R:Reg ops T sts sos){k:Spot3}(h:k∈sos):soleB ops k=true:=R.sole k h
theorem Reg.wanted{T:List Row3}{sts sos:List Spot3}(R:Reg ops T sts sos){o:Oper}{a:Act}{l:List (Nat×Value)}{j d:Nat}{b:Bool}{gd:Option (Nat×Bool)}{p:Op}(h:o.guard=some (j,b))(hj:T[j]?=some (some d,gd,p))(hf:Fr N a l)(hm:(d,Value.bool b)∈l):Region.wanted o (yielded ops a.tmps)=true:=by
 obtain⟨oj,h1,h2,_,_⟩:=R.at_ hj;exact wanted_some h (by rw[h1];exact h2) hf hm
theorem Reg.unwanted{T:List Row3}{sts sos:List Spot3}(R:Reg ops T sts sos){o:Oper}{a:Act}{l:List (Nat×Value)}{j d:Nat}{b:Bool}{gd:Option (Nat×Bool)}{p:Op}(h:o.guard=some (j,b))(hj:T[j]?=some (some d,gd,p))(hf:Fr N a l)(hm:(d,Value.bool !b)∈l):Region.wanted o (yielded ops a.tmps)=false:=by
 obtain⟨oj,h1,h2,_,_⟩:=R.at_ hj;exact wanted_not h (by rw[h1];exact h2) hf hm
section
variable {T:List Row3}{sts sos:List Spot3}(R:Reg ops T sts sos)
include R
theorem line_still(c k:Nat)(ex:List Nat)(d:Nat)(v:Value){gd:Option (Nat×Bool)}{p:Op}{l:List (Nat×Value)}(l':List (Nat×Value)){a:Act}{w:World}(hk:T[k]?=some (some d,gd,p))(hN:d<N)(hcn:c<T.length)(hc:(k,ex,k)∈sts)(ha:Fr N a l)
  (hy:∀o:Oper,o.op=p→o.guard=gd→YieldsIf P ops S o v a) (hs:∀q∈l',q∈l∧q.1≠d) (hS:S w)
  (next:∀a,Fr N a ((d,v)::l')→Line P ops (NoPanic Q) S (c+1) (k+1) ex a w):Line P ops (NoPanic Q) S c k ex a w:=by
 obtain⟨o,ho,hd,hg,hp⟩:=R.at_ hk;have hl:T.length=ops.size:=by rw[← R.rows];simp
 have hc:=R.st hc;unfold stillB at hc;rw[Bool.and_eq_true] at hc;have e:ops.size-c=(ops.size-(c+1))+1:=by omega
 unfold Line;rw[e];refine wpAnyH_take ho R.sel hc.2 hc.1 (fun c a w h=>?_) (hy o hp hg) hS ?_
 ·exact h
 ·rw[upto_set,hd]
  exact next _ (ha.put hN hs)
theorem line_ahead(c k:Nat)(ex:List Nat)(j d:Nat)(v:Value){gd:Option (Nat×Bool)}{p:Op}{l:List (Nat×Value)}(l':List (Nat×Value)){a:Act}{w:World}(hk:T[j]?=some (some d,gd,p))(hN:d<N)(hcn:c<T.length)(hc:(k,ex,j)∈sts)(ha:Fr N a l)
  (hy:∀o:Oper,o.op=p→o.guard=gd→YieldsIf P ops S o v a) (hs:∀q∈l',q∈l∧q.1≠d) (hS:S w)
  (next:∀a,Fr N a ((d,v)::l')→Line P ops (NoPanic Q) S (c+1) k (j::ex) a w):Line P ops (NoPanic Q) S c k ex a w:=by
 obtain⟨o,ho,hd,hg,hp⟩:=R.at_ hk;have hl:T.length=ops.size:=by rw[← R.rows];simp
 have hc:=R.st hc;unfold stillB at hc;rw[Bool.and_eq_true] at hc;have e:ops.size-c=(ops.size-(c+1))+1:=by omega
 unfold Line;rw[e];refine wpAnyH_take ho R.sel hc.2 hc.1 (fun c a w h=>?_) (hy o hp hg) hS ?_
 ·exact h
 ·rw[upto_more,hd]
  exact next _ (ha.put hN hs)
theorem line_call(c k:Nat)(ex:List Nat)(d:Nat){f:FuncId}{args:Array Value}{gd:Option (Nat×Bool)}{p:Op}{l:List (Nat×Value)}(l':List (Nat×Value)){a:Act}{w:World}(hk:T[k]?=some (some d,gd,p))(hN:d<N)(hcn:c<T.length)(hc:(k,ex,k)∈sos)(ha:Fr N a l)
  (hrun:∀o:Oper,o.op=p→o.guard=gd→Region.wanted o (yielded ops a.tmps)=true∧(execOp a.eval o).run P w=.ok (.enter f args) w) (hs:∀q∈l',q∈l∧q.1≠d)
  (hcall:Calls P f args w fun e w'=>∃u,e=.returned u∧S w'∧∀a,Fr N a ((d,u)::l')→Line P ops (NoPanic Q) S (c+1) (k+1) ex a w'):Line P ops (NoPanic Q) S c k ex a w:=by
 obtain⟨o,ho,hd,hg,hp⟩:=R.at_ hk;have hl:T.length=ops.size:=by rw[← R.rows];simp
 obtain⟨hw,hrun⟩:=hrun o hp hg;have hc:=R.so hc;unfold soleB at hc;have hc:=eq_of_beq hc;have e:ops.size-c=(ops.size-(c+1))+1:=by omega
 unfold Line;rw[e];refine wpAnyH_all hc (by simp) (fun i hi=>?_);obtain rfl:i=k:=by simpa using hi
 unfold wpOp;simp only[ho]
 rw[if_pos hw];left
 unfold Oper.wp;rw[hrun];show Calls P f args w _;refine Calls.mono hcall fun e w' h=>?_
 obtain⟨u,rfl,hS,hn⟩:=h;show S w'∧_;refine⟨hS,?_⟩;rw[upto_set,hd];exact hn _ (ha.put hN hs)
theorem line_end{c k:Nat}{a:Act}{w:World}(hk:k=T.length)(h:Q .normal a w):Line P ops (NoPanic Q) S c k [] a w:=by
 have e:T.length=ops.size:=by rw[← R.rows];simp
 unfold Line;rw[hk,e];exact wpAnyH_done R.done (show NoPanic Q .normal a w from h) _
end
theorem line_skip{c k:Nat}{ex:List Nat}(ex':List Nat){a:Act}{w:World}(h:∀i,(i=k∨i∈ex')↔i∈ex)(next:Line P ops (NoPanic Q) S c (k+1) ex' a w):Line P ops (NoPanic Q) S c k ex a w:=by
 unfold Line at next ⊢;rw[upto_skip h];exact next
theorem line_start{id:Nat}{lit:Array Oper}{a:Act}{w:World}(e:lit=ops)(hm:P.follows .mixedOrders=true)(hS:S w.drew)(h:Line P ops (NoPanic Q) S 0 0 [] a w.drew):(Code.region id lit true).wp P Q a w:=by
 subst e;refine wp_region_noPanic (wp_region_held_drew hm hS fun _=>?_);rw[upto_zero];exact h
/-! What operations yield, their temporaries' values given. -/
theorem y_of{o:Oper}{v:Value}{a:Act}(hw:Region.wanted o (yielded ops a.tmps)=true)(h:∀w,S w→(execOp a.eval o).run P w=.ok (.value v) w):YieldsIf P ops S o v a:=.inl ⟨hw,h⟩
theorem y_not{o:Oper}{a:Act}(hw:Region.wanted o (yielded ops a.tmps)=false):YieldsIf P ops S o undef a:=.inr ⟨hw,rfl⟩
theorem e_move{o:Oper}{ρ:Operand→Value}{x:Operand}{v:Value}{w:World}(h:o.op=.move x∨o.op=.assign x)(hx:ρ x=v):(execOp ρ o).run P w=.ok (.value v) w:=by
 unfold execOp;rcases h with h|h<;>rw[h]<;>simp[hx]
theorem e_pick{o:Oper}{ρ:Operand→Value}{c x y:Operand}{b:Bool}{u v:Value}{w:World}(h:o.op=.pick c x y)(hc:ρ c=.bool b)(hx:ρ x=u)(hy:ρ y=v):(execOp ρ o).run P w=.ok (.value (if b then u else v)) w:=by
 unfold execOp;rw[h];cases b<;>simp[hc,hx,hy,go_sem]
end
end Go.Proofs.YtpbbolgnnegmlaaGreatDoor.Num
