/- Lemmas of the proof: ScaA, ScaB, ScaC. -/
import Derived.Test.YtpbbolgnnegmlaaGreatDoorAll01
import Derived.Test.YtpbbolgnnegmlaaGreatDoorChecked
import Derived.Test.YtpbbolgnnegmlaaGreatDoorAll25
import Derived.KernelRfl
import Derived.Deep.QuietTactic
import Derived.BigQuiet
import Derived.WalkMore
import Derived.Deep.LoopGhost
import Derived.Deep.RegionWith
import Derived.Deep.RegionHeld3
import Derived.Deep.AppendLies
import Derived.Laws.OwnMore
import Derived.Lib.Hide
import Derived.IntWalk
import Derived.Laws.BytesArg
import Derived.Lib.AppendIntMem
set_option linter.unusedVariables false
set_option linter.unusedSimpArgs false
set_option maxRecDepth 100000
set_option maxHeartbeats 32000000
open Go.Lib renaming hid→Jh
namespace Go.Proofs.YtpbbolgnnegmlaaGreatDoor
open Go.RowKit
def Ret9(W:World)(v:Value)(e:Ending)(w':World):Prop:=e=.returned v∧Below W.heap.size W w'
theorem below_drewN(w:World)(n:Nat):Below w.heap.size w (w.drewN n):=⟨rfl,rfl,rfl,Nat.le_refl _,fun _ _=>rfl⟩
section
variable {w w':World}{base:Nat}{v:Value}{l:List (List Nat)}
theorem grown10(hb:Below w.heap.size w w'):w.grownBy w' none:=⟨hb.os,hb.tape,hb.output,hb.size,fun k hk _=>hb.block k hk⟩
end
theorem sl_from{s X:ByteArray}{i:Nat}(h:i≤s.size)(hX:s.extract i s.size=X)(w':World):(Instr.slice 9 (.string s) (some (.int .i64 (i:Int))) none none).run Tryz.prog w'=.ok (.string X) w':=by
 rw[run_slice_string_l w' _ s Tryz.underlying9 _ _ (by omega) (by omega),Int.toNat_natCast,hX]
theorem sl_to{s X:ByteArray}{i:Nat}(h:i≤s.size)(hX:s.extract 0 i=X)(w':World):(Instr.slice 9 (.string s) none (some (.int .i64 (i:Int))) none).run Tryz.prog w'=.ok (.string X) w':=by
 rw[run_slice_string_h w' _ s Tryz.underlying9 _ _ (by omega) (by omega),Int.toNat_natCast,hX]
theorem sl_both{s X:ByteArray}{i j:Nat}(h:i≤j)(h2:j≤s.size)(hX:s.extract i j=X)(w':World):(Instr.slice 9 (.string s) (some (.int .i64 (i:Int))) (some (.int .i64 (j:Int))) none).run Tryz.prog w'=.ok (.string X) w':=by
 rw[run_slice_string w' _ s _ _ _ _ Tryz.underlying9 (by omega) (by omega) (by omega),Int.toNat_natCast,Int.toNat_natCast,hX]
theorem add9{x y z:ByteArray}(h:bs9 x++bs9 y=bs9 z)(hl:x.size+y.size≤9223372036854775807)(w:World):(Op.stringOp .add x y).run Tryz.prog w=.ok (.string z) w:=by
 have e:x++y=z:=bs9_inj (by rw[bs9_append,h]);rw[run_string_add_sum w _ _ hl,e]
theorem bs9_at(s:ByteArray)(i:Nat)(h:i<s.size):(bs9 s)[i]?=some (s[i]'h).toNat:=by
 have e:=congrArg List.head? (bs9_get s i h);rw[List.head?_drop] at e;exact e
theorem str_nil{s:ByteArray}(h:s.size=0):s=⟨#[]⟩:=bs9_inj (by rw[List.eq_nil_of_length_eq_zero ((bs9_len s).trans h)];rfl)
theorem str_ne{s:ByteArray}(h:0<s.size):(s.toList == [])=false:=by
 rw[beq_eq_false_iff_ne];intro e;have e2:bs9 s=[]:=by unfold bs9;rw[← ByteArray.toList_eq,e];rfl
 have:=bs9_len s;rw[e2] at this;simp at this;omega
theorem indent_any(s:ByteArray)(w:World)(hs:s.size≤1000000):Calls Tryz.prog 32 #[.string s] w (Ret9 w (.int .i64 (indl (bs9 s):Nat))):=by
 obtain⟨z,hz⟩:∃z,indl (bs9 s)=z:=⟨_,rfl⟩;have hzl:=indl_le (bs9 s);rw[hz,bs9_len] at hzl;rw[hz];have HS:Hid (∀n x,n≤z→(bs9 s)[n]?=some x→((x=32∨x=9)→n+1≤z)∧(¬(x=32∨x=9)→z=n)):=fun n x hn hx=>by
  have:=indl_at (l:=bs9 s) (n:=n) (x:=x) (by omega) hx;rw[hz] at this;exact this
 clear hz;go_enter Tryz.func32,Tryz.ntmps32;go_wp2_with fail;go_loopw [6] (fun nv wr=>∃n:Nat,nv=.int .i64 n∧n≤z∧Below w.heap.size w wr) (fun nv _=>s.size-(intOf nv).toNat)
 case atStart=>exact⟨0,rfl,Nat.zero_le _,Below.refl _ _⟩
 case round=>
  obtain⟨n,rfl,hn,hb⟩:=hrel;have HB:=Jh hb;clear hb;rcases Nat.lt_or_ge n s.size with hlt|hge
  ·obtain⟨x,hx⟩:∃x,x=(s[n]'hlt).toNat:=⟨_,rfl⟩
   have ex:((s[n]'hlt).toNat:Int)=(x:Int):=by rw[hx]
   have h2:=HS.out n x hn (by rw[bs9_at s n hlt,hx]);clear hx;by_cases h32:x=32
   ·have d:((x:Int) != 32)=false:=by rw[h32];rfl
    have E:Hid (n+1≤z):=h2.1 (.inl h32);clear h2 h32;go_wp2_with fail;go_roundw
    case rel=>exact⟨n+1,by go_num,E.out,HB.out⟩
    case measure=>simp[intOf];omega
   ·have d:((x:Int) != 32)=true:=by rw[bne_iff_ne];omega
    by_cases h9:x=9
    ·have d2:((x:Int) != 9)=false:=by rw[h9];rfl
     have E:Hid (n+1≤z):=h2.1 (.inr h9);clear h2 h32 h9;go_wp2_with fail;go_roundw
     case rel=>exact⟨n+1,by go_num,E.out,HB.out⟩
     case measure=>simp[intOf];omega
    ·have d2:((x:Int) != 9)=true:=by rw[bne_iff_ne];omega
     have E:Hid (z=n):=h2.2 (by omega);clear h2 h32 h9;go_wp2_with fail;go_ret;exact⟨by rw[E.out];rfl,HB.out⟩
  ·have E:Hid (z=s.size):=by show _=_;omega
   go_wp2_with fail;go_ret;exact⟨by rw[E.out];rfl,HB.out⟩
theorem rb9{a b:Bool}(h:a=b):Ending.returned (.bool a)=.returned (.bool b):=by rw[h]
structure Bx2 (v:World) (g:Nat) (x0 x1:Value):Prop where
 c0:v.cell? ⟨g,0,none⟩=some x0
 c1:v.cell? ⟨g,1,none⟩=some x1
 f0:v.frozen? ⟨g,0,none⟩=false
 f1:v.frozen? ⟨g,1,none⟩=false
 lt:g<v.heap.size
section
variable {v v':World}{g:Nat}{x0 x1:Value}
theorem Bx2.newAt(v:World)(x0 x1:Value)(t:TypeId)(h:g=v.heap.size):Bx2 (v.alloc (.cells #[x0,x1] t)) g x0 x1:=by
 subst h;exact⟨by simp,by simp,by simp,by simp,by simp⟩
theorem Bx2.below{B:Nat}(h:Bx2 v g x0 x1)(hb:Below B v v')(hg:g<B):Bx2 v' g x0 x1:=
 ⟨(hb.cell (p:=⟨g,0,none⟩) hg).trans h.c0,(hb.cell (p:=⟨g,1,none⟩) hg).trans h.c1,(hb.frozen (p:=⟨g,0,none⟩) hg).trans h.f0,(hb.frozen (p:=⟨g,1,none⟩) hg).trans h.f1,Nat.lt_of_lt_of_le h.lt hb.size⟩
theorem Bx2.on(h:Bx2 v g x0 x1)(hb:Below v.heap.size v v'):Bx2 v' g x0 x1:=h.below hb h.lt
end
end Go.Proofs.YtpbbolgnnegmlaaGreatDoor
