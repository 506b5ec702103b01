/- Lemmas of the proof: NamA, NamB, NamC, NamD. -/
import Derived.Test.YtpbbolgnnegmlaaGreatDoorAll01
import Derived.Test.YtpbbolgnnegmlaaGreatDoorAll30
import Derived.Test.YtpbbolgnnegmlaaGreatDoorChecked
import Derived.Test.YtpbbolgnnegmlaaGreatDoorAll25
import Derived.KernelRfl
import Derived.Deep.QuietTactic
import Derived.BigQuiet
import Derived.WalkMore
import Derived.Deep.LoopGhost
import Derived.Deep.RegionWith
import Derived.Deep.RegionHeld3
import Derived.Deep.AppendLies
import Derived.Laws.OwnMore
import Derived.Lib.Hide
import Derived.IntWalk
import Derived.Laws.BytesArg
import Derived.Lib.AppendIntMem
import Derived.Lib.LastIndexLaws
set_option linter.unusedVariables false
set_option linter.unusedSimpArgs false
set_option maxRecDepth 100000
set_option maxHeartbeats 32000000
open Go.Lib renaming hid→Jh
namespace Go.Proofs.YtpbbolgnnegmlaaGreatDoor
open Go.RowKit
theorem str_emp{s:ByteArray}(h:s.size=0):(s.toList == [])=true:=by rw[str_nil h,ByteArray.toList_eq];rfl
theorem emp_not{s:ByteArray}(h:0<s.size):s.toList.isEmpty=false:=by
 have:=str_ne h;cases hx:s.toList with
 | nil=>rw[hx] at this;simp at this
 | cons a l=>rfl
theorem emp_yes{s:ByteArray}(h:s.size=0):s.toList.isEmpty=true:=by rw[str_nil h,ByteArray.toList_eq];rfl
theorem nil_of{s:ByteArray}(h:s.size=0):bs9 s=[]:=by rw[str_nil h];rfl
def upB(c:Nat):Bool:=decide (65≤c)&&decide (c≤90)
def lwB(c:Nat):Bool:=decide (97≤c)&&decide (c≤122)
def dgB(c:Nat):Bool:=decide (48≤c)&&decide (c≤57)
def jst(T l:List Nat):Bool:=l.all fun c=>T.contains c
theorem jst_of{T l:List Nat}{f:Nat→Bool}(hT:((List.range 256).all fun c=>T.contains c == f c)=true)(hl:∀c∈l,c<256):jst T l=l.all f:=by
 unfold jst;rw[List.all_eq_true] at hT;induction l with
 | nil=>rfl
 | cons c l ih=>
  have h1:=hT c (List.mem_range.2 (hl c List.mem_cons_self));rw[List.all_cons,List.all_cons,beq_iff_eq.1 h1,ih fun x hx=>hl x (List.mem_cons_of_mem _ hx)]
theorem all_step{α:Type}{l:List α}{f:α→Bool}{i:Nat}{x:α}(h:l[i]?=some x)(h2:(l.take i).all f=true)(h3:f x=true):(l.take (i+1)).all f=true:=by
 rw[List.take_add_one,h,List.all_append,h2];show(true&&[x].all f)=true;rw[List.all_cons,h3];rfl
theorem all_no{α:Type}{l:List α}{f:α→Bool}{i:Nat}{x:α}(h:l[i]?=some x)(h3:f x=false):l.all f=false:=by
 cases e:l.all f with
 | false=>rfl
 | true=>
  rw[List.all_eq_true] at e;rw[e x (List.mem_of_getElem? h)] at h3;cases h3
theorem all_end{α:Type}{l:List α}{f:α→Bool}{i:Nat}(hi:l.length≤i)(h2:(l.take i).all f=true):l.all f=true:=by rwa [List.take_of_length_le hi] at h2
theorem idx_in(l:List UInt8)(c:UInt8):(c∈l∧∃k:Nat,Lib.indexByte l c=(k:Int))∨(c∉l∧Lib.indexByte l c = -1):=by
 induction l with
 | nil=>exact .inr ⟨List.not_mem_nil,rfl⟩
 | cons b l ih=>
  by_cases h:b=c
  ·subst h
   exact .inl ⟨List.mem_cons_self,0,by unfold Lib.indexByte;rw[if_pos (by simp)];rfl⟩
  ·rcases ih with⟨h1,k,hk⟩|⟨h1,hk⟩
   ·exact .inl ⟨List.mem_cons_of_mem _ h1,k+1,by unfold Lib.indexByte;rw[if_neg (by simpa using h),hk,if_neg (by simp<;>omega)];rfl⟩
   ·refine .inr ⟨fun e=>?_,by unfold Lib.indexByte;rw[if_neg (by simpa using h),hk];rfl⟩
    rcases List.mem_cons.1 e with e|e
    ·exact h e.symm
    ·exact h1 e
theorem mem_bs9{T:ByteArray}{x:Nat}(hx:x<256):(UInt8.ofNat x∈T.data.toList)↔(bs9 T).contains x=true:=by
 rw[List.contains_iff_mem];unfold bs9;rw[List.mem_map];constructor
 ·intro h;exact⟨_,h,by rw[UInt8.toNat_ofNat']<;>omega⟩
 ·rintro⟨a,h,rfl⟩;rwa [UInt8.ofNat_toNat]
theorem idx_is(T:ByteArray){x:Nat}(hx:x<256)(w:World):∃z:Int,(((bs9 T).contains x=true∧∃k:Nat,z=k)∨((bs9 T).contains x=false∧z = -1))∧
  Calls Tryz.prog 59 #[.string T,.int .u8 (x:Int)] w (fun e w'=>e=.returned (.int .i64 z)∧w'=w):=by
 refine⟨_,?_,Tryz.strings_IndexByte T (x:Int) w⟩;have e:(x:Int).toNat.toUInt8=UInt8.ofNat x:=by rw[Int.toNat_natCast]
 rw[e];rcases idx_in T.data.toList (UInt8.ofNat x) with⟨h,k,hk⟩|⟨h,hk⟩
 ·exact .inl ⟨(mem_bs9 hx).1 h,k,hk⟩
 ·refine .inr ⟨?_,hk⟩
  cases hc:(bs9 T).contains x with
  | false=>rfl
  | true=>exact absurd ((mem_bs9 hx).2 hc) h
theorem just_any(s T:ByteArray)(w:World)(hs:s.size≤1000000):Calls Tryz.prog 85 #[.string s,.string T] w (fun e w'=>e=.returned (.bool (jst (bs9 T) (bs9 s)))∧w'=w):=by
 obtain⟨r,hr⟩:∃r,jst (bs9 T) (bs9 s)=r:=⟨_,rfl⟩;rw[hr];have HR:=Jh hr;clear hr;go_enter Tryz.func85,Tryz.ntmps85;go_wp2_with fail;go_loopw [8] (fun iv wr=>∃i:Nat,iv=.int .i64 i∧i≤s.size∧jst (bs9 T) ((bs9 s).take i)=true∧wr=w) (fun iv _=>s.size-(intOf iv).toNat)
 case atStart=>exact⟨0,rfl,Nat.zero_le _,rfl,rfl⟩
 case round=>
  obtain⟨i,rfl,hi,hj,rfl⟩:=hrel;have HJ:=Jh hj;clear hj;rcases Nat.lt_or_ge i s.size with hlt|hge
  ·obtain⟨x,hx⟩:∃x,x=(s[i]'hlt).toNat:=⟨_,rfl⟩
   have ex:((s[i]'hlt).toNat:Int)=(x:Int):=by rw[hx]
   have hx2:x<256:=by rw[hx];exact UInt8.toNat_lt _
   have HX:Hid ((bs9 s)[i]?=some x):=by show _=_;rw[bs9_at s i hlt,hx]
   clear hx;obtain⟨z,hz,hc⟩:=idx_is T hx2 wr;have HC:=Jh hc;clear hc;rcases hz with⟨h1,k,rfl⟩|⟨h1,rfl⟩
   ·have HJ2:Hid (jst (bs9 T) ((bs9 s).take (i+1))=true):=all_step HX.out HJ.out h1
    clear h1;go_wp2_with fail;refine HC.out.mono ?_;rintro e w1 ⟨rfl,rfl⟩;go_wp2_with fail;go_roundw
    case rel=>exact⟨i+1,by go_num,by omega,HJ2.out,trivial⟩
    case measure=>simp[intOf]<;>omega
   ·have E:Hid (r=false):=by show _=_;rw[← HR.out];exact all_no HX.out h1
    clear h1;go_wp2_with fail;refine HC.out.mono ?_;rintro e w1 ⟨rfl,rfl⟩;go_wp2_with fail;go_ret;exact⟨rb9 E.out.symm,rfl⟩
  ·have E:Hid (r=true):=by show _=_;rw[← HR.out];exact all_end (by rw[bs9_len];omega) HJ.out
   go_wp2_with fail;go_ret;exact⟨rb9 E.out.symm,rfl⟩
theorem just_is{s T:ByteArray}{w:World}{f:Nat→Bool}{b:Bool}(hT:((List.range 256).all fun c=>(bs9 T).contains c == f c)=true)(h:(bs9 s).all f=b)(hs:s.size≤1000000) :
  Calls Tryz.prog 85 #[.string s,.string T] w (fun e w'=>e=.returned (.bool b)∧w'=w):=by
 have:=just_any s T w hs;rw[jst_of hT (bs9_lt s),h] at this;exact this
def prtC(c:Nat):Bool:=upB c||dgB c||lwB c||c == 45
def curC(c:Nat):Bool:=upB c||dgB c||c == 39||c == 46||c == 95||c == 45
def tagC(c:Nat):Bool:=upB c||lwB c||dgB c||c == 45||c == 95||c == 47||c == 46
def keyC(c:Nat):Bool:=upB c||lwB c||dgB c||c == 45||c == 95
def ud(c:Nat):Bool:=upB c||dgB c
def prtB(l:List Nat):Bool := !l.isEmpty&&ud (l.headD 0)&&l.all prtC
def curB(l:List Nat):Bool := !l.isEmpty&&decide (l.length≤24)&&upB (l.headD 0)&&l.all curC&&ud (l.getLastD 0)
def tagB(l:List Nat):Bool := !l.isEmpty&&l.all tagC
def keyB(l:List Nat):Bool := !l.isEmpty&&lwB (l.headD 0)&&l.all keyC
theorem fst_of{s:ByteArray}(h:0<s.size):(bs9 s).isEmpty=false∧(bs9 s).headD 0=(s[0]'h).toNat∧bs9 (s.extract 0 1)=[(s[0]'h).toNat]:=by
 have e:=bs9_get s 0 h;rw[List.drop_zero] at e;rw[bs9_take,e];exact⟨rfl,rfl,rfl⟩
theorem lst_of{s:ByteArray}{m:Nat}(h:m<s.size)(hm:m+1=s.size):(bs9 s).getLastD 0=(s[m]'h).toNat∧bs9 (s.extract m s.size)=[(s[m]'h).toNat]:=by
 have e:=bs9_get s m h;rw[List.drop_of_length_le (show(bs9 s).length≤m+1 by rw[bs9_len];omega)] at e;rw[bs9_drop,e];refine⟨?_,rfl⟩;rw[List.getLastD_eq_getLast?,List.getLast?_eq_getElem?,bs9_len,← hm,Nat.add_sub_cancel,bs9_at s m h];rfl
theorem sl_one{s X:ByteArray}(h:1≤s.size)(hX:s.extract 0 1=X)(w':World):(Instr.slice 9 (.string s) none (some (.int .i64 1)) none).run Tryz.prog w'=.ok (.string X) w':=sl_to (i:=1) h hX w'
theorem all_one{X:ByteArray}{x:Nat}{f:Nat→Bool}{b:Bool}(h:bs9 X=[x])(h2:f x=b):(bs9 X).all f=b:=by rw[h,List.all_cons,h2];cases b<;>rfl
theorem size_one{X:ByteArray}{x:Nat}(h:bs9 X=[x]):X.size≤1000000:=by rw[← bs9_len,h,List.length_singleton];omega
theorem ispart_is{s:ByteArray}{b:Bool}(h:prtB (bs9 s)=b)(hs:s.size≤1000000)(w:World):Calls Tryz.prog 93 #[.string s] w (fun e w'=>e=.returned (.bool b)∧w'=w):=by
 have H:=Jh h;clear h;rcases Nat.eq_zero_or_pos s.size with h0|h0
 ·have d:=emp_yes h0
  have E:Hid (false=b):=by show _=_;rw[← H.out,nil_of h0];rfl
  go_enter Tryz.func93,Tryz.ntmps93;go_wp2_with fail;go_ret;exact⟨rb9 E.out,rfl⟩
 ·have d:=emp_not h0
  obtain⟨g1,g2,g3⟩:=fst_of h0;obtain⟨X,hX⟩:∃X,s.extract 0 1=X:=⟨_,rfl⟩;obtain⟨x,hx⟩:∃x,(s[0]'h0).toNat=x:=⟨_,rfl⟩;have hsl:∀w',(Instr.slice 9 (.string s) none (some (.int .i64 1)) none).run Tryz.prog w'=.ok (.string X) w':=sl_one h0 hX;rw[hX,hx] at g3;rw[hx] at g2;have G3:=Jh g3;have HB:Hid (b=(ud x&&(bs9 s).all prtC)):=by show _=_;rw[← H.out];unfold prtB;rw[g1,g2];rfl
  clear g1 g2 g3 hx hX;cases hc:ud x with
  | false=>
   have E:Hid (false=b):=by show _=_;rw[HB.out,hc];rfl
   have HC:=Jh hc;clear hc;go_enter Tryz.func93,Tryz.ntmps93;go_wp2_with fail;refine(just_is (f:=ud) (by decide +kernel) (all_one G3.out HC.out) (size_one G3.out)).mono ?_;rintro e w1 ⟨rfl,rfl⟩;go_wp2_with fail;go_ret;exact⟨rb9 E.out,rfl⟩
  | true=>
   have E:Hid ((bs9 s).all prtC=b):=by show _=_;rw[HB.out,hc];rfl
   have HC:=Jh hc;clear hc;go_enter Tryz.func93,Tryz.ntmps93;go_wp2_with fail;refine(just_is (f:=ud) (by decide +kernel) (all_one G3.out HC.out) (size_one G3.out)).mono ?_;rintro e w1 ⟨rfl,rfl⟩;go_wp2_with fail;refine(just_is (f:=prtC) (by decide +kernel) E.out hs).mono ?_;rintro e w1 ⟨rfl,rfl⟩;go_wp2_with fail;go_ret;exact⟨rfl,rfl⟩
theorem key_is{s:ByteArray}{b:Bool}(h:keyB (bs9 s)=b)(hs:s.size≤1000000)(w:World):Calls Tryz.prog 69 #[.string s] w (fun e w'=>e=.returned (.bool b)∧w'=w):=by
 have H:=Jh h;clear h;rcases Nat.eq_zero_or_pos s.size with h0|h0
 ·have d:=emp_yes h0
  have E:Hid (false=b):=by show _=_;rw[← H.out,nil_of h0];rfl
  go_enter Tryz.func69,Tryz.ntmps69;go_wp2_with fail;go_ret;exact⟨rb9 E.out,rfl⟩
 ·have d:=emp_not h0
  obtain⟨g1,g2,g3⟩:=fst_of h0;obtain⟨X,hX⟩:∃X,s.extract 0 1=X:=⟨_,rfl⟩;obtain⟨x,hx⟩:∃x,(s[0]'h0).toNat=x:=⟨_,rfl⟩;have hsl:∀w',(Instr.slice 9 (.string s) none (some (.int .i64 1)) none).run Tryz.prog w'=.ok (.string X) w':=sl_one h0 hX;rw[hX,hx] at g3;rw[hx] at g2;have G3:=Jh g3;have HB:Hid (b=(lwB x&&(bs9 s).all keyC)):=by show _=_;rw[← H.out];unfold keyB;rw[g1,g2];rfl
  clear g1 g2 g3 hx hX;cases hc:lwB x with
  | false=>
   have E:Hid (false=b):=by show _=_;rw[HB.out,hc];rfl
   have HC:=Jh hc;clear hc;go_enter Tryz.func69,Tryz.ntmps69;go_wp2_with fail;refine(just_is (f:=lwB) (by decide +kernel) (all_one G3.out HC.out) (size_one G3.out)).mono ?_;rintro e w1 ⟨rfl,rfl⟩;go_wp2_with fail;go_ret;exact⟨rb9 E.out,rfl⟩
  | true=>
   have E:Hid ((bs9 s).all keyC=b):=by show _=_;rw[HB.out,hc];rfl
   have HC:=Jh hc;clear hc;go_enter Tryz.func69,Tryz.ntmps69;go_wp2_with fail;refine(just_is (f:=lwB) (by decide +kernel) (all_one G3.out HC.out) (size_one G3.out)).mono ?_;rintro e w1 ⟨rfl,rfl⟩;go_wp2_with fail;refine(just_is (f:=keyC) (by decide +kernel) E.out hs).mono ?_;rintro e w1 ⟨rfl,rfl⟩;go_wp2_with fail;go_ret;exact⟨rfl,rfl⟩
theorem tag_is{s:ByteArray}{b:Bool}(h:tagB (bs9 s)=b)(hs:s.size≤1000000)(w:World):Calls Tryz.prog 63 #[.string s] w (fun e w'=>e=.returned (.bool b)∧w'=w):=by
 have H:=Jh h;clear h;rcases Nat.eq_zero_or_pos s.size with h0|h0
 ·have d:=emp_yes h0
  have E:Hid (false=b):=by show _=_;rw[← H.out,nil_of h0];rfl
  go_enter Tryz.func63,Tryz.ntmps63;go_wp2_with fail;go_ret;exact⟨rb9 E.out,rfl⟩
 ·have d:=emp_not h0
  have E:Hid ((bs9 s).all tagC=b):=by show _=_;rw[← H.out];unfold tagB;rw[(fst_of h0).1];rfl
  go_enter Tryz.func63,Tryz.ntmps63;go_wp2_with fail;refine(just_is (f:=tagC) (by decide +kernel) E.out hs).mono ?_;rintro e w1 ⟨rfl,rfl⟩;go_wp2_with fail;go_ret;exact⟨rfl,rfl⟩
theorem currency_is{s:ByteArray}{b:Bool}(h:curB (bs9 s)=b)(hs:s.size≤1000000)(w:World):Calls Tryz.prog 68 #[.string s] w (fun e w'=>e=.returned (.bool b)∧w'=w):=by
  have H:=Jh h;clear h;rcases Nat.eq_zero_or_pos s.size with h0|h0
  · have d:=str_emp h0
    have E:Hid (false=b):=by show _=_;rw[← H.out,nil_of h0];rfl
    go_enter Tryz.func68,Tryz.ntmps68;go_wp2_with fail;go_ret;exact⟨rb9 E.out,rfl⟩
  have d:=str_ne h0;rcases Nat.lt_or_ge 24 s.size with h24|h24
  · have E:Hid (false=b):=by show _=_;rw[← H.out];unfold curB;rw[(fst_of h0).1,bs9_len,decide_eq_false (by omega)];rfl
    have d2:decide ((24:Int)<(s.size:Int))=true:=decide_eq_true (by omega);go_enter Tryz.func68,Tryz.ntmps68;go_wp2_with fail;go_ret;exact⟨rb9 E.out,rfl⟩
  · have d2:decide ((24:Int)<(s.size:Int))=false:=decide_eq_false (by omega)
    obtain⟨g1,g2,g3⟩:=fst_of h0;obtain⟨m,hm⟩:∃m,m+1=s.size:=⟨s.size-1,by omega⟩;have em:(s.size:Int)-1=(m:Int):=by omega
    have hms:m<s.size:=by omega
    obtain⟨m1,m2⟩:=lst_of hms hm;obtain⟨X,hX⟩:∃X,s.extract 0 1=X:=⟨_,rfl⟩;obtain⟨Y,hY⟩:∃Y,s.extract m s.size=Y:=⟨_,rfl⟩;obtain⟨x,hx⟩:∃x,(s[0]'h0).toNat=x:=⟨_,rfl⟩;obtain⟨y,hy⟩:∃y,(s[m]'hms).toNat=y:=⟨_,rfl⟩;have hsl:∀w',(Instr.slice 9 (.string s) none (some (.int .i64 1)) none).run Tryz.prog w'=.ok (.string X) w':=sl_one h0 hX;have hsl2:∀w',(Instr.slice 9 (.string s) (some (.int .i64 (m:Int))) none none).run Tryz.prog w'=.ok (.string Y) w':=sl_from (Nat.le_of_lt hms) hY;rw[hX,hx] at g3;rw[hx] at g2;rw[hY,hy] at m2;rw[hy] at m1;have G3:=Jh g3;have M3:=Jh m2;have HB:Hid (b=(upB x&&(bs9 s).all curC&&ud y)):=by show _=_;rw[← H.out];unfold curB;rw[g1,g2,m1,bs9_len,decide_eq_true (by omega)];rfl
    clear g1 g2 g3 hx hX m1 m2 hY hy;cases hc:upB x with
    | false=>
      have E:Hid (false=b):=by show _=_;rw[HB.out,hc];rfl
      have HC:=Jh hc;clear hc;go_enter Tryz.func68,Tryz.ntmps68;go_wp2_with fail;refine(just_is (f:=upB) (by decide +kernel) (all_one G3.out HC.out) (size_one G3.out)).mono ?_;rintro e w1 ⟨rfl,rfl⟩;go_wp2_with fail;go_ret;exact⟨rb9 E.out,rfl⟩
    | true=>
     cases hc2:(bs9 s).all curC with
     | false=>
      have E:Hid (false=b):=by show _=_;rw[HB.out,hc,hc2];rfl
      have HC:=Jh hc;have HC2:=Jh hc2;clear hc hc2;go_enter Tryz.func68,Tryz.ntmps68;go_wp2_with fail;refine(just_is (f:=upB) (by decide +kernel) (all_one G3.out HC.out) (size_one G3.out)).mono ?_;rintro e w1 ⟨rfl,rfl⟩;go_wp2_with fail;refine(just_is (f:=curC) (by decide +kernel) HC2.out hs).mono ?_;rintro e w1 ⟨rfl,rfl⟩;go_wp2_with fail;go_ret;exact⟨rb9 E.out,rfl⟩
     | true=>
      have E:Hid (ud y=b):=by show _=_;rw[HB.out,hc,hc2];rfl
      have HC:=Jh hc;have HC2:=Jh hc2;clear hc hc2;go_enter Tryz.func68,Tryz.ntmps68;go_wp2_with fail;refine(just_is (f:=upB) (by decide +kernel) (all_one G3.out HC.out) (size_one G3.out)).mono ?_;rintro e w1 ⟨rfl,rfl⟩;go_wp2_with fail;refine(just_is (f:=curC) (by decide +kernel) HC2.out hs).mono ?_;rintro e w1 ⟨rfl,rfl⟩;go_wp2_with fail;refine(just_is (f:=ud) (by decide +kernel) (all_one M3.out E.out) (size_one M3.out)).mono ?_;rintro e w1 ⟨rfl,rfl⟩;go_wp2_with fail;go_ret;exact⟨rfl,rfl⟩
theorem bs9_mk(l:List UInt8):bs9 (⟨l.toArray⟩:ByteArray)=l.map UInt8.toNat:=rfl
theorem u8_58{c:UInt8}:(c == 58)=(c.toNat == 58):=by
 rw[Bool.eq_iff_iff,beq_iff_eq,beq_iff_eq];constructor
 ·rintro rfl;rfl
 ·intro h;exact UInt8.toNat_inj.1 h
theorem index_58(l:List UInt8):(58∉l.map UInt8.toNat∧Lib.index l [58] = -1)∨(58∈l.map UInt8.toNat∧Lib.index l [58]=((hdc (l.map UInt8.toNat)).length:Nat)):=by
 induction l with
 | nil=>exact .inl ⟨List.not_mem_nil,rfl⟩
 | cons b l ih=>
  have hp:([58]:List UInt8).isPrefixOf (b::l)=(b == 58):=by
   show((58:UInt8) == b&&List.isPrefixOf [] l)=_;rw[List.isPrefixOf_nil_left,Bool.and_true,Bool.eq_iff_iff,beq_iff_eq,beq_iff_eq];exact eq_comm
  rw[Lib.index,hp,List.map_cons,hdc,u8_58];by_cases h:b.toNat=58
  ·rw[if_pos (by simpa using h),if_pos h]
   exact .inr ⟨by rw[h];exact List.mem_cons_self,rfl⟩
  ·rw[if_neg (by simpa using h),if_neg h]
   rcases ih with⟨h1,h2⟩|⟨h1,h2⟩
   ·refine .inl ⟨fun e=>?_,by rw[h2];rfl⟩
    rcases List.mem_cons.1 e with e|e
    ·exact h e.symm
    ·exact h1 e
   ·refine .inr ⟨List.mem_cons_of_mem _ h1,?_⟩
    rw[h2,if_neg (by rw[beq_iff_eq];omega),List.length_cons];omega
def bdc(l:List Nat):List Nat:=l.drop ((hdc l).length+1)
theorem hdc_take{l:List Nat}(h:58∈l):hdc l=l.take (hdc l).length:=by
 rcases colon_or l with g|⟨x,u,rfl,g⟩
 ·exact absurd h g
 ·rw[hdc_at g,List.take_left'];rfl
theorem hdc_bdc{l:List Nat}(h:58∈l):l=hdc l++58::bdc l:=by
 unfold bdc;rcases colon_or l with g|⟨x,u,rfl,g⟩
 ·exact absurd h g
 ·rw[hdc_at g,show x++58::u=(x++[58])++u by simp,List.drop_left' (by simp)]
  simp
theorem hdc_not(l:List Nat):58∉hdc l:=by
 rcases colon_or l with g|⟨x,u,rfl,g⟩
 ·rw[hdc_no g];exact g
 ·rw[hdc_at g];exact g
theorem prt_cut{l:List Nat}(h:58∈l):prt l=hdc l::prt (bdc l):=by
 conv=>lhs;rw[hdc_bdc h]
 rw[prt_at (hdc_not l)]
def MaxLen(w:World):Prop:=∃m,w.cell? ⟨2,0,none⟩=some (.int .i64 m)
theorem MaxLen.on{w w':World}(h:MaxLen w)(hb:Below w.heap.size w w'):MaxLen w':=by
 obtain⟨m,hm⟩:=h;have hlt:2<w.heap.size:=World.block_lt_of_cell? w _ hm;exact⟨m,(hb.cell (p:=⟨2,0,none⟩) hlt).trans hm⟩
theorem cut_yes{s X Y:ByteArray}{w:World}(hs:s.size≤1000000)(hm:MaxLen w)(h:58∈bs9 s)(hX:bs9 X=hdc (bs9 s))(hY:bs9 Y=bdc (bs9 s)):Calls Tryz.prog 89 #[.string s,.string ⟨#[58]⟩] w (Ret9 w (.tuple #[.string X,.string Y,.bool true])):=by
 obtain⟨m,hm⟩:=hm;refine(Tryz.strings_Cut s ⟨#[58]⟩ m w (by omega) hm).mono ?_;rintro e w' ⟨he,n,rfl⟩;refine⟨?_,below_drewN _ _⟩;rcases index_58 s.data.toList with⟨h1,_⟩|⟨_,h2⟩
 ·exact absurd h h1
 ·have e1:Lib.cut s.data.toList [58]=(s.data.toList.take (hdc (bs9 s)).length,s.data.toList.drop ((hdc (bs9 s)).length+1),true):=by
   unfold Lib.cut;rw[h2,if_pos (by omega),Int.toNat_natCast];rfl
  rw[he,show(⟨#[58]⟩:ByteArray).data.toList=[58] from rfl,e1];have eX:(⟨(s.data.toList.take (hdc (bs9 s)).length).toArray⟩:ByteArray)=X:=bs9_inj (by rw[bs9_mk,List.map_take,hX];exact(hdc_take h).symm);have eY:(⟨(s.data.toList.drop ((hdc (bs9 s)).length+1)).toArray⟩:ByteArray)=Y:=bs9_inj (by rw[bs9_mk,List.map_drop,hY];rfl);rw[eX,eY]
theorem cut_no{s:ByteArray}{w:World}(hs:s.size≤1000000)(hm:MaxLen w)(h:58∉bs9 s):Calls Tryz.prog 89 #[.string s,.string ⟨#[58]⟩] w (Ret9 w (.tuple #[.string s,.string ⟨#[]⟩,.bool false])):=by
 obtain⟨m,hm⟩:=hm;refine(Tryz.strings_Cut s ⟨#[58]⟩ m w (by omega) hm).mono ?_;rintro e w' ⟨he,n,rfl⟩;refine⟨?_,below_drewN _ _⟩;rcases index_58 s.data.toList with⟨_,h2⟩|⟨h1,_⟩
 ·have e1:Lib.cut s.data.toList [58]=(s.data.toList,[],false):=by
   unfold Lib.cut;rw[h2,if_neg (by decide)]
  rw[he,show(⟨#[58]⟩:ByteArray).data.toList=[58] from rfl,e1]
 ·exact absurd h1 h
theorem prefix_is{s p:ByteArray}{b:Bool}{w:World}(h:(∃u,bs9 s=bs9 p++u)↔b=true):Calls Tryz.prog 33 #[.string s,.string p] w (fun e w'=>e=.returned (.bool b)∧w'=w):=by
 refine(Tryz.strings_HasPrefix s p w).mono fun e w' ⟨he,hw⟩=>⟨?_,hw⟩
 rw[he];have:Lib.hasPrefix s.data.toList p.data.toList=b:=by
  unfold Lib.hasPrefix;rw[Bool.eq_iff_iff,List.isPrefixOf_iff_prefix,← h];constructor
  ·rintro⟨t,ht⟩
   exact⟨t.map UInt8.toNat,by unfold bs9;rw[← ht,List.map_append]⟩
  ·rintro⟨u,hu⟩
   have e:=congrArg (List.take p.data.toList.length) hu;unfold bs9 at e;rw[List.take_left' (by rw[List.length_map]),← List.map_take] at e;have inj:∀{x y:List UInt8},x.map UInt8.toNat=y.map UInt8.toNat→x=y:=by
    intro x;induction x with
    | nil=>intro y hy;cases y with
     | nil=>rfl
     | cons _ _=>cases hy
    | cons a x ih=>
     intro y hy;cases y with
     | nil=>cases hy
     | cons c y=>
      rw[List.map_cons,List.map_cons] at hy;obtain⟨g1,g2⟩:=List.cons.inj hy;rw[UInt8.toNat_inj.1 g1,ih g2]
   have e2:=inj e;have e3:=List.take_append_drop p.data.toList.length s.data.toList;rw[e2] at e3;exact⟨_,e3⟩
 rw[this]
end Go.Proofs.YtpbbolgnnegmlaaGreatDoor
