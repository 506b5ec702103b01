/- Lemmas of the proof: NamE, NamF, NamG, NamH, NamI, LexMath, LexMathB, LexMathC, LexA, LexB, LexC, LexD, LexMathD, LexM, LexN, LexE, LexEb, LexF, LexG, LexO, LexH, LexP, LexQ, LexI, LexJ, LexK, LexL. -/
import Derived.Test.YtpbbolgnnegmlaaGreatDoorAll31
import Derived.Lib.SplitLaws
import Derived.Test.YtpbbolgnnegmlaaGreatDoorAll01
import Derived.Test.YtpbbolgnnegmlaaGreatDoorAll30
set_option linter.unusedVariables false
set_option linter.unusedSimpArgs false
set_option maxRecDepth 100000
set_option maxHeartbeats 32000000
open Go.Lib renaming hid→Jh
namespace Go.Proofs.YtpbbolgnnegmlaaGreatDoor
open Go.RowKit
def row11(L:List (List Nat)):List Value:=L.map fun t=>.string (st9 t)
theorem row11_push(L:List (List Nat))(t:List Nat):row11 (L++[t])=row11 L++[.string (st9 t)]:=by unfold row11;rw[List.map_append];rfl
theorem info_txt:(Tryz.prog.info? 9).map (fun i=>(i.zero,i.size,i.bytes))=some (some (.string ⟨#[]⟩),1,16):=by kernel_rfl
theorem info_parts11{i:Option TypeInfo}{z:Value}{s b:Nat}(h:i.map (fun i=>(i.zero,i.size,i.bytes))=some (some z,s,b)):∃i0,i=some i0∧i0.zero=some z∧i0.size=s∧i0.bytes=b:=by
 cases i with
 | none=>cases h
 | some i0=>
  simp only[Option.map_some,Option.some.injEq,Prod.mk.injEq] at h
  exact⟨i0,rfl,h.1,h.2.1,h.2.2⟩
theorem zcells1:(Value.string ⟨#[]⟩).cells.size=1:=by simp[Value.cells]
def OwnP(w:World)(base:Nat)(v:Value)(L:List (List Nat)):Prop:=w.ownsRow base 9 1 v L.length (row11 L)
def RdP(w:World)(A:Option Addr)(n c:Nat)(L:List (List Nat)):Prop:=n=L.length∧n≤c∧c≤maxLen∧(L=[]∨∃b o,A=some ⟨b,o,none⟩∧b<w.heap.size∧∀j u,(row11 L)[j]?=some u→w.cell? ⟨b,o+j,none⟩=some u)
section
variable {w w':World}{base:Nat}{v:Value}{L:List (List Nat)}
theorem OwnP.start(w:World)(base:Nat):OwnP w base (.slice none 0 0) []:=World.ownsRow_nil _ _ _ _
theorem OwnP.on(h:OwnP w base v L)(hb:Below w.heap.size w w'):OwnP w' base v L:=World.ownsRow.kept h (grown10 hb) (by cases hv:v.ownBlock<;>simp)
theorem OwnP.slen(h:OwnP w base v L):∃A c,v=.slice A L.length c:=by
 rcases h.2 with⟨rfl,h0⟩|⟨g,cap,cur,rfl,_⟩
 ·have:L=[]:=List.eq_nil_of_length_eq_zero h0
  subst this;exact⟨none,0,rfl⟩
 ·exact⟨_,_,rfl⟩
theorem RdP.on{A:Option Addr}{n c:Nat}(h:RdP w A n c L)(hb:Below w.heap.size w w'):RdP w' A n c L:=by
 obtain⟨h1,h2,h3,h|⟨b,o,h4,h5,h6⟩⟩:=h
 ·exact⟨h1,h2,h3,.inl h⟩
 ·exact⟨h1,h2,h3,.inr ⟨b,o,h4,Nat.lt_of_lt_of_le h5 hb.size,fun j u hu=>(hb.cell (p:=⟨b,o+j,none⟩) h5).trans (h6 j u hu)⟩⟩
theorem OwnP.rd(h:OwnP w base v L):∃A c,v=.slice A L.length c∧RdP w A L.length c L:=by
 have hlt:=World.ownsRow.lt h;have hc:=fun g e=>World.ownsRow.cells h (g:=g) e
 rcases h.2 with⟨rfl,h0⟩|⟨g,cap,cur,rfl,hb,hg,h3,h4,_⟩
 ·have:L=[]:=List.eq_nil_of_length_eq_zero h0
  subst this;exact⟨none,0,rfl,rfl,Nat.le_refl _,Nat.zero_le _,.inl rfl⟩
 ·refine⟨_,_,rfl,rfl,h3,h4,.inr ⟨g,0,rfl,(hlt g rfl).2,fun j u hu=>?_⟩⟩
  have:=hc g rfl j u hu;rwa [Addr.add_lit] at this
theorem txt_new(X:ByteArray)(ty:TypeId):∀j u,([.string X]:List Value)[j]?=some u→(w.alloc (.cells #[.string X] ty)).cell? ((⟨w.heap.size,0,none⟩:Addr).add j)=some u:=by
 intro j u hu;rw[Addr.add_lit,cell_of_row _ w.heap.size _ _ ty (0,0) (heap_alloc_new w _),Nat.zero_add,← Array.getElem?_toList];simpa using hu
end
def rtl:List (List Nat):=[[65,115,115,101,116,115],
 [76,105,97,98,105,108,105,116,105,101,115],
 [69,113,117,105,116,121],
 [73,110,99,111,109,101],
 [69,120,112,101,110,115,101,115]]
def rotX(x:List Nat):Nat:=if x=[65,115,115,101,116,115] then 1 else if x=[76,105,97,98,105,108,105,116,105,101,115] then 2 else if x=[69,113,117,105,116,121] then 3 else if x=[73,110,99,111,109,101] then 4 else if x=[69,120,112,101,110,115,101,115] then 5 else 0
def rot(l:List Nat):Nat:=rotX (hdc l)
def NR(k:Nat)(x:List Nat):Prop:=∀j,j<k→rtl[j]?≠some x
theorem NR.next{k:Nat}{x y:List Nat}(h:NR k x)(h2:rtl[k]?=some y)(h3:x≠y):NR (k+1) x:=by
 intro j hj e;rcases Nat.lt_or_ge j k with h4|h4
 ·exact h j h4 e
 ·obtain rfl:j=k:=by omega
  rw[h2] at e;exact h3 (Option.some.inj e).symm
theorem NR.zero(x:List Nat):NR 0 x:=fun j hj=>absurd hj (Nat.not_lt_zero _)
theorem rotX_0{x:List Nat}(h:NR 0 x)(h2:x=[65,115,115,101,116,115]):rotX x=1:=by
 unfold rotX;rw[if_pos h2]
theorem rotX_1{x:List Nat}(h:NR 1 x)(h2:x=[76,105,97,98,105,108,105,116,105,101,115]):rotX x=2:=by
 have n0:x≠[65,115,115,101,116,115]:=fun e=>h 0 (by decide) (congrArg some e.symm)
 unfold rotX;rw[if_neg n0,if_pos h2]
theorem rotX_2{x:List Nat}(h:NR 2 x)(h2:x=[69,113,117,105,116,121]):rotX x=3:=by
 have n0:x≠[65,115,115,101,116,115]:=fun e=>h 0 (by decide) (congrArg some e.symm)
 have n1:x≠[76,105,97,98,105,108,105,116,105,101,115]:=fun e=>h 1 (by decide) (congrArg some e.symm)
 unfold rotX;rw[if_neg n0,if_neg n1,if_pos h2]
theorem rotX_3{x:List Nat}(h:NR 3 x)(h2:x=[73,110,99,111,109,101]):rotX x=4:=by
 have n0:x≠[65,115,115,101,116,115]:=fun e=>h 0 (by decide) (congrArg some e.symm)
 have n1:x≠[76,105,97,98,105,108,105,116,105,101,115]:=fun e=>h 1 (by decide) (congrArg some e.symm)
 have n2:x≠[69,113,117,105,116,121]:=fun e=>h 2 (by decide) (congrArg some e.symm)
 unfold rotX;rw[if_neg n0,if_neg n1,if_neg n2,if_pos h2]
theorem rotX_4{x:List Nat}(h:NR 4 x)(h2:x=[69,120,112,101,110,115,101,115]):rotX x=5:=by
 have n0:x≠[65,115,115,101,116,115]:=fun e=>h 0 (by decide) (congrArg some e.symm)
 have n1:x≠[76,105,97,98,105,108,105,116,105,101,115]:=fun e=>h 1 (by decide) (congrArg some e.symm)
 have n2:x≠[69,113,117,105,116,121]:=fun e=>h 2 (by decide) (congrArg some e.symm)
 have n3:x≠[73,110,99,111,109,101]:=fun e=>h 3 (by decide) (congrArg some e.symm)
 unfold rotX;rw[if_neg n0,if_neg n1,if_neg n2,if_neg n3,if_pos h2]
theorem rotX_5{x:List Nat}(h:NR 5 x):rotX x=0:=by
 have n0:x≠[65,115,115,101,116,115]:=fun e=>h 0 (by decide) (congrArg some e.symm)
 have n1:x≠[76,105,97,98,105,108,105,116,105,101,115]:=fun e=>h 1 (by decide) (congrArg some e.symm)
 have n2:x≠[69,113,117,105,116,121]:=fun e=>h 2 (by decide) (congrArg some e.symm)
 have n3:x≠[73,110,99,111,109,101]:=fun e=>h 3 (by decide) (congrArg some e.symm)
 have n4:x≠[69,120,112,101,110,115,101,115]:=fun e=>h 4 (by decide) (congrArg some e.symm)
 unfold rotX;rw[if_neg n0,if_neg n1,if_neg n2,if_neg n3,if_neg n4]
def Roots(w:World):Prop:=w.cell? ⟨0,0,none⟩=some (.string ⟨#[65,115,115,101,116,115]⟩)∧w.cell? ⟨0,1,none⟩=some (.string ⟨#[76,105,97,98,105,108,105,116,105,101,115]⟩)∧w.cell? ⟨0,2,none⟩=some (.string ⟨#[69,113,117,105,116,121]⟩)∧w.cell? ⟨0,3,none⟩=some (.string ⟨#[73,110,99,111,109,101]⟩)∧w.cell? ⟨0,4,none⟩=some (.string ⟨#[69,120,112,101,110,115,101,115]⟩)
theorem cell_on11{w w':World}{a:Addr}{u:Value}(h:w.cell? a=some u)(hb:Below w.heap.size w w'):w'.cell? a=some u:=(hb.cell (World.block_lt_of_cell? w _ h)).trans h
theorem Roots.on{w w':World}(h:Roots w)(hb:Below w.heap.size w w'):Roots w':=
 ⟨cell_on11 h.1 hb,cell_on11 h.2.1 hb,cell_on11 h.2.2.1 hb,cell_on11 h.2.2.2.1 hb,cell_on11 h.2.2.2.2 hb⟩
theorem arr11_0(w:World):(Instr.index 165 (.agg #[.string ⟨#[65,115,115,101,116,115]⟩,.string ⟨#[76,105,97,98,105,108,105,116,105,101,115]⟩,.string ⟨#[69,113,117,105,116,121]⟩,.string ⟨#[73,110,99,111,109,101]⟩,.string ⟨#[69,120,112,101,110,115,101,115]⟩]) (.int .i64 0)).run Tryz.prog w=.ok (.string ⟨#[65,115,115,101,116,115]⟩) w:=by kernel_rfl
theorem arr11_1(w:World):(Instr.index 165 (.agg #[.string ⟨#[65,115,115,101,116,115]⟩,.string ⟨#[76,105,97,98,105,108,105,116,105,101,115]⟩,.string ⟨#[69,113,117,105,116,121]⟩,.string ⟨#[73,110,99,111,109,101]⟩,.string ⟨#[69,120,112,101,110,115,101,115]⟩]) (.int .i64 1)).run Tryz.prog w=.ok (.string ⟨#[76,105,97,98,105,108,105,116,105,101,115]⟩) w:=by kernel_rfl
theorem arr11_2(w:World):(Instr.index 165 (.agg #[.string ⟨#[65,115,115,101,116,115]⟩,.string ⟨#[76,105,97,98,105,108,105,116,105,101,115]⟩,.string ⟨#[69,113,117,105,116,121]⟩,.string ⟨#[73,110,99,111,109,101]⟩,.string ⟨#[69,120,112,101,110,115,101,115]⟩]) (.int .i64 2)).run Tryz.prog w=.ok (.string ⟨#[69,113,117,105,116,121]⟩) w:=by kernel_rfl
theorem arr11_3(w:World):(Instr.index 165 (.agg #[.string ⟨#[65,115,115,101,116,115]⟩,.string ⟨#[76,105,97,98,105,108,105,116,105,101,115]⟩,.string ⟨#[69,113,117,105,116,121]⟩,.string ⟨#[73,110,99,111,109,101]⟩,.string ⟨#[69,120,112,101,110,115,101,115]⟩]) (.int .i64 3)).run Tryz.prog w=.ok (.string ⟨#[73,110,99,111,109,101]⟩) w:=by kernel_rfl
theorem arr11_4(w:World):(Instr.index 165 (.agg #[.string ⟨#[65,115,115,101,116,115]⟩,.string ⟨#[76,105,97,98,105,108,105,116,105,101,115]⟩,.string ⟨#[69,113,117,105,116,121]⟩,.string ⟨#[73,110,99,111,109,101]⟩,.string ⟨#[69,120,112,101,110,115,101,115]⟩]) (.int .i64 4)).run Tryz.prog w=.ok (.string ⟨#[69,120,112,101,110,115,101,115]⟩) w:=by kernel_rfl
theorem lit_yes{s:ByteArray}{l:List UInt8}(h:bs9 s=l.map UInt8.toNat):(s.toList == l)=true:=by
 have:s=⟨l.toArray⟩:=bs9_inj (h.trans (bs9_mk l).symm);rw[this,ByteArray.toList_eq,beq_iff_eq]
theorem lit_not{s:ByteArray}{l:List UInt8}(h:bs9 s≠l.map UInt8.toNat):(s.toList == l)=false:=by
 rw[beq_eq_false_iff_ne,ByteArray.toList_eq];intro e;exact h (by unfold bs9;rw[e])
theorem cut_any(s:ByteArray)(hs:s.size≤1000000):∃(X Y:ByteArray) (b:Bool),bs9 X=hdc (bs9 s)∧(58∈bs9 s↔b=true)∧(b=true→bs9 Y=bdc (bs9 s)∧Y.size<s.size)∧(b=false→Y.size=0)∧X.size≤s.size∧
  ∀w,MaxLen w→Calls Tryz.prog 89 #[.string s,.string ⟨#[58]⟩] w (Ret9 w (.tuple #[.string X,.string Y,.bool b])):=by
 have hx:∀{l:List Nat},(∀c∈l,c∈bs9 s)→∀c∈l,c<256:=fun h c hc=>bs9_lt s c (h c hc)
 by_cases h:58∈bs9 s
 ·have e:=hdc_bdc h
  have eX:bs9 (st9 (hdc (bs9 s)))=hdc (bs9 s):=bs9_st9 (hx fun c hc=>by rw[e];exact List.mem_append_left _ hc);have eY:bs9 (st9 (bdc (bs9 s)))=bdc (bs9 s):=bs9_st9 (hx fun c hc=>by rw[e];exact List.mem_append_right _ (List.mem_cons_of_mem _ hc));have hl:=congrArg List.length e;rw[List.length_append,List.length_cons,bs9_len] at hl;exact⟨st9 (hdc (bs9 s)),st9 (bdc (bs9 s)),true,eX,⟨fun _=>rfl,fun _=>h⟩,fun _=>⟨eY,by rw[← bs9_len (st9 _),eY];omega⟩,fun e=>(by cases e),by rw[← bs9_len (st9 _),eX];omega,fun w hm=>cut_yes hs hm h eX eY⟩
 ·exact⟨s,⟨#[]⟩,false,by rw[hdc_no h],⟨fun e=>absurd e h,fun e=>(by cases e)⟩,fun e=>(by cases e),fun _=>rfl,Nat.le_refl _,fun w hm=>cut_no hs hm h⟩
theorem root_is{s:ByteArray}{z:Nat}(h:rot (bs9 s)=z)(hs:s.size≤1000000){w:World}(hm:MaxLen w)(hr:Roots w):Calls Tryz.prog 92 #[.string s] w (Ret9 w (.int .i64 (z:Int))):=by
 obtain⟨X,Y,m,hX,_,_,_,_,hcut⟩:=cut_any s hs;have HZ:Hid (rotX (bs9 X)=z):=by show _=_;rw[hX];exact h
 have HC:Hid (Calls Tryz.prog 89 #[.string s,.string ⟨#[58]⟩] w (Ret9 w (.tuple #[.string X,.string Y,.bool m]))):=hcut w hm;have HR:=Jh hr;clear h hX hcut hm hr;go_enter Tryz.func92,Tryz.ntmps92;go_wp2_with fail;refine HC.out.mono ?_;rintro e w1 ⟨rfl,hb⟩;obtain⟨c0,c1,c2,c3,c4⟩:=HR.out.on hb;have HB:=Jh hb;clear hb;go_wp2_with fail;clear c0 c1 c2 c3 c4;go_loopw [15] (fun kv wr=>∃(y:Int) (k:Nat),kv=.int .i64 y∧y=(k:Int)∧k≤5∧NR k (bs9 X)∧wr=w1) (fun kv _=>5-(intOf kv).toNat)
 case atStart=>exact⟨0,0,rfl,rfl,by decide,NR.zero _,rfl⟩
 case round=>
  obtain⟨y,k,rfl,hy,hk,hn,rfl⟩:=hrel;have HN:=Jh hn;clear hn;obtain rfl|rfl|rfl|rfl|rfl|rfl:k=0∨k=1∨k=2∨k=3∨k=4∨k=5:=by omega
  ·obtain rfl:y=0:=hy
   have ha:=arr11_0;by_cases hx:bs9 X=[65,115,115,101,116,115]
   ·have d:(X.toList == ([65,115,115,101,116,115]:List UInt8))=true:=lit_yes hx
    have E:Hid (z=1):=by show _=_;rw[← HZ.out];exact rotX_0 HN.out hx
    clear hx hk;go_wp2_with fail;go_ret;exact⟨by rw[E.out];rfl,HB.out⟩
   ·have d:(X.toList == ([65,115,115,101,116,115]:List UInt8))=false:=lit_not hx
    have E:Hid (NR 1 (bs9 X)):=HN.out.next rfl hx;clear hx hk;go_wp2_with fail;go_roundw
    case rel=>exact⟨_,1,rfl,rfl,by decide,E.out,trivial⟩
    case measure=>simp[intOf]
  ·obtain rfl:y=1:=hy
   have ha:=arr11_1;by_cases hx:bs9 X=[76,105,97,98,105,108,105,116,105,101,115]
   ·have d:(X.toList == ([76,105,97,98,105,108,105,116,105,101,115]:List UInt8))=true:=lit_yes hx
    have E:Hid (z=2):=by show _=_;rw[← HZ.out];exact rotX_1 HN.out hx
    clear hx hk;go_wp2_with fail;go_ret;exact⟨by rw[E.out];rfl,HB.out⟩
   ·have d:(X.toList == ([76,105,97,98,105,108,105,116,105,101,115]:List UInt8))=false:=lit_not hx
    have E:Hid (NR 2 (bs9 X)):=HN.out.next rfl hx;clear hx hk;go_wp2_with fail;go_roundw
    case rel=>exact⟨_,2,rfl,rfl,by decide,E.out,trivial⟩
    case measure=>simp[intOf]
  ·obtain rfl:y=2:=hy
   have ha:=arr11_2;by_cases hx:bs9 X=[69,113,117,105,116,121]
   ·have d:(X.toList == ([69,113,117,105,116,121]:List UInt8))=true:=lit_yes hx
    have E:Hid (z=3):=by show _=_;rw[← HZ.out];exact rotX_2 HN.out hx
    clear hx hk;go_wp2_with fail;go_ret;exact⟨by rw[E.out];rfl,HB.out⟩
   ·have d:(X.toList == ([69,113,117,105,116,121]:List UInt8))=false:=lit_not hx
    have E:Hid (NR 3 (bs9 X)):=HN.out.next rfl hx;clear hx hk;go_wp2_with fail;go_roundw
    case rel=>exact⟨_,3,rfl,rfl,by decide,E.out,trivial⟩
    case measure=>simp[intOf]
  ·obtain rfl:y=3:=hy
   have ha:=arr11_3;by_cases hx:bs9 X=[73,110,99,111,109,101]
   ·have d:(X.toList == ([73,110,99,111,109,101]:List UInt8))=true:=lit_yes hx
    have E:Hid (z=4):=by show _=_;rw[← HZ.out];exact rotX_3 HN.out hx
    clear hx hk;go_wp2_with fail;go_ret;exact⟨by rw[E.out];rfl,HB.out⟩
   ·have d:(X.toList == ([73,110,99,111,109,101]:List UInt8))=false:=lit_not hx
    have E:Hid (NR 4 (bs9 X)):=HN.out.next rfl hx;clear hx hk;go_wp2_with fail;go_roundw
    case rel=>exact⟨_,4,rfl,rfl,by decide,E.out,trivial⟩
    case measure=>simp[intOf]
  ·obtain rfl:y=4:=hy
   have ha:=arr11_4;by_cases hx:bs9 X=[69,120,112,101,110,115,101,115]
   ·have d:(X.toList == ([69,120,112,101,110,115,101,115]:List UInt8))=true:=lit_yes hx
    have E:Hid (z=5):=by show _=_;rw[← HZ.out];exact rotX_4 HN.out hx
    clear hx hk;go_wp2_with fail;go_ret;exact⟨by rw[E.out];rfl,HB.out⟩
   ·have d:(X.toList == ([69,120,112,101,110,115,101,115]:List UInt8))=false:=lit_not hx
    have E:Hid (NR 5 (bs9 X)):=HN.out.next rfl hx;clear hx hk;go_wp2_with fail;go_roundw
    case rel=>exact⟨_,5,rfl,rfl,by decide,E.out,trivial⟩
    case measure=>simp[intOf]
  ·obtain rfl:y=5:=hy
   have E:Hid (z=0):=by show _=_;rw[← HZ.out];exact rotX_5 HN.out
   clear hk;go_wp2_with fail;go_ret;exact⟨by rw[E.out];rfl,HB.out⟩
def accB(l:List Nat):Bool := !(rot l == 0)&&decide (58∈l)&&(prt l).tail.all prtB
def acM:Value→Value→Nat
 | .string r,.bool m=>r.size+m.toNat
 | _,_=>0
theorem acM_eq(R:ByteArray)(m:Bool):acM (.string R) (.bool m)=R.size+m.toNat:=rfl
theorem account_is{s:ByteArray}{r:Bool}(h:accB (bs9 s)=r)(hs:s.size≤1000000){w:World}(hm:MaxLen w)(hr:Roots w):Calls Tryz.prog 67 #[.string s] w (Ret9 w (.bool r)):=by
 obtain⟨X,Y,m,hX,hm1,hm2,hm3,hXs,hcut⟩:=cut_any s hs;obtain⟨z,hz⟩:∃z,rot (bs9 s)=z:=⟨_,rfl⟩;have HZ:=Jh hz;have HC:Hid (Calls Tryz.prog 89 #[.string s,.string ⟨#[58]⟩] w (Ret9 w (.tuple #[.string X,.string Y,.bool m]))):=hcut w hm;have HM:=Jh hm;have HR:=Jh hr;have H:=Jh h;clear h hX hcut hm hr hXs hm3;rcases Nat.eq_zero_or_pos z with z0|z0
 ·have d:((z:Int) == 0)=true:=by rw[z0];rfl
  have E:Hid (r=false):=by show _=_;rw[← H.out];unfold accB;rw[hz,z0];rfl
  clear hz z0 hm1 hm2;go_enter Tryz.func67,Tryz.ntmps67;go_wp2_with fail;refine HC.out.mono ?_;rintro e w1 ⟨rfl,hb⟩;go_wp2_with fail;refine(root_is HZ.out hs (HM.out.on hb) (HR.out.on hb)).mono ?_;rintro e w2 ⟨rfl,hb2⟩;replace HB:=Jh (hb.trans (hb2.mono hb.size));clear hb hb2;go_wp2_with fail;go_ret;exact⟨rb9 E.out.symm,HB.out⟩
 have d:((z:Int) == 0)=false:=by rw[beq_eq_false_iff_ne];omega
 cases m with
 | false=>
  have E:Hid (r=false):=by
   show _=_;rw[← H.out];unfold accB;rw[decide_eq_false (fun e=>by have:=hm1.1 e;cases this),Bool.and_false];rfl
  clear hz z0 hm1 hm2;go_enter Tryz.func67,Tryz.ntmps67;go_wp2_with fail;refine HC.out.mono ?_;rintro e w1 ⟨rfl,hb⟩;go_wp2_with fail;refine(root_is HZ.out hs (HM.out.on hb) (HR.out.on hb)).mono ?_;rintro e w2 ⟨rfl,hb2⟩;replace HB:=Jh (hb.trans (hb2.mono hb.size));clear hb hb2;go_wp2_with fail;go_ret;exact⟨rb9 E.out.symm,HB.out⟩
 | true=>
  obtain⟨hY,hYs⟩:=hm2 rfl;have hmem:58∈bs9 s:=hm1.2 rfl;have E0:Hid (r=(prt (bs9 Y)).all prtB):=by
   show _=_;rw[← H.out];unfold accB;rw[hz,show(z == 0)=false by rw[beq_eq_false_iff_ne];omega,decide_eq_true hmem,prt_cut hmem,hY];rfl
  have hYs':Y.size≤1000000:=by omega
  clear hz z0 hm1 hm2 hY hYs hmem;go_enter Tryz.func67,Tryz.ntmps67;go_wp2_with fail;refine HC.out.mono ?_;rintro e w1 ⟨rfl,hb⟩;go_wp2_with fail;refine(root_is HZ.out hs (HM.out.on hb) (HR.out.on hb)).mono ?_;rintro e w2 ⟨rfl,hb2⟩;have HB0:=Jh (hb.trans (hb2.mono hb.size));clear hb hb2;go_wp2_with fail;go_loopw [4,5] (fun rv mv wr=>∃(R:ByteArray) (m:Bool),rv=.string R∧mv=.bool m∧R.size≤1000000∧((m=true∧r=(prt (bs9 R)).all prtB)∨(m=false∧r=true))∧Below w.heap.size w wr) (fun rv mv _=>acM rv mv)
  case atStart=>exact⟨Y,true,rfl,rfl,hYs',.inl ⟨rfl,E0.out⟩,HB0.out⟩
  case round=>
   obtain⟨R,m,rfl,rfl,hR,hst,hb⟩:=hrel;have HB:=Jh hb;clear hb HC E0;rcases hst with⟨rfl,hst⟩|⟨rfl,hst⟩
   ·obtain⟨P,T,m2,hP,hn1,hn2,hn3,hPs,hcut⟩:=cut_any R hR
    have HC2:Hid (Calls Tryz.prog 89 #[.string R,.string ⟨#[58]⟩] wr (Ret9 wr (.tuple #[.string P,.string T,.bool m2]))):=hcut wr (HM.out.on HB.out);clear hcut;obtain⟨b,hbp⟩:∃b,prtB (bs9 P)=b:=⟨_,rfl⟩;have HBP:=Jh hbp;have hP6:P.size≤1000000:=by omega
    have hT6:T.size≤1000000:=by
     cases m2 with
     | true=>have:=(hn2 rfl).2;omega
     | false=>have:=hn3 rfl;omega
    have hms:T.size+m2.toNat<R.size+1:=by
     cases m2 with
     | true=>have:=(hn2 rfl).2;show T.size+1<_;omega
     | false=>have:=hn3 rfl;show T.size+0<_;omega
    have HE:Hid (prtB (hdc (bs9 R))=b):=by show _=_;rw[← hP];exact hbp
    cases b with
    | false=>
     have E:Hid (r=false):=by
      show _=_;rw[hst];exact all_no (i:=0) (by rw[← List.head?_eq_getElem?,prt_head]) HE.out
     clear hst hn1 hn2 hn3 hbp hP;go_wp2_with fail;refine HC2.out.mono ?_;rintro e w3 ⟨rfl,hb⟩;replace HB:=Jh (HB.out.trans (hb.mono HB.out.size));clear hb;go_wp2_with fail;refine(ispart_is HBP.out hP6 _).mono ?_;rintro e w4 ⟨rfl,rfl⟩;go_wp2_with fail;go_ret;exact⟨rb9 E.out.symm,HB.out⟩
    | true=>
     have E:Hid ((m2=true∧r=(prt (bs9 T)).all prtB)∨(m2=false∧r=true)):=by
      show _∨_;cases m2 with
      | true=>
       refine .inl ⟨rfl,?_⟩;rw[hst,prt_cut (hn1.2 rfl),List.all_cons,HE.out,(hn2 rfl).1];rfl
      | false=>
       refine .inr ⟨rfl,?_⟩;have hno:58∉bs9 R:=fun e=>by have:=hn1.1 e;cases this
       have he:=HE.out;rw[hdc_no hno] at he;rw[hst,prt_no hno,List.all_cons,he];rfl
     have HMS:=Jh hms;clear hst hn1 hn2 hn3 hbp hP hms;go_wp2_with fail;refine HC2.out.mono ?_;rintro e w3 ⟨rfl,hb⟩;replace HB:=Jh (HB.out.trans (hb.mono HB.out.size));clear hb;go_wp2_with fail;refine(ispart_is HBP.out hP6 _).mono ?_;rintro e w4 ⟨rfl,hw⟩;obtain rfl:=hw.symm;go_wp2_with fail;go_roundw
     case rel=>exact⟨T,m2,rfl,rfl,hT6,E.out,HB.out⟩
     case measure=>rw[acM_eq,acM_eq];exact HMS.out
   ·have E:=Jh hst
    clear hst;go_wp2_with fail;go_ret;exact⟨rb9 E.out.symm,HB.out⟩
end Go.Proofs.YtpbbolgnnegmlaaGreatDoor
namespace Go.Proofs.YtpbbolgnnegmlaaGreatDoor
def esc(b:Nat):List Nat:=if b=34 then [92,34] else if b=92 then [92,92] else if b=10 then [92,110] else if b=9 then [92,116] else [b]
def qtb(s:List Nat):List Nat:=s.flatMap esc
def qt(s:List Nat):List Nat:=34::(qtb s++[34])
def pre(k b:Nat):Nat⊕(List Nat×Nat)→Nat⊕(List Nat×Nat)
 | .inl e=>.inl e
 | .inr (o,n)=>.inr (b::o,n+k)
def une(c:Nat):Option Nat:=if c=34 then some 34 else if c=92 then some 92 else if c=110 then some 10 else if c=116 then some 9 else none
def uqg:List Nat→Nat⊕(List Nat×Nat)
 | []=>.inl 2
 | [b]=>if b=34 then .inr ([],1) else .inl 2
 | b::c::u=>if b=34 then .inr ([],1) else if b=92 then (une c).elim (.inl 3) (fun d=>pre 2 d (uqg u)) else pre 1 b (uqg (c::u))
theorem uqg_end(t:List Nat):uqg (34::t)=.inr ([],1):=by
 cases t with
 | nil=>rw[uqg,if_pos rfl]
 | cons c u=>rw[uqg,if_pos rfl]
theorem uqg_esc{c d:Nat}(h:une c=some d)(u:List Nat):uqg (92::c::u)=pre 2 d (uqg u):=by
 rw[uqg,if_neg (by decide),if_pos rfl,h];rfl
theorem uqg_none{c:Nat}(h:une c=none)(u:List Nat):uqg (92::c::u)=.inl 3:=by
 rw[uqg,if_neg (by decide),if_pos rfl,h];rfl
theorem uqg_byte{b:Nat}(h:b≠34)(h2:b≠92)(t:List Nat):uqg (b::t)=pre 1 b (uqg t):=by
 cases t with
 | nil=>show uqg [b]=.inl 2;rw[uqg,if_neg h]
 | cons c u=>rw[uqg,if_neg h,if_neg h2]
theorem uqg_step(b:Nat)(u:List Nat):uqg (esc b++u)=pre (esc b).length b (uqg u):=by
 unfold esc;by_cases h1:b=34
 ·subst h1;rw[if_pos rfl];exact uqg_esc rfl u
 rw[if_neg h1];by_cases h2:b=92
 ·subst h2;rw[if_pos rfl];exact uqg_esc rfl u
 rw[if_neg h2];by_cases h3:b=10
 ·subst h3;rw[if_pos rfl];exact uqg_esc rfl u
 rw[if_neg h3];by_cases h4:b=9
 ·subst h4;rw[if_pos rfl];exact uqg_esc rfl u
 rw[if_neg h4];exact uqg_byte h1 h2 u
theorem qtb_cons(b:Nat)(s:List Nat):qtb (b::s)=esc b++qtb s:=rfl
theorem uqg_quote(s more:List Nat):uqg (qtb s++34::more)=.inr (s,(qtb s).length+1):=by
 induction s with
 | nil=>exact uqg_end more
 | cons b s ih=>
  rw[qtb_cons,List.append_assoc,uqg_step,ih];show Sum.inr (b::s,(qtb s).length+1+(esc b).length)=_;rw[List.length_append,Nat.add_right_comm,Nat.add_comm (esc b).length]
theorem uqg_bound:∀(k:Nat) {l o:List Nat}{n:Nat},l.length≤k→uqg l=.inr (o,n)→1≤n∧n≤l.length∧o.length+1≤n:=by
 intro k;induction k with
 | zero=>intro l o n hk h;rw[List.eq_nil_of_length_eq_zero (Nat.le_zero.1 hk),uqg] at h;cases h
 | succ k ih=>
  intro l o n hk h;cases l with
  | nil=>rw[uqg] at h;cases h
  | cons b t=>
   have hk2:t.length≤k:=by simpa using hk
   have one:∀{m d:Nat}{u:List Nat},u.length+m≤(b::t).length→1≤m→u.length≤k→pre m d (uqg u)=.inr (o,n)→1≤n∧n≤(b::t).length∧o.length+1≤n:=by
    intro m d u hm hm1 hu e;cases hq:uqg u with
    | inl x=>rw[hq] at e;cases e
    | inr p=>
     obtain⟨o',n'⟩:=p;rw[hq] at e;cases e
     have:=ih hu hq;simp only[List.length_cons] at *
     omega
   by_cases h34:b=34
   ·subst h34;rw[uqg_end] at h;cases h;exact⟨Nat.le_refl _,by simp,Nat.le_refl _⟩
   ·by_cases h92:b=92
    ·subst h92
     cases t with
     | nil=>rw[uqg,if_neg (by decide)] at h;cases h
     | cons c u=>
      cases hc:une c with
      | none=>rw[uqg_none hc] at h;cases h
      | some d=>rw[uqg_esc hc] at h;exact one (by simp) (by decide) (by simp at hk2;omega) h
    ·rw[uqg_byte h34 h92] at h
     exact one (by simp) (Nat.le_refl _) hk2 h
def runl(f:Nat→Bool)(l:List Nat):Nat:=(l.takeWhile f).length
theorem runl_le(f:Nat→Bool)(l:List Nat):runl f l≤l.length:=(List.takeWhile_sublist f).length_le
theorem runl_take(f:Nat→Bool)(l:List Nat):l.take (runl f l)=l.takeWhile f:=by
 induction l with
 | nil=>rfl
 | cons c t ih=>
  unfold runl;rw[List.takeWhile_cons];split
  ·rw[List.length_cons,List.take_succ_cons];exact congrArg _ ih
  ·rfl
theorem runl_stop{f:Nat→Bool}{l r:List Nat}(h:∀c∈l,f c=true)(hr:∀c,r.head?=some c→f c=false):runl f (l++r)=l.length:=by
 induction l with
 | nil=>
  cases r with
  | nil=>rfl
  | cons c r=>unfold runl;rw[List.nil_append,List.takeWhile_cons,hr c rfl];rfl
 | cons c l ih=>
  unfold runl;rw[List.cons_append,List.takeWhile_cons,h c List.mem_cons_self,if_pos rfl,List.length_cons];exact congrArg (· + 1) (ih fun d hd=>h d (List.mem_cons_of_mem _ hd))
theorem takeWhile_all{f:Nat→Bool}{l:List Nat}:∀c∈l.takeWhile f,f c=true:=fun c hc=>by
 induction l with
 | nil=>cases hc
 | cons d t ih=>
  rw[List.takeWhile_cons] at hc;split at hc
  ·rename_i hd
   rcases List.mem_cons.1 hc with rfl|hc
   ·exact hd
   ·exact ih hc
  ·cases hc
def runB(more:List Nat)(c:Nat):Bool:=upB c||lwB c||dgB c||more.contains c
def nmb1:List Nat→Nat
 | []=>0
 | c::t=>if (dgB c||(c == 44&&t.head?.any dgB))=true then nmb1 t+1 else 0
def frac(m:List Nat):Nat:=if m.head?=some 46∧m.tail.head?.any dgB=true then 1+runl dgB m.tail else 0
def nmb(l:List Nat):Nat:=nmb1 l+frac (l.drop (nmb1 l))
theorem nmb1_le(l:List Nat):nmb1 l≤l.length:=by
 induction l with
 | nil=>exact Nat.le_refl _
 | cons c t ih=>
  rw[nmb1];split
  ·simpa using ih
  ·exact Nat.zero_le _
theorem nmb_le(l:List Nat):nmb l≤l.length:=by
 have h1:=nmb1_le l;unfold nmb frac;split
 ·rename_i h
  have h2:=runl_le dgB (l.drop (nmb1 l)).tail;have h3:1≤(l.drop (nmb1 l)).length:=by
   cases e:l.drop (nmb1 l) with
   | nil=>rw[e] at h;exact absurd h.1 (by simp)
   | cons _ _=>simp
  rw[List.length_tail,List.length_drop] at h2;rw[List.length_drop] at h3;omega
 ·omega
def Off(r:List Nat):Prop:=∀c,r.head?=some c→dgB c=false∧c≠44
theorem nmb1_off{r:List Nat}(h:Off r):nmb1 r=0:=by
 cases r with
 | nil=>rfl
 | cons c t=>
  obtain⟨h1,h2⟩:=h c rfl;rw[nmb1,h1,if_neg];rw[Bool.false_or,Bool.and_eq_true,beq_iff_eq];exact fun e=>h2 e.1
theorem nmb1_stop(l:List Nat){r:List Nat}(h:Off r):nmb1 (l.take (nmb1 l)++r)=nmb1 l:=by
 induction l with
 | nil=>exact nmb1_off h
 | cons c t ih=>
  by_cases hc:(dgB c||(c == 44&&t.head?.any dgB))=true
  ·have e:nmb1 (c::t)=nmb1 t+1:=by rw[nmb1,if_pos hc]
   rw[e,List.take_succ_cons,List.cons_append,nmb1,if_pos,ih];rw[Bool.or_eq_true,Bool.and_eq_true] at hc ⊢;rcases hc with hc|⟨hc,hd⟩
   ·exact .inl hc
   ·refine .inr ⟨hc,?_⟩
    cases t with
    | nil=>simp at hd
    | cons d u=>
     have hd2:dgB d=true:=hd;have e2:nmb1 (d::u)=nmb1 u+1:=by rw[nmb1,if_pos];rw[hd2];rfl
     rw[e2,List.take_succ_cons];exact hd
  ·have e:nmb1 (c::t)=0:=by rw[nmb1,if_neg hc]
   rw[e,List.take_zero,List.nil_append];exact nmb1_off h
def Nx(r:List Nat):Prop:=r=[]∨∃u,r=32::u
theorem Nx.head{r:List Nat}(h:Nx r):∀c,r.head?=some c→c=32:=by
 rintro c hc;rcases h with rfl|⟨u,rfl⟩
 ·cases hc
 ·exact(Option.some.inj hc).symm
theorem Nx.off{r:List Nat}(h:Nx r):Off r:=fun c hc=>by rw[h.head c hc];exact⟨rfl,by decide⟩
theorem Nx.nofrac{r:List Nat}(h:Nx r):frac r=0:=by
 unfold frac;rw[if_neg];rintro⟨h1,_⟩;have:=h.head _ h1;omega
theorem Nx.stop{r:List Nat}(h:Nx r){f:Nat→Bool}(hf:f 32=false):∀c,r.head?=some c→f c=false:=fun c hc=>by rw[h.head c hc];exact hf
theorem nmb_stop(l:List Nat){r:List Nat}(h:Nx r):nmb (l.take (nmb l)++r)=(l.take (nmb l)).length:=by
 have hle:=nmb_le l;have h1:=nmb1_le l;rw[List.length_take,Nat.min_eq_left hle];by_cases hf:(l.drop (nmb1 l)).head?=some 46∧(l.drop (nmb1 l)).tail.head?.any dgB=true
 ·obtain⟨g1,g2⟩:=hf
  have ef:frac (l.drop (nmb1 l))=1+runl dgB (l.drop (nmb1 l)).tail:=by unfold frac;rw[if_pos ⟨g1,g2⟩]
  cases e:l.drop (nmb1 l) with
  | nil=>rw[e] at g1;cases g1
  | cons c u=>
   rw[e] at g1 g2 ef;obtain rfl:c=46:=Option.some.inj g1;have g2':u.head?.any dgB=true:=g2;have ef':frac (46::u)=1+runl dgB u:=ef;have en:nmb l=nmb1 l+(1+runl dgB u):=by unfold nmb;rw[e,ef']
   have hx:l.take (nmb l)=l.take (nmb1 l)++46::u.takeWhile dgB:=by
    rw[en,List.take_add,e,Nat.add_comm 1,List.take_succ_cons,runl_take]
   have ho:Off (46::u.takeWhile dgB++r):=fun c hc=>by
    obtain rfl:46=c:=Option.some.inj hc;exact⟨rfl,by decide⟩
   have e1:nmb1 (l.take (nmb l)++r)=nmb1 l:=by rw[hx,List.append_assoc];exact nmb1_stop l ho
   unfold nmb at e1 ⊢;rw[e1];have e2:(l.take (nmb1 l+frac (l.drop (nmb1 l)))++r).drop (nmb1 l)=46::(u.takeWhile dgB++r):=by
    have hx':=hx;unfold nmb at hx';rw[hx',List.append_assoc,List.drop_left' (by rw[List.length_take];omega)];rfl
   rw[e2,e,ef'];unfold frac;have hd:(u.takeWhile dgB++r).head?.any dgB=true:=by
    cases u with
    | nil=>simp at g2'
    | cons d v=>
     have hd2:dgB d=true:=g2';rw[List.takeWhile_cons,if_pos hd2];exact g2'
   rw[if_pos ⟨rfl,hd⟩];show nmb1 l+(1+runl dgB (u.takeWhile dgB++r))=_;rw[runl_stop (fun c hc=>takeWhile_all c hc) (h.stop rfl)];rfl
 ·have ef:frac (l.drop (nmb1 l))=0:=by unfold frac;rw[if_neg hf]
  have en:nmb l=nmb1 l:=by unfold nmb;rw[ef];rfl
  rw[en];have e1:=nmb1_stop l h.off;unfold nmb;rw[e1,List.drop_left' (by rw[List.length_take];omega),h.nofrac];rfl
def nC(c:Nat):Bool:=dgB c||c == 44||c == 46
theorem nmb1_all(l:List Nat):∀c∈l.take (nmb1 l),nC c=true:=by
 induction l with
 | nil=>intro c hc;simp at hc
 | cons d t ih=>
  intro c hc;by_cases hd:(dgB d||(d == 44&&t.head?.any dgB))=true
  ·rw[nmb1,if_pos hd,List.take_succ_cons] at hc
   rcases List.mem_cons.1 hc with rfl|hc
   ·rw[Bool.or_eq_true,Bool.and_eq_true] at hd
    unfold nC;rcases hd with hd|hd
    ·rw[hd];rfl
    ·rw[hd.1,Bool.or_true];rfl
   ·exact ih c hc
  ·rw[nmb1,if_neg hd,List.take_zero] at hc;cases hc
theorem nmb_all(l:List Nat):∀c∈l.take (nmb l),nC c=true:=by
 intro c hc;unfold nmb at hc;rw[List.take_add] at hc;rcases List.mem_append.1 hc with hc|hc
 ·exact nmb1_all l c hc
 ·unfold frac at hc
  split at hc
  ·rename_i h
   cases e:l.drop (nmb1 l) with
   | nil=>rw[e] at h;exact absurd h.1 (by simp)
   | cons d u=>
    rw[e] at h hc;obtain rfl:d=46:=Option.some.inj h.1;rw[Nat.add_comm,List.take_succ_cons] at hc;rcases List.mem_cons.1 hc with rfl|hc
    ·rfl
    ·rw[List.tail_cons,runl_take] at hc
     unfold nC;rw[takeWhile_all c hc];rfl
  ·rw[List.take_zero] at hc;cases hc
def ones:List Nat:=[123,125,64,42,33,43,45,47,40,41,44,126]
def mrk(l:List Nat):Nat:=if l.take 2=[123,123]∨l.take 2=[125,125]∨l.take 2=[64,64] then 2 else if l.head?.any ones.contains=true then 1 else 0
theorem mrk_le(l:List Nat):mrk l≤l.length:=by
 unfold mrk;split
 ·rename_i h
  have:(l.take 2).length=2:=by rcases h with h|h|h<;>rw[h]<;>rfl
  rw[List.length_take] at this;omega
 ·split
  ·cases l with
   | nil=>rename_i h;simp at h
   | cons _ _=>simp
  ·exact Nat.zero_le _
theorem mrk_stop{l r:List Nat}(h0:0<mrk l)(h:Nx r):mrk (l.take (mrk l)++r)=mrk l:=by
 by_cases h2:l.take 2=[123,123]∨l.take 2=[125,125]∨l.take 2=[64,64]
 ·have e:mrk l=2:=by unfold mrk;rw[if_pos h2]
  rw[e];unfold mrk;rw[if_pos];have hl:(l.take 2).length=2:=by rcases h2 with h|h|h<;>rw[h]<;>rfl
  rw[List.take_append_of_le_length (by omega),List.take_take];exact h2
 ·by_cases h1:l.head?.any ones.contains=true
  ·have e:mrk l=1:=by unfold mrk;rw[if_neg h2,if_pos h1]
   rw[e];cases l with
   | nil=>simp at h1
   | cons c t=>
    have h1':ones.contains c=true:=h1;rw[List.take_succ_cons,List.take_zero];unfold mrk;rw[if_neg,if_pos (show([c]++r).head?.any ones.contains=true from h1')];rcases h with rfl|⟨u,rfl⟩
    ·simp
    ·simp
  ·exfalso
   unfold mrk at h0;rw[if_neg h2,if_neg h1] at h0;omega
def tkn(k:Nat)(x:List Nat)(n:Nat)(good:Bool):Nat⊕(Nat×List Nat×Nat):=if good=true then .inr (k,x,n) else .inl 3
theorem tkn_ok{k n:Nat}{x:List Nat}{g:Bool}{p:Nat×List Nat×Nat}(h:tkn k x n g=.inr p):g=true∧p=(k,x,n):=by
 unfold tkn at h;split at h
 ·rename_i hg;cases h;exact⟨hg,rfl⟩
 ·cases h
def mT:List Nat:=[45,95,47,46]
def mA:List Nat:=[58,45,46,95,39]
def mK:List Nat:=[45,95]
def num12(D N:List Nat→Bool)(l:List Nat):Nat⊕(Nat×List Nat×Nat):=
 if 10≤l.length∧D (l.take 10)=true∧(l[10]?).any dgB=false then .inr (1,l.take 10,10) else tkn 4 (l.take (nmb l)) (nmb l) (N (l.take (nmb l)))
def acc12(l:List Nat):Nat⊕(Nat×List Nat×Nat):=
 if accB (l.take (runl (runB mA) l))=true then .inr (2,l.take (runl (runB mA) l),runl (runB mA) l) else tkn 3 (l.take (runl (runB mA) l)) (runl (runB mA) l) (curB (l.take (runl (runB mA) l)))
def key12(l:List Nat):Nat⊕(Nat×List Nat×Nat):=
 if l[runl (runB mK) l]?=some 58 then tkn 9 (l.take (runl (runB mK) l)) (runl (runB mK) l+1) (keyB (l.take (runl (runB mK) l))) else tkn 8 (l.take (runl (runB mK) l)) (runl (runB mK) l) (keyB (l.take (runl (runB mK) l)))
def tag12(c:Nat)(t:List Nat):Nat⊕(Nat×List Nat×Nat):=tkn (if c=94 then 7 else 6) (t.take (runl (runB mT) t)) (runl (runB mT) t+1) (tagB (t.take (runl (runB mT) t)))
def txt12:Nat⊕(List Nat×Nat)→Nat⊕(Nat×List Nat×Nat)
 | .inl e=>.inl e
 | .inr (o,n)=>.inr (5,o,n+1)
def nxt(D N:List Nat→Bool):List Nat→Nat⊕(Nat×List Nat×Nat)
 | []=>.inl 1
 | c::t=>
  if c=34 then txt12 (uqg t)
  else if c=35∨c=94 then tag12 c t
  else if dgB c=true then num12 D N (c::t)
  else if upB c=true then acc12 (c::t)
  else if lwB c=true then key12 (c::t)
  else tkn 10 ((c::t).take (mrk (c::t))) (mrk (c::t)) (decide (0<mrk (c::t)))
def txt(k:Nat)(x:List Nat):List Nat:=if k=5 then qt x else if k=6 then 35::x else if k=7 then 94::x else if k=9 then x++[58] else x
def DayOk(D:List Nat→Bool):Prop:=∀y,D y=true→y.length=10∧32∉y∧(y[4]?=some 45∨y[4]?=some 47)
theorem run_more{f:Nat→Bool}{c:Nat}{t:List Nat}(h:f c=true):∃x,(c::t).take (runl f (c::t))=c::x:=by
 rw[runl_take,List.takeWhile_cons,if_pos h];exact⟨_,rfl⟩
theorem run_pos{f:Nat→Bool}{c:Nat}{t:List Nat}(h:f c=true):1≤runl f (c::t):=by
 unfold runl;rw[List.takeWhile_cons,if_pos h,List.length_cons];omega
theorem run_len(f:Nat→Bool)(l:List Nat):(l.take (runl f l)).length=runl f l:=by rw[runl_take];rfl
theorem run_again{f:Nat→Bool}(l:List Nat){r:List Nat}(hr:∀c,r.head?=some c→f c=false):runl f (l.take (runl f l)++r)=runl f l:=by
 rw[runl_take];exact runl_stop (fun c hc=>takeWhile_all c hc) hr
theorem runB_32{more:List Nat}(h:32∉more):runB more 32=false:=by
 unfold runB;rw[show more.contains 32=false by simpa using h];rfl
theorem runB_up{more:List Nat}{c:Nat}(h:upB c=true):runB more c=true:=by unfold runB;rw[h];rfl
theorem runB_lw{more:List Nat}{c:Nat}(h:lwB c=true):runB more c=true:=by unfold runB;rw[h,Bool.or_true];rfl
theorem nmb_pos{c:Nat}{t:List Nat}(h:dgB c=true):1≤nmb (c::t)∧∃x,(c::t).take (nmb (c::t))=c::x:=by
 have e:nmb1 (c::t)=nmb1 t+1:=by rw[nmb1,if_pos];rw[h];rfl
 have e2:1≤nmb (c::t):=by unfold nmb;omega
 obtain⟨m,hm⟩:∃m,nmb (c::t)=m+1:=⟨nmb (c::t)-1,by omega⟩;exact⟨e2,by rw[hm,List.take_succ_cons];exact⟨_,rfl⟩⟩
theorem nxt_of(D N:List Nat→Bool)(c:Nat)(t:List Nat) :
  (c=34→nxt D N (c::t)=txt12 (uqg t))∧
  (c=35∨c=94→nxt D N (c::t)=tag12 c t)∧
  (dgB c=true→nxt D N (c::t)=num12 D N (c::t))∧
  (upB c=true→nxt D N (c::t)=acc12 (c::t))∧
  (lwB c=true→nxt D N (c::t)=key12 (c::t))∧
  (c≠34→¬(c=35∨c=94)→dgB c=false→upB c=false→lwB c=false→nxt D N (c::t)=tkn 10 ((c::t).take (mrk (c::t))) (mrk (c::t)) (decide (0<mrk (c::t)))):=by
 have cls:(dgB c=true→48≤c∧c≤57)∧(upB c=true→65≤c∧c≤90)∧(lwB c=true→97≤c∧c≤122):=by
  refine⟨fun h=>?_,fun h=>?_,fun h=>?_⟩
  ·unfold dgB at h;simpa using h
  ·unfold upB at h;simpa using h
  ·unfold lwB at h;simpa using h
 have nd:¬(48≤c∧c≤57)→dgB c=false:=fun h=>by cases e:dgB c with
  | false=>rfl
  | true=>exact absurd (cls.1 e) h
 have nu:¬(65≤c∧c≤90)→upB c=false:=fun h=>by cases e:upB c with
  | false=>rfl
  | true=>exact absurd (cls.2.1 e) h
 have ff:∀{b:Bool},b=false→¬(b=true):=fun h=>by rw[h];decide
 refine⟨fun h=>?_,fun h=>?_,fun h=>?_,fun h=>?_,fun h=>?_,fun h1 h2 h3 h4 h5=>?_⟩
 ·rw[nxt,if_pos h]
 ·rw[nxt,if_neg (by omega),if_pos h]
 ·have:=cls.1 h
  rw[nxt,if_neg (by omega),if_neg (by omega),if_pos h]
 ·have:=cls.2.1 h
  rw[nxt,if_neg (by omega),if_neg (by omega),if_neg (ff (nd (by omega))),if_pos h]
 ·have:=cls.2.2 h
  rw[nxt,if_neg (by omega),if_neg (by omega),if_neg (ff (nd (by omega))),if_neg (ff (nu (by omega))),if_pos h]
 ·rw[nxt,if_neg h1,if_neg h2,if_neg (ff h3),if_neg (ff h4),if_neg (ff h5)]
theorem nxt_back{D N:List Nat→Bool}(hD:DayOk D){l:List Nat}{k n:Nat}{y:List Nat}(h:nxt D N l=.inr (k,y,n)) :
  1≤n∧n≤l.length∧(∃c u,txt k y=c::u∧c≠32∧c≠9∧c≠59)∧∀r,Nx r→nxt D N (txt k y++r)=.inr (k,y,(txt k y).length):=by
 cases l with
 | nil=>rw[nxt] at h;cases h
 | cons c t=>
  obtain⟨o1,o2,o3,o4,o5,o6⟩:=nxt_of D N c t;by_cases c1:c=34
  ·rw[o1 c1] at h
   cases hu:uqg t with
   | inl e=>rw[hu] at h;cases h
   | inr p=>
    obtain⟨o,m⟩:=p;rw[hu] at h;cases h
    have hb:=uqg_bound _ (Nat.le_refl _) hu;refine⟨by omega,by rw[List.length_cons];omega,⟨34,_,rfl,by decide,by decide,by decide⟩,fun r hr=>?_⟩;show nxt D N (qt y++r)=.inr (5,y,(qt y).length);unfold qt;rw[List.cons_append,(nxt_of D N 34 _).1 rfl,List.append_assoc,List.singleton_append,uqg_quote];show Sum.inr (5,y,(qtb y).length+1+1)=_;rw[List.length_cons,List.length_append];rfl
  by_cases c2:c=35∨c=94
  ·rw[o2 c2] at h
   obtain⟨hg,hp⟩:=tkn_ok h;cases hp
   have hle:=runl_le (runB mT) t;have e:txt (if c=94 then 7 else 6) (t.take (runl (runB mT) t))=c::t.take (runl (runB mT) t):=by
    rcases c2 with rfl|rfl<;>rfl
   refine⟨by omega,by rw[List.length_cons];omega,⟨c,_,e,by omega,by omega,by omega⟩,fun r hr=>?_⟩;rw[e,List.cons_append,(nxt_of D N c _).2.1 c2];have e2:=run_again (f:=runB mT) t (r:=r) (hr.stop (runB_32 (by decide)));unfold tag12;rw[e2,List.take_append_of_le_length (by rw[run_len];exact Nat.le_refl _),List.take_of_length_le (by rw[run_len];exact Nat.le_refl _),hg,List.length_cons,run_len];unfold tkn;rw[if_pos rfl]
  cases c3:dgB c with
  | true=>
   rw[o3 c3] at h;have hc48:48≤c∧c≤57:=by unfold dgB at c3;simpa using c3
   unfold num12 at h;split at h
   ·rename_i hd
    obtain⟨d1,d2,d3⟩:=hd;cases h
    have hx10:((c::t).take 10).length=10:=by rw[List.length_take];omega
    refine⟨by decide,d1,⟨c,t.take 9,rfl,by omega,by omega,by omega⟩,fun r hr=>?_⟩;show nxt D N ((c::t).take 10++r)=.inr (1,(c::t).take 10,((c::t).take 10).length);rw[hx10];have e:(c::t).take 10++r=c::(t.take 9++r):=rfl;rw[e,(nxt_of D N c _).2.2.1 c3];unfold num12;rw[← e,if_pos,List.take_append_of_le_length (by omega),List.take_of_length_le (by omega)];refine⟨by rw[List.length_append];omega,by rw[List.take_append_of_le_length (by omega),List.take_of_length_le (by omega)];exact d2,?_⟩;rw[List.getElem?_append_right (by omega),hx10,Nat.sub_self,← List.head?_eq_getElem?];cases hh:r.head? with
    | none=>rfl
    | some b=>rw[hr.head b hh];rfl
   ·obtain⟨hg,hp⟩:=tkn_ok h
    cases hp
    obtain⟨hpos,x,hx⟩:=nmb_pos (t:=t) c3;have hle:=nmb_le (c::t);refine⟨hpos,hle,⟨c,x,hx,by omega,by omega,by omega⟩,fun r hr=>?_⟩;show nxt D N ((c::t).take (nmb (c::t))++r)=.inr (4,(c::t).take (nmb (c::t)),((c::t).take (nmb (c::t))).length);have hst:=nmb_stop (c::t) hr;have hall:=nmb_all (c::t);obtain⟨X,hX⟩:∃X,(c::t).take (nmb (c::t))=X:=⟨_,rfl⟩;rw[hX] at hst hall hg hx ⊢;have e:X++r=c::(x++r):=by rw[hx];rfl
    rw[e,(nxt_of D N c _).2.2.1 c3,← e];unfold num12;rw[hst,List.take_append_of_le_length (Nat.le_refl _),List.take_of_length_le (Nat.le_refl X.length),if_neg]
    ·unfold tkn;rw[if_pos hg]
    ·rintro⟨k1,k2,_⟩
     obtain⟨k3,k4,k5⟩:=hD _ k2;rcases Nat.lt_or_ge X.length 10 with hX10|hX10
     ·rcases hr with rfl|⟨u,rfl⟩
      ·rw[List.append_nil] at k1;omega
      ·apply k4
       rw[List.take_append,List.take_of_length_le (by omega),show 10-X.length=(9-X.length)+1 by omega,List.take_succ_cons];simp
     ·rw[List.take_append_of_le_length hX10,List.getElem?_take,if_pos (by decide)] at k5
      have:∀b,X[4]?=some b→nC b=true:=fun b hb=>hall b (List.mem_of_getElem? hb)
      rcases k5 with k5|k5
      ·have:=this _ k5;cases this
      ·have:=this _ k5;cases this
  | false=>
   cases c4:upB c with
   | true=>
    rw[o4 c4] at h;have hc65:65≤c∧c≤90:=by unfold upB at c4;simpa using c4
    have hle:=runl_le (runB mA) (c::t);have hpos:=run_pos (t:=t) (runB_up (more:=mA) c4);obtain⟨x,hx⟩:=run_more (t:=t) (runB_up (more:=mA) c4);have hag:=fun r (hr:Nx r)=>run_again (f:=runB mA) (c::t) (r:=r) (hr.stop (runB_32 (by decide)))
    have hln:=run_len (runB mA) (c::t);obtain⟨m,hm⟩:∃m,runl (runB mA) (c::t)=m:=⟨_,rfl⟩;unfold acc12 at h;rw[hm] at hle hpos hx hag hln h;obtain⟨X,hX⟩:∃X,(c::t).take m=X:=⟨_,rfl⟩;rw[hX] at hx hag hln h;split at h
    ·rename_i ha
     cases h
     obtain⟨X,rfl⟩:∃X,X=y:=⟨_,rfl⟩;refine⟨hpos,hle,⟨c,x,hx,by omega,by omega,by omega⟩,fun r hr=>?_⟩;show nxt D N (X++r)=.inr (2,X,X.length);have e:X++r=c::(x++r):=by rw[hx];rfl
     rw[e,(nxt_of D N c _).2.2.2.1 c4,← e];unfold acc12;rw[hag r hr,List.take_append_of_le_length (by omega),List.take_of_length_le (by omega),if_pos ha,hln]
    ·rename_i ha
     obtain⟨hg,hp⟩:=tkn_ok h;cases hp
     obtain⟨X,rfl⟩:∃X,X=y:=⟨_,rfl⟩;refine⟨hpos,hle,⟨c,x,hx,by omega,by omega,by omega⟩,fun r hr=>?_⟩;show nxt D N (X++r)=.inr (3,X,X.length);have e:X++r=c::(x++r):=by rw[hx];rfl
     rw[e,(nxt_of D N c _).2.2.2.1 c4,← e];unfold acc12;rw[hag r hr,List.take_append_of_le_length (by omega),List.take_of_length_le (by omega),if_neg ha,hln];unfold tkn;rw[if_pos hg]
   | false=>
    cases c5:lwB c with
    | true=>
     rw[o5 c5] at h;have hc97:97≤c∧c≤122:=by unfold lwB at c5;simpa using c5
     have hle:=runl_le (runB mK) (c::t);have hpos:=run_pos (t:=t) (runB_lw (more:=mK) c5);obtain⟨x,hx⟩:=run_more (t:=t) (runB_lw (more:=mK) c5);have hag:=fun r (hr:∀d,r.head?=some d→runB mK d=false)=>run_again (f:=runB mK) (c::t) (r:=r) hr
     have hln:=run_len (runB mK) (c::t);obtain⟨m,hm⟩:∃m,runl (runB mK) (c::t)=m:=⟨_,rfl⟩;unfold key12 at h;rw[hm] at hle hpos hx hag hln h;obtain⟨X,hX⟩:∃X,(c::t).take m=X:=⟨_,rfl⟩;rw[hX] at hx hag hln h;split at h
     ·rename_i h58
      obtain⟨hg,hp⟩:=tkn_ok h;cases hp
      obtain⟨X,rfl⟩:∃X,X=y:=⟨_,rfl⟩;have hlt:m<(c::t).length:=(List.getElem?_eq_some_iff.1 h58).1;refine⟨by omega,hlt,⟨c,x++[58],by show X++[58]=_;rw[hx];rfl,by omega,by omega,by omega⟩,fun r hr=>?_⟩;show nxt D N (X++[58]++r)=.inr (9,X,(X++[58]).length);have e:X++[58]++r=c::(x++[58]++r):=by rw[hx];rfl
      rw[e,(nxt_of D N c _).2.2.2.2.1 c5,← e];unfold key12;rw[List.append_assoc,hag ([58]++r) (fun d hd=>by rw[← Option.some.inj (show some 58=some d from hd)];rfl),if_pos,List.take_append_of_le_length (by omega),List.take_of_length_le (by omega),List.length_append,hln]
      ·unfold tkn;rw[if_pos hg];rfl
      ·rw[List.getElem?_append_right (by omega),hln,Nat.sub_self];rfl
     ·rename_i h58
      obtain⟨hg,hp⟩:=tkn_ok h;cases hp
      obtain⟨X,rfl⟩:∃X,X=y:=⟨_,rfl⟩;refine⟨hpos,hle,⟨c,x,hx,by omega,by omega,by omega⟩,fun r hr=>?_⟩;show nxt D N (X++r)=.inr (8,X,X.length);have e:X++r=c::(x++r):=by rw[hx];rfl
      rw[e,(nxt_of D N c _).2.2.2.2.1 c5,← e];unfold key12;rw[hag r (hr.stop (runB_32 (by decide))),if_neg,List.take_append_of_le_length (by omega),List.take_of_length_le (by omega),hln]
      ·unfold tkn;rw[if_pos hg]
      ·rw[List.getElem?_append_right (by omega),hln,Nat.sub_self,← List.head?_eq_getElem?]
       intro e58;have:=hr.head _ e58;omega
    | false=>
     rw[o6 c1 c2 c3 c4 c5] at h;obtain⟨hg,hp⟩:=tkn_ok h;cases hp
     have hpos:0<mrk (c::t):=by simpa using hg
     have hle:=mrk_le (c::t);have hst:=fun r (hr:Nx r)=>mrk_stop hpos hr
     obtain⟨m,hm⟩:∃m,mrk (c::t)=m:=⟨_,rfl⟩;have hsg:c≠32∧c≠9∧c≠59:=by
      have hin:c=123∨c=125∨c=64∨ones.contains c=true:=by
       unfold mrk at hpos;split at hpos
       ·rename_i k
        rcases k with k|k|k
        ·exact .inl (by have:=congrArg List.head? k;simpa using this)
        ·exact .inr (.inl (by have:=congrArg List.head? k;simpa using this))
        ·exact .inr (.inr (.inl (by have:=congrArg List.head? k;simpa using this)))
       ·split at hpos
        ·rename_i k;exact .inr (.inr (.inr k))
        ·omega
      refine⟨fun e=>?_,fun e=>?_,fun e=>?_⟩<;>(subst e;rcases hin with k|k|k|k<;>first|omega|(revert k;decide))
     rw[hm] at hpos hle hst;rw[hm];obtain⟨X,hX⟩:∃X,(c::t).take m=X:=⟨_,rfl⟩;have hxl:X.length=m:=by rw[← hX,List.length_take];omega
     obtain⟨x,hx⟩:∃x,X=c::x:=by
      obtain⟨q,hq⟩:∃q,m=q+1:=⟨m-1,by omega⟩;exact⟨t.take q,by rw[← hX,hq,List.take_succ_cons]⟩
     rw[hX] at hst ⊢;refine⟨hpos,hle,⟨c,x,hx,hsg⟩,fun r hr=>?_⟩;show nxt D N (X++r)=.inr (10,X,X.length);have e:X++r=c::(x++r):=by rw[hx];rfl
     rw[e,(nxt_of D N c _).2.2.2.2.2 c1 c2 c3 c4 c5,← e,hst r hr,List.take_append_of_le_length (by omega),List.take_of_length_le (by omega),hxl];unfold tkn;rw[if_pos (by simpa using hpos)]
abbrev Wd:=Nat×List Nat×Nat
def consW(w:Wd):(Nat×Nat)⊕List Wd→(Nat×Nat)⊕List Wd
 | .inl p=>.inl p
 | .inr r=>.inr (w::r)
def thenW(a:Nat)(m:List Nat)(go:Nat→List Nat→(Nat×Nat)⊕List Wd):Nat⊕(Nat×List Nat×Nat)→(Nat×Nat)⊕List Wd
 | .inl e=>.inl (a+1,e)
 | .inr (k,x,n)=>consW (k,x,a+1) (go (a+n) (m.drop n))
def Stop12(m:List Nat):Prop:=m=[]∨m.head?=some 59
instance (m:List Nat):Decidable (Stop12 m):=by unfold Stop12;infer_instance
def wdf(D N:List Nat→Bool):Nat→Nat→List Nat→(Nat×Nat)⊕List Wd
 | 0,_,_=>.inr []
 | f+1,a,l=>if Stop12 (l.drop (indl l)) then .inr [] else thenW (a+indl l) (l.drop (indl l)) (wdf D N f) (nxt D N (l.drop (indl l)))
def WD(D N:List Nat→Bool)(a:Nat)(l:List Nat):(Nat×Nat)⊕List Wd:=wdf D N (l.length+1) a l
section
variable {D N:List Nat→Bool}
theorem wdf_fuel(hD:DayOk D):∀(f g:Nat) (a:Nat) (l:List Nat),l.length<f→l.length<g→wdf D N f a l=wdf D N g a l:=by
 intro f;induction f with
 | zero=>intro g a l h;exact absurd h (Nat.not_lt_zero _)
 | succ f ih=>
  intro g a l hf hg;cases g with
  | zero=>exact absurd hg (Nat.not_lt_zero _)
  | succ g=>
   rw[wdf,wdf];by_cases hs:Stop12 (l.drop (indl l))
   ·rw[if_pos hs,if_pos hs]
   ·rw[if_neg hs,if_neg hs]
    cases hn:nxt D N (l.drop (indl l)) with
    | inl e=>rfl
    | inr p=>
     obtain⟨k,x,n⟩:=p;obtain⟨h1,h2,_⟩:=nxt_back hD hn;rw[List.length_drop] at h2;show consW _ (wdf D N f _ _)=consW _ (wdf D N g _ _);rw[ih g _ _ (by rw[List.length_drop,List.length_drop];omega) (by rw[List.length_drop,List.length_drop];omega)]
theorem WD_stop{a:Nat}{l:List Nat}(h:Stop12 (l.drop (indl l))):WD D N a l=.inr []:=by
 unfold WD;rw[wdf,if_pos h]
theorem WD_err{a e:Nat}{l:List Nat}(h:¬Stop12 (l.drop (indl l)))(hn:nxt D N (l.drop (indl l))=.inl e):WD D N a l=.inl (a+indl l+1,e):=by
 unfold WD;rw[wdf,if_neg h,hn];rfl
theorem WD_ok(hD:DayOk D){a k n:Nat}{x l:List Nat}(h:¬Stop12 (l.drop (indl l)))(hn:nxt D N (l.drop (indl l))=.inr (k,x,n)) :
  WD D N a l=consW (k,x,a+indl l+1) (WD D N (a+indl l+n) ((l.drop (indl l)).drop n)):=by
 obtain⟨h1,h2,_⟩:=nxt_back hD hn;rw[List.length_drop] at h2;unfold WD;rw[wdf,if_neg h,hn];show consW _ (wdf D N _ _ _)=_;rw[wdf_fuel hD _ (((l.drop (indl l)).drop n).length+1) _ _ (by rw[List.length_drop,List.length_drop];omega) (by omega)]
def joinW(ts:List Wd):List Nat:=ts.flatMap fun t=>32::txt t.1 t.2.1
theorem joinW_cons(t:Wd)(r:List Wd):joinW (t::r)=32::(txt t.1 t.2.1++joinW r):=rfl
theorem nxt_err{l:List Nat}{e:Nat}(h:nxt D N l=.inl e):e=1∨e=2∨e=3:=by
 have ht:∀{k n:Nat}{x:List Nat}{g:Bool},tkn k x n g=.inl e→e=3:=fun h=>by
  unfold tkn at h;split at h
  ·cases h
  ·cases h;rfl
 have hu:∀(f:Nat) {l:List Nat}{e:Nat},l.length≤f→uqg l=.inl e→e=2∨e=3:=by
  intro f;induction f with
  | zero=>intro l e hf h;rw[List.eq_nil_of_length_eq_zero (Nat.le_zero.1 hf),uqg] at h;cases h;exact .inl rfl
  | succ f ih=>
   intro l e hf h;cases l with
   | nil=>rw[uqg] at h;cases h;exact .inl rfl
   | cons b t=>
    have one:∀{m d:Nat}{u:List Nat},u.length≤f→pre m d (uqg u)=.inl e→e=2∨e=3:=by
     intro m d u hu e2;cases hq:uqg u with
     | inl y=>rw[hq] at e2;cases e2;exact ih hu hq
     | inr p=>obtain⟨_,_⟩:=p;rw[hq] at e2;cases e2
    have hf2:t.length≤f:=by simpa using hf
    by_cases h34:b=34
    ·subst h34;rw[uqg_end] at h;cases h
    ·by_cases h92:b=92
     ·subst h92
      cases t with
      | nil=>rw[uqg,if_neg (by decide)] at h;cases h;exact .inl rfl
      | cons c u=>
       cases hc:une c with
       | none=>rw[uqg_none hc] at h;cases h;exact .inr rfl
       | some d=>rw[uqg_esc hc] at h;exact one (by simp at hf2;omega) h
     ·rw[uqg_byte h34 h92] at h
      exact one hf2 h
 cases l with
 | nil=>rw[nxt] at h;cases h;exact .inl rfl
 | cons c t=>
  rw[nxt] at h;split at h
  ·cases hq:uqg t with
   | inl y=>rw[hq] at h;cases h;exact .inr (hu _ (Nat.le_refl _) hq)
   | inr p=>obtain⟨_,_⟩:=p;rw[hq] at h;cases h
  split at h
  ·exact .inr (.inr (ht h))
  split at h
  ·unfold num12 at h
   split at h
   ·cases h
   ·exact .inr (.inr (ht h))
  split at h
  ·unfold acc12 at h
   split at h
   ·cases h
   ·exact .inr (.inr (ht h))
  split at h
  ·unfold key12 at h
   split at h
   ·exact .inr (.inr (ht h))
   ·exact .inr (.inr (ht h))
  ·exact .inr (.inr (ht h))
end
end Go.Proofs.YtpbbolgnnegmlaaGreatDoor
namespace Go.Proofs.YtpbbolgnnegmlaaGreatDoor
open Go.RowKit
theorem qtb_push(l:List Nat)(x:Nat):qtb (l++[x])=qtb l++esc x:=by unfold qtb;rw[List.flatMap_append,List.flatMap_singleton]
theorem esc_len(x:Nat):(esc x).length≤2:=by unfold esc;(repeat' split)<;>simp
def uqv:List Nat→List Nat×Nat×Nat
 | []=>([],0,1)
 | c::t=>if c=34 then (match uqg t with | .inl e=>([],0,e) | .inr (o,n)=>(o,n+1,0)) else ([],0,1)
def cmb(o:List Nat)(i:Nat):Nat⊕(List Nat×Nat)→List Nat×Nat×Nat
 | .inl e=>([],0,e)
 | .inr (o',n')=>(o++o',i+n',0)
theorem cmb_pre(o:List Nat)(i k d:Nat)(u:Nat⊕(List Nat×Nat)):cmb o i (pre k d u)=cmb (o++[d]) (i+k) u:=by
 cases u with
 | inl e=>rfl
 | inr p=>
  obtain⟨o',n'⟩:=p;show(o++d::o',i+(n'+k),0)=(o++[d]++o',i+k+n',0);rw[List.append_assoc,show i+(n'+k)=i+k+n' by omega];rfl
theorem uqv_start{s:ByteArray}(h0:0<s.size)(h:(s[0]'h0).toNat=34):uqv (bs9 s)=cmb [] 1 (uqg ((bs9 s).drop 1)):=by
 have e:=bs9_get s 0 h0;rw[List.drop_zero] at e;rw[e,h,uqv,if_pos rfl];show _=cmb [] 1 (uqg (bs9 s |>.drop 1));cases hu:uqg ((bs9 s).drop (0+1)) with
 | inl x=>
  have hu':uqg ((bs9 s).drop 1)=.inl x:=hu;first|rfl|(rw[hu'];rfl)
 | inr p=>
  have hu':uqg ((bs9 s).drop 1)=.inr p:=hu;obtain⟨o',n'⟩:=p;first|(show(o',n'+1,0)=([]++o',1+n',0);rw[Nat.add_comm];rfl)|(rw[hu'];show(o',n'+1,0)=([]++o',1+n',0);rw[Nat.add_comm];rfl)
theorem uqv_no{s:ByteArray}(h:s.size=0∨∃h0:0<s.size,(s[0]'h0).toNat≠34):uqv (bs9 s)=([],0,1):=by
 rcases h with h|⟨h0,h⟩
 ·rw[nil_of h];rfl
 ·have e:=bs9_get s 0 h0
  rw[List.drop_zero] at e;rw[e,uqv,if_neg h]
theorem runl_is{f:Nat→Bool}{l:List Nat}{i:Nat}(h:(l.take i).all f=true)(h2:l.length≤i∨∃x,l[i]?=some x∧f x=false)(hi:i≤l.length):runl f l=i:=by
 have e:=runl_stop (f:=f) (l:=l.take i) (r:=l.drop i) (fun c hc=>by rw[List.all_eq_true] at h;exact h c hc) (fun c hc=>by
  rw[List.head?_drop] at hc;rcases h2 with h2|⟨x,hx,hf⟩
  ·rw[List.getElem?_eq_none h2] at hc;cases hc
  ·rw[hx] at hc;rw[← Option.some.inj hc];exact hf)
 rw[List.take_append_drop] at e;rw[e,List.length_take];omega
def tkv(k:Nat)(X:ByteArray)(l c:Int):Value:=.agg #[.int .i64 (k:Int),.string X,.int .i64 l,.int .i64 c]
structure Bx4 (v:World) (g:Nat) (x0 x1 x2 x3:Value):Prop where
 c0:v.cell? ⟨g,0,none⟩=some x0
 c1:v.cell? ⟨g,1,none⟩=some x1
 c2:v.cell? ⟨g,2,none⟩=some x2
 c3:v.cell? ⟨g,3,none⟩=some x3
 f0:v.frozen? ⟨g,0,none⟩=false
 f1:v.frozen? ⟨g,1,none⟩=false
 f2:v.frozen? ⟨g,2,none⟩=false
 f3:v.frozen? ⟨g,3,none⟩=false
 lt:g<v.heap.size
section
variable {v v':World}{g:Nat}{x0 x1 x2 x3:Value}
theorem Bx4.newAt(v:World)(x0 x1 x2 x3:Value)(t:TypeId)(h:g=v.heap.size):Bx4 (v.alloc (.cells #[x0,x1,x2,x3] t)) g x0 x1 x2 x3:=by
 subst h;exact⟨by simp,by simp,by simp,by simp,by simp,by simp,by simp,by simp,by simp⟩
theorem Bx4.on(h:Bx4 v g x0 x1 x2 x3)(hb:Below v.heap.size v v'):Bx4 v' g x0 x1 x2 x3:=
  ⟨(hb.cell (p:=⟨g,0,none⟩) h.lt).trans h.c0,(hb.cell (p:=⟨g,1,none⟩) h.lt).trans h.c1,(hb.cell (p:=⟨g,2,none⟩) h.lt).trans h.c2,(hb.cell (p:=⟨g,3,none⟩) h.lt).trans h.c3,
   (hb.frozen (p:=⟨g,0,none⟩) h.lt).trans h.f0,(hb.frozen (p:=⟨g,1,none⟩) h.lt).trans h.f1,(hb.frozen (p:=⟨g,2,none⟩) h.lt).trans h.f2,(hb.frozen (p:=⟨g,3,none⟩) h.lt).trans h.f3,Nat.lt_of_lt_of_le h.lt hb.size⟩
theorem Bx4.set0(h:Bx4 v g x0 x1 x2 x3)(y:Value):Bx4 (v.setCell ⟨g,0,none⟩ y) g y x1 x2 x3:=
 ⟨World.cell?_setCell_same _ _ _ h.c0,(World.cell?_setCell_other _ _ _ _ (by simp)).trans h.c1,(World.cell?_setCell_other _ _ _ _ (by simp)).trans h.c2,(World.cell?_setCell_other _ _ _ _ (by simp)).trans h.c3,by rw[World.frozen?_setCell];exact h.f0,by rw[World.frozen?_setCell];exact h.f1,by rw[World.frozen?_setCell];exact h.f2,by rw[World.frozen?_setCell];exact h.f3,by have:=h.lt;simpa using this⟩
theorem Bx4.set1(h:Bx4 v g x0 x1 x2 x3)(y:Value):Bx4 (v.setCell ⟨g,1,none⟩ y) g x0 y x2 x3:=
 ⟨(World.cell?_setCell_other _ _ _ _ (by simp)).trans h.c0,World.cell?_setCell_same _ _ _ h.c1,(World.cell?_setCell_other _ _ _ _ (by simp)).trans h.c2,(World.cell?_setCell_other _ _ _ _ (by simp)).trans h.c3,by rw[World.frozen?_setCell];exact h.f0,by rw[World.frozen?_setCell];exact h.f1,by rw[World.frozen?_setCell];exact h.f2,by rw[World.frozen?_setCell];exact h.f3,by have:=h.lt;simpa using this⟩
theorem Bx4.set2(h:Bx4 v g x0 x1 x2 x3)(y:Value):Bx4 (v.setCell ⟨g,2,none⟩ y) g x0 x1 y x3:=
 ⟨(World.cell?_setCell_other _ _ _ _ (by simp)).trans h.c0,(World.cell?_setCell_other _ _ _ _ (by simp)).trans h.c1,World.cell?_setCell_same _ _ _ h.c2,(World.cell?_setCell_other _ _ _ _ (by simp)).trans h.c3,by rw[World.frozen?_setCell];exact h.f0,by rw[World.frozen?_setCell];exact h.f1,by rw[World.frozen?_setCell];exact h.f2,by rw[World.frozen?_setCell];exact h.f3,by have:=h.lt;simpa using this⟩
theorem Bx4.set3(h:Bx4 v g x0 x1 x2 x3)(y:Value):Bx4 (v.setCell ⟨g,3,none⟩ y) g x0 x1 x2 y:=
 ⟨(World.cell?_setCell_other _ _ _ _ (by simp)).trans h.c0,(World.cell?_setCell_other _ _ _ _ (by simp)).trans h.c1,(World.cell?_setCell_other _ _ _ _ (by simp)).trans h.c2,World.cell?_setCell_same _ _ _ h.c3,by rw[World.frozen?_setCell];exact h.f0,by rw[World.frozen?_setCell];exact h.f1,by rw[World.frozen?_setCell];exact h.f2,by rw[World.frozen?_setCell];exact h.f3,by have:=h.lt;simpa using this⟩
end
def Rbx(w W:World)(x0 x1 x2 x3:Value):Prop:=Below w.heap.size w W∧Bx4 W w.heap.size x0 x1 x2 x3
abbrev Rz(w W:World):Prop:=Rbx w W (.int .i64 0) (.string ⟨#[]⟩) (.int .i64 0) (.int .i64 0)
theorem Rbx.on{w W W':World}{x0 x1 x2 x3:Value}(h:Rbx w W x0 x1 x2 x3)(hb:Below W.heap.size W W'):Rbx w W' x0 x1 x2 x3:=⟨h.1.trans (hb.mono h.1.size),h.2.on hb⟩
theorem Rbx.new(w:World)(x0 x1 x2 x3:Value)(t:TypeId):Rbx w (w.alloc (.cells #[x0,x1,x2,x3] t)) x0 x1 x2 x3:=⟨(Below.refl _ _).alloc (Nat.le_refl _) _,Bx4.newAt _ _ _ _ _ _ rfl⟩
theorem Rbx.lay{w W:World}{x0 x1 x2 x3:Value}(h:Rbx w W x0 x1 x2 x3)(ob:Obj):Rbx w (W.alloc ob) x0 x1 x2 x3:=h.on ((Below.refl _ _).alloc (Nat.le_refl _) _)
def nv:Nat⊕(Nat×List Nat×Nat)→Value
 | .inl e=>.tuple #[tkv 0 ⟨#[]⟩ 0 0,.int .i64 0,.int .i64 (e:Int)]
 | .inr (k,x,n)=>.tuple #[tkv k (st9 x) 0 0,.int .i64 (n:Int),.int .i64 0]
def Okw(ok:World→Prop):Prop:=∀{w w':World},ok w→Below w.heap.size w w'→ok w'
theorem st9_take{s X:ByteArray}{n:Nat}(h:s.extract 0 n=X):st9 ((bs9 s).take n)=X:=by rw[← bs9_take,h,st9_bs9]
end Go.Proofs.YtpbbolgnnegmlaaGreatDoor
namespace Go.Proofs.YtpbbolgnnegmlaaGreatDoor
def begB(T l:List Nat):Bool:=l.head?.any T.contains
theorem begB_cons(T:List Nat)(c:Nat)(t:List Nat):begB T (c::t)=T.contains c:=rfl
theorem runl_cons(f:Nat→Bool)(c:Nat)(t:List Nat):runl f (c::t)=if f c=true then runl f t+1 else 0:=by
 unfold runl;rw[List.takeWhile_cons];split
 ·rfl
 ·rfl
theorem runl_congr{f g:Nat→Bool}{l:List Nat}(h:∀c∈l,f c=g c):runl f l=runl g l:=by
 induction l with
 | nil=>rfl
 | cons c t ih=>
  rw[runl_cons,runl_cons,h c List.mem_cons_self,ih fun d hd=>h d (List.mem_cons_of_mem _ hd)]
theorem runl_set{T:List Nat}{f:Nat→Bool}(hT:((List.range 256).all fun c=>T.contains c == f c)=true){l:List Nat}(hl:∀c∈l,c<256):runl T.contains l=runl f l:=by
 rw[List.all_eq_true] at hT;exact runl_congr fun c hc=>beq_iff_eq.1 (hT c (List.mem_range.2 (hl c hc)))
theorem run_head(f:Nat→Bool)(l:List Nat):(l.drop (runl f l)).head?.any f=false:=by
 induction l with
 | nil=>rfl
 | cons c t ih=>
  rw[runl_cons];cases hc:f c with
  | true=>rw[if_pos rfl,List.drop_succ_cons];exact ih
  | false=>rw[if_neg (by decide),List.drop_zero];exact hc
def bhn(a:Nat)(m:List Nat):Nat:=if m.head?=some a∧m.tail.head?.any dgB=true then 1+runl dgB m.tail else 0
theorem frac_bhn(m:List Nat):frac m=bhn 46 m:=rfl
theorem bhn_no{a:Nat}{m:List Nat}(h:m.head?≠some a):bhn a m=0:=by
 unfold bhn;rw[if_neg fun e=>h e.1]
theorem bhn_yes{a n:Nat}{t:List Nat}(hn:runl dgB t=n):bhn a (a::t)=if n=0 then 0 else n+1:=by
 unfold bhn;cases t with
 | nil=>rw[if_neg (fun e=>by simpa using e.2),if_pos (show n=0 from hn.symm)]
 | cons d u=>
  rw[runl_cons] at hn;cases hd:dgB d with
  | true=>
   rw[hd,if_pos rfl] at hn;rw[if_pos ⟨rfl,show dgB d=true from hd⟩,if_neg (by omega)];show 1+runl dgB (d::u)=_;rw[runl_cons,hd,if_pos rfl];omega
  | false=>
   rw[hd,if_neg (by decide)] at hn;rw[if_neg (fun e=>by have e2:dgB d=true:=e.2;rw[hd] at e2;cases e2),if_pos hn.symm]
theorem bhn_le(a:Nat)(m:List Nat):bhn a m≤m.length:=by
 cases m with
 | nil=>unfold bhn;rw[if_neg (fun e=>by cases e.1)];exact Nat.zero_le _
 | cons c t=>
  unfold bhn;split
  ·have:=runl_le dgB t
   show 1+runl dgB t≤t.length+1;omega
  ·exact Nat.zero_le _
theorem nmb1_digits(l:List Nat):nmb1 l=runl dgB l+nmb1 (l.drop (runl dgB l)):=by
 induction l with
 | nil=>rfl
 | cons c t ih=>
  rw[runl_cons];cases hc:dgB c with
  | true=>
   rw[if_pos rfl,List.drop_succ_cons,nmb1,hc,Bool.true_or,if_pos rfl];omega
  | false=>rw[if_neg (by decide),List.drop_zero,Nat.zero_add]
theorem nmb1_more{m:List Nat}{k:Nat}(hk:bhn 44 m=k)(h:0<k):nmb1 m=k+nmb1 (m.drop k)∧(m.drop k).head?.any dgB=false:=by
 cases m with
 | nil=>unfold bhn at hk;rw[if_neg (fun e=>by cases e.1)] at hk;omega
 | cons c t=>
  unfold bhn at hk;split at hk
  ·rename_i hc
   have hc1:c=44:=Option.some.inj hc.1;have hc2:t.head?.any dgB=true:=hc.2;have hk2:runl dgB t+1=k:=by rw[← hk];show _=1+runl dgB t;omega
   rw[← hk2,List.drop_succ_cons];refine⟨?_,run_head dgB t⟩;rw[nmb1,hc1,hc2,if_pos (by simp),nmb1_digits t];omega
  ·omega
theorem nmb1_end{m:List Nat}(h:bhn 44 m=0)(h2:m.head?.any dgB=false):nmb1 m=0:=by
 cases m with
 | nil=>rfl
 | cons c t=>
  have h3:dgB c=false:=h2;rw[nmb1,h3,Bool.false_or,if_neg];intro e;rw[Bool.and_eq_true,beq_iff_eq] at e;unfold bhn at h;rw[if_pos ⟨by rw[e.1];rfl,e.2⟩] at h;omega
theorem mrk_zero{l:List Nat}(h:begB ones l=false):mrk l=0:=by
 cases l with
 | nil=>rfl
 | cons c t=>
  rw[begB_cons] at h;unfold mrk;rw[if_neg,if_neg]
  ·show ¬(ones.contains c=true)
   rw[h];decide
  ·have hc:¬(c=123∨c=125∨c=64):=by
    rintro(rfl|rfl|rfl)<;>revert h<;>decide
   have hd:((c::t).take 2).head?=some c:=rfl;rintro(e|e|e)<;>(rw[e] at hd;have:=Option.some.inj hd;omega)
theorem mrk_same{x:Nat}{t:List Nat}(h:[123,125,64].contains x=true):mrk (x::x::t)=2:=by
 have hc:x=123∨x=125∨x=64:=by simpa using h
 unfold mrk;rw[if_pos];show [x,x]=_∨[x,x]=_∨[x,x]=_;rcases hc with rfl|rfl|rfl
 ·exact .inl rfl
 ·exact .inr (.inl rfl)
 ·exact .inr (.inr rfl)
theorem mrk_single{x:Nat}{t:List Nat}(h:ones.contains x=true)(h2:[123,125,64].contains x=false∨t.head?≠some x):mrk (x::t)=1:=by
 unfold mrk;rw[if_neg,if_pos]
 ·exact h
 ·rintro(e|e|e)
  all_goals
   cases t with
   | nil=>cases e
   | cons y u=>
    have e1:x=_:=congrArg (fun l:List Nat=>l.headD 0) e;have e2:y=_:=congrArg (fun l:List Nat=>l.tail.headD 0) e;simp at e1 e2
    subst e1;subst e2;rcases h2 with h2|h2
    ·revert h2;decide
    ·exact h2 rfl
theorem indl_drop(l:List Nat):indl (l.drop (indl l))=0:=by
 induction l with
 | nil=>rfl
 | cons c t ih=>
  rw[indl];split
  ·rw[List.drop_succ_cons];exact ih
  ·rename_i h
   rw[List.drop_zero,indl,if_neg h]
theorem WD_indent{D N:List Nat→Bool}(hD:DayOk D)(a:Nat)(l:List Nat):WD D N a l=WD D N (a+indl l) (l.drop (indl l)):=by
 have e:=indl_drop l;have e2:(l.drop (indl l)).drop (indl (l.drop (indl l)))=l.drop (indl l):=by rw[e,List.drop_zero]
 by_cases hs:Stop12 (l.drop (indl l))
 ·rw[WD_stop hs,WD_stop (by rw[e2];exact hs)]
 ·cases hn:nxt D N (l.drop (indl l)) with
  | inl x=>
   have h1:=WD_err (a:=a) hs hn;have h2:=WD_err (D:=D) (N:=N) (a:=a+indl l) (e:=x) (l:=l.drop (indl l)) (by rw[e2];exact hs) (by rw[e2];exact hn);rw[h1,h2,e];all_goals rfl
  | inr p=>
   obtain⟨k,x,n⟩:=p;have h1:=WD_ok hD (a:=a) hs hn;have h2:=WD_ok (D:=D) (N:=N) hD (a:=a+indl l) (k:=k) (n:=n) (x:=x) (l:=l.drop (indl l)) (by rw[e2];exact hs) (by rw[e2];exact hn);rw[h1,h2,e2,e];all_goals rfl
theorem esc_at{x:Nat}:(x=34→esc x=[92,34])∧(x=92→esc x=[92,92])∧(x=10→esc x=[92,110])∧(x=9→esc x=[92,116])∧(x≠34→x≠92→x≠10→x≠9→esc x=[x]):=by
 refine⟨fun h=>?_,fun h=>?_,fun h=>?_,fun h=>?_,fun h1 h2 h3 h4=>?_⟩
 ·rw[h];rfl
 ·rw[h];rfl
 ·rw[h];rfl
 ·rw[h];rfl
 ·unfold esc;rw[if_neg h1,if_neg h2,if_neg h3,if_neg h4]
end Go.Proofs.YtpbbolgnnegmlaaGreatDoor
namespace Go.Proofs.YtpbbolgnnegmlaaGreatDoor
open Go.RowKit
theorem idx_zero{s:ByteArray}(h0:0<s.size):bs9 s=(s[0]'h0).toNat::(bs9 s).drop 1:=by
 have:=bs9_get s 0 h0;rwa [List.drop_zero] at this
theorem begins_is{s T:ByteArray}{b:Bool}(h:begB (bs9 T) (bs9 s)=b)(w:World):Calls Tryz.prog 36 #[.string s,.string T] w (fun e w'=>e=.returned (.bool b)∧w'=w):=by
 have H:=Jh h;clear h;rcases Nat.eq_zero_or_pos s.size with h0|h0
 ·have d:=emp_yes h0
  have E:Hid (false=b):=by show _=_;rw[← H.out,nil_of h0];rfl
  go_enter Tryz.func36,Tryz.ntmps36;go_wp2_with fail;go_ret;exact⟨rb9 E.out,rfl⟩
 ·have d:=emp_not h0
  obtain⟨x,hx⟩:∃x,x=(s[0]'h0).toNat:=⟨_,rfl⟩;have ex:((s[0]'h0).toNat:Int)=(x:Int):=by rw[hx]
  have hx2:x<256:=by rw[hx];exact UInt8.toNat_lt _
  have HX:Hid ((bs9 T).contains x=b):=by show _=_;rw[← H.out,idx_zero h0,begB_cons,hx]
  clear hx;obtain⟨z,hz,hc⟩:=idx_is T hx2 w;have HC:=Jh hc;clear hc;rcases hz with⟨h1,k,rfl⟩|⟨h1,rfl⟩
  ·have E:Hid (true=b):=by show _=_;rw[← HX.out,h1]
   clear h1;go_enter Tryz.func36,Tryz.ntmps36;go_wp2_with fail;refine HC.out.mono ?_;rintro e w1 ⟨rfl,hw⟩;obtain rfl:=hw.symm;go_wp2_with fail;go_ret;exact⟨rb9 E.out,rfl⟩
  ·have E:Hid (false=b):=by show _=_;rw[← HX.out,h1]
   clear h1;go_enter Tryz.func36,Tryz.ntmps36;go_wp2_with fail;refine HC.out.mono ?_;rintro e w1 ⟨rfl,hw⟩;obtain rfl:=hw.symm;go_wp2_with fail;go_ret;exact⟨rb9 E.out,rfl⟩
theorem span_any{s T:ByteArray}{n:Nat}(h:runl (bs9 T).contains (bs9 s)=n)(hs:s.size≤1000000)(w:World):Calls Tryz.prog 62 #[.string s,.string T] w (fun e w'=>e=.returned (.int .i64 (n:Int))∧w'=w):=by
 have H:=Jh h;clear h;go_enter Tryz.func62,Tryz.ntmps62;go_wp2_with fail;go_loopw [8] (fun iv wr=>∃i:Nat,iv=.int .i64 i∧i≤s.size∧((bs9 s).take i).all (bs9 T).contains=true∧wr=w) (fun iv _=>s.size-(intOf iv).toNat)
 case atStart=>exact⟨0,rfl,Nat.zero_le _,rfl,rfl⟩
 case round=>
  obtain⟨i,rfl,hi,hj,rfl⟩:=hrel;have HJ:=Jh hj;clear hj;rcases Nat.lt_or_ge i s.size with hlt|hge
  ·obtain⟨x,hx⟩:∃x,x=(s[i]'hlt).toNat:=⟨_,rfl⟩
   have ex:((s[i]'hlt).toNat:Int)=(x:Int):=by rw[hx]
   have hx2:x<256:=by rw[hx];exact UInt8.toNat_lt _
   have HX:Hid ((bs9 s)[i]?=some x):=by show _=_;rw[bs9_at s i hlt,hx]
   clear hx;obtain⟨z,hz,hc⟩:=idx_is T hx2 wr;have HC:=Jh hc;clear hc;rcases hz with⟨h1,k,rfl⟩|⟨h1,rfl⟩
   ·have HJ2:Hid (((bs9 s).take (i+1)).all (bs9 T).contains=true):=all_step HX.out HJ.out h1
    clear h1;go_wp2_with fail;refine HC.out.mono ?_;rintro e w1 ⟨rfl,rfl⟩;go_wp2_with fail;go_roundw
    case rel=>exact⟨i+1,by go_num,by omega,HJ2.out,trivial⟩
    case measure=>simp[intOf]<;>omega
   ·have E:Hid (n=i):=by show _=_;rw[← H.out];exact runl_is HJ.out (.inr ⟨x,HX.out,h1⟩) (by rw[bs9_len];exact hi)
    clear h1;go_wp2_with fail;refine HC.out.mono ?_;rintro e w1 ⟨rfl,rfl⟩;go_wp2_with fail;go_ret;exact⟨by rw[E.out];rfl,rfl⟩
  ·have E:Hid (n=s.size):=by show _=_;rw[← H.out];exact runl_is (by rw[show s.size=i by omega];exact HJ.out) (.inl (by rw[bs9_len];exact Nat.le_refl _)) (by rw[bs9_len];exact Nat.le_refl _)
   go_wp2_with fail;go_ret;exact⟨by rw[E.out];rfl,rfl⟩
theorem span_is{s T:ByteArray}{f:Nat→Bool}{n:Nat}(hT:((List.range 256).all fun c=>(bs9 T).contains c == f c)=true)(h:runl f (bs9 s)=n)(hs:s.size≤1000000)(w:World):Calls Tryz.prog 62 #[.string s,.string T] w (fun e w'=>e=.returned (.int .i64 (n:Int))∧w'=w):=
 span_any (by rw[runl_set hT (bs9_lt s)];exact h) hs w
theorem behind_is{s:ByteArray}{a n:Nat}(h:bhn a (bs9 s)=n)(hs:s.size≤1000000)(w:World):Calls Tryz.prog 87 #[.string s,.int .u8 (a:Int)] w (fun e w'=>e=.returned (.int .i64 (n:Int))∧w'=w):=by
 have H:=Jh h;clear h;rcases Nat.eq_zero_or_pos s.size with h0|h0
 ·have d:=str_emp h0
  have E:Hid (n=0):=by show _=_;rw[← H.out,nil_of h0];exact bhn_no (by simp)
  go_enter Tryz.func87,Tryz.ntmps87;go_wp2_with fail;go_ret;exact⟨by rw[E.out];rfl,rfl⟩
 ·have d:=str_ne h0
  obtain⟨x,hx⟩:∃x,x=(s[0]'h0).toNat:=⟨_,rfl⟩;have ex:((s[0]'h0).toNat:Int)=(x:Int):=by rw[hx]
  have HX:Hid (bs9 s=x::(bs9 s).drop 1):=by show _=_;rw[hx];exact idx_zero h0
  clear hx;rcases Nat.decEq x a with hxa|hxa
  ·have d2:((x:Int) != (a:Int))=true:=by rw[bne_iff_ne];omega
   have E:Hid (n=0):=by show _=_;rw[← H.out];exact bhn_no (by rw[HX.out];exact fun e=>hxa (Option.some.inj e))
   clear hxa;go_enter Tryz.func87,Tryz.ntmps87;go_wp2_with fail;go_ret;exact⟨by rw[E.out];rfl,rfl⟩
  ·have d2:((x:Int) != (a:Int))=false:=by rw[hxa,bne_self_eq_false]
   obtain⟨X,hX⟩:∃X,s.extract 1 s.size=X:=⟨_,rfl⟩;have hsl:∀w',(Instr.slice 9 (.string s) (some (.int .i64 1)) none none).run Tryz.prog w'=.ok (.string X) w':=sl_from (i:=1) h0 hX;have XB:Hid (bs9 X=(bs9 s).drop 1):=by show _=_;rw[← hX,bs9_drop]
   have hXs:X.size≤1000000:=by rw[← bs9_len,XB.out,List.length_drop,bs9_len];omega
   obtain⟨m,hm⟩:∃m,runl dgB (bs9 X)=m:=⟨_,rfl⟩;have HM:=Jh hm;have hm6:m≤1000000:=by have:=runl_le dgB (bs9 X);rw[hm,bs9_len] at this;omega
   have HN:Hid (n=if m=0 then 0 else m+1):=by
    show _=_;rw[← H.out,HX.out,hxa,← XB.out];exact bhn_yes hm
   clear hm hX hxa;rcases Nat.eq_zero_or_pos m with m0|m0
   ·have dm:((m:Int) == 0)=true:=by rw[beq_iff_eq];omega
    have E:Hid (n=0):=by show _=_;rw[HN.out,if_pos m0]
    clear m0;go_enter Tryz.func87,Tryz.ntmps87;go_wp2_with fail;refine(span_is (f:=dgB) (by decide +kernel) HM.out hXs _).mono ?_;rintro e w1 ⟨rfl,hw⟩;obtain rfl:=hw.symm;go_wp2_with fail;go_ret;exact⟨by rw[E.out];rfl,rfl⟩
   ·have dm:((m:Int) == 0)=false:=by rw[beq_eq_false_iff_ne];omega
    have E:Hid (n=m+1):=by show _=_;rw[HN.out,if_neg (by omega)]
    clear m0;have e1:(1:Int)+(m:Int)=((m+1:Nat):Int):=by omega
    obtain⟨m1,hm1⟩:∃m1,m+1=m1:=⟨_,rfl⟩;rw[hm1] at e1 E;clear hm1;go_enter Tryz.func87,Tryz.ntmps87;go_wp2_with fail;refine(span_is (f:=dgB) (by decide +kernel) HM.out hXs _).mono ?_;rintro e w1 ⟨rfl,hw⟩;obtain rfl:=hw.symm;go_wp2_with fail;go_ret;exact⟨by rw[E.out];rfl,rfl⟩
theorem numsize_is{s:ByteArray}{n:Nat}(h:nmb (bs9 s)=n)(hs:s.size≤1000000)(w:World):Calls Tryz.prog 65 #[.string s] w (fun e w'=>e=.returned (.int .i64 (n:Int))∧w'=w):=by
 have H:=Jh h;clear h;obtain⟨k0,hk0⟩:∃k,runl dgB (bs9 s)=k:=⟨_,rfl⟩;have K0:=Jh hk0;have hk0s:k0≤s.size:=by have:=runl_le dgB (bs9 s);rw[hk0,bs9_len] at this;exact this
 have S0:Hid (nmb1 (bs9 s)=k0+nmb1 ((bs9 s).drop k0)∧((bs9 s).drop k0).head?.any dgB=false):=⟨by rw[← hk0];exact nmb1_digits _,by rw[← hk0];exact run_head _ _⟩;clear hk0;go_enter Tryz.func65,Tryz.ntmps65;go_wp2_with fail;refine(span_is (f:=dgB) (by decide +kernel) K0.out hs _).mono ?_;rintro e w1 ⟨rfl,hw⟩;obtain rfl:=hw.symm;go_wp2_with fail;go_loopw [3] (fun iv wr=>∃i:Nat,iv=.int .i64 i∧i≤s.size∧(nmb1 (bs9 s)=i+nmb1 ((bs9 s).drop i)∧((bs9 s).drop i).head?.any dgB=false)∧wr=w) (fun iv _=>s.size-(intOf iv).toNat)
 case atStart=>exact⟨k0,rfl,hk0s,S0.out,rfl⟩
 case round=>
  obtain⟨i,rfl,hi,hj,rfl⟩:=hrel;have HJ:=Jh hj;clear hj;obtain⟨X,hX⟩:∃X,s.extract i s.size=X:=⟨_,rfl⟩;have hsl:∀w',(Instr.slice 9 (.string s) (some (.int .i64 (i:Int))) none none).run Tryz.prog w'=.ok (.string X) w':=sl_from hi hX;have XB:Hid (bs9 X=(bs9 s).drop i):=by show _=_;rw[← hX,bs9_drop]
  have hXs:X.size≤1000000:=by rw[← bs9_len,XB.out,List.length_drop,bs9_len];omega
  obtain⟨m,hm⟩:∃m,bhn 44 (bs9 X)=m:=⟨_,rfl⟩;have HM:=Jh hm;have him:i+m≤s.size:=by have:=bhn_le 44 (bs9 X);rw[hm,XB.out,List.length_drop,bs9_len] at this;omega
  clear hm hX;rcases Nat.eq_zero_or_pos m with m0|m0
  ·have dm:((m:Int) == 0)=true:=by rw[beq_iff_eq];omega
   have N1:Hid (nmb1 (bs9 s)=i):=by
    show _=_;have:=nmb1_end (m:=(bs9 s).drop i) (by rw[← XB.out,HM.out];exact m0) HJ.out.2;rw[HJ.out.1,this];rfl
   obtain⟨r,hr⟩:∃r,bhn 46 (bs9 X)=r:=⟨_,rfl⟩;have HR:=Jh hr;have hrl:i+r≤s.size:=by have:=bhn_le 46 (bs9 X);rw[hr,XB.out,List.length_drop,bs9_len] at this;omega
   have E:Hid (n=i+r):=by show _=_;rw[← H.out];unfold nmb;rw[N1.out,frac_bhn,← XB.out,hr]
   clear m0 hr;have e1:(i:Int)+(r:Int)=(n:Int):=by have:=E.out;omega
   go_wp2_with fail;refine(behind_is HM.out hXs _).mono ?_;rintro e w1 ⟨rfl,hw⟩;obtain rfl:=hw.symm;go_wp2_with fail;refine(behind_is HR.out hXs _).mono ?_;rintro e w1 ⟨rfl,hw⟩;obtain rfl:=hw.symm;go_wp2_with fail;go_ret;exact⟨rfl,rfl⟩
  ·have dm:((m:Int) == 0)=false:=by rw[beq_eq_false_iff_ne];omega
   obtain⟨j,hj⟩:∃j,i+m=j:=⟨_,rfl⟩;have e1:(i:Int)+(m:Int)=(j:Int):=by omega
   rw[hj] at him;have HJ2:Hid (nmb1 (bs9 s)=j+nmb1 ((bs9 s).drop j)∧((bs9 s).drop j).head?.any dgB=false):=by
    have hmm:bhn 44 ((bs9 s).drop i)=m:=by rw[← XB.out];exact HM.out
    obtain⟨g1,g2⟩:=nmb1_more hmm m0;rw[List.drop_drop,hj] at g1 g2;refine⟨?_,g2⟩;rw[HJ.out.1,g1];omega
   have MZ:Hid (i<j):=by show i<j;omega
   clear m0 hj;go_wp2_with fail;refine(behind_is HM.out hXs _).mono ?_;rintro e w1 ⟨rfl,hw⟩;obtain rfl:=hw.symm;go_wp2_with fail;go_roundw
   case rel=>exact⟨j,by first|rfl|go_num,him,HJ2.out,trivial⟩
   case measure=>have:=MZ.out;simp[intOf]<;>omega
theorem lexmark_is{s:ByteArray}{n:Nat}(h:mrk (bs9 s)=n)(w:World):Calls Tryz.prog 40 #[.string s] w (Ret9 w (.int .i64 (n:Int))):=by
 have H:=Jh h;clear h;cases hb:begB ones (bs9 s) with
 | false=>
  have HB:=Jh hb;have E:Hid (n=0):=by show _=_;rw[← H.out];exact mrk_zero hb
  clear hb;go_enter Tryz.func40,Tryz.ntmps40;go_wp2_with fail;refine(begins_is (T:=⟨#[123,125,64,42,33,43,45,47,40,41,44,126]⟩) HB.out _).mono ?_;rintro e w1 ⟨rfl,hw⟩;obtain rfl:=hw.symm;go_wp2_with fail;go_ret;exact⟨by rw[E.out];rfl,by first|exact Below.refl _ _|exact below_drewN _ _⟩
 | true=>
  have HB:=Jh hb;have h0:0<s.size:=by
   rcases Nat.eq_zero_or_pos s.size with h0|h0
   ·rw[nil_of h0] at hb;cases hb
   ·exact h0
  obtain⟨x,hx⟩:∃x,x=(s[0]'h0).toNat:=⟨_,rfl⟩;have ex:((s[0]'h0).toNat:Int)=(x:Int):=by rw[hx]
  have HX:Hid (bs9 s=x::(bs9 s).drop 1):=by show _=_;rw[hx];exact idx_zero h0
  have HO:Hid (ones.contains x=true):=by show _=_;rw[HX.out,begB_cons] at hb;exact hb
  clear hx hb;cases hd:[123,125,64].contains x with
  | false=>
   have HD:Hid (begB [123,125,64] (bs9 s)=false):=by show _=_;rw[HX.out,begB_cons];exact hd
   have E:Hid (n=1):=by show _=_;rw[← H.out,HX.out];exact mrk_single HO.out (.inl hd)
   clear hd;go_enter Tryz.func40,Tryz.ntmps40;go_wp2_with fail;refine(begins_is (T:=⟨#[123,125,64,42,33,43,45,47,40,41,44,126]⟩) HB.out _).mono ?_;rintro e w1 ⟨rfl,hw⟩;obtain rfl:=hw.symm;go_wp2_with fail;go_quiet ((go_at_call 36;exact Calls.quiet_of_same (begins_is (T:=⟨#[123,125,64]⟩) HD.out _)))
   go_wp2_with fail;go_ret;exact⟨by rw[E.out];rfl,by first|exact Below.refl _ _|exact below_drewN _ _⟩
  | true=>
   have HD:Hid (begB [123,125,64] (bs9 s)=true):=by show _=_;rw[HX.out,begB_cons];exact hd
   have HDD:=Jh hd;clear hd;rcases Nat.lt_or_ge 1 s.size with h1|h1
   ·have dz:decide ((1:Int)<(s.size:Int))=true:=decide_eq_true (by omega)
    obtain⟨y,hy⟩:∃y,y=(s[1]'h1).toNat:=⟨_,rfl⟩;have ey:((s[1]'h1).toNat:Int)=(y:Int):=by rw[hy]
    have HY:Hid (bs9 s=x::y::(bs9 s).drop 2):=by
     show _=_;have:=bs9_get s 1 h1;rw[← hy] at this;rw[← this];exact HX.out
    clear hy;by_cases hxy:y=x
    ·have de:((y:Int) == (x:Int))=true:=by rw[hxy];exact beq_self_eq_true _
     have E:Hid (n=2):=by show _=_;rw[← H.out,HY.out,hxy];exact mrk_same HDD.out
     clear hxy;go_enter Tryz.func40,Tryz.ntmps40;go_wp2_with fail;refine(begins_is (T:=⟨#[123,125,64,42,33,43,45,47,40,41,44,126]⟩) HB.out _).mono ?_;rintro e w1 ⟨rfl,hw⟩;obtain rfl:=hw.symm;go_wp2_with fail;go_quiet ((go_at_call 36;exact Calls.quiet_of_same (begins_is (T:=⟨#[123,125,64]⟩) HD.out _)))
     go_wp2_with fail;go_ret;exact⟨by rw[E.out];rfl,by first|exact Below.refl _ _|exact below_drewN _ _⟩
    ·have de:((y:Int) == (x:Int))=false:=by rw[beq_eq_false_iff_ne];omega
     have E:Hid (n=1):=by show _=_;rw[← H.out,HY.out];exact mrk_single HO.out (.inr fun e=>hxy (Option.some.inj e))
     clear hxy;go_enter Tryz.func40,Tryz.ntmps40;go_wp2_with fail;refine(begins_is (T:=⟨#[123,125,64,42,33,43,45,47,40,41,44,126]⟩) HB.out _).mono ?_;rintro e w1 ⟨rfl,hw⟩;obtain rfl:=hw.symm;go_wp2_with fail;go_quiet ((go_at_call 36;exact Calls.quiet_of_same (begins_is (T:=⟨#[123,125,64]⟩) HD.out _)))
     go_wp2_with fail;go_ret;exact⟨by rw[E.out];rfl,by first|exact Below.refl _ _|exact below_drewN _ _⟩
   ·have dz:decide ((1:Int)<(s.size:Int))=false:=decide_eq_false (by omega)
    have E:Hid (n=1):=by
     show _=_;rw[← H.out,HX.out];refine mrk_single HO.out (.inr ?_);rw[List.drop_of_length_le (by rw[bs9_len];exact h1)];exact fun e=>by cases e
    go_enter Tryz.func40,Tryz.ntmps40;go_wp2_with fail;refine(begins_is (T:=⟨#[123,125,64,42,33,43,45,47,40,41,44,126]⟩) HB.out _).mono ?_;rintro e w1 ⟨rfl,hw⟩;obtain rfl:=hw.symm;go_wp2_with fail;go_quiet ((go_at_call 36;exact Calls.quiet_of_same (begins_is (T:=⟨#[123,125,64]⟩) HD.out _)))
    go_wp2_with fail;go_ret;exact⟨by rw[E.out];rfl,by first|exact Below.refl _ _|exact below_drewN _ _⟩
def nvq:Nat⊕(Nat×List Nat×Nat)→Nat×ByteArray×Nat×Nat
 | .inl e=>(0,⟨#[]⟩,0,e)
 | .inr (k,x,n)=>(k,st9 x,n,0)
def mdv(k:Nat)(Y:ByteArray)(n:Nat)(g:Bool):Nat×ByteArray×Nat×Nat:=if g=true then (k,Y,n,0) else (0,⟨#[]⟩,0,3)
theorem nvq_tkn{k n:Nat}{Y:ByteArray}{x:List Nat}{g:Bool}(h:bs9 Y=x):nvq (tkn k x n g)=mdv k Y n g:=by
 subst h;cases g with
 | true=>show(k,st9 (bs9 Y),n,0)=(k,Y,n,0);rw[st9_bs9]
 | false=>rfl
def Q4(w:World)(k:Nat)(Y:ByteArray)(n e0:Nat):Ending→World→Prop:=Ret9 w (.tuple #[.agg #[.int .i64 (k:Int),.string Y,.int .i64 0,.int .i64 0],.int .i64 (n:Int),.int .i64 (e0:Int)])
def O08(D:List Nat→Bool)(ok:World→Prop):Prop:=∀(s:ByteArray) (w:World),ok w→s.size≤300→Calls Tryz.prog 86 #[.string s] w (fun e w'=>∃(y m d:Int) (z:Nat),e=.returned (.tuple #[.agg #[.int .i64 y,.int .i64 m,.int .i64 d],.int .i64 (z:Int)])∧D (bs9 s)=decide (z=0)∧Below w.heap.size w w')
def O07(N:List Nat→Bool)(ok:World→Prop):Prop:=∀(s:ByteArray) (w:World),ok w→s.size≤6000→Calls Tryz.prog 66 #[.string s] w (fun e w'=>∃(b:Bool) (A:Option Addr) (n c:Nat) (k:Int) (z:Nat),e=.returned (.tuple #[.agg #[.bool b,.slice A n c,.int .i64 k],.int .i64 (z:Int)])∧N (bs9 s)=decide (z=0)∧Below w.heap.size w w')
def O11(ok:World→Prop):Prop:=∀(s:ByteArray) (w:World),ok w→s.size≤6000→Calls Tryz.prog 67 #[.string s] w (Ret9 w (.bool (accB (bs9 s))))
theorem dgz(z:Nat):((z:Int) == 0)=decide (z=0):=by
 rw[Bool.eq_iff_iff,beq_iff_eq,decide_eq_true_iff];omega
theorem first_is{s p:ByteArray}{c:Nat}{b:Bool}(hp:bs9 p=[c])(h:((bs9 s).head? == some c)=b)(w:World):Calls Tryz.prog 33 #[.string s,.string p] w (fun e w'=>e=.returned (.bool b)∧w'=w):=by
 refine prefix_is ?_;rw[hp,← h,beq_iff_eq];constructor
 ·rintro⟨u,hu⟩;rw[hu];rfl
 ·intro hh
  cases hd:bs9 s with
  | nil=>rw[hd] at hh;cases hh
  | cons d t=>rw[hd] at hh;obtain rfl:d=c:=Option.some.inj hh;exact⟨t,rfl⟩
theorem made_is{k n k' n' e':Nat}{Y Y':ByteArray}{g:Bool}(h:mdv k Y n g=(k',Y',n',e'))(w:World):Calls Tryz.prog 41 #[.int .i64 (k:Int),.string Y,.int .i64 (n:Int),.bool g] w (Q4 w k' Y' n' e'):=by
 cases g with
 | true=>
  cases h
  go_enter Tryz.func41,Tryz.ntmps41;go_wp2_with fail;exact bodyPost_ret (v:=.tuple #[.agg #[.int .i64 (k:Int),.string Y,.int .i64 0,.int .i64 0],.int .i64 (n:Int),.int .i64 0]) (by simp[results,Tryz.results41,go_sem]) rfl ⟨rfl,by first|exact(Below.refl _ _).alloc (Nat.le_refl _) _|skip⟩
 | false=>
  cases h
  go_enter Tryz.func41,Tryz.ntmps41;go_wp2_with fail;exact bodyPost_ret (v:=.tuple #[.agg #[.int .i64 0,.string ⟨#[]⟩,.int .i64 0,.int .i64 0],.int .i64 0,.int .i64 3]) (by simp[results,Tryz.results41,go_sem]) rfl ⟨rfl,by first|exact(Below.refl _ _).alloc (Nat.le_refl _) _|skip⟩
def txq(X:ByteArray)(n e:Nat):Nat×ByteArray×Nat×Nat:=if e=0 then (5,X,n,0) else (0,⟨#[]⟩,0,e)
theorem lextext_is{s X Y:ByteArray}{n' e' k n e0:Nat}{w:World}(hu:∀w',Below w.heap.size w w'→Calls Tryz.prog 61 #[.string s] w' (Ret9 w' (.tuple #[.string X,.int .i64 (n':Int),.int .i64 (e':Int)])))(h:txq X n' e'=(k,Y,n,e0)):Calls Tryz.prog 34 #[.string s] w (Q4 w k Y n e0):=by
 have HU:=Jh hu;clear hu;rcases Nat.eq_zero_or_pos e' with z0|z0
 ·have dz:((e':Int) != 0)=false:=by rw[z0];rfl
  have h2:(5,X,n',0)=(k,Y,n,e0):=by rw[← h];unfold txq;rw[if_pos z0]
  have M:Hid (mdv 5 X n' true=(k,Y,n,e0)):=h2;clear h z0 h2;go_enter Tryz.func34,Tryz.ntmps34;have RB:Hid (Rz w (w.alloc (.cells #[.int .i64 0,.string ⟨#[]⟩,.int .i64 0,.int .i64 0] 65))):=Rbx.new _ _ _ _ _ _;go_wp2_with fail;refine(HU.out _ RB.out.1).mono ?_;rintro e w1 ⟨rfl,hb⟩;replace RB:=Jh (RB.out.on hb);clear hb;go_wp2_with fail;refine(made_is M.out _).mono ?_;rintro e w2 ⟨rfl,hb⟩;replace RB:=Jh (RB.out.on hb);clear hb;obtain⟨p0,p1,p2,p3,pf0,pf1,pf2,pf3,plt⟩:=RB.out.2;go_wp2_with fail;have Z:=((((RB.out.2).set0 (.int .i64 (k:Int))).set1 (.string Y)).set2 (.int .i64 0)).set3 (.int .i64 0);obtain⟨e0',e1',e2',e3',_,_,_,_,_⟩:=Z;exact bodyPost_ret (v:=.tuple #[.agg #[.int .i64 (k:Int),.string Y,.int .i64 0,.int .i64 0],.int .i64 (n:Int),.int .i64 (e0:Int)]) (by simp[results,Tryz.results34,go_sem,e0',e1',e2',e3']) rfl ⟨rfl,(((RB.out.1.setCell (p:=⟨w.heap.size,0,none⟩) (Nat.le_refl _) _).setCell (p:=⟨w.heap.size,1,none⟩) (Nat.le_refl _) _).setCell (p:=⟨w.heap.size,2,none⟩) (Nat.le_refl _) _).setCell (p:=⟨w.heap.size,3,none⟩) (Nat.le_refl _) _⟩
 ·have dz:((e':Int) != 0)=true:=by rw[bne_iff_ne];omega
  have h2:(0,⟨#[]⟩,0,e')=(k,Y,n,e0):=by rw[← h];unfold txq;rw[if_neg (by omega)]
  cases h2
  clear h z0;go_enter Tryz.func34,Tryz.ntmps34;have RB:Hid (Rz w (w.alloc (.cells #[.int .i64 0,.string ⟨#[]⟩,.int .i64 0,.int .i64 0] 65))):=Rbx.new _ _ _ _ _ _;go_wp2_with fail;refine(HU.out _ RB.out.1).mono ?_;rintro e w1 ⟨rfl,hb⟩;replace RB:=Jh (RB.out.on hb);clear hb;obtain⟨p0,p1,p2,p3,pf0,pf1,pf2,pf3,plt⟩:=RB.out.2;go_wp2_with fail;have Z:=((((RB.out.2).set0 (.int .i64 0)).set1 (.string ⟨#[]⟩)).set2 (.int .i64 0)).set3 (.int .i64 0);obtain⟨e0',e1',e2',e3',_,_,_,_,_⟩:=Z;exact bodyPost_ret (v:=.tuple #[.agg #[.int .i64 0,.string ⟨#[]⟩,.int .i64 0,.int .i64 0],.int .i64 0,.int .i64 (e':Int)]) (by simp[results,Tryz.results34,go_sem,e0',e1',e2',e3']) rfl ⟨rfl,(((RB.out.1.setCell (p:=⟨w.heap.size,0,none⟩) (Nat.le_refl _) _).setCell (p:=⟨w.heap.size,1,none⟩) (Nat.le_refl _) _).setCell (p:=⟨w.heap.size,2,none⟩) (Nat.le_refl _) _).setCell (p:=⟨w.heap.size,3,none⟩) (Nat.le_refl _) _⟩
theorem marked_is{s:ByteArray}{c kd k n e0:Nat}{Y:ByteArray}(h0:0<s.size)(hk:(if c=94 then 7 else 6)=kd)(h:nvq (tag12 c ((bs9 s).drop 1))=(k,Y,n,e0))(hs:s.size≤6000)(w:World):Calls Tryz.prog 35 #[.string s,.int .i64 (kd:Int)] w (Q4 w k Y n e0):=by
 obtain⟨X,hX⟩:∃X,s.extract 1 s.size=X:=⟨_,rfl⟩;have hsl:∀w',(Instr.slice 9 (.string s) (some (.int .i64 1)) none none).run Tryz.prog w'=.ok (.string X) w':=sl_from (i:=1) h0 hX;have XB:Hid (bs9 X=(bs9 s).drop 1):=by show _=_;rw[← hX,bs9_drop]
 have hXs:X.size≤1000000:=by rw[← bs9_len,XB.out,List.length_drop,bs9_len];omega
 obtain⟨m,hm⟩:∃m,runl (runB mT) (bs9 X)=m:=⟨_,rfl⟩;have HM:=Jh hm;have hm2:m+1≤s.size:=by have:=runl_le (runB mT) (bs9 X);rw[hm,XB.out,List.length_drop,bs9_len] at this;omega
 obtain⟨m1,hm1⟩:∃m1,m+1=m1:=⟨_,rfl⟩;rw[hm1] at hm2;have e1:(1:Int)+(m:Int)=(m1:Int):=by omega
 obtain⟨T,hT⟩:∃T,s.extract 1 m1=T:=⟨_,rfl⟩;have hsl2:∀w',(Instr.slice 9 (.string s) (some (.int .i64 1)) (some (.int .i64 (m1:Int))) none).run Tryz.prog w'=.ok (.string T) w':=sl_both (i:=1) (by omega) hm2 hT;have TB:bs9 T=(bs9 X).take m:=by
  rw[← hT,← hm1,XB.out,bs9_extract,Nat.add_sub_cancel]
 have hTs:T.size≤1000000:=by rw[← bs9_len,TB,List.length_take,bs9_len];omega
 have TBH:=Jh TB;have M:Hid (mdv kd T m1 (tagB (bs9 T))=(k,Y,n,e0)):=by
  show _=_;rw[← h];unfold tag12;rw[← XB.out,hm,hk,hm1,TB,nvq_tkn TB]
 clear hX hm hm1 hT TB h;go_enter Tryz.func35,Tryz.ntmps35;have RB:Hid (Rz w (w.alloc (.cells #[.int .i64 0,.string ⟨#[]⟩,.int .i64 0,.int .i64 0] 65))):=Rbx.new _ _ _ _ _ _;go_wp2_with fail;refine(span_is (f:=runB mT) (by decide +kernel) HM.out hXs _).mono ?_;rintro e w1 ⟨rfl,hw⟩;obtain rfl:=hw.symm;go_wp2_with fail;refine(tag_is rfl hTs _).mono ?_;rintro e w1 ⟨rfl,hw⟩;obtain rfl:=hw.symm;go_wp2_with fail;refine(made_is M.out _).mono ?_;rintro e w2 ⟨rfl,hb⟩;replace RB:=Jh (RB.out.on hb);clear hb;obtain⟨p0,p1,p2,p3,pf0,pf1,pf2,pf3,plt⟩:=RB.out.2;go_wp2_with fail;have Z:=((((RB.out.2).set0 (.int .i64 (k:Int))).set1 (.string Y)).set2 (.int .i64 0)).set3 (.int .i64 0);obtain⟨e0',e1',e2',e3',_,_,_,_,_⟩:=Z;exact bodyPost_ret (v:=.tuple #[.agg #[.int .i64 (k:Int),.string Y,.int .i64 0,.int .i64 0],.int .i64 (n:Int),.int .i64 (e0:Int)]) (by simp[results,Tryz.results35,go_sem,e0',e1',e2',e3']) rfl ⟨rfl,(((RB.out.1.setCell (p:=⟨w.heap.size,0,none⟩) (Nat.le_refl _) _).setCell (p:=⟨w.heap.size,1,none⟩) (Nat.le_refl _) _).setCell (p:=⟨w.heap.size,2,none⟩) (Nat.le_refl _) _).setCell (p:=⟨w.heap.size,3,none⟩) (Nat.le_refl _) _⟩
def dayB(D:List Nat→Bool)(l:List Nat):Bool:=decide (10≤l.length)&&(D (l.take 10) && !((l[10]?).any dgB))
theorem num12_day{D N:List Nat→Bool}{l:List Nat}:num12 D N l=if dayB D l=true then .inr (1,l.take 10,10) else tkn 4 (l.take (nmb l)) (nmb l) (N (l.take (nmb l))):=by
 unfold num12 dayB;by_cases h:10≤l.length∧D (l.take 10)=true∧((l[10]?).any dgB)=false
 ·rw[if_pos h,if_pos (by rw[decide_eq_true h.1,h.2.1,h.2.2];rfl)]
 ·rw[if_neg h,if_neg]
  intro e;rw[Bool.and_eq_true,Bool.and_eq_true,decide_eq_true_iff,Bool.not_eq_true'] at e;exact h e
theorem isday_is{D:List Nat→Bool}{ok:World→Prop}(h8:O08 D ok){s:ByteArray}{b:Bool}(h:dayB D (bs9 s)=b)(hs:s.size≤6000)(w:World)(hok:ok w):Calls Tryz.prog 64 #[.string s] w (Ret9 w (.bool b)):=by
 have H:=Jh h;have H8:=Jh h8;have OK:=Jh hok;clear h h8 hok;rcases Nat.lt_or_ge s.size 10 with h10|h10
 ·have d10:decide ((s.size:Int)<10)=true:=decide_eq_true (by omega)
  have E:Hid (false=b):=by show _=_;rw[← H.out];unfold dayB;rw[bs9_len,decide_eq_false (by omega)];rfl
  go_enter Tryz.func64,Tryz.ntmps64;go_wp2_with fail;go_ret;exact⟨rb9 E.out,Below.refl _ _⟩
 ·have d10:decide ((s.size:Int)<10)=false:=decide_eq_false (by omega)
  obtain⟨X,hX⟩:∃X,s.extract 0 10=X:=⟨_,rfl⟩;have hslX:∀w',(Instr.slice 9 (.string s) none (some (.int .i64 10)) none).run Tryz.prog w'=.ok (.string X) w':=sl_to (i:=10) h10 hX;have HXB:Hid (bs9 X=(bs9 s).take 10):=by show _=_;rw[← hX,bs9_take]
  have hXs:X.size≤300:=by rw[← bs9_len,HXB.out,List.length_take];omega
  obtain⟨R,hR⟩:∃R,s.extract 10 s.size=R:=⟨_,rfl⟩;have hslR:∀w',(Instr.slice 9 (.string s) (some (.int .i64 10)) none none).run Tryz.prog w'=.ok (.string R) w':=sl_from (i:=10) h10 hR;have HRB:Hid (bs9 R=(bs9 s).drop 10):=by show _=_;rw[← hR,bs9_drop]
  have GD:Hid (begB [48,49,50,51,52,53,54,55,56,57] (bs9 R)=((bs9 s)[10]?).any dgB):=by
   show _=_;rw[HRB.out];unfold begB;rw[← List.head?_drop];cases hd:((bs9 s).drop 10).head? with
   | none=>rfl
   | some c=>
    have hc:c<256:=bs9_lt s c (List.mem_of_mem_drop (List.mem_of_head? hd));have hT:((List.range 256).all fun c=>[48,49,50,51,52,53,54,55,56,57].contains c == dgB c)=true:=by decide +kernel
    rw[List.all_eq_true] at hT;exact beq_iff_eq.1 (hT c (List.mem_range.2 hc))
  have HB:Hid (b=(D (bs9 X) && !(((bs9 s)[10]?).any dgB))):=by
   show _=_;rw[← H.out];unfold dayB;rw[bs9_len,decide_eq_true h10,Bool.true_and,HXB.out]
  clear hX hR;go_enter Tryz.func64,Tryz.ntmps64;go_wp2_with fail;refine(H8.out X _ OK.out hXs).mono ?_;rintro e w1 ⟨y,m,d,z,rfl,hz,hb⟩;have BB:=Jh hb;have HZ:=Jh hz;clear hz hb;have hzz:=dgz z;rcases Nat.eq_zero_or_pos z with z0|z0
  ·have dz:((z:Int) == 0)=true:=by rw[z0];rfl
   have E:Hid ((!(((bs9 s)[10]?).any dgB))=b):=by show _=_;rw[HB.out,HZ.out,decide_eq_true z0,Bool.true_and]
   clear hzz z0;go_wp2_with fail;refine(begins_is (T:=⟨#[48,49,50,51,52,53,54,55,56,57]⟩) GD.out _).mono ?_;rintro e w1 ⟨rfl,hw⟩;obtain rfl:=hw.symm;go_wp2_with fail;go_ret;exact⟨rb9 E.out,by first|exact BB.out.alloc BB.out.size _|skip⟩
  ·have dz:((z:Int) == 0)=false:=by rw[beq_eq_false_iff_ne];omega
   have E:Hid (false=b):=by show _=_;rw[HB.out,HZ.out,decide_eq_false (by omega),Bool.false_and]
   clear hzz z0;go_wp2_with fail;go_ret;exact⟨rb9 E.out,by first|exact BB.out.alloc BB.out.size _|skip⟩
theorem counted_is{D N:List Nat→Bool}{ok:World→Prop}(hk:Okw ok)(h8:O08 D ok)(h7:O07 N ok){s:ByteArray}{k n e0:Nat}{Y:ByteArray}(h:nvq (num12 D N (bs9 s))=(k,Y,n,e0))(hs:s.size≤6000)(w:World)(hok:ok w):Calls Tryz.prog 37 #[.string s] w (Q4 w k Y n e0):=by
 have H8:=Jh h8;have H7:=Jh h7;have OK:Hid (∀{W:World},Below w.heap.size w W→ok W):=fun hb=>hk hok hb
 clear h8 h7 hk hok;have hs6:s.size≤1000000:=by omega
 rw[num12_day] at h;cases hd:dayB D (bs9 s) with
 | true=>
  have h10:10≤s.size:=by
   unfold dayB at hd;rw[Bool.and_eq_true,decide_eq_true_iff,bs9_len] at hd;exact hd.1
  obtain⟨X,hX⟩:∃X,s.extract 0 10=X:=⟨_,rfl⟩;have hslX:∀w',(Instr.slice 9 (.string s) none (some (.int .i64 10)) none).run Tryz.prog w'=.ok (.string X) w':=sl_to (i:=10) h10 hX;have M:Hid (mdv 1 X 10 true=(k,Y,n,e0)):=by
   show _=_;rw[← h,hd,if_pos rfl];show(1,X,10,0)=(1,st9 ((bs9 s).take 10),10,0);rw[st9_take hX]
  have HD:=Jh hd;clear h hd hX;go_enter Tryz.func37,Tryz.ntmps37;have RB:Hid (Rz w (w.alloc (.cells #[.int .i64 0,.string ⟨#[]⟩,.int .i64 0,.int .i64 0] 65))):=Rbx.new _ _ _ _ _ _;go_wp2_with fail;refine(isday_is H8.out HD.out hs _ (OK.out RB.out.1)).mono ?_;rintro e w1 ⟨rfl,hb⟩;replace RB:=Jh (RB.out.on hb);clear hb;go_wp2_with fail;refine(made_is (k:=1) (n:=10) M.out _).mono ?_;rintro e w2 ⟨rfl,hb⟩;replace RB:=Jh (RB.out.on hb);clear hb;obtain⟨p0,p1,p2,p3,pf0,pf1,pf2,pf3,plt⟩:=RB.out.2;go_wp2_with fail;have Z:=((((RB.out.2).set0 (.int .i64 (k:Int))).set1 (.string Y)).set2 (.int .i64 0)).set3 (.int .i64 0);obtain⟨e0',e1',e2',e3',_,_,_,_,_⟩:=Z;exact bodyPost_ret (v:=.tuple #[.agg #[.int .i64 (k:Int),.string Y,.int .i64 0,.int .i64 0],.int .i64 (n:Int),.int .i64 (e0:Int)]) (by simp[results,Tryz.results37,go_sem,e0',e1',e2',e3']) rfl ⟨rfl,(((RB.out.1.setCell (p:=⟨w.heap.size,0,none⟩) (Nat.le_refl _) _).setCell (p:=⟨w.heap.size,1,none⟩) (Nat.le_refl _) _).setCell (p:=⟨w.heap.size,2,none⟩) (Nat.le_refl _) _).setCell (p:=⟨w.heap.size,3,none⟩) (Nat.le_refl _) _⟩
 | false=>
  obtain⟨m,hm⟩:∃m,nmb (bs9 s)=m:=⟨_,rfl⟩;have HM:=Jh hm;have hms:m≤s.size:=by have:=nmb_le (bs9 s);rw[hm,bs9_len] at this;exact this
  obtain⟨X,hX⟩:∃X,s.extract 0 m=X:=⟨_,rfl⟩;have hslX:∀w',(Instr.slice 9 (.string s) none (some (.int .i64 (m:Int))) none).run Tryz.prog w'=.ok (.string X) w':=sl_to hms hX;have XB:bs9 X=(bs9 s).take m:=by rw[← hX,bs9_take]
  have hXm:X.size=m:=by rw[← bs9_len,XB,List.length_take,bs9_len];omega
  have hXs:X.size≤6000:=by omega
  have hXm2:(X.size:Int)=(m:Int):=by omega
  have M:Hid (mdv 4 X X.size (N (bs9 X))=(k,Y,n,e0)):=by
   show _=_;rw[← h,hd,if_neg (by decide),hm,hXm,XB,nvq_tkn XB]
  have HD:=Jh hd;clear h hd hX hm XB hXm hXm2;go_enter Tryz.func37,Tryz.ntmps37;have RB:Hid (Rz w (w.alloc (.cells #[.int .i64 0,.string ⟨#[]⟩,.int .i64 0,.int .i64 0] 65))):=Rbx.new _ _ _ _ _ _;go_wp2_with fail;refine(isday_is H8.out HD.out hs _ (OK.out RB.out.1)).mono ?_;rintro e w1 ⟨rfl,hb⟩;replace RB:=Jh (RB.out.on hb);clear hb;go_wp2_with fail;refine(numsize_is HM.out hs6 _).mono ?_;rintro e w1 ⟨rfl,hw⟩;obtain rfl:=hw.symm;go_wp2_with fail;refine(H7.out X _ (OK.out RB.out.1) hXs).mono ?_;rintro e w3 ⟨b,A,nn,c,kk,z,rfl,hz,hb⟩;replace RB:=Jh (RB.out.on hb);clear hb;rw[hz] at M;have dz:=dgz z;clear hz;go_wp2_with fail;first|rw[dz]|skip
  refine(made_is M.out _).mono ?_;rintro e w4 ⟨rfl,hb⟩;replace RB:=Jh ((Rbx.lay RB.out _).on hb);clear hb;obtain⟨p0,p1,p2,p3,pf0,pf1,pf2,pf3,plt⟩:=RB.out.2;go_wp2_with fail;have Z:=((((RB.out.2).set0 (.int .i64 (k:Int))).set1 (.string Y)).set2 (.int .i64 0)).set3 (.int .i64 0);obtain⟨e0',e1',e2',e3',_,_,_,_,_⟩:=Z;exact bodyPost_ret (v:=.tuple #[.agg #[.int .i64 (k:Int),.string Y,.int .i64 0,.int .i64 0],.int .i64 (n:Int),.int .i64 (e0:Int)]) (by simp[results,Tryz.results37,go_sem,e0',e1',e2',e3']) rfl ⟨rfl,(((RB.out.1.setCell (p:=⟨w.heap.size,0,none⟩) (Nat.le_refl _) _).setCell (p:=⟨w.heap.size,1,none⟩) (Nat.le_refl _) _).setCell (p:=⟨w.heap.size,2,none⟩) (Nat.le_refl _) _).setCell (p:=⟨w.heap.size,3,none⟩) (Nat.le_refl _) _⟩
theorem named_is{ok:World→Prop}(hk:Okw ok)(h11:O11 ok){s:ByteArray}{k n e0:Nat}{Y:ByteArray}(h:nvq (acc12 (bs9 s))=(k,Y,n,e0))(hs:s.size≤6000)(w:World)(hok:ok w):Calls Tryz.prog 38 #[.string s] w (Q4 w k Y n e0):=by
 have H11:=Jh h11;have OK:Hid (∀{W:World},Below w.heap.size w W→ok W):=fun hb=>hk hok hb
 clear h11 hk hok;obtain⟨m,hm⟩:∃m,runl (runB mA) (bs9 s)=m:=⟨_,rfl⟩;have HM:=Jh hm;have hms:m≤s.size:=by have:=runl_le (runB mA) (bs9 s);rw[hm,bs9_len] at this;exact this
 obtain⟨X,hX⟩:∃X,s.extract 0 m=X:=⟨_,rfl⟩;have hslX:∀w',(Instr.slice 9 (.string s) none (some (.int .i64 (m:Int))) none).run Tryz.prog w'=.ok (.string X) w':=sl_to hms hX;have XB:bs9 X=(bs9 s).take m:=by rw[← hX,bs9_take]
 have hXm:X.size=m:=by rw[← bs9_len,XB,List.length_take,bs9_len];omega
 have hXs:X.size≤6000:=by omega
 have hXs6:X.size≤1000000:=by omega
 have hs6:s.size≤1000000:=by omega
 unfold acc12 at h;rw[hm,← XB] at h;cases ha:accB (bs9 X) with
 | true=>
  have M:Hid (mdv 2 X X.size true=(k,Y,n,e0)):=by
   show _=_;rw[← h,if_pos ha,hXm];show(2,X,m,0)=(2,st9 (bs9 X),m,0);rw[st9_bs9]
  have HA:=Jh ha;clear h ha hX hm XB hXm;go_enter Tryz.func38,Tryz.ntmps38;have RB:Hid (Rz w (w.alloc (.cells #[.int .i64 0,.string ⟨#[]⟩,.int .i64 0,.int .i64 0] 65))):=Rbx.new _ _ _ _ _ _;go_wp2_with fail;refine(span_is (f:=runB mA) (by decide +kernel) HM.out hs6 _).mono ?_;rintro e w1 ⟨rfl,hw⟩;obtain rfl:=hw.symm;go_wp2_with fail;refine(H11.out X _ (OK.out RB.out.1) hXs).mono ?_;rintro e w2 ⟨rfl,hb⟩;rw[HA.out];replace RB:=Jh (RB.out.on hb);clear hb;go_wp2_with fail;refine(made_is (k:=2) M.out _).mono ?_;rintro e w3 ⟨rfl,hb⟩;replace RB:=Jh (RB.out.on hb);clear hb;obtain⟨p0,p1,p2,p3,pf0,pf1,pf2,pf3,plt⟩:=RB.out.2;go_wp2_with fail;have Z:=((((RB.out.2).set0 (.int .i64 (k:Int))).set1 (.string Y)).set2 (.int .i64 0)).set3 (.int .i64 0);obtain⟨e0',e1',e2',e3',_,_,_,_,_⟩:=Z;exact bodyPost_ret (v:=.tuple #[.agg #[.int .i64 (k:Int),.string Y,.int .i64 0,.int .i64 0],.int .i64 (n:Int),.int .i64 (e0:Int)]) (by simp[results,Tryz.results38,go_sem,e0',e1',e2',e3']) rfl ⟨rfl,(((RB.out.1.setCell (p:=⟨w.heap.size,0,none⟩) (Nat.le_refl _) _).setCell (p:=⟨w.heap.size,1,none⟩) (Nat.le_refl _) _).setCell (p:=⟨w.heap.size,2,none⟩) (Nat.le_refl _) _).setCell (p:=⟨w.heap.size,3,none⟩) (Nat.le_refl _) _⟩
 | false=>
  have M:Hid (mdv 3 X X.size (curB (bs9 X))=(k,Y,n,e0)):=by
   show _=_;rw[← h,if_neg (by rw[ha];decide),hXm,nvq_tkn rfl]
  have HA:=Jh ha;clear h ha hX hm XB hXm;go_enter Tryz.func38,Tryz.ntmps38;have RB:Hid (Rz w (w.alloc (.cells #[.int .i64 0,.string ⟨#[]⟩,.int .i64 0,.int .i64 0] 65))):=Rbx.new _ _ _ _ _ _;go_wp2_with fail;refine(span_is (f:=runB mA) (by decide +kernel) HM.out hs6 _).mono ?_;rintro e w1 ⟨rfl,hw⟩;obtain rfl:=hw.symm;go_wp2_with fail;refine(H11.out X _ (OK.out RB.out.1) hXs).mono ?_;rintro e w2 ⟨rfl,hb⟩;rw[HA.out];replace RB:=Jh (RB.out.on hb);clear hb;go_wp2_with fail;refine(currency_is rfl hXs6 _).mono ?_;rintro e w1 ⟨rfl,hw⟩;obtain rfl:=hw.symm;go_wp2_with fail;refine(made_is (k:=3) M.out _).mono ?_;rintro e w3 ⟨rfl,hb⟩;replace RB:=Jh (RB.out.on hb);clear hb;obtain⟨p0,p1,p2,p3,pf0,pf1,pf2,pf3,plt⟩:=RB.out.2;go_wp2_with fail;have Z:=((((RB.out.2).set0 (.int .i64 (k:Int))).set1 (.string Y)).set2 (.int .i64 0)).set3 (.int .i64 0);obtain⟨e0',e1',e2',e3',_,_,_,_,_⟩:=Z;exact bodyPost_ret (v:=.tuple #[.agg #[.int .i64 (k:Int),.string Y,.int .i64 0,.int .i64 0],.int .i64 (n:Int),.int .i64 (e0:Int)]) (by simp[results,Tryz.results38,go_sem,e0',e1',e2',e3']) rfl ⟨rfl,(((RB.out.1.setCell (p:=⟨w.heap.size,0,none⟩) (Nat.le_refl _) _).setCell (p:=⟨w.heap.size,1,none⟩) (Nat.le_refl _) _).setCell (p:=⟨w.heap.size,2,none⟩) (Nat.le_refl _) _).setCell (p:=⟨w.heap.size,3,none⟩) (Nat.le_refl _) _⟩
theorem plain_is12{s:ByteArray}{k n e0:Nat}{Y:ByteArray}(h:nvq (key12 (bs9 s))=(k,Y,n,e0))(hs:s.size≤6000)(w:World):Calls Tryz.prog 39 #[.string s] w (Q4 w k Y n e0):=by
 obtain⟨m,hm⟩:∃m,runl (runB mK) (bs9 s)=m:=⟨_,rfl⟩;have HM:=Jh hm;have hms:m≤s.size:=by have:=runl_le (runB mK) (bs9 s);rw[hm,bs9_len] at this;exact this
 obtain⟨X,hX⟩:∃X,s.extract 0 m=X:=⟨_,rfl⟩;have hslX:∀w',(Instr.slice 9 (.string s) none (some (.int .i64 (m:Int))) none).run Tryz.prog w'=.ok (.string X) w':=sl_to hms hX;have XB:bs9 X=(bs9 s).take m:=by rw[← hX,bs9_take]
 have hXm:X.size=m:=by rw[← bs9_len,XB,List.length_take,bs9_len];omega
 have hXs:X.size≤6000:=by omega
 have hXs6:X.size≤1000000:=by omega
 have hs6:s.size≤1000000:=by omega
 obtain⟨R,hR⟩:∃R,s.extract m s.size=R:=⟨_,rfl⟩;have hslR:∀w',(Instr.slice 9 (.string s) (some (.int .i64 (X.size:Int))) none none).run Tryz.prog w'=.ok (.string R) w':=by rw[hXm];exact sl_from hms hR
 have RBs:bs9 R=(bs9 s).drop m:=by rw[← hR,bs9_drop]
 have PRE:Hid ((bs9 R).head?=(bs9 s)[m]?):=by show _=_;rw[RBs,← List.head?_drop]
 unfold key12 at h;rw[hm,← XB] at h;by_cases hc:(bs9 s)[m]?=some 58
 ·obtain⟨m1,hm1⟩:∃m1,X.size+1=m1:=⟨_,rfl⟩
  have e1:(X.size:Int)+1=(m1:Int):=by omega
  have PB:Hid (((bs9 R).head? == some 58)=true):=by show _=_;rw[PRE.out,hc];rfl
  have M:Hid (mdv 9 X m1 (keyB (bs9 X))=(k,Y,n,e0)):=by
   show _=_;rw[← h,if_pos hc,← hm1,hXm,nvq_tkn rfl]
  clear h hc hX hm XB hXm hm1 hR RBs PRE;go_enter Tryz.func39,Tryz.ntmps39;have RB:Hid (Rz w (w.alloc (.cells #[.int .i64 0,.string ⟨#[]⟩,.int .i64 0,.int .i64 0] 65))):=Rbx.new _ _ _ _ _ _;go_wp2_with fail;refine(span_is (f:=runB mK) (by decide +kernel) HM.out hs6 _).mono ?_;rintro e w1 ⟨rfl,hw⟩;obtain rfl:=hw.symm;go_wp2_with fail;refine(first_is (c:=58) (p:=⟨#[58]⟩) rfl PB.out _).mono ?_;rintro e w1 ⟨rfl,hw⟩;obtain rfl:=hw.symm;go_wp2_with fail;refine(key_is rfl hXs6 _).mono ?_;rintro e w1 ⟨rfl,hw⟩;obtain rfl:=hw.symm;go_wp2_with fail;refine(made_is (k:=9) M.out _).mono ?_;rintro e w3 ⟨rfl,hb⟩;replace RB:=Jh (RB.out.on hb);clear hb;obtain⟨p0,p1,p2,p3,pf0,pf1,pf2,pf3,plt⟩:=RB.out.2;go_wp2_with fail;have Z:=((((RB.out.2).set0 (.int .i64 (k:Int))).set1 (.string Y)).set2 (.int .i64 0)).set3 (.int .i64 0);obtain⟨e0',e1',e2',e3',_,_,_,_,_⟩:=Z;exact bodyPost_ret (v:=.tuple #[.agg #[.int .i64 (k:Int),.string Y,.int .i64 0,.int .i64 0],.int .i64 (n:Int),.int .i64 (e0:Int)]) (by simp[results,Tryz.results39,go_sem,e0',e1',e2',e3']) rfl ⟨rfl,(((RB.out.1.setCell (p:=⟨w.heap.size,0,none⟩) (Nat.le_refl _) _).setCell (p:=⟨w.heap.size,1,none⟩) (Nat.le_refl _) _).setCell (p:=⟨w.heap.size,2,none⟩) (Nat.le_refl _) _).setCell (p:=⟨w.heap.size,3,none⟩) (Nat.le_refl _) _⟩
 ·have PB:Hid (((bs9 R).head? == some 58)=false):=by show _=_;rw[PRE.out,beq_eq_false_iff_ne];exact hc
  have M:Hid (mdv 8 X X.size (keyB (bs9 X))=(k,Y,n,e0)):=by
   show _=_;rw[← h,if_neg hc,hXm,nvq_tkn rfl]
  clear h hc hX hm XB hXm hR RBs PRE;go_enter Tryz.func39,Tryz.ntmps39;have RB:Hid (Rz w (w.alloc (.cells #[.int .i64 0,.string ⟨#[]⟩,.int .i64 0,.int .i64 0] 65))):=Rbx.new _ _ _ _ _ _;go_wp2_with fail;refine(span_is (f:=runB mK) (by decide +kernel) HM.out hs6 _).mono ?_;rintro e w1 ⟨rfl,hw⟩;obtain rfl:=hw.symm;go_wp2_with fail;refine(first_is (c:=58) (p:=⟨#[58]⟩) rfl PB.out _).mono ?_;rintro e w1 ⟨rfl,hw⟩;obtain rfl:=hw.symm;go_wp2_with fail;refine(key_is rfl hXs6 _).mono ?_;rintro e w1 ⟨rfl,hw⟩;obtain rfl:=hw.symm;go_wp2_with fail;refine(made_is (k:=8) M.out _).mono ?_;rintro e w3 ⟨rfl,hb⟩;replace RB:=Jh (RB.out.on hb);clear hb;obtain⟨p0,p1,p2,p3,pf0,pf1,pf2,pf3,plt⟩:=RB.out.2;go_wp2_with fail;have Z:=((((RB.out.2).set0 (.int .i64 (k:Int))).set1 (.string Y)).set2 (.int .i64 0)).set3 (.int .i64 0);obtain⟨e0',e1',e2',e3',_,_,_,_,_⟩:=Z;exact bodyPost_ret (v:=.tuple #[.agg #[.int .i64 (k:Int),.string Y,.int .i64 0,.int .i64 0],.int .i64 (n:Int),.int .i64 (e0:Int)]) (by simp[results,Tryz.results39,go_sem,e0',e1',e2',e3']) rfl ⟨rfl,(((RB.out.1.setCell (p:=⟨w.heap.size,0,none⟩) (Nat.le_refl _) _).setCell (p:=⟨w.heap.size,1,none⟩) (Nat.le_refl _) _).setCell (p:=⟨w.heap.size,2,none⟩) (Nat.le_refl _) _).setCell (p:=⟨w.heap.size,3,none⟩) (Nat.le_refl _) _⟩
theorem uqg_lt:∀(f:Nat) {l o:List Nat}{n:Nat},l.length≤f→uqg l=.inr (o,n)→(∀c∈l,c<256)→∀c∈o,c<256:=by
 intro f;induction f with
 | zero=>intro l o n hf h;rw[List.eq_nil_of_length_eq_zero (Nat.le_zero.1 hf),uqg] at h;cases h
 | succ f ih=>
  intro l o n hf h hl;cases l with
  | nil=>rw[uqg] at h;cases h
  | cons b t=>
   have one:∀{m d:Nat}{u:List Nat},u.length≤f→d<256→(∀c∈u,c<256)→pre m d (uqg u)=.inr (o,n)→∀c∈o,c<256:=by
    intro m d u hu hd hlu e c hc;cases hq:uqg u with
    | inl y=>rw[hq] at e;cases e
    | inr p=>
     obtain⟨o',n'⟩:=p;rw[hq] at e;cases e
     rcases List.mem_cons.1 hc with rfl|hc
     ·exact hd
     ·exact ih hu hq hlu c hc
   have hf2:t.length≤f:=by simpa using hf
   by_cases h34:b=34
   ·subst h34;rw[uqg_end] at h;cases h;intro c hc;cases hc
   ·by_cases h92:b=92
    ·subst h92
     cases t with
     | nil=>rw[uqg,if_neg (by decide)] at h;cases h
     | cons c u=>
      cases hc:une c with
      | none=>rw[uqg_none hc] at h;cases h
      | some d=>
       rw[uqg_esc hc] at h;exact one (by simp at hf2;omega) (by unfold une at hc;(repeat' split at hc)<;>(try (cases hc;try decide))) (fun x hx=>hl x (List.mem_cons_of_mem _ (List.mem_cons_of_mem _ hx))) h
    ·rw[uqg_byte h34 h92] at h
     exact one hf2 (hl b List.mem_cons_self) (fun x hx=>hl x (List.mem_cons_of_mem _ hx)) h
theorem tk_lt{k n k' n':Nat}{x y:List Nat}{g:Bool}(h:tkn k' y n' g=.inr (k,x,n))(hy:∀c∈y,c<256):∀c∈x,c<256:=by
 obtain⟨_,hp⟩:=tkn_ok h;cases hp
 exact hy
theorem nxt_lt{D N:List Nat→Bool}{l:List Nat}{k n:Nat}{x:List Nat}(h:nxt D N l=.inr (k,x,n))(hl:∀c∈l,c<256):∀c∈x,c<256:=by
 cases l with
 | nil=>rw[nxt] at h;cases h
 | cons c t=>
  have ht:∀{m:Nat},∀d∈t.take m,d<256:=fun d hd=>hl d (List.mem_cons_of_mem _ (List.mem_of_mem_take hd))
  have hc:∀{m:Nat},∀d∈(c::t).take m,d<256:=fun d hd=>hl d (List.mem_of_mem_take hd)
  rw[nxt] at h;split at h
  ·cases hq:uqg t with
   | inl y=>rw[hq] at h;cases h
   | inr p=>
    obtain⟨o,m⟩:=p;rw[hq] at h;cases h
    exact uqg_lt _ (Nat.le_refl _) hq (fun d hd=>hl d (List.mem_cons_of_mem _ hd))
  split at h
  ·exact tk_lt h ht
  split at h
  ·unfold num12 at h
   split at h
   ·cases h;exact hc
   ·exact tk_lt h hc
  split at h
  ·unfold acc12 at h
   split at h
   ·cases h;exact hc
   ·exact tk_lt h hc
  split at h
  ·unfold key12 at h
   split at h
   ·exact tk_lt h hc
   ·exact tk_lt h hc
  ·exact tk_lt h hc
def rowT(no:Int):List Wd→List Value
 | []=>[]
 | t::L=>.int .i64 (t.1:Int)::.string (st9 t.2.1)::.int .i64 no::.int .i64 (t.2.2:Int)::rowT no L
theorem rowT_push(no:Int):∀(L:List Wd) (t:Wd),rowT no (L++[t])=rowT no L++[.int .i64 (t.1:Int),.string (st9 t.2.1),.int .i64 no,.int .i64 (t.2.2:Int)]
 | [],_=>rfl
 | u::L,t=>by rw[List.cons_append,rowT,rowT_push no L t,rowT];rfl
theorem info_tok:(Tryz.prog.info? 65).map (fun i=>(i.zero,i.size,i.bytes))=some (some (.agg #[.int .i64 0,.string ⟨#[]⟩,.int .i64 0,.int .i64 0]),4,40):=by kernel_rfl
theorem zcells4:(Value.agg #[.int .i64 0,.string ⟨#[]⟩,.int .i64 0,.int .i64 0]).cells.size=4:=by simp[Value.cells]
def OwnT(w:World)(base:Nat)(v:Value)(no:Int)(L:List Wd):Prop:=w.ownsRow base 65 4 v L.length (rowT no L)
def RdT(w:World)(A:Option Addr)(n c:Nat)(no:Int)(L:List Wd):Prop:=n=L.length∧n≤c∧c≤maxLen∧(L=[]∨∃b o,A=some ⟨b,o,none⟩∧b<w.heap.size∧∀j u,(rowT no L)[j]?=some u→w.cell? ⟨b,o+j,none⟩=some u)
section
variable {w w':World}{base:Nat}{v:Value}{no:Int}{L:List Wd}
theorem OwnT.start(w:World)(base:Nat)(no:Int):OwnT w base (.slice none 0 0) no []:=World.ownsRow_nil _ _ _ _
theorem OwnT.on(h:OwnT w base v no L)(hb:Below w.heap.size w w'):OwnT w' base v no L:=World.ownsRow.kept h (grown10 hb) (by cases hv:v.ownBlock<;>simp)
theorem OwnT.slen(h:OwnT w base v no L):∃A c,v=.slice A L.length c:=by
 rcases h.2 with⟨rfl,h0⟩|⟨g,cap,cur,rfl,_⟩
 ·have:L=[]:=List.eq_nil_of_length_eq_zero h0
  subst this;exact⟨none,0,rfl⟩
 ·exact⟨_,_,rfl⟩
theorem RdT.on{A:Option Addr}{n c:Nat}(h:RdT w A n c no L)(hb:Below w.heap.size w w'):RdT w' A n c no L:=by
 obtain⟨h1,h2,h3,h|⟨b,o,h4,h5,h6⟩⟩:=h
 ·exact⟨h1,h2,h3,.inl h⟩
 ·exact⟨h1,h2,h3,.inr ⟨b,o,h4,Nat.lt_of_lt_of_le h5 hb.size,fun j u hu=>(hb.cell (p:=⟨b,o+j,none⟩) h5).trans (h6 j u hu)⟩⟩
theorem OwnT.rd(h:OwnT w base v no L):∃A c,v=.slice A L.length c∧RdT w A L.length c no L:=by
 have hlt:=World.ownsRow.lt h;have hc:=fun g e=>World.ownsRow.cells h (g:=g) e
 rcases h.2 with⟨rfl,h0⟩|⟨g,cap,cur,rfl,hb,hg,h3,h4,_⟩
 ·have:L=[]:=List.eq_nil_of_length_eq_zero h0
  subst this;exact⟨none,0,rfl,rfl,Nat.le_refl _,Nat.zero_le _,.inl rfl⟩
 ·refine⟨_,_,rfl,rfl,h3,h4,.inr ⟨g,0,rfl,(hlt g rfl).2,fun j u hu=>?_⟩⟩
  have:=hc g rfl j u hu;rwa [Addr.add_lit] at this
end
theorem tok_new(v:World)(x0 x1 x2 x3:Value)(ty:TypeId){g:Nat}(hg:g=v.heap.size):∀j u,([x0,x1,x2,x3]:List Value)[j]?=some u→(v.alloc (.cells #[x0,x1,x2,x3] ty)).cell? ((⟨g,0,none⟩:Addr).add j)=some u:=by
 intro j u hu;subst hg;rw[Addr.add_lit,cell_of_row _ v.heap.size _ _ ty (0,0) (heap_alloc_new v _),Nat.zero_add,← Array.getElem?_toList];simpa using hu
structure Bx3 (v:World) (g:Nat) (x0 x1 x2:Value):Prop where
 c0:v.cell? ⟨g,0,none⟩=some x0
 c1:v.cell? ⟨g,1,none⟩=some x1
 c2:v.cell? ⟨g,2,none⟩=some x2
 f0:v.frozen? ⟨g,0,none⟩=false
 f1:v.frozen? ⟨g,1,none⟩=false
 f2:v.frozen? ⟨g,2,none⟩=false
 lt:g<v.heap.size
theorem Bx3.newAt{g:Nat}(v:World)(x0 x1 x2:Value)(t:TypeId)(h:g=v.heap.size):Bx3 (v.alloc (.cells #[x0,x1,x2] t)) g x0 x1 x2:=by
 subst h;exact⟨by simp,by simp,by simp,by simp,by simp,by simp,by simp⟩
theorem Bx3.below{v v':World}{g B:Nat}{x0 x1 x2:Value}(h:Bx3 v g x0 x1 x2)(hb:Below B v v')(hg:g<B):Bx3 v' g x0 x1 x2:=
  ⟨(hb.cell (p:=⟨g,0,none⟩) hg).trans h.c0,(hb.cell (p:=⟨g,1,none⟩) hg).trans h.c1,(hb.cell (p:=⟨g,2,none⟩) hg).trans h.c2,
   (hb.frozen (p:=⟨g,0,none⟩) hg).trans h.f0,(hb.frozen (p:=⟨g,1,none⟩) hg).trans h.f1,(hb.frozen (p:=⟨g,2,none⟩) hg).trans h.f2,Nat.lt_of_lt_of_le h.lt hb.size⟩
theorem Bx3.on{v v':World}{g:Nat}{x0 x1 x2:Value}(h:Bx3 v g x0 x1 x2)(hb:Below v.heap.size v v'):Bx3 v' g x0 x1 x2:=h.below hb h.lt
theorem Bx3.set0{v:World}{g:Nat}{x0 x1 x2:Value}(h:Bx3 v g x0 x1 x2)(y:Value):Bx3 (v.setCell ⟨g,0,none⟩ y) g y x1 x2:=
 ⟨World.cell?_setCell_same _ _ _ h.c0,(World.cell?_setCell_other _ _ _ _ (by simp)).trans h.c1,(World.cell?_setCell_other _ _ _ _ (by simp)).trans h.c2,by rw[World.frozen?_setCell];exact h.f0,by rw[World.frozen?_setCell];exact h.f1,by rw[World.frozen?_setCell];exact h.f2,by have:=h.lt;simpa using this⟩
theorem Bx3.set1{v:World}{g:Nat}{x0 x1 x2:Value}(h:Bx3 v g x0 x1 x2)(y:Value):Bx3 (v.setCell ⟨g,1,none⟩ y) g x0 y x2:=
 ⟨(World.cell?_setCell_other _ _ _ _ (by simp)).trans h.c0,World.cell?_setCell_same _ _ _ h.c1,(World.cell?_setCell_other _ _ _ _ (by simp)).trans h.c2,by rw[World.frozen?_setCell];exact h.f0,by rw[World.frozen?_setCell];exact h.f1,by rw[World.frozen?_setCell];exact h.f2,by have:=h.lt;simpa using this⟩
theorem Bx3.set2{v:World}{g:Nat}{x0 x1 x2:Value}(h:Bx3 v g x0 x1 x2)(y:Value):Bx3 (v.setCell ⟨g,2,none⟩ y) g x0 x1 y:=
 ⟨(World.cell?_setCell_other _ _ _ _ (by simp)).trans h.c0,(World.cell?_setCell_other _ _ _ _ (by simp)).trans h.c1,World.cell?_setCell_same _ _ _ h.c2,by rw[World.frozen?_setCell];exact h.f0,by rw[World.frozen?_setCell];exact h.f1,by rw[World.frozen?_setCell];exact h.f2,by have:=h.lt;simpa using this⟩
def Mw(w W:World)(no:Int)(s:ByteArray):Prop:=Below w.heap.size w W∧Bx2 W w.heap.size (.int .i64 no) (.string s)∧Bx3 W (w.heap.size+1) (.int .i64 0) (.int .i64 0) (.int .i64 0)
theorem Mw.below{w W W':World}{no:Int}{s:ByteArray}{B:Nat}(h:Mw w W no s)(hb:Below B W W')(hB:w.heap.size+2≤B):Mw w W' no s:=
 ⟨h.1.trans (hb.mono (by omega)),h.2.1.below hb (by omega),h.2.2.below hb (by omega)⟩
theorem Mw.lt{w W:World}{no:Int}{s:ByteArray}(h:Mw w W no s):w.heap.size+2≤W.heap.size:=h.2.2.lt
theorem Mw.on{w W W':World}{no:Int}{s:ByteArray}(h:Mw w W no s)(hb:Below W.heap.size W W'):Mw w W' no s:=h.below hb h.lt
def appW(ts:List Wd):(Nat×Nat)⊕List Wd→(Nat×Nat)⊕List Wd
 | .inl p=>.inl p
 | .inr r=>.inr (ts++r)
theorem appW_cons(ts:List Wd)(t:Wd)(r:(Nat×Nat)⊕List Wd):appW ts (consW t r)=appW (ts++[t]) r:=by
 cases r with
 | inl p=>rfl
 | inr r=>show Sum.inr (ts++t::r)=Sum.inr (ts++[t]++r);rw[List.append_assoc];rfl
theorem appW_nil(r:(Nat×Nat)⊕List Wd):appW [] r=r:=by cases r<;>rfl
def RetW(W:World)(no:Int):(Nat×Nat)⊕List Wd→Ending→World→Prop
 | .inl (c,x),e,w'=>e=.returned (.tuple #[.slice none 0 0,.agg #[.int .i64 no,.int .i64 (c:Int),.int .i64 (x:Int)]])∧Below W.heap.size W w'
 | .inr ts,e,w'=>(∃A c,e=.returned (.tuple #[.slice A ts.length c,.agg #[.int .i64 0,.int .i64 0,.int .i64 0]])∧RdT w' A ts.length c no ts)∧Below W.heap.size W w'
def UNQ(ok:World→Prop):Prop:=∀{s X:ByteArray}{n e:Nat}{w:World},ok w→uqv (bs9 s)=(bs9 X,n,e)→s.size≤6000→Calls Tryz.prog 61 #[.string s] w (Ret9 w (.tuple #[.string X,.int .i64 (n:Int),.int .i64 (e:Int)]))
theorem beg_is{T s:ByteArray}{f:Nat→Bool}{x:Nat}{t:List Nat}{b:Bool}(hT:((List.range 256).all fun c=>(bs9 T).contains c == f c)=true)(hX:bs9 s=x::t)(hx:x<256)(h:f x=b):begB (bs9 T) (bs9 s)=b:=by
 rw[List.all_eq_true] at hT;rw[hX,begB_cons,← h];exact beq_iff_eq.1 (hT x (List.mem_range.2 hx))
theorem txq_is{D N:List Nat→Bool}{s:ByteArray}{t:List Nat}(hs:bs9 s=34::t):∃X n e,uqv (bs9 s)=(bs9 X,n,e)∧nvq (nxt D N (bs9 s))=txq X n e:=by
 have hl:=bs9_lt s;rw[hs] at hl;rw[hs,(nxt_of D N 34 t).1 rfl];cases hu:uqg t with
 | inl e=>
  have he:=nxt_err (D:=D) (N:=N) (l:=34::t) (e:=e) (by rw[(nxt_of D N 34 t).1 rfl,hu];rfl);refine⟨⟨#[]⟩,0,e,by rw[uqv,if_pos rfl,hu];rfl,?_⟩;unfold txq;rw[if_neg (by omega)];rfl
 | inr p=>
  obtain⟨y,n⟩:=p;have hy:∀c∈y,c<256:=nxt_lt (D:=D) (N:=N) (l:=34::t) (k:=5) (n:=n+1) (by rw[(nxt_of D N 34 t).1 rfl,hu];rfl) hl;refine⟨st9 y,n+1,0,by rw[uqv,if_pos rfl,hu,bs9_st9 hy],?_⟩;rfl
theorem lexnext_is{D N:List Nat→Bool}{ok:World→Prop}(hk:Okw ok)(hu:UNQ ok)(h8:O08 D ok)(h7:O07 N ok)(h11:O11 ok){s:ByteArray}{k n e0:Nat}{Y:ByteArray}(h:nvq (nxt D N (bs9 s))=(k,Y,n,e0))(hs:s.size≤6000)(w:World)(hok:ok w):Calls Tryz.prog 15 #[.string s] w (Q4 w k Y n e0):=by
 have HU:Hid (UNQ ok):=hu;have H8:=Jh h8;have H7:=Jh h7;have H11:=Jh h11;have HK:Hid (Okw ok):=hk;have OK:Hid (∀{W:World},Below w.heap.size w W→ok W):=fun hb=>hk hok hb
 clear hu h8 h7 h11 hk hok;have hs6:s.size≤1000000:=by omega
 rcases Nat.eq_zero_or_pos s.size with h0|h0
 ·have d:=str_emp h0
  have h2:(0,⟨#[]⟩,0,1)=(k,Y,n,e0):=by rw[← h,nil_of h0];rfl
  cases h2
  clear h;go_enter Tryz.func15,Tryz.ntmps15;have RB:Hid (Rz w (w.alloc (.cells #[.int .i64 0,.string ⟨#[]⟩,.int .i64 0,.int .i64 0] 65))):=Rbx.new _ _ _ _ _ _;go_wp2_with fail;exact bodyPost_ret (v:=.tuple #[.agg #[.int .i64 0,.string ⟨#[]⟩,.int .i64 0,.int .i64 0],.int .i64 0,.int .i64 1]) (by simp[results,Tryz.results15,go_sem]) rfl ⟨rfl,(Below.refl _ _).alloc (Nat.le_refl _) _⟩
 have d:=str_ne h0;obtain⟨x,hx⟩:∃x,x=(s[0]'h0).toNat:=⟨_,rfl⟩;have ex:((s[0]'h0).toNat:Int)=(x:Int):=by rw[hx]
 have hx2:x<256:=by rw[hx];exact UInt8.toNat_lt _
 have HX:Hid (bs9 s=x::(bs9 s).drop 1):=by show _=_;rw[hx];exact idx_zero h0
 obtain⟨X1,hX1⟩:∃X,s.extract 0 1=X:=⟨_,rfl⟩;have hsl1:∀w',(Instr.slice 9 (.string s) none (some (.int .i64 1)) none).run Tryz.prog w'=.ok (.string X1) w':=sl_to (i:=1) h0 hX1;have XB1:Hid (bs9 X1=[x]):=by show _=_;rw[← hX1,bs9_take,HX.out];rfl
 have yes:∀{c:UInt8},x=c.toNat→(X1.toList == [c])=true:=fun {c} e=>lit_yes (l:=[c]) (by rw[XB1.out,e];rfl)
 have no:∀{c:UInt8},x≠c.toNat→(X1.toList == [c])=false:=fun {c} e=>lit_not (l:=[c]) (by rw[XB1.out];intro e2;exact e (List.cons.inj e2).1)
 have YES:Hid (∀{c:UInt8},x=c.toNat→(X1.toList == [c])=true):=yes;have NO:Hid (∀{c:UInt8},x≠c.toNat→(X1.toList == [c])=false):=no;have BEG:Hid (∀{T:ByteArray}{f:Nat→Bool}{b:Bool},((List.range 256).all fun c=>(bs9 T).contains c == f c)=true→f x=b→begB (bs9 T) (bs9 s)=b):=fun hT hf=>beg_is hT HX.out hx2 hf
 have NX:Hid (nvq (nxt D N (bs9 s))=(k,Y,n,e0)):=h;have WAY:=Jh (nxt_of D N x ((bs9 s).drop 1));clear yes no h hx hX1;by_cases c34:x=34
 ·have d34:((x:Int) == 34)=true:=by rw[c34];rfl
  obtain⟨X,m,z,hq,hv⟩:=txq_is (D:=D) (N:=N) (t:=(bs9 s).drop 1) (by rw[← c34];exact HX.out);have Q:=Jh hq;have V:Hid (txq X m z=(k,Y,n,e0)):=by show _=_;rw[← hv];exact NX.out
  clear hq hv c34;have US:Hid (∀w',Below w.heap.size w w'→∀w2,Below w'.heap.size w' w2→Calls Tryz.prog 61 #[.string s] w2 (Ret9 w2 (.tuple #[.string X,.int .i64 (m:Int),.int .i64 (z:Int)]))):=fun w' hb w2 hb2=>HU.out (OK.out (hb.trans (hb2.mono hb.size))) Q.out hs
  go_enter Tryz.func15,Tryz.ntmps15;have RB:Hid (Rz w (w.alloc (.cells #[.int .i64 0,.string ⟨#[]⟩,.int .i64 0,.int .i64 0] 65))):=Rbx.new _ _ _ _ _ _;go_wp2_with fail;refine(lextext_is (US.out _ RB.out.1) V.out).mono ?_;rintro e w9 ⟨rfl,hb⟩;replace RB:=Jh (RB.out.on hb);clear hb;obtain⟨p0,p1,p2,p3,pf0,pf1,pf2,pf3,plt⟩:=RB.out.2;go_wp2_with fail;have Z:=((((RB.out.2).set0 (.int .i64 (k:Int))).set1 (.string Y)).set2 (.int .i64 0)).set3 (.int .i64 0);obtain⟨e0',e1',e2',e3',_,_,_,_,_⟩:=Z;exact bodyPost_ret (v:=.tuple #[.agg #[.int .i64 (k:Int),.string Y,.int .i64 0,.int .i64 0],.int .i64 (n:Int),.int .i64 (e0:Int)]) (by simp[results,Tryz.results15,go_sem,e0',e1',e2',e3']) rfl ⟨rfl,(((RB.out.1.setCell (p:=⟨w.heap.size,0,none⟩) (Nat.le_refl _) _).setCell (p:=⟨w.heap.size,1,none⟩) (Nat.le_refl _) _).setCell (p:=⟨w.heap.size,2,none⟩) (Nat.le_refl _) _).setCell (p:=⟨w.heap.size,3,none⟩) (Nat.le_refl _) _⟩
 have d34:((x:Int) == 34)=false:=by rw[beq_eq_false_iff_ne];omega
 by_cases c35:x=35
 ·have l35:=YES.out (c:=35) (show x=35 from c35)
  have M:Hid (nvq (tag12 x ((bs9 s).drop 1))=(k,Y,n,e0)):=by show _=_;rw[← WAY.out.2.1 (by omega),← HX.out];exact NX.out
  have KD:Hid ((if x=94 then 7 else 6)=6):=by show _=_;rw[c35];rfl
  clear c35 ;go_enter Tryz.func15,Tryz.ntmps15;have RB:Hid (Rz w (w.alloc (.cells #[.int .i64 0,.string ⟨#[]⟩,.int .i64 0,.int .i64 0] 65))):=Rbx.new _ _ _ _ _ _;go_wp2_with fail;refine(marked_is (kd:=6) h0 KD.out M.out hs _).mono ?_;rintro e w9 ⟨rfl,hb⟩;replace RB:=Jh (RB.out.on hb);clear hb;obtain⟨p0,p1,p2,p3,pf0,pf1,pf2,pf3,plt⟩:=RB.out.2;go_wp2_with fail;have Z:=((((RB.out.2).set0 (.int .i64 (k:Int))).set1 (.string Y)).set2 (.int .i64 0)).set3 (.int .i64 0);obtain⟨e0',e1',e2',e3',_,_,_,_,_⟩:=Z;exact bodyPost_ret (v:=.tuple #[.agg #[.int .i64 (k:Int),.string Y,.int .i64 0,.int .i64 0],.int .i64 (n:Int),.int .i64 (e0:Int)]) (by simp[results,Tryz.results15,go_sem,e0',e1',e2',e3']) rfl ⟨rfl,(((RB.out.1.setCell (p:=⟨w.heap.size,0,none⟩) (Nat.le_refl _) _).setCell (p:=⟨w.heap.size,1,none⟩) (Nat.le_refl _) _).setCell (p:=⟨w.heap.size,2,none⟩) (Nat.le_refl _) _).setCell (p:=⟨w.heap.size,3,none⟩) (Nat.le_refl _) _⟩
 by_cases c94:x=94
 ·have l35:=NO.out (c:=35) (show x≠35 from c35)
  have l94:=YES.out (c:=94) (show x=94 from c94);have M:Hid (nvq (tag12 x ((bs9 s).drop 1))=(k,Y,n,e0)):=by show _=_;rw[← WAY.out.2.1 (by omega),← HX.out];exact NX.out
  have KD:Hid ((if x=94 then 7 else 6)=7):=by show _=_;rw[c94];rfl
  clear c94 c35;go_enter Tryz.func15,Tryz.ntmps15;have RB:Hid (Rz w (w.alloc (.cells #[.int .i64 0,.string ⟨#[]⟩,.int .i64 0,.int .i64 0] 65))):=Rbx.new _ _ _ _ _ _;go_wp2_with fail;refine(marked_is (kd:=7) h0 KD.out M.out hs _).mono ?_;rintro e w9 ⟨rfl,hb⟩;replace RB:=Jh (RB.out.on hb);clear hb;obtain⟨p0,p1,p2,p3,pf0,pf1,pf2,pf3,plt⟩:=RB.out.2;go_wp2_with fail;have Z:=((((RB.out.2).set0 (.int .i64 (k:Int))).set1 (.string Y)).set2 (.int .i64 0)).set3 (.int .i64 0);obtain⟨e0',e1',e2',e3',_,_,_,_,_⟩:=Z;exact bodyPost_ret (v:=.tuple #[.agg #[.int .i64 (k:Int),.string Y,.int .i64 0,.int .i64 0],.int .i64 (n:Int),.int .i64 (e0:Int)]) (by simp[results,Tryz.results15,go_sem,e0',e1',e2',e3']) rfl ⟨rfl,(((RB.out.1.setCell (p:=⟨w.heap.size,0,none⟩) (Nat.le_refl _) _).setCell (p:=⟨w.heap.size,1,none⟩) (Nat.le_refl _) _).setCell (p:=⟨w.heap.size,2,none⟩) (Nat.le_refl _) _).setCell (p:=⟨w.heap.size,3,none⟩) (Nat.le_refl _) _⟩
 have l35:=NO.out (c:=35) (show x≠35 from c35);have l94:=NO.out (c:=94) (show x≠94 from c94);cases hd:dgB x with
 | true=>
  have HD:=Jh hd;have M:Hid (nvq (num12 D N (bs9 s))=(k,Y,n,e0)):=by show _=_;have:=WAY.out.2.2.1 hd;rw[← HX.out] at this;rw[← this];exact NX.out
  clear hd c34 c35 c94;go_enter Tryz.func15,Tryz.ntmps15;have RB:Hid (Rz w (w.alloc (.cells #[.int .i64 0,.string ⟨#[]⟩,.int .i64 0,.int .i64 0] 65))):=Rbx.new _ _ _ _ _ _;go_wp2_with fail;refine(begins_is (T:=⟨#[48,49,50,51,52,53,54,55,56,57]⟩) (BEG.out (f:=dgB) (by decide +kernel) HD.out) _).mono ?_;rintro e w1 ⟨rfl,hw⟩;obtain rfl:=hw.symm;go_wp2_with fail;refine(counted_is HK.out H8.out H7.out M.out hs _ (OK.out RB.out.1)).mono ?_;rintro e w9 ⟨rfl,hb⟩;replace RB:=Jh (RB.out.on hb);clear hb;obtain⟨p0,p1,p2,p3,pf0,pf1,pf2,pf3,plt⟩:=RB.out.2;go_wp2_with fail;have Z:=((((RB.out.2).set0 (.int .i64 (k:Int))).set1 (.string Y)).set2 (.int .i64 0)).set3 (.int .i64 0);obtain⟨e0',e1',e2',e3',_,_,_,_,_⟩:=Z;exact bodyPost_ret (v:=.tuple #[.agg #[.int .i64 (k:Int),.string Y,.int .i64 0,.int .i64 0],.int .i64 (n:Int),.int .i64 (e0:Int)]) (by simp[results,Tryz.results15,go_sem,e0',e1',e2',e3']) rfl ⟨rfl,(((RB.out.1.setCell (p:=⟨w.heap.size,0,none⟩) (Nat.le_refl _) _).setCell (p:=⟨w.heap.size,1,none⟩) (Nat.le_refl _) _).setCell (p:=⟨w.heap.size,2,none⟩) (Nat.le_refl _) _).setCell (p:=⟨w.heap.size,3,none⟩) (Nat.le_refl _) _⟩
 | false=>
 have HD:=Jh hd;cases hu:upB x with
 | true=>
  have HUP:=Jh hu;have M:Hid (nvq (acc12 (bs9 s))=(k,Y,n,e0)):=by show _=_;have:=WAY.out.2.2.2.1 hu;rw[← HX.out] at this;rw[← this];exact NX.out
  clear hd hu c34 c35 c94;go_enter Tryz.func15,Tryz.ntmps15;have RB:Hid (Rz w (w.alloc (.cells #[.int .i64 0,.string ⟨#[]⟩,.int .i64 0,.int .i64 0] 65))):=Rbx.new _ _ _ _ _ _;go_wp2_with fail;refine(begins_is (T:=⟨#[48,49,50,51,52,53,54,55,56,57]⟩) (BEG.out (f:=dgB) (by decide +kernel) HD.out) _).mono ?_;rintro e w1 ⟨rfl,hw⟩;obtain rfl:=hw.symm;go_wp2_with fail;refine(begins_is (T:=⟨#[65,66,67,68,69,70,71,72,73,74,75,76,77,78,79,80,81,82,83,84,85,86,87,88,89,90]⟩) (BEG.out (f:=upB) (by decide +kernel) HUP.out) _).mono ?_;rintro e w1 ⟨rfl,hw⟩;obtain rfl:=hw.symm;go_wp2_with fail;refine(named_is HK.out H11.out M.out hs _ (OK.out RB.out.1)).mono ?_;rintro e w9 ⟨rfl,hb⟩;replace RB:=Jh (RB.out.on hb);clear hb;obtain⟨p0,p1,p2,p3,pf0,pf1,pf2,pf3,plt⟩:=RB.out.2;go_wp2_with fail;have Z:=((((RB.out.2).set0 (.int .i64 (k:Int))).set1 (.string Y)).set2 (.int .i64 0)).set3 (.int .i64 0);obtain⟨e0',e1',e2',e3',_,_,_,_,_⟩:=Z;exact bodyPost_ret (v:=.tuple #[.agg #[.int .i64 (k:Int),.string Y,.int .i64 0,.int .i64 0],.int .i64 (n:Int),.int .i64 (e0:Int)]) (by simp[results,Tryz.results15,go_sem,e0',e1',e2',e3']) rfl ⟨rfl,(((RB.out.1.setCell (p:=⟨w.heap.size,0,none⟩) (Nat.le_refl _) _).setCell (p:=⟨w.heap.size,1,none⟩) (Nat.le_refl _) _).setCell (p:=⟨w.heap.size,2,none⟩) (Nat.le_refl _) _).setCell (p:=⟨w.heap.size,3,none⟩) (Nat.le_refl _) _⟩
 | false=>
 have HUP:=Jh hu;cases hl:lwB x with
 | true=>
  have HLW:=Jh hl;have M:Hid (nvq (key12 (bs9 s))=(k,Y,n,e0)):=by show _=_;have:=WAY.out.2.2.2.2.1 hl;rw[← HX.out] at this;rw[← this];exact NX.out
  clear hd hu hl c34 c35 c94;go_enter Tryz.func15,Tryz.ntmps15;have RB:Hid (Rz w (w.alloc (.cells #[.int .i64 0,.string ⟨#[]⟩,.int .i64 0,.int .i64 0] 65))):=Rbx.new _ _ _ _ _ _;go_wp2_with fail;refine(begins_is (T:=⟨#[48,49,50,51,52,53,54,55,56,57]⟩) (BEG.out (f:=dgB) (by decide +kernel) HD.out) _).mono ?_;rintro e w1 ⟨rfl,hw⟩;obtain rfl:=hw.symm;go_wp2_with fail;refine(begins_is (T:=⟨#[65,66,67,68,69,70,71,72,73,74,75,76,77,78,79,80,81,82,83,84,85,86,87,88,89,90]⟩) (BEG.out (f:=upB) (by decide +kernel) HUP.out) _).mono ?_;rintro e w1 ⟨rfl,hw⟩;obtain rfl:=hw.symm;go_wp2_with fail;refine(begins_is (T:=⟨#[97,98,99,100,101,102,103,104,105,106,107,108,109,110,111,112,113,114,115,116,117,118,119,120,121,122]⟩) (BEG.out (f:=lwB) (by decide +kernel) HLW.out) _).mono ?_;rintro e w1 ⟨rfl,hw⟩;obtain rfl:=hw.symm;go_wp2_with fail;refine(plain_is12 M.out hs _).mono ?_;rintro e w9 ⟨rfl,hb⟩;replace RB:=Jh (RB.out.on hb);clear hb;obtain⟨p0,p1,p2,p3,pf0,pf1,pf2,pf3,plt⟩:=RB.out.2;go_wp2_with fail;have Z:=((((RB.out.2).set0 (.int .i64 (k:Int))).set1 (.string Y)).set2 (.int .i64 0)).set3 (.int .i64 0);obtain⟨e0',e1',e2',e3',_,_,_,_,_⟩:=Z;exact bodyPost_ret (v:=.tuple #[.agg #[.int .i64 (k:Int),.string Y,.int .i64 0,.int .i64 0],.int .i64 (n:Int),.int .i64 (e0:Int)]) (by simp[results,Tryz.results15,go_sem,e0',e1',e2',e3']) rfl ⟨rfl,(((RB.out.1.setCell (p:=⟨w.heap.size,0,none⟩) (Nat.le_refl _) _).setCell (p:=⟨w.heap.size,1,none⟩) (Nat.le_refl _) _).setCell (p:=⟨w.heap.size,2,none⟩) (Nat.le_refl _) _).setCell (p:=⟨w.heap.size,3,none⟩) (Nat.le_refl _) _⟩
 | false=>
 have HLW:=Jh hl;obtain⟨m,hm⟩:∃m,mrk (bs9 s)=m:=⟨_,rfl⟩;have HM:=Jh hm;have hms:m≤s.size:=by have:=mrk_le (bs9 s);rw[hm,bs9_len] at this;exact this
 obtain⟨X,hX⟩:∃X,s.extract 0 m=X:=⟨_,rfl⟩;have hslX:∀w',(Instr.slice 9 (.string s) none (some (.int .i64 (m:Int))) none).run Tryz.prog w'=.ok (.string X) w':=sl_to hms hX;have XB:bs9 X=(bs9 s).take m:=by rw[← hX,bs9_take]
 have hXm:X.size=m:=by rw[← bs9_len,XB,List.length_take,bs9_len];omega
 have M:Hid (mdv 10 X X.size (decide (0<m))=(k,Y,n,e0)):=by
  show _=_;have:=WAY.out.2.2.2.2.2 c34 (by omega) hd hu hl;rw[← HX.out,hm] at this;rw[← NX.out,this,nvq_tkn XB,hXm]
 clear hX hm XB hd hu hl c34 c35 c94;rcases Nat.eq_zero_or_pos m with m0|m0
 ·have dX:=emp_yes (s:=X) (by omega)
  have dX2:=str_emp (s:=X) (by omega);rw[decide_eq_false (by omega)] at M;clear m0 hXm;go_enter Tryz.func15,Tryz.ntmps15;have RB:Hid (Rz w (w.alloc (.cells #[.int .i64 0,.string ⟨#[]⟩,.int .i64 0,.int .i64 0] 65))):=Rbx.new _ _ _ _ _ _;go_wp2_with fail;refine(begins_is (T:=⟨#[48,49,50,51,52,53,54,55,56,57]⟩) (BEG.out (f:=dgB) (by decide +kernel) HD.out) _).mono ?_;rintro e w1 ⟨rfl,hw⟩;obtain rfl:=hw.symm;go_wp2_with fail;refine(begins_is (T:=⟨#[65,66,67,68,69,70,71,72,73,74,75,76,77,78,79,80,81,82,83,84,85,86,87,88,89,90]⟩) (BEG.out (f:=upB) (by decide +kernel) HUP.out) _).mono ?_;rintro e w1 ⟨rfl,hw⟩;obtain rfl:=hw.symm;go_wp2_with fail;refine(begins_is (T:=⟨#[97,98,99,100,101,102,103,104,105,106,107,108,109,110,111,112,113,114,115,116,117,118,119,120,121,122]⟩) (BEG.out (f:=lwB) (by decide +kernel) HLW.out) _).mono ?_;rintro e w1 ⟨rfl,hw⟩;obtain rfl:=hw.symm;go_wp2_with fail;refine(lexmark_is HM.out _).mono ?_;rintro e w8 ⟨rfl,hb⟩;replace RB:=Jh (RB.out.on hb);clear hb;go_wp2_with fail;refine(made_is (k:=10) M.out _).mono ?_;rintro e w9 ⟨rfl,hb⟩;replace RB:=Jh (RB.out.on hb);clear hb;obtain⟨p0,p1,p2,p3,pf0,pf1,pf2,pf3,plt⟩:=RB.out.2;go_wp2_with fail;have Z:=((((RB.out.2).set0 (.int .i64 (k:Int))).set1 (.string Y)).set2 (.int .i64 0)).set3 (.int .i64 0);obtain⟨e0',e1',e2',e3',_,_,_,_,_⟩:=Z;exact bodyPost_ret (v:=.tuple #[.agg #[.int .i64 (k:Int),.string Y,.int .i64 0,.int .i64 0],.int .i64 (n:Int),.int .i64 (e0:Int)]) (by simp[results,Tryz.results15,go_sem,e0',e1',e2',e3']) rfl ⟨rfl,(((RB.out.1.setCell (p:=⟨w.heap.size,0,none⟩) (Nat.le_refl _) _).setCell (p:=⟨w.heap.size,1,none⟩) (Nat.le_refl _) _).setCell (p:=⟨w.heap.size,2,none⟩) (Nat.le_refl _) _).setCell (p:=⟨w.heap.size,3,none⟩) (Nat.le_refl _) _⟩
 ·have dX:=emp_not (s:=X) (by omega)
  have dX2:=str_ne (s:=X) (by omega);rw[decide_eq_true m0] at M;clear m0 hXm;go_enter Tryz.func15,Tryz.ntmps15;have RB:Hid (Rz w (w.alloc (.cells #[.int .i64 0,.string ⟨#[]⟩,.int .i64 0,.int .i64 0] 65))):=Rbx.new _ _ _ _ _ _;go_wp2_with fail;refine(begins_is (T:=⟨#[48,49,50,51,52,53,54,55,56,57]⟩) (BEG.out (f:=dgB) (by decide +kernel) HD.out) _).mono ?_;rintro e w1 ⟨rfl,hw⟩;obtain rfl:=hw.symm;go_wp2_with fail;refine(begins_is (T:=⟨#[65,66,67,68,69,70,71,72,73,74,75,76,77,78,79,80,81,82,83,84,85,86,87,88,89,90]⟩) (BEG.out (f:=upB) (by decide +kernel) HUP.out) _).mono ?_;rintro e w1 ⟨rfl,hw⟩;obtain rfl:=hw.symm;go_wp2_with fail;refine(begins_is (T:=⟨#[97,98,99,100,101,102,103,104,105,106,107,108,109,110,111,112,113,114,115,116,117,118,119,120,121,122]⟩) (BEG.out (f:=lwB) (by decide +kernel) HLW.out) _).mono ?_;rintro e w1 ⟨rfl,hw⟩;obtain rfl:=hw.symm;go_wp2_with fail;refine(lexmark_is HM.out _).mono ?_;rintro e w8 ⟨rfl,hb⟩;replace RB:=Jh (RB.out.on hb);clear hb;go_wp2_with fail;refine(made_is (k:=10) M.out _).mono ?_;rintro e w9 ⟨rfl,hb⟩;replace RB:=Jh (RB.out.on hb);clear hb;obtain⟨p0,p1,p2,p3,pf0,pf1,pf2,pf3,plt⟩:=RB.out.2;go_wp2_with fail;have Z:=((((RB.out.2).set0 (.int .i64 (k:Int))).set1 (.string Y)).set2 (.int .i64 0)).set3 (.int .i64 0);obtain⟨e0',e1',e2',e3',_,_,_,_,_⟩:=Z;exact bodyPost_ret (v:=.tuple #[.agg #[.int .i64 (k:Int),.string Y,.int .i64 0,.int .i64 0],.int .i64 (n:Int),.int .i64 (e0:Int)]) (by simp[results,Tryz.results15,go_sem,e0',e1',e2',e3']) rfl ⟨rfl,(((RB.out.1.setCell (p:=⟨w.heap.size,0,none⟩) (Nat.le_refl _) _).setCell (p:=⟨w.heap.size,1,none⟩) (Nat.le_refl _) _).setCell (p:=⟨w.heap.size,2,none⟩) (Nat.le_refl _) _).setCell (p:=⟨w.heap.size,3,none⟩) (Nat.le_refl _) _⟩
structure Lexes (D N:List Nat→Bool) (ok:World→Prop):Prop where
 quote:∀{s X:ByteArray}{w:World},ok w→qt (bs9 s)=bs9 X→s.size≤1000→Calls Tryz.prog 30 #[.string s] w (Ret9 w (.string X))
 unquote:∀{s X:ByteArray}{n e:Nat}{w:World},ok w→uqv (bs9 s)=(bs9 X,n,e)→s.size≤1000→Calls Tryz.prog 61 #[.string s] w (Ret9 w (.tuple #[.string X,.int .i64 (n:Int),.int .i64 (e:Int)]))
 mark:∀{s:ByteArray}{n:Nat}{w:World},ok w→mrk (bs9 s)=n→s.size≤1000→Calls Tryz.prog 40 #[.string s] w (Ret9 w (.int .i64 (n:Int)))
 text:∀{k:Nat}{X Y:ByteArray}{w:World}(l c:Int),ok w→txt k (bs9 X)=bs9 Y→X.size≤1000→Calls Tryz.prog 29 #[.agg #[.int .i64 (k:Int),.string X,.int .i64 l,.int .i64 c]] w (Ret9 w (.string Y))
 nextOk:∀{s Y:ByteArray}{k n:Nat}{w:World},ok w→nxt D N (bs9 s)=.inr (k,bs9 Y,n)→s.size≤1000→Calls Tryz.prog 15 #[.string s] w (Ret9 w (.tuple #[.agg #[.int .i64 (k:Int),.string Y,.int .i64 0,.int .i64 0],.int .i64 (n:Int),.int .i64 0]))
 nextNo:∀{s:ByteArray}{e:Nat}{w:World},ok w→nxt D N (bs9 s)=.inl e→s.size≤1000→Calls Tryz.prog 15 #[.string s] w (Ret9 w (.tuple #[.agg #[.int .i64 0,.string ⟨#[]⟩,.int .i64 0,.int .i64 0],.int .i64 0,.int .i64 (e:Int)]))
 words:∀(no:Int) (s:ByteArray) {w:World},ok w→s.size≤1000→Calls Tryz.prog 5 #[.agg #[.int .i64 no,.string s]] w (RetW w no (WD D N 0 (bs9 s)))
theorem qtb_lt{l:List Nat}(h:∀c∈l,c<256):∀c∈qtb l,c<256:=by
 intro c hc;obtain⟨b,hb,hc⟩:=List.mem_flatMap.1 hc;have:=h b hb;unfold esc at hc;(repeat' split at hc)<;>simp at hc<;>omega
theorem qt_lt{l:List Nat}(h:∀c∈l,c<256):∀c∈qt l,c<256:=by
 intro c hc;unfold qt at hc;rcases List.mem_cons.1 hc with rfl|hc
 ·decide
 ·rcases List.mem_append.1 hc with hc|hc
  ·exact qtb_lt h c hc
  ·rw[List.mem_singleton.1 hc];decide
theorem qtb_len(l:List Nat):(qtb l).length≤2*l.length:=by
 induction l with
 | nil=>exact Nat.le_refl _
 | cons b l ih=>rw[qtb_cons,List.length_append,List.length_cons];have:=esc_len b;omega
theorem qt_len(l:List Nat):(qt l).length≤2*l.length+2:=by
 unfold qt;rw[List.length_cons,List.length_append];have:=qtb_len l;show _+1+1≤_;omega
theorem lt_app{acc:List Nat}{x:Nat}(h:∀c∈acc,c<256)(hx:x<256):∀c∈acc++[x],c<256:=fun c hc=>by
 rcases List.mem_append.1 hc with hc|hc
 ·exact h c hc
 ·rw[List.mem_singleton.1 hc];exact hx
def bv12(ys:List Nat):List Value:=ys.map fun(y:Nat)=>Value.int .u8 (y:Int)
theorem bv12_len(ys:List Nat):(bv12 ys).length=ys.length:=List.length_map _
theorem bv12_bytes{ys:List Nat}(h:∀c∈ys,c<256):bv12 ys=Lib.byteCells (ys.map UInt8.ofNat):=by
 unfold bv12 Lib.byteCells;rw[List.map_map];refine List.map_congr_left fun c hc=>?_
 have:=h c hc;simp[UInt8.toNat_ofNat']
 omega
def Bld(B:Nat)(acc:List Nat)(w:World):Prop:=Lib.IsBuilder 106 5 B B (bv12 acc) w
theorem wrb_is{B x:Nat}{acc:List Nat}{w:World}(h:Bld B acc w)(hl:acc.length≤1000000)(hB:B≤w.heap.size):Calls Tryz.prog 58 #[.pointer (some ⟨B,0,none⟩),.int .u8 (x:Int)] w (fun e w'=>e=.returned .nilIface∧Bld B (acc++[x]) w'∧Below B w w'):=by
 refine(Tryz.Builder_WriteByte B B (bv12 acc) (x:Int) w h (by rw[bv12_len];omega) hB).mono fun e w' h2=>⟨h2.1,?_,h2.2.2⟩
 have:=h2.2.1;unfold Bld bv12;rw[List.map_append];exact .inr this
theorem bst_is{B:Nat}{X:ByteArray}{acc:List Nat}{w:World}(h:Bld B acc w)(hX:acc=bs9 X)(hB:B≤w.heap.size):Calls Tryz.prog 56 #[.pointer (some ⟨B,0,none⟩)] w (fun e w'=>e=.returned (.string X)∧Below B w w'):=by
 subst hX;unfold Bld at h;rw[bv12_bytes (bs9_lt X)] at h;refine(Tryz.Builder_String_any B B ((bs9 X).map UInt8.ofNat) w h hB).mono fun e w' h2=>⟨?_,h2.2⟩
 rw[h2.1];show Ending.returned (.string (st9 (bs9 X)))=_;rw[st9_bs9]
def idxm(x:Nat):Int:=if x=34 then 0 else if x=92 then 1 else if x=10 then 2 else if x=9 then 3 else -1
def idxw(x:Nat):Int:=if x=34 then 0 else if x=92 then 1 else if x=110 then 2 else if x=116 then 3 else -1
theorem idxm_is{x:Nat}{z:Int}(hx:x<256)(hz:idxm x=z)(w:World):Calls Tryz.prog 59 #[.string ⟨#[34,92,10,9]⟩,.int .u8 (x:Int)] w (fun e w'=>e=.returned (.int .i64 z)∧w'=w):=by
 refine(Tryz.strings_IndexByte ⟨#[34,92,10,9]⟩ (x:Int) w).mono fun e w' h=>⟨?_,h.2⟩
 rw[h.1,← hz,Int.toNat_natCast];have:((List.range 256).all fun x=>Lib.indexByte [34,92,10,9] x.toUInt8 == idxm x)=true:=by decide +kernel
 rw[List.all_eq_true] at this;exact congrArg (fun v=>Ending.returned (.int .i64 v)) (beq_iff_eq.1 (this x (List.mem_range.2 hx)))
theorem idxw_is{x:Nat}{z:Int}(hx:x<256)(hz:idxw x=z)(w:World):Calls Tryz.prog 59 #[.string ⟨#[34,92,110,116]⟩,.int .u8 (x:Int)] w (fun e w'=>e=.returned (.int .i64 z)∧w'=w):=by
 refine(Tryz.strings_IndexByte ⟨#[34,92,110,116]⟩ (x:Int) w).mono fun e w' h=>⟨?_,h.2⟩
 rw[h.1,← hz,Int.toNat_natCast];have:((List.range 256).all fun x=>Lib.indexByte [34,92,110,116] x.toUInt8 == idxw x)=true:=by decide +kernel
 rw[List.all_eq_true] at this;exact congrArg (fun v=>Ending.returned (.int .i64 v)) (beq_iff_eq.1 (this x (List.mem_range.2 hx)))
theorem atm_0(w:World):(Instr.index 9 (.string ⟨#[34,92,10,9]⟩) (.int .i64 0)).run Tryz.prog w=.ok (.int .u8 34) w:=by kernel_rfl
theorem atm_1(w:World):(Instr.index 9 (.string ⟨#[34,92,10,9]⟩) (.int .i64 1)).run Tryz.prog w=.ok (.int .u8 92) w:=by kernel_rfl
theorem atm_2(w:World):(Instr.index 9 (.string ⟨#[34,92,10,9]⟩) (.int .i64 2)).run Tryz.prog w=.ok (.int .u8 10) w:=by kernel_rfl
theorem atm_3(w:World):(Instr.index 9 (.string ⟨#[34,92,10,9]⟩) (.int .i64 3)).run Tryz.prog w=.ok (.int .u8 9) w:=by kernel_rfl
theorem atw_0(w:World):(Instr.index 9 (.string ⟨#[34,92,110,116]⟩) (.int .i64 0)).run Tryz.prog w=.ok (.int .u8 34) w:=by kernel_rfl
theorem atw_1(w:World):(Instr.index 9 (.string ⟨#[34,92,110,116]⟩) (.int .i64 1)).run Tryz.prog w=.ok (.int .u8 92) w:=by kernel_rfl
theorem atw_2(w:World):(Instr.index 9 (.string ⟨#[34,92,110,116]⟩) (.int .i64 2)).run Tryz.prog w=.ok (.int .u8 110) w:=by kernel_rfl
theorem atw_3(w:World):(Instr.index 9 (.string ⟨#[34,92,110,116]⟩) (.int .i64 3)).run Tryz.prog w=.ok (.int .u8 116) w:=by kernel_rfl
theorem lexquote_is{s X0:ByteArray}(h:qt (bs9 s)=bs9 X0)(hs:s.size≤6000)(w:World):Calls Tryz.prog 30 #[.string s] w (Ret9 w (.string X0)):=by
 have H:=Jh h;clear h;obtain⟨g,hg⟩:∃g:Nat,(s.size:Int)+2=(g:Int):=⟨s.size+2,by omega⟩;have hgb:g≤1000000:=by omega
 go_enter Tryz.func30,Tryz.ntmps30;go_wp2_with fail;generalize hW:World.alloc w _=W0;have hbk:Hid (W0.heap[w.heap.size]?=some (.cells #[.pointer none,.slice none 0 0] 106 (0,0))):=by show _=_;rw[← hW];exact heap_alloc_new w _
 have HB:Hid (Below w.heap.size w W0):=by show Below _ _ _;rw[← hW];exact(Below.refl _ _).alloc (Nat.le_refl _) _
 clear hW;refine(Tryz.Builder_Grow_fresh w.heap.size w.heap.size g W0 (Nat.le_refl _) hbk.out HB.out.size (by omega)).mono ?_;rintro e w1 ⟨rfl,h1,hb1⟩;have X:Hid (Bld w.heap.size [] w1):=.inr h1;replace HB:=Jh (HB.out.trans hb1);clear h1 hb1 hbk hg;go_wp2_with fail;refine(wrb_is (x:=34) X.out (by decide) HB.out.size).mono ?_;rintro e w2 ⟨rfl,h2,hb2⟩;replace X:=Jh h2;replace HB:=Jh (HB.out.trans hb2);clear h2 hb2;go_wp2_with fail;go_loopw [13] (fun iv wr=>∃i:Nat,iv=.int .i64 i∧i≤s.size∧Bld w.heap.size (34::qtb ((bs9 s).take i)) wr∧Below w.heap.size w wr) (fun iv _=>s.size-(intOf iv).toNat)
 case atStart=>exact⟨0,rfl,Nat.zero_le _,X.out,HB.out⟩
 case round=>
  obtain⟨i,rfl,hi,hx,hb⟩:=hrel;clear X HB;have X:=Jh hx;have HB:=Jh hb;clear hx hb;have HQ:Hid ((34::qtb ((bs9 s).take i)).length≤12001):=by
   show _≤_;have:=qtb_len ((bs9 s).take i);rw[List.length_take] at this;rw[List.length_cons];omega
  rcases Nat.lt_or_ge i s.size with hlt|hge
  ·obtain⟨x,hx⟩:∃x,x=(s[i]'hlt).toNat:=⟨_,rfl⟩
   have ex:((s[i]'hlt).toNat:Int)=(x:Int):=by rw[hx]
   have hx2:x<256:=by rw[hx];exact UInt8.toNat_lt _
   have HT:Hid (34::qtb ((bs9 s).take (i+1))=34::qtb ((bs9 s).take i)++esc x):=by
    show _=_;rw[List.take_add_one,bs9_at s i hlt,← hx,Option.toList_some,qtb_push];rfl
   clear hx;obtain⟨acc,ha⟩:∃acc,34::qtb ((bs9 s).take i)=acc:=⟨_,rfl⟩;rw[ha] at X HQ HT;clear ha;by_cases c34:x=34
   ·have IX:Hid (idxm x=0):=by show _=_;rw[c34];rfl
    have IW:=Jh (atw_0);have IW2:=IW.out;have HE:Hid (acc++[92]++[34]=34::qtb ((bs9 s).take (i+1))):=by show _=_;rw[HT.out,c34];exact List.append_assoc _ _ _
    clear c34 ;go_wp2_with fail;refine(idxm_is hx2 IX.out _).mono ?_;rintro e w1 ⟨rfl,hw⟩;obtain rfl:=hw.symm;go_wp2_with fail;refine(wrb_is (x:=92) X.out (by have:=HQ.out;omega) HB.out.size).mono ?_;rintro e w2 ⟨rfl,h2,hb2⟩;replace X:=Jh h2;replace HB:=Jh (HB.out.trans hb2);clear h2 hb2;go_wp2_with fail;refine(wrb_is (x:=34) X.out (by have:=HQ.out;rw[List.length_append];simp;omega) HB.out.size).mono ?_;rintro e w2 ⟨rfl,h2,hb2⟩;replace X:=Jh h2;replace HB:=Jh (HB.out.trans hb2);clear h2 hb2;go_wp2_with fail;go_roundw
    case rel=>exact⟨i+1,by go_num,by omega,by rw[← HE.out];exact X.out,HB.out⟩
    case measure=>simp[intOf]<;>omega
   by_cases c92:x=92
   ·have IX:Hid (idxm x=1):=by show _=_;rw[c92];rfl
    have IW:=Jh (atw_1);have IW2:=IW.out;have HE:Hid (acc++[92]++[92]=34::qtb ((bs9 s).take (i+1))):=by show _=_;rw[HT.out,c92];exact List.append_assoc _ _ _
    clear c92 c34 ;go_wp2_with fail;refine(idxm_is hx2 IX.out _).mono ?_;rintro e w1 ⟨rfl,hw⟩;obtain rfl:=hw.symm;go_wp2_with fail;refine(wrb_is (x:=92) X.out (by have:=HQ.out;omega) HB.out.size).mono ?_;rintro e w2 ⟨rfl,h2,hb2⟩;replace X:=Jh h2;replace HB:=Jh (HB.out.trans hb2);clear h2 hb2;go_wp2_with fail;refine(wrb_is (x:=92) X.out (by have:=HQ.out;rw[List.length_append];simp;omega) HB.out.size).mono ?_;rintro e w2 ⟨rfl,h2,hb2⟩;replace X:=Jh h2;replace HB:=Jh (HB.out.trans hb2);clear h2 hb2;go_wp2_with fail;go_roundw
    case rel=>exact⟨i+1,by go_num,by omega,by rw[← HE.out];exact X.out,HB.out⟩
    case measure=>simp[intOf]<;>omega
   by_cases c10:x=10
   ·have IX:Hid (idxm x=2):=by show _=_;rw[c10];rfl
    have IW:=Jh (atw_2);have IW2:=IW.out;have HE:Hid (acc++[92]++[110]=34::qtb ((bs9 s).take (i+1))):=by show _=_;rw[HT.out,c10];exact List.append_assoc _ _ _
    clear c10 c34 c92 ;go_wp2_with fail;refine(idxm_is hx2 IX.out _).mono ?_;rintro e w1 ⟨rfl,hw⟩;obtain rfl:=hw.symm;go_wp2_with fail;refine(wrb_is (x:=92) X.out (by have:=HQ.out;omega) HB.out.size).mono ?_;rintro e w2 ⟨rfl,h2,hb2⟩;replace X:=Jh h2;replace HB:=Jh (HB.out.trans hb2);clear h2 hb2;go_wp2_with fail;refine(wrb_is (x:=110) X.out (by have:=HQ.out;rw[List.length_append];simp;omega) HB.out.size).mono ?_;rintro e w2 ⟨rfl,h2,hb2⟩;replace X:=Jh h2;replace HB:=Jh (HB.out.trans hb2);clear h2 hb2;go_wp2_with fail;go_roundw
    case rel=>exact⟨i+1,by go_num,by omega,by rw[← HE.out];exact X.out,HB.out⟩
    case measure=>simp[intOf]<;>omega
   by_cases c9:x=9
   ·have IX:Hid (idxm x=3):=by show _=_;rw[c9];rfl
    have IW:=Jh (atw_3);have IW2:=IW.out;have HE:Hid (acc++[92]++[116]=34::qtb ((bs9 s).take (i+1))):=by show _=_;rw[HT.out,c9];exact List.append_assoc _ _ _
    clear c9 c34 c92 c10 ;go_wp2_with fail;refine(idxm_is hx2 IX.out _).mono ?_;rintro e w1 ⟨rfl,hw⟩;obtain rfl:=hw.symm;go_wp2_with fail;refine(wrb_is (x:=92) X.out (by have:=HQ.out;omega) HB.out.size).mono ?_;rintro e w2 ⟨rfl,h2,hb2⟩;replace X:=Jh h2;replace HB:=Jh (HB.out.trans hb2);clear h2 hb2;go_wp2_with fail;refine(wrb_is (x:=116) X.out (by have:=HQ.out;rw[List.length_append];simp;omega) HB.out.size).mono ?_;rintro e w2 ⟨rfl,h2,hb2⟩;replace X:=Jh h2;replace HB:=Jh (HB.out.trans hb2);clear h2 hb2;go_wp2_with fail;go_roundw
    case rel=>exact⟨i+1,by go_num,by omega,by rw[← HE.out];exact X.out,HB.out⟩
    case measure=>simp[intOf]<;>omega
   have IX:Hid (idxm x = -1):=by show _=_;unfold idxm;rw[if_neg c34,if_neg c92,if_neg c10,if_neg c9]
   have HE:Hid (acc++[x]=34::qtb ((bs9 s).take (i+1))):=by show _=_;rw[HT.out,(esc_at (x:=x)).2.2.2.2 c34 c92 c10 c9]
   clear c34 c92 c10 c9;go_wp2_with fail;refine(idxm_is hx2 IX.out _).mono ?_;rintro e w1 ⟨rfl,hw⟩;obtain rfl:=hw.symm;go_wp2_with fail;refine(wrb_is (x:=x) X.out (by have:=HQ.out;omega) HB.out.size).mono ?_;rintro e w2 ⟨rfl,h2,hb2⟩;replace X:=Jh h2;replace HB:=Jh (HB.out.trans hb2);clear h2 hb2;go_wp2_with fail;go_roundw
   case rel=>exact⟨i+1,by go_num,by omega,by rw[← HE.out];exact X.out,HB.out⟩
   case measure=>simp[intOf]<;>omega
  ·have HE:Hid (34::qtb ((bs9 s).take i)++[34]=bs9 X0):=by show _=_;rw[← H.out,List.take_of_length_le (by rw[bs9_len];exact hge)];rfl
   go_wp2_with fail;refine(wrb_is (x:=34) X.out (by have:=HQ.out;omega) HB.out.size).mono ?_;rintro e w2 ⟨rfl,h2,hb2⟩;replace X:=Jh h2;replace HB:=Jh (HB.out.trans hb2);clear h2 hb2;go_wp2_with fail;refine(bst_is X.out HE.out HB.out.size).mono ?_;rintro e w3 ⟨rfl,hb2⟩;replace HB:=Jh (HB.out.trans hb2);clear hb2;go_wp2_with fail;go_ret;exact⟨rfl,HB.out⟩
theorem lexunquote_is{s X0:ByteArray}{n e0:Nat}(h:uqv (bs9 s)=(bs9 X0,n,e0))(hs:s.size≤6000)(w:World):Calls Tryz.prog 61 #[.string s] w (Ret9 w (.tuple #[.string X0,.int .i64 (n:Int),.int .i64 (e0:Int)])):=by
 have H:=Jh h;clear h;have out:Hid (∀{Y:ByteArray}{m d:Nat},uqv (bs9 s)=(bs9 Y,m,d)→Ending.returned (.tuple #[.string Y,.int .i64 (m:Int),.int .i64 (d:Int)])=.returned (.tuple #[.string X0,.int .i64 (n:Int),.int .i64 (e0:Int)])):=fun {Y m d} h=>by
  rw[H.out] at h;have h1:=congrArg Prod.fst h;have h2:=congrArg (fun p=>p.2.1) h;have h3:=congrArg (fun p=>p.2.2) h;have e1:X0=Y:=bs9_inj h1;have e2:n=m:=h2;have e3:e0=d:=h3;rw[e1,e2,e3]
 rcases Nat.eq_zero_or_pos s.size with h0|h0
 ·have d:=str_emp h0
  have E:Hid (uqv (bs9 s)=(bs9 ⟨#[]⟩,0,1)):=uqv_no (.inl h0);go_enter Tryz.func61,Tryz.ntmps61;go_wp2_with fail;go_ret3
  exact⟨out.out E.out,Below.refl _ _⟩
 have d:=str_ne h0;obtain⟨x0,hx0⟩:∃x,x=(s[0]'h0).toNat:=⟨_,rfl⟩;have ex0:((s[0]'h0).toNat:Int)=(x0:Int):=by rw[hx0]
 rcases Nat.decEq x0 34 with h34|h34
 ·have d2:((x0:Int) != 34)=true:=by rw[bne_iff_ne];omega
  have E:Hid (uqv (bs9 s)=(bs9 ⟨#[]⟩,0,1)):=uqv_no (.inr ⟨h0,by rw[← hx0];exact h34⟩);clear h34 hx0;go_enter Tryz.func61,Tryz.ntmps61;go_wp2_with fail;go_ret3
  exact⟨out.out E.out,Below.refl _ _⟩
 have d2:((x0:Int) != 34)=false:=by rw[h34];rfl
 have S0:Hid (uqv (bs9 s)=cmb [] 1 (uqg ((bs9 s).drop 1))):=uqv_start h0 (by rw[← hx0];exact h34);clear h34 hx0;go_enter Tryz.func61,Tryz.ntmps61;go_wp2_with fail;generalize hW:World.alloc w _=W0;have HB:Hid (Below w.heap.size w W0):=by show Below _ _ _;rw[← hW];exact(Below.refl _ _).alloc (Nat.le_refl _) _
 have X:Hid (Bld w.heap.size [] W0):=by show Lib.IsBuilder _ _ _ _ _ _;rw[← hW];exact Lib.fresh_isBuilder _ _ _
 clear hW;go_loopw [6] (fun iv wr=>∃(acc:List Nat) (i:Nat),iv=.int .i64 i∧i≤s.size∧uqv (bs9 s)=cmb acc i (uqg ((bs9 s).drop i))∧acc.length≤i∧(∀c∈acc,c<256)∧Bld w.heap.size acc wr∧Below w.heap.size w wr) (fun iv _=>s.size-(intOf iv).toNat)
 case atStart=>exact⟨[],1,rfl,h0,S0.out,Nat.zero_le _,(fun c hc=>by cases hc),X.out,HB.out⟩
 case round=>
  obtain⟨acc,i,rfl,hi,hO,hOs,hlt2,hx,hb⟩:=hrel;clear X HB;have X:=Jh hx;have HB:=Jh hb;have HO:=Jh hO;have LT:=Jh hlt2;have AL:=Jh hOs;clear hO S0 hx hb hlt2 hOs;rcases Nat.lt_or_ge i s.size with hlt|hge
  ·obtain⟨x,hx⟩:∃x,x=(s[i]'hlt).toNat:=⟨_,rfl⟩
   have ex:((s[i]'hlt).toNat:Int)=(x:Int):=by rw[hx]
   have hx2:Hid (x<256):=by show x<256;rw[hx];exact UInt8.toNat_lt _
   have HD:Hid ((bs9 s).drop i=x::(bs9 s).drop (i+1)):=by show _=_;rw[bs9_get s i hlt,hx]
   obtain⟨i1,hi1⟩:∃i1,i1=i+1:=⟨_,rfl⟩;have ei:(i:Int)+1=(i1:Int):=by omega
   have hi1s:i1≤s.size:=by omega
   clear hx;by_cases k34:x=34
   ·have d34:((x:Int) == 34)=true:=by rw[k34];rfl
    obtain⟨Z,hZ⟩:∃Z,acc=bs9 Z:=⟨st9 acc,(bs9_st9 LT.out).symm⟩;have HZ:=Jh hZ;have E:Hid (uqv (bs9 s)=(bs9 Z,i1,0)):=by
     show _=_;rw[HO.out,HD.out,k34,uqg_end,hi1,← hZ];show(acc++[],i+1,0)=_;rw[List.append_nil]
    clear k34 hi1 hZ;go_wp2_with fail;refine(bst_is X.out HZ.out HB.out.size).mono ?_;rintro e w3 ⟨rfl,hb2⟩;replace HB:=Jh (HB.out.trans hb2);clear hb2;go_wp2_with fail;go_ret3
    exact⟨out.out E.out,HB.out⟩
   have d34:((x:Int) == 34)=false:=by rw[beq_eq_false_iff_ne];omega
   by_cases k92:x=92
   ·have d92:((x:Int) == 92)=true:=by rw[k92];rfl
    rcases(Nat.lt_or_ge i1 s.size).symm with hge2|hlt2
    ·have dz:((i1:Int) == (s.size:Int))=true:=by rw[beq_iff_eq];omega
     have E:Hid (uqv (bs9 s)=(bs9 ⟨#[]⟩,0,2)):=by
      show _=_;rw[HO.out,HD.out,k92,List.drop_of_length_le (show(bs9 s).length≤i+1 by rw[bs9_len];omega),uqg,if_neg (by decide)];rfl
     clear k34 k92 hi1;go_wp2_with fail;go_ret3
     exact⟨out.out E.out,HB.out⟩
    have dz:((i1:Int) == (s.size:Int))=false:=by rw[beq_eq_false_iff_ne];omega
    obtain⟨c,hc⟩:∃c,c=(s[i1]'hlt2).toNat:=⟨_,rfl⟩;have ec:((s[i1]'hlt2).toNat:Int)=(c:Int):=by rw[hc]
    have hc2:c<256:=by rw[hc];exact UInt8.toNat_lt _
    obtain⟨i2,hi2⟩:∃i2,i2=i1+1:=⟨_,rfl⟩;have ei2:(i1:Int)+1=(i2:Int):=by omega
    have hi2s:i2≤s.size:=by omega
    have HD2:Hid ((bs9 s).drop i=92::c::(bs9 s).drop i2):=by show _=_;rw[HD.out,k92,← hi1,bs9_get s i1 hlt2,hc,hi2]
    have NEXT:Hid (∀{d:Nat},une c=some d→uqv (bs9 s)=cmb (acc++[d]) i2 (uqg ((bs9 s).drop i2))):=fun {d} hu=>by
     rw[HO.out,HD2.out,uqg_esc hu,cmb_pre,hi2,hi1]
    have HI:Hid (i2=i+2):=by show _=_;omega
    clear hc k34 k92 hi1 hi2;by_cases c34:c=34
    ·have IX:Hid (idxw c=0):=by show _=_;rw[c34];rfl
     have IM:=atm_0;have HN:=Jh (NEXT.out (d:=34) (by rw[c34];rfl));clear c34 ;go_wp2_with fail;refine(idxw_is hc2 IX.out _).mono ?_;rintro e w1 ⟨rfl,hw⟩;obtain rfl:=hw.symm;go_wp2_with fail;refine(wrb_is (x:=34) X.out (by have:=AL.out;omega) HB.out.size).mono ?_;rintro e w2 ⟨rfl,h2,hb2⟩;replace X:=Jh h2;replace HB:=Jh (HB.out.trans hb2);clear h2 hb2;go_wp2_with fail;go_roundw
     case rel=>exact⟨acc++[34],i2,by first|rfl|go_num,hi2s,HN.out,by have:=AL.out;have:=HI.out;rw[List.length_append];simp;omega,lt_app LT.out (by decide),X.out,HB.out⟩
     case measure=>have:=HI.out;simp[intOf]<;>omega
    by_cases c92:c=92
    ·have IX:Hid (idxw c=1):=by show _=_;rw[c92];rfl
     have IM:=atm_1;have HN:=Jh (NEXT.out (d:=92) (by rw[c92];rfl));clear c92 c34 ;go_wp2_with fail;refine(idxw_is hc2 IX.out _).mono ?_;rintro e w1 ⟨rfl,hw⟩;obtain rfl:=hw.symm;go_wp2_with fail;refine(wrb_is (x:=92) X.out (by have:=AL.out;omega) HB.out.size).mono ?_;rintro e w2 ⟨rfl,h2,hb2⟩;replace X:=Jh h2;replace HB:=Jh (HB.out.trans hb2);clear h2 hb2;go_wp2_with fail;go_roundw
     case rel=>exact⟨acc++[92],i2,by first|rfl|go_num,hi2s,HN.out,by have:=AL.out;have:=HI.out;rw[List.length_append];simp;omega,lt_app LT.out (by decide),X.out,HB.out⟩
     case measure=>have:=HI.out;simp[intOf]<;>omega
    by_cases c110:c=110
    ·have IX:Hid (idxw c=2):=by show _=_;rw[c110];rfl
     have IM:=atm_2;have HN:=Jh (NEXT.out (d:=10) (by rw[c110];rfl));clear c110 c34 c92 ;go_wp2_with fail;refine(idxw_is hc2 IX.out _).mono ?_;rintro e w1 ⟨rfl,hw⟩;obtain rfl:=hw.symm;go_wp2_with fail;refine(wrb_is (x:=10) X.out (by have:=AL.out;omega) HB.out.size).mono ?_;rintro e w2 ⟨rfl,h2,hb2⟩;replace X:=Jh h2;replace HB:=Jh (HB.out.trans hb2);clear h2 hb2;go_wp2_with fail;go_roundw
     case rel=>exact⟨acc++[10],i2,by first|rfl|go_num,hi2s,HN.out,by have:=AL.out;have:=HI.out;rw[List.length_append];simp;omega,lt_app LT.out (by decide),X.out,HB.out⟩
     case measure=>have:=HI.out;simp[intOf]<;>omega
    by_cases c116:c=116
    ·have IX:Hid (idxw c=3):=by show _=_;rw[c116];rfl
     have IM:=atm_3;have HN:=Jh (NEXT.out (d:=9) (by rw[c116];rfl));clear c116 c34 c92 c110 ;go_wp2_with fail;refine(idxw_is hc2 IX.out _).mono ?_;rintro e w1 ⟨rfl,hw⟩;obtain rfl:=hw.symm;go_wp2_with fail;refine(wrb_is (x:=9) X.out (by have:=AL.out;omega) HB.out.size).mono ?_;rintro e w2 ⟨rfl,h2,hb2⟩;replace X:=Jh h2;replace HB:=Jh (HB.out.trans hb2);clear h2 hb2;go_wp2_with fail;go_roundw
     case rel=>exact⟨acc++[9],i2,by first|rfl|go_num,hi2s,HN.out,by have:=AL.out;have:=HI.out;rw[List.length_append];simp;omega,lt_app LT.out (by decide),X.out,HB.out⟩
     case measure=>have:=HI.out;simp[intOf]<;>omega
    have IX:Hid (idxw c = -1):=by show _=_;unfold idxw;rw[if_neg c34,if_neg c92,if_neg c110,if_neg c116]
    have E:Hid (uqv (bs9 s)=(bs9 ⟨#[]⟩,0,3)):=by
     show _=_;rw[HO.out,HD2.out,uqg_none (by unfold une;rw[if_neg c34,if_neg c92,if_neg c110,if_neg c116])];rfl
    clear c34 c92 c110 c116;go_wp2_with fail;refine(idxw_is hc2 IX.out _).mono ?_;rintro e w1 ⟨rfl,hw⟩;obtain rfl:=hw.symm;go_wp2_with fail;go_ret3
    exact⟨out.out E.out,HB.out⟩
   have d92:((x:Int) == 92)=false:=by rw[beq_eq_false_iff_ne];omega
   have HN:Hid (uqv (bs9 s)=cmb (acc++[x]) i1 (uqg ((bs9 s).drop i1))):=by show _=_;rw[HO.out,HD.out,uqg_byte k34 k92,cmb_pre,hi1]
   have HI:Hid (i1=i+1):=hi1;clear k34 k92 hi1;go_wp2_with fail;refine(wrb_is (x:=x) X.out (by have:=AL.out;omega) HB.out.size).mono ?_;rintro e w2 ⟨rfl,h2,hb2⟩;replace X:=Jh h2;replace HB:=Jh (HB.out.trans hb2);clear h2 hb2;go_wp2_with fail;go_roundw
   case rel=>exact⟨acc++[x],i1,by first|rfl|go_num,hi1s,HN.out,by have:=AL.out;have:=HI.out;rw[List.length_append];simp;omega,lt_app LT.out hx2.out,X.out,HB.out⟩
   case measure=>have:=HI.out;simp[intOf]<;>omega
  ·have E:Hid (uqv (bs9 s)=(bs9 ⟨#[]⟩,0,2)):=by show _=_;rw[HO.out,List.drop_of_length_le (by rw[bs9_len];exact hge),uqg];rfl
   go_wp2_with fail;go_ret3
   exact⟨out.out E.out,HB.out⟩
theorem lextxt_is{k:Nat}{X Y:ByteArray}(h:txt k (bs9 X)=bs9 Y)(hX:X.size≤6000)(l c:Int)(w:World):Calls Tryz.prog 29 #[.agg #[.int .i64 (k:Int),.string X,.int .i64 l,.int .i64 c]] w (Ret9 w (.string Y)):=by
 have H:=Jh h;clear h;have HB:Hid (Below w.heap.size w (w.alloc (.cells #[.int .i64 (k:Int),.string X,.int .i64 l,.int .i64 c] 65))):=(Below.refl _ _).alloc (Nat.le_refl _) _;by_cases k5:k=5
 ·have d5:((k:Int) == 5)=true:=by rw[k5];rfl
  have E:Hid (qt (bs9 X)=bs9 Y):=by show _=_;rw[← H.out,k5];rfl
  clear k5;go_enter Tryz.func29,Tryz.ntmps29;go_wp2_with fail;refine(lexquote_is E.out hX _).mono ?_;rintro e w4 ⟨rfl,hb⟩;replace HB:=Jh (HB.out.trans (hb.mono HB.out.size));clear hb;go_wp2_with fail;go_ret;exact⟨rfl,HB.out⟩
 have d5:((k:Int) == 5)=false:=by rw[beq_eq_false_iff_ne];omega
 by_cases k6:k=6
 ·have d6:((k:Int) == 6)=true:=by rw[k6];rfl
  have E:Hid (35::bs9 X=bs9 Y):=by show _=_;rw[← H.out,k6];rfl
  have hadd:∀w,(Op.stringOp .add ⟨#[35]⟩ X).run Tryz.prog w=.ok (.string Y) w:=fun w=>add9 (by rw[← E.out];rfl) (by show 1+X.size≤_;omega) w
  clear k6;go_enter Tryz.func29,Tryz.ntmps29;go_wp2_with fail;go_ret;exact⟨rfl,HB.out⟩
 have d6:((k:Int) == 6)=false:=by rw[beq_eq_false_iff_ne];omega
 by_cases k7:k=7
 ·have d7:((k:Int) == 7)=true:=by rw[k7];rfl
  have E:Hid (94::bs9 X=bs9 Y):=by show _=_;rw[← H.out,k7];rfl
  have hadd:∀w,(Op.stringOp .add ⟨#[94]⟩ X).run Tryz.prog w=.ok (.string Y) w:=fun w=>add9 (by rw[← E.out];rfl) (by show 1+X.size≤_;omega) w
  clear k7;go_enter Tryz.func29,Tryz.ntmps29;go_wp2_with fail;go_ret;exact⟨rfl,HB.out⟩
 have d7:((k:Int) == 7)=false:=by rw[beq_eq_false_iff_ne];omega
 by_cases k9:k=9
 ·have d9:((k:Int) == 9)=true:=by rw[k9];rfl
  have E:Hid (bs9 X++[58]=bs9 Y):=by show _=_;rw[← H.out,k9];rfl
  have hadd:∀w,(Op.stringOp .add X ⟨#[58]⟩).run Tryz.prog w=.ok (.string Y) w:=fun w=>add9 (by rw[← E.out];rfl) (by show X.size+1≤_;omega) w
  clear k9;go_enter Tryz.func29,Tryz.ntmps29;go_wp2_with fail;go_ret;exact⟨rfl,HB.out⟩
 have d9:((k:Int) == 9)=false:=by rw[beq_eq_false_iff_ne];omega
 have E:Hid (X=Y):=bs9_inj (by rw[← H.out];unfold txt;rw[if_neg k5,if_neg k6,if_neg k7,if_neg k9]);clear k5 k6 k7 k9;go_enter Tryz.func29,Tryz.ntmps29;go_wp2_with fail;go_ret;exact⟨by rw[← E.out];rfl,HB.out⟩
theorem nxt_x{D N:List Nat→Bool}{l:List Nat}{k n:Nat}{x:List Nat}(h:nxt D N l=.inr (k,x,n)):x.length≤n∧(k=5→x.length+2≤n):=by
 have ht:∀{m k' n':Nat}{g:Bool}{y:List Nat},k'≠5→m≤n'→tkn k' (y.take m) n' g=.inr (k,x,n)→x.length≤n∧(k=5→x.length+2≤n):=by
  intro m k' n' g y hk hm e;obtain⟨_,hp⟩:=tkn_ok e;cases hp
  exact⟨by rw[List.length_take];omega,fun e=>absurd e hk⟩
 cases l with
 | nil=>rw[nxt] at h;cases h
 | cons c t=>
  rw[nxt] at h;split at h
  ·cases hq:uqg t with
   | inl y=>rw[hq] at h;cases h
   | inr p=>
    obtain⟨o,m⟩:=p;rw[hq] at h;cases h
    have:=uqg_bound _ (Nat.le_refl _) hq;exact⟨by omega,fun _=>by omega⟩
  split at h
  ·unfold tag12 at h
   exact ht (by split<;>decide) (Nat.le_succ _) h
  split at h
  ·unfold num12 at h
   split at h
   ·cases h;exact⟨by rw[List.length_take];omega,fun e=>by cases e⟩
   ·exact ht (by decide) (Nat.le_refl _) h
  split at h
  ·unfold acc12 at h
   split at h
   ·cases h;exact⟨by rw[List.length_take];omega,fun e=>by cases e⟩
   ·exact ht (by decide) (Nat.le_refl _) h
  split at h
  ·unfold key12 at h
   split at h
   ·exact ht (by decide) (Nat.le_succ _) h
   ·exact ht (by decide) (Nat.le_refl _) h
  ·exact ht (by decide) (Nat.le_refl _) h
theorem txt_len{k:Nat}{x:List Nat}{n:Nat}(h1:1≤n)(h:x.length≤n∧(k=5→x.length+2≤n)):(txt k x).length≤2*n:=by
 unfold txt;split
 ·rename_i k5
  have:=h.2 k5;have:=qt_len x;omega
 ·(repeat' split)<;>(try simp)<;>omega
theorem WD_all{D N:List Nat→Bool}(hD:DayOk D):∀(f:Nat) {a:Nat}{l:List Nat}{ts:List Wd},l.length≤f→WD D N a l=.inr ts→(∀c∈l,c<256)→(joinW ts).length≤3*l.length∧ts.length≤l.length∧∀t∈ts,(∀c∈t.2.1,c<256)∧t.2.1.length≤l.length:=by
 intro f;induction f with
 | zero=>
  intro a l ts hf h _;rw[List.eq_nil_of_length_eq_zero (Nat.le_zero.1 hf),WD_stop (.inl rfl)] at h;cases h
  exact⟨Nat.zero_le _,Nat.zero_le _,fun t ht=>by cases ht⟩
 | succ f ih=>
  intro a l ts hf h hl;by_cases hs:Stop12 (l.drop (indl l))
  ·rw[WD_stop hs] at h
   cases h
   exact⟨Nat.zero_le _,Nat.zero_le _,fun t ht=>by cases ht⟩
  ·cases hn:nxt D N (l.drop (indl l)) with
   | inl e=>rw[WD_err hs hn] at h;cases h
   | inr p=>
    obtain⟨k,x,n⟩:=p;rw[WD_ok hD hs hn] at h;obtain⟨g1,g2,_⟩:=nxt_back hD hn;have g3:=nxt_x hn;have g4:=nxt_lt hn (fun c hc=>hl c (List.mem_of_mem_drop hc));have g5:=txt_len (k:=k) g1 g3;rw[List.length_drop] at g2;cases hr:WD D N (a+indl l+n) ((l.drop (indl l)).drop n) with
    | inl p=>rw[hr] at h;cases h
    | inr r=>
     rw[hr] at h;obtain rfl:(k,x,a+indl l+1)::r=ts:=Sum.inr.inj h;obtain⟨i1,i2,i3⟩:=ih (by rw[List.length_drop,List.length_drop];omega) hr (fun c hc=>hl c (List.mem_of_mem_drop (List.mem_of_mem_drop hc)));rw[List.length_drop,List.length_drop] at i1 i2;refine⟨?_,by rw[List.length_cons];omega,fun t ht=>?_⟩
     ·rw[joinW_cons,List.length_cons,List.length_append]
      show(txt k x).length+_+1≤_;omega
     ·rcases List.mem_cons.1 ht with rfl|ht
      ·exact⟨g4,by show x.length≤_;omega⟩
      ·obtain⟨j1,j2⟩:=i3 t ht
       rw[List.length_drop,List.length_drop] at j2;exact⟨j1,by omega⟩
theorem nxt_txt_lt(k:Nat){x:List Nat}(h:∀c∈x,c<256):∀c∈txt k x,c<256:=by
 intro c hc;unfold txt at hc;split at hc
 ·exact qt_lt h c hc
 split at hc
 ·rcases List.mem_cons.1 hc with rfl|hc
  ·decide
  ·exact h c hc
 split at hc
 ·rcases List.mem_cons.1 hc with rfl|hc
  ·decide
  ·exact h c hc
 split at hc
 ·rcases List.mem_append.1 hc with hc|hc
  ·exact h c hc
  ·rw[List.mem_singleton.1 hc];decide
 ·exact h c hc
end Go.Proofs.YtpbbolgnnegmlaaGreatDoor
