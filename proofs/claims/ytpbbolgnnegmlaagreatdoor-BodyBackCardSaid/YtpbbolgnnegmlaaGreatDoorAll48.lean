/- Lemmas of the proof: HeaTa, BodT. -/
import Derived.Test.YtpbbolgnnegmlaaGreatDoorAll45
import Derived.Test.YtpbbolgnnegmlaaGreatDoorAll47
import Derived.Test.YtpbbolgnnegmlaaGreatDoorAll41
set_option linter.unusedVariables false
set_option linter.unusedSimpArgs false
set_option maxRecDepth 100000
set_option maxHeartbeats 32000000
open Go.Lib renaming hid→Jh
namespace Go.Proofs.YtpbbolgnnegmlaaGreatDoor.Num
open Go.RowKit
theorem joinB_tail:∀(r:List (List UInt8)),(Lib.joinTail [32] r).map UInt8.toNat=(r.map fun x=>32::x.map UInt8.toNat).flatten
 | []=>rfl
 | x::r=>by
  have e:Lib.joinTail [32] (x::r)=32::(x++Lib.joinTail [32] r):=rfl;rw[e,List.map_cons,List.map_append,joinB_tail r];rfl
theorem jnB_flat:∀(x:List Nat) (r:List (List Nat)),jnB (x::r)=x++(r.map fun y=>32::y).flatten
 | x,[]=>by show x=x++[];rw[List.append_nil]
 | x,y::r=>by
  show x++32::jnB (y::r)=_;rw[jnB_flat y r];rfl
theorem bs9_joinB(xs:List ByteArray):bs9 ⟨(Lib.join (xs.map (·.data.toList)) [32]).toArray⟩=jnB (xs.map bs9):=by
 show(Lib.join (xs.map (·.data.toList)) [32]).map UInt8.toNat=_;cases xs with
 | nil=>rfl
 | cons x r=>
  rw[List.map_cons,Lib.join_cons,List.map_append,joinB_tail,List.map_cons,jnB_flat,List.map_map,List.map_map];rfl
theorem joinB_is{w:World}{A:Option Addr}{n c:Nat}{L:List (List Nat)}(h:RdP w A n c L)(hL:∀t∈L,∀x∈t,x<256)(hn:n≤1000000){J:ByteArray}(hJ:jnB L=bs9 J)(hs:J.size≤1000000):Calls Tryz.prog 24 #[.slice A n c,.string ⟨#[32]⟩] w (Ret9 w (.string J)):=by
 obtain⟨h1,h2,h3,h4⟩:=h;have e:(L.map st9).map bs9=L:=by
  rw[List.map_map];conv=>rhs;rw[← List.map_id L]
  exact List.map_congr_left fun t ht=>bs9_st9 (hL t ht)
 have hr:(⟨(Lib.join ((L.map st9).map (·.data.toList)) [32]).toArray⟩:ByteArray)=J:=bs9_inj (by rw[bs9_joinB,e,hJ]);rcases h4 with rfl|⟨b,o,rfl,hb,hc⟩
 ·obtain rfl:n=0:=h1
  obtain rfl:J=⟨#[]⟩:=bs9_inj hJ.symm;exact(Any.strings_Join_none Tryz.lays156 Tryz.Builder_Extra_156 A c ⟨#[32]⟩ w).mono fun e w' ⟨he,hw⟩=>⟨he,hw▸Below.refl _ _⟩
 ·have hl:(L.map st9).length=n:=by rw[List.length_map,h1]
  have q:=Tryz.strings_Join b o c (L.map st9) ⟨#[32]⟩ w (fun j x hx=>hc j _ (rowP_get hx)) hb (by omega) (by omega) (by
   have h9:=congrArg ByteArray.size hr;have h8:(Lib.join ((L.map st9).map (·.data.toList)) [32]).length=J.size:=by rw[← h9];exact List.size_toArray.symm
   show(Lib.join ((L.map st9).map (·.data.toList)) [32]).length≤_;omega)
  rw[hl] at q;exact q.mono fun e w' ⟨he,hw⟩=>⟨he.trans (by rw[← hr]),hw⟩
theorem toldO_is{w:World}{gt:Nat}{v:Value}{L:List (List Nat)}(hB:Bk w gt #[v] 73)(hO:OwnP w (gt+1) v L)(hl:L.length≤10)(X:ByteArray){M:List (List Nat)}(hM:(if bs9 X≠[] then L++[bs9 X] else L)=M) :
  Calls Tryz.prog 20 #[.string X,.pointer (some ⟨gt,0,none⟩)] w (fun e w'=>e=.returned (.tuple #[])∧∃v',Below gt w w'∧Bk w' gt #[v'] 73∧OwnP w' (gt+1) v' M):=by
 by_cases hz:bs9 X=[]
 ·obtain⟨u1,u2⟩:=emp_facts hz
  have hM2:L=M:=by rw[← hM,if_neg (fun h=>h hz)]
  subst hM2;have H1:=Jh hB;have H2:=Jh hO;clear hz hM hB hO;go_enter Tryz.func20,Tryz.ntmps20;go_wp2_with fail;go_end0
  exact⟨rfl,v,Below.refl _ _,H1.out,H2.out⟩
 ·obtain⟨u1,u2⟩:=emp_nots hz
  have hM2:Hid (L++[bs9 X]=M):=by show _=_;rw[← hM,if_pos hz]
  obtain⟨A2,c2,rfl⟩:=hO.slen;have q0:w.cell? ⟨gt,0,none⟩=some (.slice A2 L.length c2):=(hB.cell 0).trans rfl;have qf:=hB.fz 0;have qlt:=hB.lt;obtain⟨W9,hW9⟩:∃v,World.alloc w (.cells #[.string X] 9)=v:=⟨_,rfl⟩;have OW9:Hid (OwnP W9 (gt+1) (.slice A2 L.length c2) L):=by rw[← hW9];exact hO.on ((Below.refl _ _).alloc (Nat.le_refl _) _)
  have HB9:Hid (Below w.heap.size w W9):=by rw[← hW9];exact(Below.refl _ _).alloc (Nat.le_refl _) _
  have BK9:Hid (Bk W9 gt #[.slice A2 L.length c2] 73):=hB.on HB9.out;have NEW:Hid (∀j u,([.string X]:List Value)[j]?=some u→W9.cell? ((⟨w.heap.size,0,none⟩:Addr).add j)=some u):=by
   show ∀j u,_;rw[← hW9];exact txt_new X _
  have HXS:Hid (row11 (L++[bs9 X])=row11 L++[.string X]):=by show _=_;rw[row11_push,st9_bs9]
  obtain⟨i0,hi0,hz0,hz1,hz2⟩:=info_parts11 info_txt;have hl9:L.length+1≤11:=by omega
  clear hz hM hB hO hl;go_enter Tryz.func20,Tryz.ntmps20;go_wp2_with (at_builtin;(try rw[hW9]);refine wpList_append_lies _ rfl (.tmp 5) (.tmp 7) 73 rfl (gt+1) 9 i0 (.string ⟨#[]⟩) 1 16 Tryz.underlying73 hi0 hz0 hz1 hz2 zcells1 (by decide) (.slice A2 L.length c2) L.length (row11 L) rfl OW9.out ⟨w.heap.size,0,none⟩ 1 1 [.string X] rfl rfl NEW.out (by intro u hu;simp at hu;subst hu;rfl) (by decide) (by unfold maxLen;omega) (by omega) (by have:=HB9.out.size;omega) W9.heap.size rfl ?_;intro g4 cap4 w11 hown4 hgr4 hat4 hlt4;have OWB:Hid (OwnP w11 (gt+1) (.slice (some ⟨g4,0,none⟩) (L.length+1) cap4) (L++[bs9 X])):=(by show OwnP _ _ _ _;unfold OwnP;rw[List.length_append,HXS.out];exact hown4);have HBB:Hid (Below (gt+1) w w11):=((HB9.out.mono (by omega)).grown hgr4 (by have:=HB9.out.size;omega) (fun k e=>(World.ownsRow.lt OW9.out k e).1));clear hown4 hgr4 hat4 hlt4;have BKB:Hid (Bk w11 gt #[.slice A2 L.length c2] 73):=((HBB.out.block gt (by omega)).trans ((HB9.out.block gt qlt).symm.trans BK9.out));have q1:w11.cell? ⟨gt,0,none⟩=some (.slice A2 L.length c2):=((BKB.out.cell 0).trans rfl);have qf1:=BKB.out.fz 0;have qlt1:=BKB.out.lt);go_end0
  exact⟨rfl,.slice (some ⟨g4,0,none⟩) (L.length+1) cap4,(HBB.out.mono (Nat.le_succ _)).setCell (Nat.le_refl _) _,BKB.out.set 0 _,by rw[← hM2.out];exact ownsRow_setCell_below OWB.out (a:=⟨gt,0,none⟩) (Nat.lt_succ_self _) _⟩
structure SK (w0 w:World) (xs:Array Value) (v:Value) (L:List (List Nat)):Prop where
 bel:Below w0.heap.size w0 w
 box:Bk w w0.heap.size xs 47
 tol:Bk w (w0.heap.size+1) #[v] 73
 own:OwnP w (w0.heap.size+1+1) v L
section
variable {w0 w w':World}{xs:Array Value}{v v':Value}{L M:List (List Nat)}
theorem SK.step(h:SK w0 w xs v L)(hb:Below w.heap.size w w'):SK w0 w' xs v L:=⟨h.bel.trans (hb.mono h.bel.size),h.box.on hb,h.tol.on hb,h.own.on hb⟩
theorem SK.told(h:SK w0 w xs v L)(hb:Below (w0.heap.size+1) w w')(ht:Bk w' (w0.heap.size+1) #[v'] 73)(ho:OwnP w' (w0.heap.size+1+1) v' M):SK w0 w' xs v' M:=⟨h.bel.trans (hb.mono (Nat.le_succ _)),(hb.block _ (Nat.lt_succ_self _)).trans h.box,ht,ho⟩
theorem SK.atv(h:Hid (SK w0 w xs v L))(j:Nat){y:Value}(hj:xs[j]?=some y):w.cell? ⟨w0.heap.size,j,none⟩=some y:=(h.out.box.cell j).trans hj
end
structure FP.fit (f:FP):Prop where
 u:(dg f.u.i.natAbs).length≤900∧f.u.k≤4010∧f.u.s.size≤300
 c:(dg f.c.i.natAbs).length≤900∧f.c.k≤4010∧f.c.s.size≤300∧f.c.l.size≤300
 p:(dg f.p.i.natAbs).length≤900∧f.p.k≤4010∧f.p.s.size≤300
theorem po_fit{d:Po}(h:d.fit):(fpOf (some d)).fit:=by
 refine⟨h.un,?_,?_⟩
 ·show(dg (VC.of d.co).i.natAbs).length≤900∧(VC.of d.co).k≤4010∧(VC.of d.co).s.size≤300∧(VC.of d.co).l.size≤300
  cases hc:d.co with
  | none=>exact⟨dg_nought,Nat.zero_le _,Nat.zero_le _,Nat.zero_le _⟩
  | some c=>
   obtain⟨⟨h1,h2,h3⟩,h4⟩:=h.co c hc;exact⟨h1,h2,h3,h4⟩
 ·show(dg (VP.of d.pr).i.natAbs).length≤900∧(VP.of d.pr).k≤4010∧(VP.of d.pr).s.size≤300
  cases hc:d.pr with
  | none=>exact⟨dg_nought,Nat.zero_le _,Nat.zero_le _⟩
  | some c=>
   obtain⟨t,c⟩:=c;exact h.pr (t,c) hc
theorem cst_ne(c:Co):cstT c≠[]:=by
 unfold cstT opnC;split<;>(intro h;cases h)
theorem prc_ne(c:Bool×Un):prcT c≠[]:=by
 unfold prcT;split<;>(intro h;cases h)
theorem po_parts{d:Po}{U C R:ByteArray}(hU:txtU (fpOf (some d)).u=bs9 U)(hC:txtC (fpOf (some d)).c=bs9 C)(hR:txtP (fpOf (some d)).p=bs9 R){L1 L3 L4 L5:List (List Nat)}(h1:(if bs9 d.flag≠[] then []++[bs9 d.flag] else [])=L1)(h3:(if bs9 U≠[] then (L1++[bs9 d.acc])++[bs9 U] else L1++[bs9 d.acc])=L3)(h4:(if bs9 C≠[] then L3++[bs9 C] else L3)=L4)(h5:(if bs9 R≠[] then L4++[bs9 R] else L4)=L5):(poP d).map (·.t)=L5:=by
 have hU2:untT d.un=bs9 U:=hU;have e1:(flP d.flag).map (·.t)=L1:=by
  rw[← h1];unfold flP;by_cases h:bs9 d.flag=[]
  ·rw[if_pos h,if_neg (fun q=>q h)];rfl
  ·rw[if_neg h,if_pos h];rfl
 have e2:(unP d.un).map (·.t)=if bs9 U≠[] then [bs9 U] else []:=by
  have q:=unt_full (u:=d.un);rw[hU2] at q;unfold unP;by_cases hs:d.un.some
  ·have e:d.un.has=true∨bs9 d.un.cur≠[]:=hs
   rw[if_pos e] at q;rw[if_pos hs];show [untT d.un]=_;rw[hU2];exact q
  ·have e:¬(d.un.has=true∨bs9 d.un.cur≠[]):=hs
   rw[if_neg e] at q;rw[if_neg hs];exact q
 have e3:(coP d.co).map (·.t)=if bs9 C≠[] then [bs9 C] else []:=by
  have hC2:txtC (VC.of d.co)=bs9 C:=hC;rw[← hC2];cases d.co with
  | none=>rfl
  | some c=>
   have e:txtC (VC.of (some c))=cstT c:=rfl;rw[e,if_pos (cst_ne c)];rfl
 have e4:(prP d.pr).map (·.t)=if bs9 R≠[] then [bs9 R] else []:=by
  have hR2:txtP (VP.of d.pr)=bs9 R:=hR;rw[← hR2];cases d.pr with
  | none=>rfl
  | some c=>
   obtain⟨t,c⟩:=c;have e:txtP (VP.of (some (t,c)))=prcT (t,c):=rfl;rw[e,if_pos (prc_ne _)];rfl
 unfold poP;rw[List.map_append,List.map_cons,List.map_append,List.map_append,e1,e2,e3,e4,← h5,← h4,← h3];have e5:(pW 2 (bs9 d.acc)).t=bs9 d.acc:=rfl;rw[e5];by_cases a:bs9 U≠[]<;>by_cases b:bs9 C≠[]<;>by_cases c:bs9 R≠[]<;>simp[a,b,c]
theorem textp16:TEXTO:=by
 intro w m d T hm hfit hTs hok hT;have OK:Hid (∀{W:World},Below w.heap.size w W→Ok12 W):=fun hb=>okw12 hok hb
 have hff:=po_fit hfit;obtain⟨U,hU⟩:∃U:ByteArray,txtU (fpOf (some d)).u=bs9 U:=⟨_,(bs9_st9 (txtU_lt _)).symm⟩;obtain⟨C,hC⟩:∃U:ByteArray,txtC (fpOf (some d)).c=bs9 U:=⟨_,(bs9_st9 (txtC_lt _)).symm⟩;obtain⟨R,hR⟩:∃U:ByteArray,txtP (fpOf (some d)).p=bs9 U:=⟨_,(bs9_st9 (txtP_lt _)).symm⟩;obtain⟨L1,h1⟩:∃L1,(if bs9 d.flag≠[] then []++[bs9 d.flag] else [])=L1:=⟨_,rfl⟩;obtain⟨L3,h3⟩:∃L3,(if bs9 U≠[] then (L1++[bs9 d.acc])++[bs9 U] else L1++[bs9 d.acc])=L3:=⟨_,rfl⟩;obtain⟨L4,h4⟩:∃L4,(if bs9 C≠[] then L3++[bs9 C] else L3)=L4:=⟨_,rfl⟩;obtain⟨L5,h5⟩:∃L5,(if bs9 R≠[] then L4++[bs9 R] else L4)=L5:=⟨_,rfl⟩;have hJ:jnB L5=bs9 T:=by rw[← hT,← po_parts hU hC hR h1 h3 h4 h5];rfl
 have n1:L1.length≤1∧∀t∈L1,∀x∈t,x<256:=by
  rw[← h1];split
  ·exact⟨Nat.le_refl _,fun t ht=>by rw[List.nil_append] at ht;rw[List.mem_singleton.1 ht];exact bs9_lt _⟩
  ·exact⟨Nat.zero_le _,fun t ht=>by cases ht⟩
 have more:∀{L:List (List Nat)}{k:Nat}(x:ByteArray),(L.length≤k∧∀t∈L,∀x∈t,x<256)→(L++[bs9 x]).length≤k+1∧∀t∈L++[bs9 x],∀x∈t,x<256:=fun {L k} x h=>by
  refine⟨by rw[List.length_append,List.length_singleton];omega,fun t ht=>?_⟩;rcases List.mem_append.1 ht with h2|h2
  ·exact h.2 t h2
  ·rw[List.mem_singleton.1 h2];exact bs9_lt _
 have n2:=more d.acc n1;have n3:L3.length≤3∧∀t∈L3,∀x∈t,x<256:=by
  rw[← h3];split
  ·exact more U n2
  ·exact⟨by omega,n2.2⟩
 have n4:L4.length≤4∧∀t∈L4,∀x∈t,x<256:=by
  rw[← h4];split
  ·exact more C n3
  ·exact⟨by omega,n3.2⟩
 have n5:L5.length≤5∧∀t∈L5,∀x∈t,x<256:=by
  rw[← h5];split
  ·exact more R n4
  ·exact⟨by omega,n4.2⟩
 have TJ:Hid (∀{W:World}{A:Option Addr}{n c:Nat},RdP W A n c L5→Calls Tryz.prog 24 #[.slice A n c,.string ⟨#[32]⟩] W (Ret9 W (.string T))):=fun h=>joinB_is h n5.2 (by have:=h.1;have:=n5.1;omega) hJ (by omega)
 have hfl:d.flag=(fpOf (some d)).flag:=rfl;have hac:d.acc=(fpOf (some d)).acc:=rfl;rw[hfl] at h1;rw[hac] at h3;have N1:=Jh n1.1;have N2:=Jh n2.1;have N3:=Jh n3.1;have N4:=Jh n4.1;obtain⟨f,hf⟩:∃f,fpOf (some d)=f:=⟨_,rfl⟩;rw[hf] at hm hff hU hC hR h1 h3 ⊢;have hnu:m.n≤900:=by have q1:=hm.u.len;have q2:=hff.u.1;omega
 have hnc:m.nc≤900:=by have q1:=hm.c.len;have q2:=hff.c.1;omega
 have hnp:m.np≤900:=by have q1:=hm.p.len;have q2:=hff.p.1;omega
 have TU:Hid (∀{W:World},Below w.heap.size w W→Calls Tryz.prog 21 #[.agg #[.bool f.u.b,.bool (ngB f.u.i),.slice m.A m.n m.c,.int .i64 (f.u.k:Int),.string f.u.s]] W (Ret9 W (.string U))):=fun h=>untt14 (v:=f.u) (hm.u.on h) hnu hff.u.2.1 hff.u.2.2 (OK.out h) hU
 have TC:Hid (∀{W:World},Below w.heap.size w W→Calls Tryz.prog 22 #[.agg #[.bool f.c.h,.bool f.c.t,.bool f.c.b,.bool (ngB f.c.i),.slice m.Ac m.nc m.cc,.int .i64 (f.c.k:Int),.string f.c.s,.int .i64 f.c.y,.int .i64 f.c.m,.int .i64 f.c.d,.string f.c.l]] W (Ret9 W (.string C))):=fun h=>cstt14 (v:=f.c) (hm.c.on h) hnc hff.c.2.1 hff.c.2.2.1 hff.c.2.2.2 (OK.out h) hC
 have TR:Hid (∀{W:World},Below w.heap.size w W→Calls Tryz.prog 23 #[.agg #[.bool f.p.h,.bool f.p.t,.bool f.p.b,.bool (ngB f.p.i),.slice m.Ap m.np m.cp,.int .i64 (f.p.k:Int),.string f.p.s]] W (Ret9 W (.string R))):=fun h=>prct14 (v:=f.p) (hm.p.on h) hnp hff.p.2.1 hff.p.2.2 (OK.out h) hR
 have H1:=Jh h1;have H3:=Jh h3;have H4:=Jh h4;have H5:=Jh h5;clear hT hm hfit hTs hok hff hU hC hR h1 h3 h4 h5 hJ n1 n2 n3 n4 n5 more hfl hac hf hnu hnc hnp;have E:Hid (SK w ((w.alloc (.cells (cO f m) 47)).alloc (.cells #[.slice none 0 0] 73)) (cO f m) (.slice none 0 0) []):=⟨((Below.refl _ w).alloc (Nat.le_refl _) _).alloc (by simp) _,(Bk.new w _ _ rfl).on ((Below.refl _ _).alloc (Nat.le_refl _) _),Bk.new _ _ _ (by simp),OwnP.start _ _⟩;obtain⟨X,hX⟩:∃X,cO f m=X:=⟨_,rfl⟩;have HX:=Jh hX;rw[hX] at E ⊢;clear hX;go_enter Tryz.func8,Tryz.ntmps8;go_upto_region 3 with fail
 generalize hW:World.alloc (World.alloc w _) _=W1 at E ⊢;clear hW;rw[← HX.out] at E;have a0:=SK.atv E 0 (y:=.string f.flag) rfl;have al:=E.out.box.lt;go_wp2_with fail;clear a0 al;refine(toldO_is E.out.tol E.out.own (by simp) f.flag H1.out).mono ?_;rintro e1 w4 ⟨rfl,v4,hb,ht,ho⟩;replace E:=Jh (E.out.told hb ht ho);clear hb ht ho;obtain⟨gt,hgt⟩:∃gt,w.heap.size+1=gt:=⟨_,rfl⟩;have hB:=E.out.tol;have hO:=E.out.own;rw[hgt] at hB hO;obtain⟨A2,c2,rfl⟩:=hO.slen;have q0:w4.cell? ⟨gt,0,none⟩=some (.slice A2 L1.length c2):=(hB.cell 0).trans rfl;have qf:=hB.fz 0;have qlt:=hB.lt;obtain⟨W9,hW9⟩:∃v,World.alloc w4 (.cells #[.string f.acc] 9)=v:=⟨_,rfl⟩;have OW9:Hid (OwnP W9 (gt+1) (.slice A2 L1.length c2) L1):=by rw[← hW9];exact hO.on ((Below.refl _ _).alloc (Nat.le_refl _) _)
 have HB9:Hid (Below w4.heap.size w4 W9):=by rw[← hW9];exact(Below.refl _ _).alloc (Nat.le_refl _) _
 have BK9:Hid (Bk W9 gt #[.slice A2 L1.length c2] 73):=hB.on HB9.out;have NEW:Hid (∀j u,([.string f.acc]:List Value)[j]?=some u→W9.cell? ((⟨w4.heap.size,0,none⟩:Addr).add j)=some u):=by
  show ∀j u,_;rw[← hW9];exact txt_new f.acc _
 have HXS:Hid (row11 (L1++[bs9 f.acc])=row11 L1++[.string f.acc]):=by show _=_;rw[row11_push,st9_bs9]
 obtain⟨i0,hi0,hz0,hz1,hz2⟩:=info_parts11 info_txt;have hl9:L1.length+1≤11:=by have:=N1.out;omega
 have HGT:=Jh hgt;have a1:=SK.atv E 1 (y:=.string f.acc) rfl;have al:=E.out.box.lt;rw[hgt];clear hB hO hgt;go_upto_region 5 with(at_builtin;(try rw[hW9]);refine wpList_append_lies _ rfl (.tmp 10) (.tmp 13) 73 rfl (gt+1) 9 i0 (.string ⟨#[]⟩) 1 16 Tryz.underlying73 hi0 hz0 hz1 hz2 zcells1 (by decide) (.slice A2 L1.length c2) L1.length (row11 L1) rfl OW9.out ⟨w4.heap.size,0,none⟩ 1 1 [.string f.acc] rfl rfl NEW.out (by intro u hu;simp at hu;subst hu;rfl) (by decide) (by unfold maxLen;omega) (by omega) (by have:=HB9.out.size;omega) W9.heap.size rfl ?_;intro g4 cap4 w11 hown4 hgr4 hat4 hlt4;have OWB:Hid (OwnP w11 (gt+1) (.slice (some ⟨g4,0,none⟩) (L1.length+1) cap4) (L1++[bs9 f.acc])):=(by show OwnP _ _ _ _;unfold OwnP;rw[List.length_append,HXS.out];exact hown4);have HBB:Hid (Below (gt+1) w4 w11):=((HB9.out.mono (by omega)).grown hgr4 (by have:=HB9.out.size;omega) (fun k e=>(World.ownsRow.lt OW9.out k e).1));clear hown4 hgr4 hat4 hlt4;have BKB:Hid (Bk w11 gt #[.slice A2 L1.length c2] 73):=((HBB.out.block gt (by omega)).trans ((HB9.out.block gt qlt).symm.trans BK9.out));have q1:w11.cell? ⟨gt,0,none⟩=some (.slice A2 L1.length c2):=((BKB.out.cell 0).trans rfl);have qf1:=BKB.out.fz 0;have qlt1:=BKB.out.lt)
 clear a1 al q0 qf qlt hl9;have OW2:Hid (OwnP (w11.setCell ⟨gt,0,none⟩ (.slice (some ⟨g4,0,none⟩) (L1.length+1) cap4)) (gt+1) (.slice (some ⟨g4,0,none⟩) (L1.length+1) cap4) (L1++[bs9 f.acc])):=ownsRow_setCell_below OWB.out (a:=⟨gt,0,none⟩) (Nat.lt_succ_self _) _;have HB2:Hid (Below gt w4 (w11.setCell ⟨gt,0,none⟩ (.slice (some ⟨g4,0,none⟩) (L1.length+1) cap4))):=(HBB.out.mono (Nat.le_succ _)).setCell (Nat.le_refl _) _;have BK2:Hid (Bk (w11.setCell ⟨gt,0,none⟩ (.slice (some ⟨g4,0,none⟩) (L1.length+1) cap4)) gt #[.slice (some ⟨g4,0,none⟩) (L1.length+1) cap4] 73):=BKB.out.set 0 _;clear q1 qf1 qlt1 OWB HBB BKB;generalize hW:World.setCell w11 _ _=w5 at OW2 HB2 BK2 ⊢;clear hW;obtain rfl:=HGT.out;replace E:=Jh (E.out.told HB2.out BK2.out OW2.out);clear OW2 HB2 BK2 OW9 HB9 BK9 NEW HXS;have a2:=SK.atv E 2 (y:=.bool f.u.b) rfl;have a3:=SK.atv E 3 (y:=.bool (ngB f.u.i)) rfl;have a4:=SK.atv E 4 (y:=.slice m.A m.n m.c) rfl;have a5:=SK.atv E 5 (y:=.int .i64 (f.u.k:Int)) rfl;have a6:=SK.atv E 6 (y:=.string f.u.s) rfl;have al:=E.out.box.lt;go_wp2_with fail;clear a2 a3 a4 a5 a6 al;refine(TU.out E.out.bel).mono ?_;rintro e1 w6 ⟨rfl,hb⟩;replace E:=Jh (E.out.step hb);clear hb;go_wp2_with fail;refine(toldO_is E.out.tol E.out.own (by have:=N1.out;rw[List.length_append,List.length_singleton];omega) U H3.out).mono ?_;rintro e1 w7 ⟨rfl,v7,hb,ht,ho⟩;replace E:=Jh (E.out.told hb ht ho);clear hb ht ho;have a7:=SK.atv E 7 (y:=.bool f.c.h) rfl;have a8:=SK.atv E 8 (y:=.bool f.c.t) rfl;have a9:=SK.atv E 9 (y:=.bool f.c.b) rfl;have a10:=SK.atv E 10 (y:=.bool (ngB f.c.i)) rfl;have a11:=SK.atv E 11 (y:=.slice m.Ac m.nc m.cc) rfl;have a12:=SK.atv E 12 (y:=.int .i64 (f.c.k:Int)) rfl;have a13:=SK.atv E 13 (y:=.string f.c.s) rfl;have a14:=SK.atv E 14 (y:=.int .i64 f.c.y) rfl;have a15:=SK.atv E 15 (y:=.int .i64 f.c.m) rfl;have a16:=SK.atv E 16 (y:=.int .i64 f.c.d) rfl;have a17:=SK.atv E 17 (y:=.string f.c.l) rfl;have al:=E.out.box.lt;go_wp2_with fail;clear a7 a8 a9 a10 a11 a12 a13 a14 a15 a16 a17 al;refine(TC.out E.out.bel).mono ?_;rintro e1 w8 ⟨rfl,hb⟩;replace E:=Jh (E.out.step hb);clear hb;go_wp2_with fail;refine(toldO_is E.out.tol E.out.own (by have:=N3.out;omega) C H4.out).mono ?_;rintro e1 w9 ⟨rfl,v9,hb,ht,ho⟩;replace E:=Jh (E.out.told hb ht ho);clear hb ht ho;have a18:=SK.atv E 18 (y:=.bool f.p.h) rfl;have a19:=SK.atv E 19 (y:=.bool f.p.t) rfl;have a20:=SK.atv E 20 (y:=.bool f.p.b) rfl;have a21:=SK.atv E 21 (y:=.bool (ngB f.p.i)) rfl;have a22:=SK.atv E 22 (y:=.slice m.Ap m.np m.cp) rfl;have a23:=SK.atv E 23 (y:=.int .i64 (f.p.k:Int)) rfl;have a24:=SK.atv E 24 (y:=.string f.p.s) rfl;have al:=E.out.box.lt;go_wp2_with fail;clear a18 a19 a20 a21 a22 a23 a24 al;refine(TR.out E.out.bel).mono ?_;rintro e1 w10 ⟨rfl,hb⟩;replace E:=Jh (E.out.step hb);clear hb;go_wp2_with fail;refine(toldO_is E.out.tol E.out.own (by have:=N4.out;omega) R H5.out).mono ?_;rintro e1 w12 ⟨rfl,v12,hb,ht,ho⟩;replace E:=Jh (E.out.told hb ht ho);clear hb ht ho;obtain⟨A3,c3,hv3,hrd⟩:=E.out.own.rd;subst hv3;have b0:=(E.out.tol.cell 0).trans (show(#[Value.slice A3 L5.length c3]:Array Value)[0]?=some (Value.slice A3 L5.length c3) from rfl);have bl:=E.out.tol.lt;go_wp2_with fail;clear b0 bl;refine(TJ.out (hrd.on (Below.refl _ _))).mono ?_;rintro e1 w13 ⟨rfl,hb⟩;replace E:=Jh (E.out.step hb);clear hb;go_wp2_with fail;go_ret;exact⟨rfl,E.out.bel⟩
end Go.Proofs.YtpbbolgnnegmlaaGreatDoor.Num
