/- Lemmas of the proof: AmoT. -/
import Derived.Test.YtpbbolgnnegmlaaGreatDoorAll40
import Derived.Test.YtpbbolgnnegmlaaGreatDoorAll32
set_option linter.unusedVariables false
set_option linter.unusedSimpArgs false
set_option maxRecDepth 100000
set_option maxHeartbeats 32000000
open Go.Lib renaming hid→Jh
namespace Go.Proofs.YtpbbolgnnegmlaaGreatDoor.Num
open Go.RowKit
theorem join_tail:∀(r:List (List UInt8)),(Lib.joinTail [44,32] r).map UInt8.toNat=(r.map fun x=>44::32::x.map UInt8.toNat).flatten
 | []=>rfl
 | x::r=>by
  have e:Lib.joinTail [44,32] (x::r)=44::32::(x++Lib.joinTail [44,32] r):=rfl;rw[e,List.map_cons,List.map_cons,List.map_append,join_tail r];rfl
theorem jnT_flat:∀(x:List Nat) (r:List (List Nat)),jnT (x::r)=x++(r.map fun y=>44::32::y).flatten
 | x,[]=>by show x=x++[];rw[List.append_nil]
 | x,y::r=>by
  show x++44::32::jnT (y::r)=_;rw[jnT_flat y r];rfl
theorem bs9_join(xs:List ByteArray):bs9 ⟨(Lib.join (xs.map (·.data.toList)) [44,32]).toArray⟩=jnT (xs.map bs9):=by
 show(Lib.join (xs.map (·.data.toList)) [44,32]).map UInt8.toNat=_;cases xs with
 | nil=>rfl
 | cons x r=>
  rw[List.map_cons,Lib.join_cons,List.map_append,join_tail,List.map_cons,jnT_flat,List.map_map,List.map_map];rfl
theorem rowP_get{L:List (List Nat)}{j:Nat}{x:ByteArray}(h:(L.map st9)[j]?=some x):(row11 L)[j]?=some (.string x):=by
 unfold row11;rw[List.getElem?_map] at h ⊢;cases hj:L[j]? with
 | none=>rw[hj] at h;cases h
 | some t=>rw[hj] at h;cases h;rfl
theorem join_is{w:World}{A:Option Addr}{n c:Nat}{L:List (List Nat)}(h:RdP w A n c L)(hL:∀t∈L,∀x∈t,x<256)(hn:n≤1000000){J:ByteArray}(hJ:jnT L=bs9 J)(hs:J.size≤1000000):Calls Tryz.prog 24 #[.slice A n c,.string ⟨#[44,32]⟩] w (Ret9 w (.string J)):=by
 obtain⟨h1,h2,h3,h4⟩:=h;have e:(L.map st9).map bs9=L:=by
  rw[List.map_map];conv=>rhs;rw[← List.map_id L]
  exact List.map_congr_left fun t ht=>bs9_st9 (hL t ht)
 have hr:(⟨(Lib.join ((L.map st9).map (·.data.toList)) [44,32]).toArray⟩:ByteArray)=J:=bs9_inj (by rw[bs9_join,e,hJ]);rcases h4 with rfl|⟨b,o,rfl,hb,hc⟩
 ·obtain rfl:n=0:=h1
  obtain rfl:J=⟨#[]⟩:=bs9_inj hJ.symm;exact(Any.strings_Join_none Tryz.lays156 Tryz.Builder_Extra_156 A c ⟨#[44,32]⟩ w).mono fun e w' ⟨he,hw⟩=>⟨he,hw▸Below.refl _ _⟩
 ·have hl:(L.map st9).length=n:=by rw[List.length_map,h1]
  have q:=Tryz.strings_Join b o c (L.map st9) ⟨#[44,32]⟩ w (fun j x hx=>hc j _ (rowP_get hx)) hb (by omega) (by omega) (by
   have h9:=congrArg ByteArray.size hr;have h8:(Lib.join ((L.map st9).map (·.data.toList)) [44,32]).length=J.size:=by rw[← h9];exact List.size_toArray.symm
   show(Lib.join ((L.map st9).map (·.data.toList)) [44,32]).length≤_;omega)
  rw[hl] at q;exact q.mono fun e w' ⟨he,hw⟩=>⟨he.trans (by rw[← hr]),hw⟩
theorem told_is{w:World}{gt:Nat}{v:Value}{L:List (List Nat)}(hB:Bk w gt #[v] 73)(hO:OwnP w (gt+1) v L)(hl:L.length≤10)(X:ByteArray){M:List (List Nat)}(hM:(if bs9 X≠[] then L++[bs9 X] else L)=M) :
  Calls Tryz.prog 50 #[.string X,.pointer (some ⟨gt,0,none⟩)] w (fun e w'=>e=.returned (.tuple #[])∧∃v',Below gt w w'∧Bk w' gt #[v'] 73∧OwnP w' (gt+1) v' M):=by
 by_cases hz:bs9 X=[]
 ·obtain⟨u1,u2⟩:=emp_facts hz
  have hM2:L=M:=by rw[← hM,if_neg (fun h=>h hz)]
  subst hM2;have H1:=Jh hB;have H2:=Jh hO;clear hz hM hB hO;go_enter Tryz.func50,Tryz.ntmps50;go_wp2_with fail;go_end0
  exact⟨rfl,v,Below.refl _ _,H1.out,H2.out⟩
 ·obtain⟨u1,u2⟩:=emp_nots hz
  have hM2:Hid (L++[bs9 X]=M):=by show _=_;rw[← hM,if_pos hz]
  obtain⟨A2,c2,rfl⟩:=hO.slen;have q0:w.cell? ⟨gt,0,none⟩=some (.slice A2 L.length c2):=(hB.cell 0).trans rfl;have qf:=hB.fz 0;have qlt:=hB.lt;obtain⟨W9,hW9⟩:∃v,World.alloc w (.cells #[.string X] 9)=v:=⟨_,rfl⟩;have OW9:Hid (OwnP W9 (gt+1) (.slice A2 L.length c2) L):=by rw[← hW9];exact hO.on ((Below.refl _ _).alloc (Nat.le_refl _) _)
  have HB9:Hid (Below w.heap.size w W9):=by rw[← hW9];exact(Below.refl _ _).alloc (Nat.le_refl _) _
  have BK9:Hid (Bk W9 gt #[.slice A2 L.length c2] 73):=hB.on HB9.out;have NEW:Hid (∀j u,([.string X]:List Value)[j]?=some u→W9.cell? ((⟨w.heap.size,0,none⟩:Addr).add j)=some u):=by
   show ∀j u,_;rw[← hW9];exact txt_new X _
  have HXS:Hid (row11 (L++[bs9 X])=row11 L++[.string X]):=by show _=_;rw[row11_push,st9_bs9]
  obtain⟨i0,hi0,hz0,hz1,hz2⟩:=info_parts11 info_txt;have hl9:L.length+1≤11:=by omega
  clear hz hM hB hO hl;go_enter Tryz.func50,Tryz.ntmps50;go_wp2_with (at_builtin;(try rw[hW9]);refine wpList_append_lies _ rfl (.tmp 5) (.tmp 7) 73 rfl (gt+1) 9 i0 (.string ⟨#[]⟩) 1 16 Tryz.underlying73 hi0 hz0 hz1 hz2 zcells1 (by decide) (.slice A2 L.length c2) L.length (row11 L) rfl OW9.out ⟨w.heap.size,0,none⟩ 1 1 [.string X] rfl rfl NEW.out (by intro u hu;simp at hu;subst hu;rfl) (by decide) (by unfold maxLen;omega) (by omega) (by have:=HB9.out.size;omega) W9.heap.size rfl ?_;intro g4 cap4 w11 hown4 hgr4 hat4 hlt4;have OWB:Hid (OwnP w11 (gt+1) (.slice (some ⟨g4,0,none⟩) (L.length+1) cap4) (L++[bs9 X])):=(by show OwnP _ _ _ _;unfold OwnP;rw[List.length_append,HXS.out];exact hown4);have HBB:Hid (Below (gt+1) w w11):=((HB9.out.mono (by omega)).grown hgr4 (by have:=HB9.out.size;omega) (fun k e=>(World.ownsRow.lt OW9.out k e).1));clear hown4 hgr4 hat4 hlt4;have BKB:Hid (Bk w11 gt #[.slice A2 L.length c2] 73):=((HBB.out.block gt (by omega)).trans ((HB9.out.block gt qlt).symm.trans BK9.out));have q1:w11.cell? ⟨gt,0,none⟩=some (.slice A2 L.length c2):=((BKB.out.cell 0).trans rfl);have qf1:=BKB.out.fz 0;have qlt1:=BKB.out.lt);go_end0
  exact⟨rfl,.slice (some ⟨g4,0,none⟩) (L.length+1) cap4,(HBB.out.mono (Nat.le_succ _)).setCell (Nat.le_refl _) _,BKB.out.set 0 _,by rw[← hM2.out];exact ownsRow_setCell_below OWB.out (a:=⟨gt,0,none⟩) (Nat.lt_succ_self _) _⟩
structure SJ (w0 w:World) (xs:Array Value) (v:Value) (L:List (List Nat)):Prop where
 bel:Below w0.heap.size w0 w
 box:Bk w w0.heap.size xs 42
 tol:Bk w (w0.heap.size+1) #[v] 73
 own:OwnP w (w0.heap.size+1+1) v L
section
variable {w0 w w':World}{xs:Array Value}{v v':Value}{L M:List (List Nat)}
theorem SJ.step(h:SJ w0 w xs v L)(hb:Below w.heap.size w w'):SJ w0 w' xs v L:=⟨h.bel.trans (hb.mono h.bel.size),h.box.on hb,h.tol.on hb,h.own.on hb⟩
theorem SJ.told(h:SJ w0 w xs v L)(hb:Below (w0.heap.size+1) w w')(ht:Bk w' (w0.heap.size+1) #[v'] 73)(ho:OwnP w' (w0.heap.size+1+1) v' M):SJ w0 w' xs v' M:=⟨h.bel.trans (hb.mono (Nat.le_succ _)),(hb.block _ (Nat.lt_succ_self _)).trans h.box,ht,ho⟩
theorem SJ.atv(h:Hid (SJ w0 w xs v L))(j:Nat){y:Value}(hj:xs[j]?=some y):w.cell? ⟨w0.heap.size,j,none⟩=some y:=(h.out.box.cell j).trans hj
end
theorem jnT_len:∀L:List (List Nat),(jnT L).length≤(L.map List.length).sum+2*L.length
 | []=>Nat.le_refl _
 | [x]=>by show x.length≤x.length+0+2;omega
 | x::y::r=>by
  have:=jnT_len (y::r);show(x++44::32::jnT (y::r)).length≤_;rw[List.length_append,List.length_cons,List.length_cons,List.map_cons,List.sum_cons,List.length_cons];omega
theorem unt_full{u:Un}:(if u.has=true∨bs9 u.cur≠[] then [untT u] else [])=(if untT u≠[] then []++[untT u] else []):=by
 have e:(u.has=true∨bs9 u.cur≠[])↔untT u≠[]:=by
  unfold untT;cases u.has with
  | true=>
   rw[if_pos rfl];exact⟨fun _ h=>by unfold amtT at h;exact absurd (congrArg List.length h) (by rw[List.length_append,List.length_cons];simp),fun _=>.inl rfl⟩
  | false=>
   rw[if_neg (by decide)];exact⟨fun h=>h.resolve_left (by decide),fun h=>.inr h⟩
 by_cases h:untT u≠[]
 ·rw[if_pos (e.2 h),if_pos h];rfl
 ·rw[if_neg (fun q=>h (e.1 q)),if_neg h]
theorem qt_ne(l:List Nat):qt l≠[]:=by unfold qt;intro h;cases h
theorem prt_three(c:Co){L1 L2 L3:List (List Nat)}(h1:(if untT c.un≠[] then []++[untT c.un] else [])=L1)(h2:(if dayT c.day≠[] then L1++[dayT c.day] else L1)=L2)(h3:(if bs9 c.lab≠[] then L2++[qt (bs9 c.lab)] else L2)=L3):prtT c=L3:=by
 unfold prtT;rw[unt_full,h1,← h3,← h2];by_cases a:dayT c.day≠[]
 ·rw[if_pos a,if_pos a]
  by_cases b:bs9 c.lab≠[]
  ·rw[if_pos b,if_pos b,List.append_assoc]
  ·rw[if_neg b,if_neg b,List.append_nil]
 ·rw[if_neg a,if_neg a]
  by_cases b:bs9 c.lab≠[]
  ·rw[if_pos b,if_pos b];rfl
  ·rw[if_neg b,if_neg b];exact List.append_nil _
theorem cstt14:TEXTC:=by
 intro w A n c v T hnum hn hk hs hls hok hT;obtain⟨vh,vt,vb,vi,vk,vs,vy,vm,vd,vl⟩:=v;have OK:Hid (∀{W:World},Below w.heap.size w W→Ok12 W):=fun hb=>okw12 hok hb
 cases vh with
 | false=>
  obtain rfl:T=⟨#[]⟩:=bs9_inj hT.symm;have E:=Jh (Below.refl w.heap.size w);clear hnum hn hk hs hls hok hT;go_enter Tryz.func22,Tryz.ntmps22;go_wp2_with fail;replace E:=Jh (E.out.alloc (Nat.le_refl _) (.cells #[.bool false,.bool vt,.bool vb,.bool (ngB vi),.slice A n c,.int .i64 (vk:Int),.string vs,.int .i64 vy,.int .i64 vm,.int .i64 vd,.string vl] 42));go_ret;exact⟨rfl,E.out⟩
 | true=>
  have hT2:cstT ⟨vt,⟨vb,vi,vk,vs⟩,(vy,vm,vd),vl⟩=bs9 T:=hT;obtain⟨U,hU⟩:∃U:ByteArray,bs9 U=untT ⟨vb,vi,vk,vs⟩:=⟨st9 (untT ⟨vb,vi,vk,vs⟩),bs9_st9 (unt_bytes _)⟩;obtain⟨D,hD⟩:∃D:ByteArray,dayT (vy,vm,vd)=bs9 D:=⟨_,rfl⟩;obtain⟨Q,hQ⟩:∃Q:ByteArray,qt (bs9 vl)=bs9 Q:=⟨st9 (qt (bs9 vl)),(bs9_st9 (qt_lt (bs9_lt _))).symm⟩;obtain⟨L1,h1⟩:∃L1,(if bs9 U≠[] then []++[bs9 U] else [])=L1:=⟨_,rfl⟩;obtain⟨L2,h2⟩:∃L2,(if bs9 D≠[] then L1++[bs9 D] else L1)=L2:=⟨_,rfl⟩;obtain⟨L3,h3⟩:∃L3,(if bs9 vl≠[] then L2++[bs9 Q] else L2)=L3:=⟨_,rfl⟩;have hP:prtT ⟨vt,⟨vb,vi,vk,vs⟩,(vy,vm,vd),vl⟩=L3:=prt_three (L1:=L1) (L2:=L2) (L3:=L3) _ (by rw[← hU];exact h1) (by show(if dayT (vy,vm,vd)≠[] then _ else _)=_;rw[hD];exact h2) (by show(if bs9 vl≠[] then _ else _)=_;rw[hQ];exact h3);have hlu:(bs9 U).length≤12414:=by
   have h1:=txtD_fit14 hnum hn hk;have h2:vs.size≤300:=hs;rw[hU];unfold untT;dsimp only
   split
   ·unfold amtT;rw[List.length_append,List.length_cons,bs9_len];dsimp only at h1;omega
   ·rw[bs9_len];omega
  have hld:(bs9 D).length≤10:=by rw[← hD];exact dayT_len _
  have hlq:(bs9 Q).length≤1000:=by
   have h5:vl.size≤300:=hls;have h6:=qt_len (bs9 vl);rw[bs9_len] at h6;rw[← hQ];omega
  have n1:L1.length≤1∧(L1.map List.length).sum≤12414∧∀t∈L1,∀x∈t,x<256:=by
   rw[← h1];split
   ·exact⟨Nat.le_refl _,by show(bs9 U).length+0≤_;omega,fun t ht=>by rw[List.nil_append] at ht;rw[List.mem_singleton.1 ht];exact bs9_lt _⟩
   ·exact⟨Nat.zero_le _,Nat.zero_le _,fun t ht=>by cases ht⟩
  have n2:L2.length≤2∧(L2.map List.length).sum≤12424∧∀t∈L2,∀x∈t,x<256:=by
   rw[← h2];split
   ·refine⟨by rw[List.length_append,List.length_singleton];omega,by rw[List.map_append,List.sum_append];show _+((bs9 D).length+0)≤_;omega,fun t ht=>?_⟩
    rcases List.mem_append.1 ht with h|h
    ·exact n1.2.2 t h
    ·rw[List.mem_singleton.1 h];exact bs9_lt _
   ·exact⟨by omega,by omega,n1.2.2⟩
  have n3:L3.length≤3∧(L3.map List.length).sum≤13424∧∀t∈L3,∀x∈t,x<256:=by
   rw[← h3];split
   ·refine⟨by rw[List.length_append,List.length_singleton];omega,by rw[List.map_append,List.sum_append];show _+((bs9 Q).length+0)≤_;omega,fun t ht=>?_⟩
    rcases List.mem_append.1 ht with h|h
    ·exact n2.2.2 t h
    ·rw[List.mem_singleton.1 h];exact bs9_lt _
   ·exact⟨by omega,by omega,n2.2.2⟩
  obtain⟨J,hJ⟩:∃J:ByteArray,jnT L3=bs9 J:=⟨st9 (jnT L3),(bs9_st9 (jnT_bytes _ n3.2.2)).symm⟩;have hJs:J.size≤13430:=by rw[← bs9_len,← hJ];have:=jnT_len L3;omega
  have TU:Hid (∀{W:World},Below w.heap.size w W→Calls Tryz.prog 21 #[.agg #[.bool vb,.bool (ngB vi),.slice A n c,.int .i64 (vk:Int),.string vs]] W (Ret9 W (.string U))):=fun h=>untt14 (v:=⟨vb,vi,vk,vs⟩) (hnum.on h) hn hk hs (OK.out h) hU.symm
  have TD:Hid (∀{W:World},Below w.heap.size w W→Calls Tryz.prog 52 #[.agg #[.int .i64 vy,.int .i64 vm,.int .i64 vd]] W (Ret9 W (.string D))):=fun h=>dayt_is (OK.out h) hD
  have TQ:Hid (∀{W:World},Calls Tryz.prog 30 #[.string vl] W (Ret9 W (.string Q))):=fun {W}=>lexquote_is hQ (Nat.le_trans hls (by decide)) W
  have TJ:Hid (∀{W:World}{A:Option Addr}{n c:Nat},RdP W A n c L3→Calls Tryz.prog 24 #[.slice A n c,.string ⟨#[44,32]⟩] W (Ret9 W (.string J))):=fun h=>join_is h n3.2.2 (by have:=h.1;omega) hJ (by omega)
  have hTT:opnC vt++(bs9 J++shutC vt)=bs9 T:=by rw[← hT2,← hJ,← hP];rfl
  have H1:=Jh h1;have H2:=Jh h2;have H3:=Jh h3;have N1:=Jh n1.1;have HQ:=Jh hQ;have N2:=Jh n2.1;clear hT hT2 hnum hn hk hs hls hok hU hD hQ h1 h2 h3 hP hlu hld hlq n1 n2 n3 hJ;have E:Hid (SJ w ((w.alloc (.cells #[.bool true,.bool vt,.bool vb,.bool (ngB vi),.slice A n c,.int .i64 (vk:Int),.string vs,.int .i64 vy,.int .i64 vm,.int .i64 vd,.string vl] 42)).alloc (.cells #[.slice none 0 0] 73)) #[.bool true,.bool vt,.bool vb,.bool (ngB vi),.slice A n c,.int .i64 (vk:Int),.string vs,.int .i64 vy,.int .i64 vm,.int .i64 vd,.string vl] (.slice none 0 0) []):=⟨((Below.refl _ w).alloc (Nat.le_refl _) _).alloc (by simp) _,(Bk.new w _ _ rfl).on ((Below.refl _ _).alloc (Nat.le_refl _) _),Bk.new _ _ _ (by simp),OwnP.start _ _⟩;go_enter Tryz.func22,Tryz.ntmps22;go_wp2_with fail;generalize hW:World.alloc (World.alloc w _) _=W1 at E ⊢;clear hW;refine cunits_is.mono ?_;rintro e1 w2 ⟨rfl,hb⟩;replace E:=Jh (E.out.step hb);clear hb;go_wp2_with fail;refine(TU.out E.out.bel).mono ?_;rintro e1 w3 ⟨rfl,hb⟩;replace E:=Jh (E.out.step hb);clear hb;go_wp2_with fail;refine(told_is E.out.tol E.out.own (by simp) U H1.out).mono ?_;rintro e1 w4 ⟨rfl,v4,hb,ht,ho⟩;replace E:=Jh (E.out.told hb ht ho);clear hb ht ho;have a0:=SJ.atv E 0 (y:=.bool true) rfl;have a1:=SJ.atv E 1 (y:=.bool vt) rfl;have a2:=SJ.atv E 2 (y:=.bool vb) rfl;have a3:=SJ.atv E 3 (y:=.bool (ngB vi)) rfl;have a4:=SJ.atv E 4 (y:=.slice A n c) rfl;have a5:=SJ.atv E 5 (y:=.int .i64 (vk:Int)) rfl;have a6:=SJ.atv E 6 (y:=.string vs) rfl;have a7:=SJ.atv E 7 (y:=.int .i64 vy) rfl;have a8:=SJ.atv E 8 (y:=.int .i64 vm) rfl;have a9:=SJ.atv E 9 (y:=.int .i64 vd) rfl;have a10:=SJ.atv E 10 (y:=.string vl) rfl;go_wp2_with fail;clear a0 a1 a2 a3 a4 a5 a6 a7 a8 a9 a10;refine(TD.out E.out.bel).mono ?_;rintro e1 w5 ⟨rfl,hb⟩;replace E:=Jh (E.out.step hb);clear hb;go_wp2_with fail;refine(told_is E.out.tol E.out.own (by have:=N1.out;omega) D H2.out).mono ?_;rintro e1 w6 ⟨rfl,v6,hb,ht,ho⟩;replace E:=Jh (E.out.told hb ht ho);clear hb ht ho;by_cases hz:bs9 vl=[]
  ·obtain⟨u1,u2⟩:=emp_facts hz
   have HL:Hid (L2=L3):=by show _=_;rw[← H3.out,if_neg (fun h=>h hz)]
   clear hz;obtain⟨A3,c3,hv3,hrd⟩:=E.out.own.rd;subst hv3;have RJ:Hid (∀{W:World},RdP W A3 L2.length c3 L2→Calls Tryz.prog 24 #[.slice A3 L2.length c3,.string ⟨#[44,32]⟩] W (Ret9 W (.string J))):=by rw[HL.out];exact Jh fun h=>TJ.out h
   have b0:=(E.out.tol.cell 0).trans (show(#[Value.slice A3 L2.length c3]:Array Value)[0]?=some (Value.slice A3 L2.length c3) from rfl);have bl:=E.out.tol.lt;have a0:=SJ.atv E 0 (y:=.bool true) rfl;have a1:=SJ.atv E 1 (y:=.bool vt) rfl;have a2:=SJ.atv E 2 (y:=.bool vb) rfl;have a3:=SJ.atv E 3 (y:=.bool (ngB vi)) rfl;have a4:=SJ.atv E 4 (y:=.slice A n c) rfl;have a5:=SJ.atv E 5 (y:=.int .i64 (vk:Int)) rfl;have a6:=SJ.atv E 6 (y:=.string vs) rfl;have a7:=SJ.atv E 7 (y:=.int .i64 vy) rfl;have a8:=SJ.atv E 8 (y:=.int .i64 vm) rfl;have a9:=SJ.atv E 9 (y:=.int .i64 vd) rfl;have a10:=SJ.atv E 10 (y:=.string vl) rfl;go_wp2_with fail;clear a0 a1 a2 a3 a4 a5 a6 a7 a8 a9 a10;clear b0 bl;refine(RJ.out (hrd.on (Below.refl _ _))).mono ?_;rintro e1 w8 ⟨rfl,hb⟩;replace E:=Jh (E.out.step hb);clear hb;cases vt with
   | true=>
    obtain⟨Y,hY⟩:∃Y:ByteArray,[123,123]++bs9 J=bs9 Y:=⟨st9 ([123,123]++bs9 J),(bs9_st9 (fun c hc=>by
     rcases List.mem_append.1 hc with h|h
     ·exact(show ∀c∈[123,123],c<256 by decide) c h
     ·exact bs9_lt _ c h)).symm⟩
    have hYs:Y.size≤13440:=by rw[← bs9_len,← hY,List.length_append,bs9_len];show _+J.size≤_;simp only[List.length_cons,List.length_nil];omega
    have ad1:∀w,(Op.stringOp .add ⟨#[123,123]⟩ J).run Tryz.prog w=.ok (.string Y) w:=fun w=>add9 (by rw[← hY];rfl) (by show 2+J.size≤_;omega) w
    have ad2:∀w,(Op.stringOp .add Y ⟨#[125,125]⟩).run Tryz.prog w=.ok (.string T) w:=fun w=>add9 (by rw[← hTT,← hY,List.append_assoc];rfl) (by show Y.size+2≤_;omega) w
    clear hTT hY hYs hJs;have a1:=SJ.atv E 1 (y:=.bool true) rfl;have al:=E.out.box.lt;go_wp2_with fail;go_ret;exact⟨rfl,E.out.bel⟩
   | false=>
    obtain⟨Y,hY⟩:∃Y:ByteArray,[123]++bs9 J=bs9 Y:=⟨st9 ([123]++bs9 J),(bs9_st9 (fun c hc=>by
     rcases List.mem_append.1 hc with h|h
     ·exact(show ∀c∈[123],c<256 by decide) c h
     ·exact bs9_lt _ c h)).symm⟩
    have hYs:Y.size≤13440:=by rw[← bs9_len,← hY,List.length_append,bs9_len];show _+J.size≤_;simp only[List.length_cons,List.length_nil];omega
    have ad1:∀w,(Op.stringOp .add ⟨#[123]⟩ J).run Tryz.prog w=.ok (.string Y) w:=fun w=>add9 (by rw[← hY];rfl) (by show 1+J.size≤_;omega) w
    have ad2:∀w,(Op.stringOp .add Y ⟨#[125]⟩).run Tryz.prog w=.ok (.string T) w:=fun w=>add9 (by rw[← hTT,← hY,List.append_assoc];rfl) (by show Y.size+1≤_;omega) w
    clear hTT hY hYs hJs;have a1:=SJ.atv E 1 (y:=.bool false) rfl;have al:=E.out.box.lt;go_wp2_with fail;go_ret;exact⟨rfl,E.out.bel⟩
  ·obtain⟨u1,u2⟩:=emp_nots hz
   have HL:Hid ((if bs9 Q≠[] then L2++[bs9 Q] else L2)=L3):=by
    show _=_;rw[← H3.out,if_pos hz,if_pos (by rw[← HQ.out];exact qt_ne _)]
   clear hz;have a0:=SJ.atv E 0 (y:=.bool true) rfl;have a1:=SJ.atv E 1 (y:=.bool vt) rfl;have a2:=SJ.atv E 2 (y:=.bool vb) rfl;have a3:=SJ.atv E 3 (y:=.bool (ngB vi)) rfl;have a4:=SJ.atv E 4 (y:=.slice A n c) rfl;have a5:=SJ.atv E 5 (y:=.int .i64 (vk:Int)) rfl;have a6:=SJ.atv E 6 (y:=.string vs) rfl;have a7:=SJ.atv E 7 (y:=.int .i64 vy) rfl;have a8:=SJ.atv E 8 (y:=.int .i64 vm) rfl;have a9:=SJ.atv E 9 (y:=.int .i64 vd) rfl;have a10:=SJ.atv E 10 (y:=.string vl) rfl;go_wp2_with fail;clear a0 a1 a2 a3 a4 a5 a6 a7 a8 a9 a10;refine TQ.out.mono ?_;rintro e1 w7 ⟨rfl,hb⟩;replace E:=Jh (E.out.step hb);clear hb;go_wp2_with fail;refine(told_is E.out.tol E.out.own (by have:=N2.out;omega) Q HL.out).mono ?_;rintro e1 w9 ⟨rfl,v9,hb,ht,ho⟩;replace E:=Jh (E.out.told hb ht ho);clear hb ht ho;obtain⟨A3,c3,hv3,hrd⟩:=E.out.own.rd;subst hv3;have RJ:Hid (∀{W:World},RdP W A3 L3.length c3 L3→Calls Tryz.prog 24 #[.slice A3 L3.length c3,.string ⟨#[44,32]⟩] W (Ret9 W (.string J))):=TJ;have b0:=(E.out.tol.cell 0).trans (show(#[Value.slice A3 L3.length c3]:Array Value)[0]?=some (Value.slice A3 L3.length c3) from rfl);have bl:=E.out.tol.lt;have a1:=SJ.atv E 1 (y:=.bool vt) rfl;have al:=E.out.box.lt;go_wp2_with fail;clear a1 al;clear b0 bl;refine(RJ.out (hrd.on (Below.refl _ _))).mono ?_;rintro e1 w8 ⟨rfl,hb⟩;replace E:=Jh (E.out.step hb);clear hb;cases vt with
   | true=>
    obtain⟨Y,hY⟩:∃Y:ByteArray,[123,123]++bs9 J=bs9 Y:=⟨st9 ([123,123]++bs9 J),(bs9_st9 (fun c hc=>by
     rcases List.mem_append.1 hc with h|h
     ·exact(show ∀c∈[123,123],c<256 by decide) c h
     ·exact bs9_lt _ c h)).symm⟩
    have hYs:Y.size≤13440:=by rw[← bs9_len,← hY,List.length_append,bs9_len];show _+J.size≤_;simp only[List.length_cons,List.length_nil];omega
    have ad1:∀w,(Op.stringOp .add ⟨#[123,123]⟩ J).run Tryz.prog w=.ok (.string Y) w:=fun w=>add9 (by rw[← hY];rfl) (by show 2+J.size≤_;omega) w
    have ad2:∀w,(Op.stringOp .add Y ⟨#[125,125]⟩).run Tryz.prog w=.ok (.string T) w:=fun w=>add9 (by rw[← hTT,← hY,List.append_assoc];rfl) (by show Y.size+2≤_;omega) w
    clear hTT hY hYs hJs;have a1:=SJ.atv E 1 (y:=.bool true) rfl;have al:=E.out.box.lt;go_wp2_with fail;go_ret;exact⟨rfl,E.out.bel⟩
   | false=>
    obtain⟨Y,hY⟩:∃Y:ByteArray,[123]++bs9 J=bs9 Y:=⟨st9 ([123]++bs9 J),(bs9_st9 (fun c hc=>by
     rcases List.mem_append.1 hc with h|h
     ·exact(show ∀c∈[123],c<256 by decide) c h
     ·exact bs9_lt _ c h)).symm⟩
    have hYs:Y.size≤13440:=by rw[← bs9_len,← hY,List.length_append,bs9_len];show _+J.size≤_;simp only[List.length_cons,List.length_nil];omega
    have ad1:∀w,(Op.stringOp .add ⟨#[123]⟩ J).run Tryz.prog w=.ok (.string Y) w:=fun w=>add9 (by rw[← hY];rfl) (by show 1+J.size≤_;omega) w
    have ad2:∀w,(Op.stringOp .add Y ⟨#[125]⟩).run Tryz.prog w=.ok (.string T) w:=fun w=>add9 (by rw[← hTT,← hY,List.append_assoc];rfl) (by show Y.size+1≤_;omega) w
    clear hTT hY hYs hJs;have a1:=SJ.atv E 1 (y:=.bool false) rfl;have al:=E.out.box.lt;go_wp2_with fail;go_ret;exact⟨rfl,E.out.bel⟩
end Go.Proofs.YtpbbolgnnegmlaaGreatDoor.Num
