/- Lemmas of the proof: HeaI, HeaTa, HeaTb, HeaTc, HeaTd, HeaTe, HeaZ. -/
import Derived.Test.YthpmaoimceojgaaGreatDoorAll41
import Derived.Test.YthpmaoimceojgaaGreatDoorAll45
import Derived.Test.YthpmaoimceojgaaGreatDoorAll40
set_option linter.unusedVariables false
set_option linter.unusedSimpArgs false
set_option maxRecDepth 100000
set_option maxHeartbeats 32000000
open Go.Lib renaming hid→Jh
namespace Go.Proofs.YthpmaoimceojgaaGreatDoor.Num
open Go.RowKit
def awB0:ByteArray:=⟨#[50,48,50,52,45,48,49,45,48,50,32,111,112,101,110,32,65,115,115,101,116,115,58,66,97,110,107,32,85,83,68,44,32,69,85,82,32,34,70,73,70,79,34]⟩
theorem aw15_n0:Nat.ble (wdsOf (bs9 awB0)).length 400=true:=by kernel_rfl
theorem aw15_s0:Nat.ble (Wgh.ws ((tks 1 (wdsOf (bs9 awB0))).map tok) ((tks 1 (wdsOf (bs9 awB0))).map tok).length) 4010=true:=by kernel_rfl
theorem aw15_r0:resH (hd ((tks 1 (wdsOf (bs9 awB0))).map tok))=(some (.opn (2024,1,2) ⟨#[65,115,115,101,116,115,58,66,97,110,107]⟩ [⟨#[85,83,68]⟩,⟨#[69,85,82]⟩] 1),7,0):=by kernel_rfl
def awB1:ByteArray:=⟨#[50,48,50,52,45,48,49,45,48,50,32,98,97,108,97,110,99,101,32,65,115,115,101,116,115,58,66,97,110,107,32,50,42,53,46,48,48,32,126,32,48,46,48,49,32,85,83,68]⟩
theorem aw15_n1:Nat.ble (wdsOf (bs9 awB1)).length 400=true:=by kernel_rfl
theorem aw15_s1:Nat.ble (Wgh.ws ((tks 1 (wdsOf (bs9 awB1))).map tok) ((tks 1 (wdsOf (bs9 awB1))).map tok).length) 4010=true:=by kernel_rfl
theorem aw15_r1:resH (hd ((tks 1 (wdsOf (bs9 awB1))).map tok))=(some (.bal (2024,1,2) ⟨#[65,115,115,101,116,115,58,66,97,110,107]⟩ 1000 2 (some (1,2)) ⟨#[85,83,68]⟩),9,0):=by kernel_rfl
def awB2:ByteArray:=⟨#[50,48,50,52,45,48,49,45,48,50,32,116,120,110,32,34,115,104,111,112,34,32,34,102,111,111,100,34,32,35,97,32,94,108,32,35,97]⟩
theorem aw15_n2:Nat.ble (wdsOf (bs9 awB2)).length 400=true:=by kernel_rfl
theorem aw15_s2:Nat.ble (Wgh.ws ((tks 1 (wdsOf (bs9 awB2))).map tok) ((tks 1 (wdsOf (bs9 awB2))).map tok).length) 4010=true:=by kernel_rfl
theorem aw15_r2:resH (hd ((tks 1 (wdsOf (bs9 awB2))).map tok))=(some (.txn (2024,1,2) false ⟨#[115,104,111,112]⟩ ⟨#[102,111,111,100]⟩ [⟨#[97]⟩] [⟨#[108]⟩]),7,0):=by kernel_rfl
def awB3:ByteArray:=⟨#[50,48,50,52,45,48,49,45,48,50,32,99,108,111,115,101,32,65,115,115,101,116,115,58,66,97,110,107,32,120]⟩
theorem aw15_n3:Nat.ble (wdsOf (bs9 awB3)).length 400=true:=by kernel_rfl
theorem aw15_s3:Nat.ble (Wgh.ws ((tks 1 (wdsOf (bs9 awB3))).map tok) ((tks 1 (wdsOf (bs9 awB3))).map tok).length) 4010=true:=by kernel_rfl
theorem aw15_r3:resH (hd ((tks 1 (wdsOf (bs9 awB3))).map tok))=(none,3,3):=by kernel_rfl
def awB4:ByteArray:=⟨#[50,48,50,52,45,48,49,45,48,50,32,111,112,101,110]⟩
theorem aw15_n4:Nat.ble (wdsOf (bs9 awB4)).length 400=true:=by kernel_rfl
theorem aw15_s4:Nat.ble (Wgh.ws ((tks 1 (wdsOf (bs9 awB4))).map tok) ((tks 1 (wdsOf (bs9 awB4))).map tok).length) 4010=true:=by kernel_rfl
theorem aw15_r4:resH (hd ((tks 1 (wdsOf (bs9 awB4))).map tok))=(none,2,2):=by kernel_rfl
def awB5:ByteArray:=⟨#[111,112,116,105,111,110,32,34,116,105,116,108,101,34,32,34,120,34]⟩
theorem aw15_n5:Nat.ble (wdsOf (bs9 awB5)).length 400=true:=by kernel_rfl
theorem aw15_s5:Nat.ble (Wgh.ws ((tks 1 (wdsOf (bs9 awB5))).map tok) ((tks 1 (wdsOf (bs9 awB5))).map tok).length) 4010=true:=by kernel_rfl
theorem aw15_r5:resH (hd ((tks 1 (wdsOf (bs9 awB5))).map tok))=(some (.opt ⟨#[116,105,116,108,101]⟩ ⟨#[120]⟩),3,0):=by kernel_rfl
def awB6:ByteArray:=⟨#[50,48,50,52,45,48,49,45,48,50,32,112,114,105,99,101,32,65,67,77,69,32,53,46,53,32,85,83,68]⟩
theorem aw15_n6:Nat.ble (wdsOf (bs9 awB6)).length 400=true:=by kernel_rfl
theorem aw15_s6:Nat.ble (Wgh.ws ((tks 1 (wdsOf (bs9 awB6))).map tok) ((tks 1 (wdsOf (bs9 awB6))).map tok).length) 4010=true:=by kernel_rfl
theorem aw15_r6:resH (hd ((tks 1 (wdsOf (bs9 awB6))).map tok))=(some (.prc (2024,1,2) ⟨#[65,67,77,69]⟩ 55 1 ⟨#[85,83,68]⟩),5,0):=by kernel_rfl
def awB7:ByteArray:=⟨#[50,48,50,52,45,48,49,45,48,50,32,111,112,101,110,32,65,115,115,101,116,115,58,66,97,110,107,32,34,88,34]⟩
theorem aw15_n7:Nat.ble (wdsOf (bs9 awB7)).length 400=true:=by kernel_rfl
theorem aw15_s7:Nat.ble (Wgh.ws ((tks 1 (wdsOf (bs9 awB7))).map tok) ((tks 1 (wdsOf (bs9 awB7))).map tok).length) 4010=true:=by kernel_rfl
theorem aw15_r7:resH (hd ((tks 1 (wdsOf (bs9 awB7))).map tok))=(none,3,3):=by kernel_rfl
theorem eq_lit15{s:ByteArray}{l:List UInt8}(h:bs9 s=l.map UInt8.toNat):(s.toList == l)=true:=by
 have e:s=⟨l.toArray⟩:=bs9_inj (by rw[h];rfl);rw[e,ByteArray.toList_eq,beq_iff_eq]
theorem st_newL15{f:FD}{m:DM}{X:Array Value}(hX:cD f m=X):∀w:World,(storeCells ⟨w.heap.size,0,none⟩ X.toList 0).run Tryz.prog (w.alloc (.cells #[.int .i64 0,.int .i64 0,.int .i64 0,.int .i64 0,.string ⟨#[]⟩,.string ⟨#[]⟩,.slice none 0 0,.int .i64 0,.bool false,.slice none 0 0,.int .i64 0,.string ⟨#[]⟩,.bool false,.bool false,.slice none 0 0,.int .i64 0,.string ⟨#[]⟩,.string ⟨#[]⟩,.string ⟨#[]⟩,.slice none 0 0,.slice none 0 0,.slice none 0 0,.slice none 0 0,.string ⟨#[]⟩,.string ⟨#[]⟩,.int .i64 0,.int .i64 0] 45))=.ok () (w.alloc (.cells X 45)):=fun w=>st_new hX rfl
theorem dg_few{a:Nat}(h:a<10^18):(dg a).length≤900:=Nat.le_trans (len_nine h) (by decide)
theorem of15_lit(RH':READH){w:World}{s:ByteArray}{o:Option Dr}{p e:Nat}(hok:Ok15 w)(hs:s.size≤6000)(hn:Nat.ble (wdsOf (bs9 s)).length 400=true)(hS:Nat.ble (Wgh.ws ((tks 1 (wdsOf (bs9 s))).map tok) ((tks 1 (wdsOf (bs9 s))).map tok).length) 4010=true)(h:resH (hd ((tks 1 (wdsOf (bs9 s))).map tok))=(o,p,e)) :
  Calls Tryz.prog 9 #[.string s] w (fun en w'=>∃m:DM,en=.returned (.tuple #[.agg (cD (fdOf o) m),.int .i64 (e:Int)])∧MD w' (fdOf o) m∧Below w.heap.size w w'):=
 of15 RH' hok hs rfl (Nat.le_of_ble_eq_true hn) (Nat.le_of_ble_eq_true hS) h
theorem awake15(RH':READH)(TX:TEXTH)(SM:SAMEH)(ME:METH)(MW:MWORD):AWK15:=fun w hok=>by
 have OK:Hid (∀{W:World},Below w.heap.size w W→Ok15 W):=fun hb=>okw15 hok hb
 have E:=Jh (S15.start w);clear hok;obtain⟨o0,ho0⟩:∃o:Option Dr,o=some (.opn (2024,1,2) ⟨#[65,115,115,101,116,115,58,66,97,110,107]⟩ [⟨#[85,83,68]⟩,⟨#[69,85,82]⟩] 1):=⟨_,rfl⟩;have HO0:=Jh ho0;have OF0:Hid (∀{W:World},Ok15 W→Calls Tryz.prog 9 #[.string awB0] W (fun en w'=>∃m:DM,en=.returned (.tuple #[.agg (cD (fdOf o0) m),.int .i64 0])∧MD w' (fdOf o0) m∧Below W.heap.size W w')):=fun {W} hok=>by subst ho0;exact of15_lit RH' hok (by decide) aw15_n0 aw15_s0 aw15_r0
 obtain⟨T0,hT0,hD0,hz0⟩:∃T:ByteArray,drT (.opn (2024,1,2) ⟨#[65,115,115,101,116,115,58,66,97,110,107]⟩ [⟨#[85,83,68]⟩,⟨#[69,85,82]⟩] 1)=bs9 T∧(T.toList == [50,48,50,52,45,48,49,45,48,50,32,111,112,101,110,32,65,115,115,101,116,115,58,66,97,110,107,32,85,83,68,44,32,69,85,82,32,34,70,73,70,79,34])=true∧T.size≤4000:=⟨⟨#[50,48,50,52,45,48,49,45,48,50,32,111,112,101,110,32,65,115,115,101,116,115,58,66,97,110,107,32,85,83,68,44,32,69,85,82,32,34,70,73,70,79,34]⟩,by kernel_rfl,eq_lit15 rfl,by decide⟩;have TX0:Hid (∀{W:World}{m:DM},MD W (fdOf o0) m→Ok15 W→∀X,cD (fdOf o0) m=X→Calls Tryz.prog 10 #[.agg X] W (Ret9 W (.string T0))):=fun {W m} hm hok X hX=>by subst hX;subst ho0;exact TX hm (trivial) hz0 hok hT0
 have HD0:=Jh hD0;clear hT0 hz0 hD0;clear ho0;obtain⟨o1,ho1⟩:∃o:Option Dr,o=some (.bal (2024,1,2) ⟨#[65,115,115,101,116,115,58,66,97,110,107]⟩ 1000 2 (some (1,2)) ⟨#[85,83,68]⟩):=⟨_,rfl⟩;have HO1:=Jh ho1;have OF1:Hid (∀{W:World},Ok15 W→Calls Tryz.prog 9 #[.string awB1] W (fun en w'=>∃m:DM,en=.returned (.tuple #[.agg (cD (fdOf o1) m),.int .i64 0])∧MD w' (fdOf o1) m∧Below W.heap.size W w')):=fun {W} hok=>by subst ho1;exact of15_lit RH' hok (by decide) aw15_n1 aw15_s1 aw15_r1
 obtain⟨T1,hT1,hD1,hz1⟩:∃T:ByteArray,drT (.bal (2024,1,2) ⟨#[65,115,115,101,116,115,58,66,97,110,107]⟩ 1000 2 (some (1,2)) ⟨#[85,83,68]⟩)=bs9 T∧(T.toList == [50,48,50,52,45,48,49,45,48,50,32,98,97,108,97,110,99,101,32,65,115,115,101,116,115,58,66,97,110,107,32,49,48,46,48,48,32,126,32,48,46,48,49,32,85,83,68])=true∧T.size≤4000:=⟨⟨#[50,48,50,52,45,48,49,45,48,50,32,98,97,108,97,110,99,101,32,65,115,115,101,116,115,58,66,97,110,107,32,49,48,46,48,48,32,126,32,48,46,48,49,32,85,83,68]⟩,by kernel_rfl,eq_lit15 rfl,by decide⟩;have TX1:Hid (∀{W:World}{m:DM},MD W (fdOf o1) m→Ok15 W→∀X,cD (fdOf o1) m=X→Calls Tryz.prog 10 #[.agg X] W (Ret9 W (.string T1))):=fun {W m} hm hok X hX=>by subst hX;subst ho1;exact TX hm (⟨⟨dg_few (by decide),by decide⟩,fun n hn=>by cases hn;exact⟨dg_few (by decide),by decide⟩⟩) hz1 hok hT1
 have HD1:=Jh hD1;clear hT1 hz1 hD1;clear ho1;obtain⟨o2,ho2⟩:∃o:Option Dr,o=some (.txn (2024,1,2) false ⟨#[115,104,111,112]⟩ ⟨#[102,111,111,100]⟩ [⟨#[97]⟩] [⟨#[108]⟩]):=⟨_,rfl⟩;have HO2:=Jh ho2;have OF2:Hid (∀{W:World},Ok15 W→Calls Tryz.prog 9 #[.string awB2] W (fun en w'=>∃m:DM,en=.returned (.tuple #[.agg (cD (fdOf o2) m),.int .i64 0])∧MD w' (fdOf o2) m∧Below W.heap.size W w')):=fun {W} hok=>by subst ho2;exact of15_lit RH' hok (by decide) aw15_n2 aw15_s2 aw15_r2
 obtain⟨T2,hT2,hD2,hz2⟩:∃T:ByteArray,drT (.txn (2024,1,2) false ⟨#[115,104,111,112]⟩ ⟨#[102,111,111,100]⟩ [⟨#[97]⟩] [⟨#[108]⟩])=bs9 T∧(T.toList == [50,48,50,52,45,48,49,45,48,50,32,42,32,34,115,104,111,112,34,32,34,102,111,111,100,34,32,35,97,32,94,108])=true∧T.size≤4000:=⟨⟨#[50,48,50,52,45,48,49,45,48,50,32,42,32,34,115,104,111,112,34,32,34,102,111,111,100,34,32,35,97,32,94,108]⟩,by kernel_rfl,eq_lit15 rfl,by decide⟩;have TX2:Hid (∀{W:World}{m:DM},MD W (fdOf o2) m→Ok15 W→∀X,cD (fdOf o2) m=X→Calls Tryz.prog 10 #[.agg X] W (Ret9 W (.string T2))):=fun {W m} hm hok X hX=>by subst hX;subst ho2;exact TX hm (trivial) hz2 hok hT2
 have HD2:=Jh hD2;clear hT2 hz2 hD2;clear ho2;obtain⟨o3,ho3⟩:∃o:Option Dr,o=none:=⟨_,rfl⟩;have HO3:=Jh ho3;have OF3:Hid (∀{W:World}{A:Option Addr}{n c:Nat},RdK W W.heap.size A n c (tks 1 (wdsOf (bs9 awB3)))→Ok15 W→Calls Tryz.prog 7 #[.slice A n c] W (fun en w'=>∃m:DM,en=.returned (.tuple #[.agg (cD (fdOf o3) m),.int .i64 3,.int .i64 3])∧MD w' (fdOf o3) m∧Below W.heap.size W w')):=fun {W A n c} hr hok=>by
  subst ho3;refine(RH' (G:=Wgh.Grt _) hr (Nat.le_refl _) (by have h1:=hr.len;have h2:=Nat.le_of_ble_eq_true aw15_n3;unfold tks at h1;rw[List.length_map] at h1;omega) (siz_weight (Nat.le_of_ble_eq_true aw15_s3)) hok aw15_r3).mono ?_;rintro e v ⟨m,rfl,hm,-,hb⟩;exact⟨m,rfl,hm,hb⟩
 clear ho3;obtain⟨o4,ho4⟩:∃o:Option Dr,o=none:=⟨_,rfl⟩;have HO4:=Jh ho4;have OF4:Hid (∀{W:World},Ok15 W→Calls Tryz.prog 9 #[.string awB4] W (fun en w'=>∃m:DM,en=.returned (.tuple #[.agg (cD (fdOf o4) m),.int .i64 2])∧MD w' (fdOf o4) m∧Below W.heap.size W w')):=fun {W} hok=>by subst ho4;exact of15_lit RH' hok (by decide) aw15_n4 aw15_s4 aw15_r4
 clear ho4;obtain⟨o5,ho5⟩:∃o:Option Dr,o=some (.opt ⟨#[116,105,116,108,101]⟩ ⟨#[120]⟩):=⟨_,rfl⟩;have HO5:=Jh ho5;have OF5:Hid (∀{W:World},Ok15 W→Calls Tryz.prog 9 #[.string awB5] W (fun en w'=>∃m:DM,en=.returned (.tuple #[.agg (cD (fdOf o5) m),.int .i64 0])∧MD w' (fdOf o5) m∧Below W.heap.size W w')):=fun {W} hok=>by subst ho5;exact of15_lit RH' hok (by decide) aw15_n5 aw15_s5 aw15_r5
 clear ho5;obtain⟨o6,ho6⟩:∃o:Option Dr,o=some (.prc (2024,1,2) ⟨#[65,67,77,69]⟩ 55 1 ⟨#[85,83,68]⟩):=⟨_,rfl⟩;have HO6:=Jh ho6;have OF6:Hid (∀{W:World},Ok15 W→Calls Tryz.prog 9 #[.string awB6] W (fun en w'=>∃m:DM,en=.returned (.tuple #[.agg (cD (fdOf o6) m),.int .i64 0])∧MD w' (fdOf o6) m∧Below W.heap.size W w')):=fun {W} hok=>by subst ho6;exact of15_lit RH' hok (by decide) aw15_n6 aw15_s6 aw15_r6
 clear ho6;obtain⟨o7,ho7⟩:∃o:Option Dr,o=none:=⟨_,rfl⟩;have HO7:=Jh ho7;have OF7:Hid (∀{W:World},Ok15 W→Calls Tryz.prog 9 #[.string awB7] W (fun en w'=>∃m:DM,en=.returned (.tuple #[.agg (cD (fdOf o7) m),.int .i64 3])∧MD w' (fdOf o7) m∧Below W.heap.size W w')):=fun {W} hok=>by subst ho7;exact of15_lit RH' hok (by decide) aw15_n7 aw15_s7 aw15_r7
 clear ho7;go_enter Tryz.func5,Tryz.ntmps5;go_wp2_with fail;refine(OF0.out (OK.out E.out.bel)).mono ?_;rintro e w0 ⟨m0,rfl,hm,hb⟩;replace E:=Jh (E.out.push hb hm);clear hb hm OF0;obtain⟨X0,hX0⟩:∃X,cD (fdOf o0) m0=X:=⟨_,rfl⟩;have hXs0:X0.size=27:=by rw[← hX0];rfl
 have hst:=st_newL15 hX0;have HX0:=Jh hX0;rw[hX0];clear hX0;go_upto_region 2 with fail
 clear hst;replace E:=Jh (E.out.lay X0 45 (g:=w0.heap.size) rfl);generalize hV:World.alloc w0 _=V0 at E ⊢;clear hV;generalize w0.heap.size=g0 at E ⊢;go_wp2_with fail;refine(OF1.out (OK.out E.out.bel)).mono ?_;rintro e w1 ⟨m1,rfl,hm,hb⟩;replace E:=Jh (E.out.push hb hm);clear hb hm OF1;obtain⟨X1,hX1⟩:∃X,cD (fdOf o1) m1=X:=⟨_,rfl⟩;have hXs1:X1.size=27:=by rw[← hX1];rfl
 have hst:=st_newL15 hX1;have HX1:=Jh hX1;rw[hX1];clear hX1;go_upto_region 3 with fail
 clear hst;replace E:=Jh (E.out.lay X1 45 (g:=w1.heap.size) rfl);generalize hV:World.alloc w1 _=V1 at E ⊢;clear hV;generalize w1.heap.size=g1 at E ⊢;go_wp2_with fail;refine(OF2.out (OK.out E.out.bel)).mono ?_;rintro e w2 ⟨m2,rfl,hm,hb⟩;replace E:=Jh (E.out.push hb hm);clear hb hm OF2;obtain⟨X2,hX2⟩:∃X,cD (fdOf o2) m2=X:=⟨_,rfl⟩;have hXs2:X2.size=27:=by rw[← hX2];rfl
 have hst:=st_newL15 hX2;have HX2:=Jh hX2;rw[hX2];clear hX2;go_upto_region 4 with fail
 clear hst;replace E:=Jh (E.out.lay X2 45 (g:=w2.heap.size) rfl);generalize hV:World.alloc w2 _=V2 at E ⊢;clear hV;generalize w2.heap.size=g2 at E ⊢;go_wp2_with fail;refine(words15 (s:=awB3) (OK.out E.out.bel) (by decide)).mono ?_;rintro e3a w3a ⟨B3,n3,c3,rfl,hr,hb⟩;replace E:=Jh (E.out.step hb);have R:=Jh hr;clear hr hb;go_wp2_with fail;refine(OF3.out R.out (OK.out E.out.bel)).mono ?_;rintro e w3 ⟨m3,rfl,hm,hb⟩;clear R;replace E:=Jh (E.out.push hb hm);clear hb hm OF3;obtain⟨X3,hX3⟩:∃X,cD (fdOf o3) m3=X:=⟨_,rfl⟩;have hXs3:X3.size=27:=by rw[← hX3];rfl
 have hst:=st_newL15 hX3;have HX3:=Jh hX3;rw[hX3];clear hX3;go_upto_region 5 with fail
 clear hst;replace E:=Jh (E.out.lay X3 45 (g:=w3.heap.size) rfl);generalize hV:World.alloc w3 _=V3 at E ⊢;clear hV;generalize w3.heap.size=g3 at E ⊢;go_wp2_with fail;refine(OF4.out (OK.out E.out.bel)).mono ?_;rintro e w4 ⟨m4,rfl,hm,hb⟩;replace E:=Jh (E.out.push hb hm);clear hb hm OF4;obtain⟨X4,hX4⟩:∃X,cD (fdOf o4) m4=X:=⟨_,rfl⟩;have hXs4:X4.size=27:=by rw[← hX4];rfl
 have hst:=st_newL15 hX4;have HX4:=Jh hX4;rw[hX4];clear hX4;go_upto_region 6 with fail
 clear hst;replace E:=Jh (E.out.lay X4 45 (g:=w4.heap.size) rfl);generalize hV:World.alloc w4 _=V4 at E ⊢;clear hV;generalize w4.heap.size=g4 at E ⊢;go_wp2_with fail;refine(OF5.out (OK.out E.out.bel)).mono ?_;rintro e w5 ⟨m5,rfl,hm,hb⟩;replace E:=Jh (E.out.push hb hm);clear hb hm OF5;obtain⟨X5,hX5⟩:∃X,cD (fdOf o5) m5=X:=⟨_,rfl⟩;have hXs5:X5.size=27:=by rw[← hX5];rfl
 have hst:=st_newL15 hX5;have HX5:=Jh hX5;rw[hX5];clear hX5;go_upto_region 7 with fail
 clear hst;replace E:=Jh (E.out.lay X5 45 (g:=w5.heap.size) rfl);generalize hV:World.alloc w5 _=V5 at E ⊢;clear hV;generalize w5.heap.size=g5 at E ⊢;go_wp2_with fail;refine(OF6.out (OK.out E.out.bel)).mono ?_;rintro e w6 ⟨m6,rfl,hm,hb⟩;replace E:=Jh (E.out.push hb hm);clear hb hm OF6;obtain⟨X6,hX6⟩:∃X,cD (fdOf o6) m6=X:=⟨_,rfl⟩;have hXs6:X6.size=27:=by rw[← hX6];rfl
 have hst:=st_newL15 hX6;have HX6:=Jh hX6;rw[hX6];clear hX6;go_upto_region 8 with fail
 clear hst;replace E:=Jh (E.out.lay X6 45 (g:=w6.heap.size) rfl);generalize hV:World.alloc w6 _=V6 at E ⊢;clear hV;generalize w6.heap.size=g6 at E ⊢;go_wp2_with fail;refine(OF7.out (OK.out E.out.bel)).mono ?_;rintro e w7 ⟨m7,rfl,hm,hb⟩;replace E:=Jh (E.out.push hb hm);clear hb hm OF7;obtain⟨X7,hX7⟩:∃X,cD (fdOf o7) m7=X:=⟨_,rfl⟩;have hXs7:X7.size=27:=by rw[← hX7];rfl
 have hst:=st_newL15 hX7;have HX7:=Jh hX7;rw[hX7];clear hX7;go_upto_region 9 with fail
 clear hst;replace E:=Jh (E.out.lay X7 45 (g:=w7.heap.size) rfl);generalize hV:World.alloc w7 _=V7 at E ⊢;clear hV;generalize w7.heap.size=g7 at E ⊢;have HC5:Hid (∃sx:ByteArray,X5[24]?=some (.string sx)∧(sx.toList == [120])=true):=⟨⟨#[120]⟩,by rw[← HX5.out,HO5.out];rfl,eq_lit15 rfl⟩;have HC6:Hid (X6[0]?=some (.int .i64 4)):=by rw[← HX6.out,HO6.out];rfl
 have SM0:Hid (∀{W:World}{m m':DM},MD W (fdOf o0) m→MD W (fdOf o0) m'→Ok15 W→∀X X',cD (fdOf o0) m=X→cD (fdOf o0) m'=X'→Calls Tryz.prog 8 #[.agg X,.agg X'] W (Ret9 W (.bool true))):=fun hm hm' hok X X' hX hX'=>by
  subst hX;subst hX';exact SM hm hm' hok ⟨fun _=>rfl,fun _=>rfl⟩
 have SM1:Hid (∀{W:World}{m m':DM},MD W (fdOf o0) m→MD W (fdOf o1) m'→Ok15 W→∀X X',cD (fdOf o0) m=X→cD (fdOf o1) m'=X'→Calls Tryz.prog 8 #[.agg X,.agg X'] W (Ret9 W (.bool false))):=fun hm hm' hok X X' hX hX'=>by
  subst hX;subst hX';refine SM hm hm' hok ⟨fun h=>(by cases h),fun h=>?_⟩;rw[HO0.out,HO1.out] at h;cases h
 obtain⟨TA,hA,hDA⟩:∃T:ByteArray,mthW 3=bs9 T∧(T.toList == [65,86,69,82,65,71,69])=true:=⟨⟨#[65,86,69,82,65,71,69]⟩,by kernel_rfl,eq_lit15 rfl⟩;obtain⟨TN,hN,hDN⟩:∃T:ByteArray,mthW 9=bs9 T∧(T.toList == [])=true:=⟨⟨#[]⟩,by kernel_rfl,eq_lit15 rfl⟩;have HA:=Jh hA;have HN:=Jh hN;have HDA:=Jh hDA;have HDN:=Jh hDN;clear hA hN hDA hDN;have B0:=E.out.blk (g0,X0,45) (by simp);dsimp only at B0
 repeat(first|(first|(refine wpList_load_rowG ?_ 45 (.tmp 1) rfl g0 rfl 45 X0 (0,0) _ B0 Tryz.underlying45 rfl (by rw[dir_size,hXs0]) ?_;· first|rfl|go_simp))|go_values|go_skip|go_guarded|go_step|go_upon|go_back|(go_values<;>(try go_simp))|dsimp only|(split<;>(first|(rename_i hx;exact(hx _ rfl).elim)|go_prune)))
 clear B0 ;refine(TX0.out (S15.got E (f:=fdOf o0) (m:=m0) (by simp)) (OK.out E.out.bel) X0 HX0.out).mono ?_;rintro e x1 ⟨rfl,hb⟩;replace E:=Jh (E.out.step hb);clear hb;have B1:=E.out.blk (g1,X1,45) (by simp);dsimp only at B1
 have d0:=HD0.out;repeat(first|(first|(refine wpList_load_rowG ?_ 45 (.tmp 3) rfl g1 rfl 45 X1 (0,0) _ B1 Tryz.underlying45 rfl (by rw[dir_size,hXs1]) ?_;· first|rfl|go_simp))|go_values|go_skip|go_guarded|go_step|go_upon|go_back|(go_values<;>(try go_simp))|dsimp only|(split<;>(first|(rename_i hx;exact(hx _ rfl).elim)|go_prune)))
 clear B1 d0;refine(TX1.out (S15.got E (f:=fdOf o1) (m:=m1) (by simp)) (OK.out E.out.bel) X1 HX1.out).mono ?_;rintro e x2 ⟨rfl,hb⟩;replace E:=Jh (E.out.step hb);clear hb;have B2:=E.out.blk (g2,X2,45) (by simp);dsimp only at B2
 have d1:=HD1.out;repeat(first|(first|(refine wpList_load_rowG ?_ 45 (.tmp 5) rfl g2 rfl 45 X2 (0,0) _ B2 Tryz.underlying45 rfl (by rw[dir_size,hXs2]) ?_;· first|rfl|go_simp))|go_values|go_skip|go_guarded|go_step|go_upon|go_back|(go_values<;>(try go_simp))|dsimp only|(split<;>(first|(rename_i hx;exact(hx _ rfl).elim)|go_prune)))
 clear B2 d1;refine(TX2.out (S15.got E (f:=fdOf o2) (m:=m2) (by simp)) (OK.out E.out.bel) X2 HX2.out).mono ?_;rintro e x3 ⟨rfl,hb⟩;replace E:=Jh (E.out.step hb);clear hb;have B0:=E.out.blk (g0,X0,45) (by simp);dsimp only at B0
 have d2:=HD2.out;obtain⟨sx,c5,d5⟩:=HC5.out;have q5:=(S15.at_ E (g:=g5) (xs:=X5) (t:=45) (by simp) 24).trans c5;have q6:=(S15.at_ E (g:=g6) (xs:=X6) (t:=45) (by simp) 0).trans HC6.out;repeat(first|(first|(refine wpList_load_rowG ?_ 45 (.tmp 1) rfl g0 rfl 45 X0 (0,0) _ B0 Tryz.underlying45 rfl (by rw[dir_size,hXs0]) ?_;· first|rfl|go_simp))|go_values|go_skip|go_guarded|go_step|go_upon|go_back|(go_values<;>(try go_simp))|dsimp only|(split<;>(first|(rename_i hx;exact(hx _ rfl).elim)|go_prune)))
 clear B0 d2 c5 d5 q5 q6;refine(SM0.out (S15.got E (f:=fdOf o0) (m:=m0) (by simp)) (S15.got E (f:=fdOf o0) (m:=m0) (by simp)) (OK.out E.out.bel) X0 X0 HX0.out HX0.out).mono ?_;rintro e x4 ⟨rfl,hb⟩;replace E:=Jh (E.out.step hb);clear hb;have B0:=E.out.blk (g0,X0,45) (by simp);dsimp only at B0
 have B1:=E.out.blk (g1,X1,45) (by simp);dsimp only at B1
 repeat(first|(first|(refine wpList_load_rowG ?_ 45 (.tmp 1) rfl g0 rfl 45 X0 (0,0) _ B0 Tryz.underlying45 rfl (by rw[dir_size,hXs0]) ?_;· first|rfl|go_simp)|(refine wpList_load_rowG ?_ 45 (.tmp 3) rfl g1 rfl 45 X1 (0,0) _ B1 Tryz.underlying45 rfl (by rw[dir_size,hXs1]) ?_;· first|rfl|go_simp))|go_values|go_skip|go_guarded|go_step|go_upon|go_back|(go_values<;>(try go_simp))|dsimp only|(split<;>(first|(rename_i hx;exact(hx _ rfl).elim)|go_prune)))
 clear B0 B1 ;refine(SM1.out (S15.got E (f:=fdOf o0) (m:=m0) (by simp)) (S15.got E (f:=fdOf o1) (m:=m1) (by simp)) (OK.out E.out.bel) X0 X1 HX0.out HX1.out).mono ?_;rintro e x5 ⟨rfl,hb⟩;replace E:=Jh (E.out.step hb);clear hb;go_wp2_with fail;refine(ME (x:=2) (OK.out E.out.bel) (by kernel_rfl)).mono ?_;rintro e x6 ⟨rfl,hb⟩;replace E:=Jh (E.out.step hb);clear hb;go_wp2_with fail;refine(ME (x := -1) (OK.out E.out.bel) (by kernel_rfl)).mono ?_;rintro e x7 ⟨rfl,hb⟩;replace E:=Jh (E.out.step hb);clear hb;go_wp2_with fail;refine(MW (OK.out E.out.bel) HA.out).mono ?_;rintro e x8 ⟨rfl,hb⟩;replace E:=Jh (E.out.step hb);clear hb;have dA:=HDA.out;go_wp2_with fail;clear  dA;refine(MW (OK.out E.out.bel) HN.out).mono ?_;rintro e x9 ⟨rfl,hb⟩;replace E:=Jh (E.out.step hb);clear hb;have dN:=HDN.out;go_wp2_with fail;go_ret;exact⟨rfl,E.out.bel⟩
theorem joinB_tail:∀(r:List (List UInt8)),(Lib.joinTail [32] r).map UInt8.toNat=(r.map fun x=>32::x.map UInt8.toNat).flatten
 | []=>rfl
 | x::r=>by
  have e:Lib.joinTail [32] (x::r)=32::(x++Lib.joinTail [32] r):=rfl;rw[e,List.map_cons,List.map_append,joinB_tail r];rfl
theorem jnB_flat:∀(x:List Nat) (r:List (List Nat)),jnB (x::r)=x++(r.map fun y=>32::y).flatten
 | x,[]=>by show x=x++[];rw[List.append_nil]
 | x,y::r=>by
  show x++32::jnB (y::r)=_;rw[jnB_flat y r];rfl
theorem bs9_joinB(xs:List ByteArray):bs9 ⟨(Lib.join (xs.map (·.data.toList)) [32]).toArray⟩=jnB (xs.map bs9):=by
 show(Lib.join (xs.map (·.data.toList)) [32]).map UInt8.toNat=_;cases xs with
 | nil=>rfl
 | cons x r=>
  rw[List.map_cons,Lib.join_cons,List.map_append,joinB_tail,List.map_cons,jnB_flat,List.map_map,List.map_map];rfl
theorem jnB_cons(x:List Nat){r:List (List Nat)}(h:r≠[]):jnB (x::r)=x++32::jnB r:=by
 cases r with
 | nil=>exact absurd rfl h
 | cons y r=>rfl
theorem jnB_in:∀(l:List (List Nat)) {r:List (List Nat)},r≠[]→jnB (l++[jnB r])=jnB (l++r)
 | [],r,_=>rfl
 | x::l,r,h=>by
  rw[List.cons_append,List.cons_append,jnB_cons x (by simp),jnB_cons x (by simp[h]),jnB_in l h]
theorem jnB_mem:∀{l:List (List Nat)}{x:List Nat},x∈l→x.length≤(jnB l).length
 | y::l,x,h=>by
  rw[jnB_flat,List.length_append];rcases List.mem_cons.1 h with rfl|h
  ·omega
  ·have:=jnB_mem h
   cases l with
   | nil=>cases h
   | cons z l=>rw[jnB_flat z l,List.length_append] at this;simp at this ⊢;omega
theorem jnB_long:∀l:List (List Nat),l.length≤(jnB l).length+1
 | []=>Nat.zero_le _
 | [x]=>by show 1≤_;omega
 | x::y::l=>by
  have:=jnB_long (y::l);rw[jnB_cons x (by simp),List.length_append];simp only[List.length_cons] at this ⊢
  omega
theorem curP_jnT:∀{cs:List ByteArray},cs≠[]→jnB ((curP cs).map (·.t))=jnT (cs.map bs9)
 | [x],_=>rfl
 | x::y::r,_=>by
  have h:=curP_jnT (cs:=y::r) (by simp);have e:(curP (x::y::r)).map (·.t)=(bs9 x++[44])::(curP (y::r)).map (·.t):=rfl;have hne:(curP (y::r)).map (·.t)≠[]:=by cases r<;>simp[curP]
  rw[e,jnB_cons _ hne,h];show(bs9 x++[44])++32::_=bs9 x++44::32::_;rw[List.append_assoc];rfl
theorem joinB_is{w:World}{A:Option Addr}{n c:Nat}{L:List (List Nat)}(h:RdP w A n c L)(hL:∀t∈L,∀x∈t,x<256)(hn:n≤1000000){J:ByteArray}(hJ:jnB L=bs9 J)(hs:J.size≤1000000):Calls Tryz.prog 47 #[.slice A n c,.string ⟨#[32]⟩] w (Ret9 w (.string J)):=by
 obtain⟨h1,h2,h3,h4⟩:=h;have e:(L.map st9).map bs9=L:=by
  rw[List.map_map];conv=>rhs;rw[← List.map_id L]
  exact List.map_congr_left fun t ht=>bs9_st9 (hL t ht)
 have hr:(⟨(Lib.join ((L.map st9).map (·.data.toList)) [32]).toArray⟩:ByteArray)=J:=bs9_inj (by rw[bs9_joinB,e,hJ]);rcases h4 with rfl|⟨b,o,rfl,hb,hc⟩
 ·obtain rfl:n=0:=h1
  obtain rfl:J=⟨#[]⟩:=bs9_inj hJ.symm;exact(Any.strings_Join_none Tryz.lays156 Tryz.Builder_Extra_156 A c ⟨#[32]⟩ w).mono fun e w' ⟨he,hw⟩=>⟨he,hw▸Below.refl _ _⟩
 ·have hl:(L.map st9).length=n:=by rw[List.length_map,h1]
  have q:=Tryz.strings_Join b o c (L.map st9) ⟨#[32]⟩ w (fun j x hx=>hc j _ (rowP_get hx)) hb (by omega) (by omega) (by
   have h9:=congrArg ByteArray.size hr;have h8:(Lib.join ((L.map st9).map (·.data.toList)) [32]).length=J.size:=by rw[← h9];exact List.size_toArray.symm
   show(Lib.join ((L.map st9).map (·.data.toList)) [32]).length≤_;omega)
  rw[hl] at q;exact q.mono fun e w' ⟨he,hw⟩=>⟨he.trans (by rw[← hr]),hw⟩
theorem map_lt(l:List ByteArray):∀t∈l.map bs9,∀x∈t,x<256:=fun t ht x hx=>by
 obtain⟨s,_,rfl⟩:=List.mem_map.1 ht;exact bs9_lt s x hx
theorem rdP_len{w:World}{A:Option Addr}{n c:Nat}{l:List ByteArray}(h:RdP w A n c (l.map bs9)):n=l.length:=by rw[h.1,List.length_map]
theorem row11_lit(l:List ByteArray):row11 (l.map bs9)=l.map Value.string:=by
 unfold row11;rw[List.map_map];exact List.map_congr_left fun s _=>by show Value.string (st9 (bs9 s))=_;rw[st9_bs9]
theorem rdP_new(w:World)(l:List ByteArray)(hl:l.length≤1000):RdP (w.alloc (.cells (l.map Value.string).toArray 9)) (some ⟨w.heap.size,0,none⟩) l.length l.length (l.map bs9):=by
 refine⟨by rw[List.length_map],Nat.le_refl _,by unfold maxLen;omega,.inr ⟨w.heap.size,0,rfl,by simp,fun j u hu=>?_⟩⟩;rw[row11_lit] at hu;rw[cell_of_row _ w.heap.size _ _ 9 (0,0) (heap_alloc_new w _),Nat.zero_add,← Array.getElem?_toList];exact hu
theorem line_is{w:World}{A:Option Addr}{n c:Nat}(l:List ByteArray)(h:RdP w A n c (l.map bs9)){J:ByteArray}(hJ:jnB (l.map bs9)=bs9 J)(hs:J.size≤100000):Calls Tryz.prog 23 #[.slice A n c] w (Ret9 w (.string J)):=by
 have hn:n≤1000000:=by
  have h1:=rdP_len h;have h2:=jnB_long (l.map bs9);rw[hJ,bs9_len,List.length_map] at h2;omega
 have C:Hid (∀{W:World},Below w.heap.size w W→Calls Tryz.prog 47 #[.slice A n c,.string ⟨#[32]⟩] W (Ret9 W (.string J))):=fun hb=>joinB_is (h.on hb) (map_lt l) hn hJ (by omega)
 clear h hJ hs hn;go_enter Tryz.func23,Tryz.ntmps23;go_wp2_with fail;refine(C.out (Below.refl _ _)).mono ?_;rintro e w1 ⟨rfl,hb⟩;go_wp2_with fail;go_ret;exact⟨rfl,hb⟩
structure TP (w0 w:World) (X:Array Value):Prop where
 bel:Below w0.heap.size w0 w
 box:Bk w w0.heap.size X 45
section
variable {w0 w w':World}{X:Array Value}
theorem TP.start(w:World)(X:Array Value):TP w (w.alloc (.cells X 45)) X:=⟨(Below.refl _ _).alloc (Nat.le_refl _) _,Bk.new w X _ rfl⟩
theorem TP.step(h:TP w0 w X)(hb:Below w.heap.size w w'):TP w0 w' X:=⟨h.bel.trans (hb.mono h.bel.size),h.box.on hb⟩
theorem TP.atv(h:Hid (TP w0 w X)){f:FD}{m:DM}(hX:cD f m=X)(j:Nat){y:Value}(hy:(cD f m)[j]?=some y):w.cell? ⟨w0.heap.size,j,none⟩=some y:=by rw[hX] at hy;exact(h.out.box.cell j).trans hy
theorem TP.grown(h:TP w0 w X){v:Value}{L:List ByteArray}(ho:OwnP w (w0.heap.size+1) v (L.map bs9))(hg:w.grownBy w' v.ownBlock):TP w0 w' X:=by
 have hb:Below (w0.heap.size+1) w w':=(Below.refl _ w).grown hg h.box.lt (fun g e=>(World.ownsRow.lt ho g e).1);exact⟨h.bel.trans (hb.mono (Nat.le_succ _)),(hb.block _ (Nat.lt_succ_self _)).trans h.box⟩
end
theorem own_push{w:World}{base:Nat}{v:Value}{L:List ByteArray}{s:ByteArray}(h:w.ownsRow base 9 1 v ((L.map bs9).length+1) (row11 (L.map bs9)++[.string s])):OwnP w base v ((L++[s]).map bs9):=by
 unfold OwnP;rw[row11_map,List.length_map,List.length_append];rw[List.length_map] at h;exact h
theorem own_push2{w:World}{base:Nat}{v:Value}{L:List ByteArray}{s t:ByteArray}(h:w.ownsRow base 9 1 v ((L.map bs9).length+2) (row11 (L.map bs9)++[.string s,.string t])):OwnP w base v ((L++[s,t]).map bs9):=by
 unfold OwnP;have e:row11 ((L++[s,t]).map bs9)=row11 (L.map bs9)++[.string s,.string t]:=by rw[row11_lit,row11_lit,List.map_append];rfl
 rw[e,List.length_map,List.length_append];rw[List.length_map] at h;exact h
theorem txt_new2(w:World)(s t:ByteArray)(ty:TypeId):∀j u,([.string s,.string t]:List Value)[j]?=some u→(w.alloc (.cells #[.string s,.string t] ty)).cell? ((⟨w.heap.size,0,none⟩:Addr).add j)=some u:=by
 intro j u hu;rw[Addr.add_lit,cell_of_row _ w.heap.size _ _ ty (0,0) (heap_alloc_new w _),Nat.zero_add,← Array.getElem?_toList];simpa using hu
theorem own_lits(w:World)(l:List ByteArray){base:Nat}(hb:base≤w.heap.size)(hl:l.length≤100):OwnP (w.alloc (.cells (l.map Value.string).toArray 9)) base (.slice (some ⟨w.heap.size,0,none⟩) l.length l.length) (l.map bs9):=by
 have h:=World.ownsRow_lit (base:=base) (size:=1) (e:=9) w (l.map Value.string).toArray l.length hb (by unfold maxLen;omega) (by rw[List.size_toArray,List.length_map,Nat.mul_one]);unfold OwnP;rw[row11_lit,List.length_map];exact h
theorem onday_is{w:World}{f:FD}{m:DM}{A:Option Addr}{n c:Nat}(l:List ByteArray)(hr:RdP w A n c (l.map bs9))(hok:Ok15 w){y S J T:ByteArray}(hS:dayT (f.y,f.m,f.d)=bs9 S)(hJ:jnB (l.map bs9)=bs9 J)(hT:jnB ([S,y,J].map bs9)=bs9 T)(hz:T.size≤100000):Calls Tryz.prog 25 #[.agg (cD f m),.string y,.slice A n c] w (Ret9 w (.string T)):=by
 have hJs:J.size≤100000:=by
  have h:=jnB_mem (l:=[S,y,J].map bs9) (x:=bs9 J) (by simp);rw[hT,bs9_len,bs9_len] at h;omega
 have OK:Hid (∀{W:World},Below w.heap.size w W→Ok15 W):=fun hb=>okw15 hok hb
 have C1:Hid (∀{W:World},Below w.heap.size w W→Calls Tryz.prog 23 #[.slice A n c] W (Ret9 W (.string J))):=fun hb=>line_is l (hr.on hb) hJ hJs
 have HS:=Jh hS;have C2:Hid (∀{W:World},Calls Tryz.prog 23 #[.slice (some ⟨W.heap.size,0,none⟩) 3 3] (W.alloc (.cells #[.string S,.string y,.string J] 9)) (Ret9 (W.alloc (.cells #[.string S,.string y,.string J] 9)) (.string T))):=fun {W}=>line_is [S,y,J] (rdP_new W [S,y,J] (Nat.le_of_ble_eq_true rfl)) hT hz
 clear hr hok hS hJ hT hz hJs;obtain⟨X,hX⟩:∃X,cD f m=X:=⟨_,rfl⟩;have HX:=Jh hX;rw[hX];clear hX;go_enter Tryz.func25,Tryz.ntmps25;go_upto_region 1 with fail
 have E:=Jh (TP.start w X);generalize hW:World.alloc w (.cells X 45)=W1 at E ⊢;clear hW;have p1:=TP.atv E HX.out 1 (y:=.int .i64 f.y) rfl;have p2:=TP.atv E HX.out 2 (y:=.int .i64 f.m) rfl;have p3:=TP.atv E HX.out 3 (y:=.int .i64 f.d) rfl;have plt:=E.out.box.lt;go_wp2_with fail;clear p1 p2 p3 plt;refine(dayt_is (OK.out E.out.bel).1 HS.out).mono ?_;rintro e w1 ⟨rfl,hb⟩;replace E:=Jh (E.out.step hb);clear hb;go_wp2_with fail;refine(C1.out E.out.bel).mono ?_;rintro e w2 ⟨rfl,hb⟩;replace E:=Jh (E.out.step hb);clear hb;go_wp2_with fail;refine C2.out.mono ?_;rintro e w3 ⟨rfl,hb⟩;replace E:=Jh (E.out.step ((Below.refl _ _).alloc (Nat.le_refl _) (.cells #[.string S,.string y,.string J] 9)));replace E:=Jh (E.out.step hb);clear hb;go_wp2_with fail;go_ret;exact⟨rfl,E.out.bel⟩
theorem currency_is{w:World}{f:FD}{m:DM}(hm:MD w f m){s:ByteArray}(hs:f.curs=[s]):Calls Tryz.prog 27 #[.agg (cD f m)] w (Ret9 w (.string s)):=by
 have hr:=hm.cur;rw[hs] at hr;have hn:m.nc=1:=rdP_len hr;obtain⟨b,o,hA,hb,hc⟩:=rdP_at hr (by omega);have c0:=hc 0 s rfl;rw[Nat.add_zero] at c0;have HB:Hid (b<w.heap.size):=hb;have C0:=Jh c0;have hcc:1≤m.cc:=by have:=hr.2.1;omega
 have H6:Hid ((cD f m)[6]?=some (.slice (some ⟨b,o,none⟩) 1 m.cc)):=by show some (Value.slice m.Ac m.nc m.cc)=_;rw[hA,hn]
 generalize m.cc=cc at H6 hcc;clear hr hm hs hc c0 hb hA hn;obtain⟨X,hX⟩:∃X,cD f m=X:=⟨_,rfl⟩;have HX:=Jh hX;rw[hX];clear hX;go_enter Tryz.func27,Tryz.ntmps27;go_upto_region 1 with fail
 have E:=Jh (TP.start w X);generalize hW:World.alloc w (.cells X 45)=W1 at E ⊢;clear hW;have p6:=TP.atv E HX.out 6 H6.out;have plt:=E.out.box.lt;have q0:=(E.out.bel.cell (p:=⟨b,o,none⟩) HB.out).trans C0.out;have d1:(0:Int)<((1:Nat):Int):=by decide
 go_wp2_with fail;go_ret;exact⟨rfl,E.out.bel⟩
theorem amtt15{w:World}{A:Option Addr}{n c k:Nat}{i:Int}{s T:ByteArray}(hnum:Num w w.heap.size A n c i.natAbs)(hn:n≤900)(hk:k≤4010)(hs:s.size≤4000)(hT:jnB [Num.txtD i k,bs9 s]=bs9 T):Calls Tryz.prog 28 #[.agg #[.bool (ngB i),.slice A n c,.int .i64 (k:Int),.string s]] w (Ret9 w (.string T)):=by
 have hlen:(Num.txtD i k).length≤12113:=txtD_fit14 hnum hn hk;obtain⟨X,hX⟩:∃X,str (Num.txtD i k)=X:=⟨_,rfl⟩;have hB:bs9 X=Num.txtD i k:=by rw[← hX];exact codes_str (Num.txtD_lt _ _)
 have hXs:X.size≤12113:=by rw[← bs9_len,hB];exact hlen
 obtain⟨Y,hY⟩:∃Y:ByteArray,bs9 Y=Num.txtD i k++[32]:=⟨st9 (Num.txtD i k++[32]),bs9_st9 fun c hc=>by
  rcases List.mem_append.1 hc with h|h
  ·exact Num.txtD_lt _ _ c h
  ·rw[List.mem_singleton.1 h];decide⟩
 have hYs:Y.size≤12114:=by rw[← bs9_len,hY,List.length_append,List.length_singleton];omega
 have ad1:∀w,(Op.stringOp .add X ⟨#[32]⟩).run Tryz.prog w=.ok (.string Y) w:=fun w=>add9 (by rw[hB,hY];rfl) (by show X.size+1≤_;omega) w
 have ad2:∀w,(Op.stringOp .add Y s).run Tryz.prog w=.ok (.string T) w:=fun w=>add9 (by rw[hY,List.append_assoc];exact hT) (by omega) w
 have TX:Hid (∀{W:World},Num W W.heap.size A n c i.natAbs→Calls Tryz.prog 53 #[.agg #[.bool (ngB i),.slice A n c,.int .i64 (k:Int)]] W (RetVal W (.string X))):=fun h=>dtext_is h (by omega) (by omega) hX
 have E:=Jh (S14.bare2 w hnum);clear hnum hn hk hs hT hlen hX hB hXs hY hYs;go_enter Tryz.func28,Tryz.ntmps28;go_wp2_with fail;replace E:=Jh (E.out.lay #[.bool (ngB i),.slice A n c,.int .i64 (k:Int),.string s] 41 (g:=w.heap.size) rfl);generalize hW:World.alloc w _=W1 at E ⊢;clear hW;obtain⟨q0,q1,q2,q3,-⟩:=S14.all4 (g:=w.heap.size) (t:=41) (x0:=.bool (ngB i)) (x1:=.slice A n c) (x2:=.int .i64 (k:Int)) (x3:=.string s) E (by simp);replace E:=Jh (E.out.step (Below.refl _ _).drew);go_region_held3 (fun v=>v.cell? ⟨w.heap.size,0,none⟩=some (.bool (ngB i))∧v.cell? ⟨w.heap.size,1,none⟩=some (.slice A n c)∧v.cell? ⟨w.heap.size,2,none⟩=some (.int .i64 (k:Int))∧v.cell? ⟨w.heap.size,3,none⟩=some (.string s)) (first|with_reducible exact⟨S14.atv E (y:=.bool (ngB i)) (g:=w.heap.size) (xs:=#[.bool (ngB i),.slice A n c,.int .i64 (k:Int),.string s]) (t:=41) (by simp) 0 rfl,S14.atv E (y:=.slice A n c) (g:=w.heap.size) (xs:=#[.bool (ngB i),.slice A n c,.int .i64 (k:Int),.string s]) (t:=41) (by simp) 1 rfl,S14.atv E (y:=.int .i64 (k:Int)) (g:=w.heap.size) (xs:=#[.bool (ngB i),.slice A n c,.int .i64 (k:Int),.string s]) (t:=41) (by simp) 2 rfl,S14.atv E (y:=.string s) (g:=w.heap.size) (xs:=#[.bool (ngB i),.slice A n c,.int .i64 (k:Int),.string s]) (t:=41) (by simp) 3 rfl⟩|go_keep) (first|(go_at_call 53;refine(TX.out (S14.got E (by simp))).mono ?_;rintro e w5 ⟨rfl,hb⟩;replace E:=Jh (E.out.step hb);clear hb))
 all_goals
  go_wp2_with fail;go_ret;exact⟨rfl,E.out.bel⟩
def RtP(w:World)(l:List ByteArray)(en:Ending)(w':World):Prop:=∃(A:Option Addr) (n c:Nat),en=.returned (.slice A n c)∧RdP w' A n c (l.map bs9)∧Below w.heap.size w w'
theorem RtP.of{w w':World}{v:Value}{base:Nat}{l:List ByteArray}(h:OwnP w' base v (l.map bs9))(hb:Below w.heap.size w w'):RtP w l (.returned v) w':=by
 obtain⟨A,c,rfl,hr⟩:=h.rd;exact⟨A,_,c,rfl,hr,hb⟩
theorem opnp_is{w:World}{f:FD}{m:DM}(hm:MD w f m)(hok:Ok15 w){J Q M:ByteArray}(hJ:jnT (f.curs.map bs9)=bs9 J)(hM:mthW (f.book:Int)=bs9 M)(hQ:qt (bs9 M)=bs9 Q)(hJs:J.size≤4000)(hcs:f.curs.length≤5000){l:List ByteArray}(hl:(([f.acc]++(if f.curs=[] then [] else [J]))++(if f.book=0 then [] else [Q]))=l):Calls Tryz.prog 26 #[.agg (cD f m)] w (RtP w l):=by
 have hn:=rdP_len hm.cur;have hMs:M.size≤6000:=by
  rw[← bs9_len,← hM];unfold mthW;split
  ·unfold mthT;split<;>decide
  ·decide
 have OK:Hid (∀{W:World},Below w.heap.size w W→Ok15 W):=fun hb=>okw15 hok hb
 have CJ:Hid (∀{W:World},Below w.heap.size w W→Calls Tryz.prog 47 #[.slice m.Ac m.nc m.cc,.string ⟨#[44,32]⟩] W (Ret9 W (.string J))):=fun hb=>join_is (hm.cur.on hb) (map_lt _) (by omega) hJ (by omega)
 have CM:Hid (∀{W:World},Below w.heap.size w W→Calls Tryz.prog 12 #[.int .i64 (f.book:Int)] W (Ret9 W (.string M))):=fun hb=>headw15 (okw15 hok hb) hM
 have CQ:Hid (∀{W:World},Calls Tryz.prog 24 #[.string M] W (Ret9 W (.string Q))):=fun {W}=>lexquote_is hQ hMs W
 obtain⟨i0,hi0,hz0,hz1,hz2⟩:=info_parts11 info_txt;have HL:=Jh hl;have HN:=Jh hn;clear hm hok hJ hM hQ hMs hJs hcs hl hn;by_cases hc:f.curs=[]
 ·have d1:decide (0<m.nc)=false:=decide_eq_false (by rw[HN.out,hc];exact Nat.lt_irrefl 0)
  have HC:=Jh hc;clear hc;by_cases hb0:f.book=0
  ·have d2:((f.book:Int) != 0)=false:=by rw[hb0];rfl
   have HZ2:Hid ([f.acc]=l):=by show _=_;rw[← HL.out,if_pos HC.out,if_pos hb0];rfl
   clear hb0;obtain⟨X,hX⟩:∃X,cD f m=X:=⟨_,rfl⟩;have HX:=Jh hX;rw[hX];clear hX;go_enter Tryz.func26,Tryz.ntmps26;go_upto_region 1 with fail
   have E:=Jh (TP.start w X);generalize hW:World.alloc w (.cells X 45)=W1 at E ⊢;clear hW;have p2:=TP.atv E HX.out 4 (y:=.string f.acc) rfl;have p6:=TP.atv E HX.out 6 (y:=.slice m.Ac m.nc m.cc) rfl;have p7:=TP.atv E HX.out 7 (y:=.int .i64 (f.book:Int)) rfl;have plt:=E.out.box.lt;go_upto_region 2 with fail
   clear p2 p6 p7 plt;have O1:=Jh (own_lits W1 [f.acc] (base:=w.heap.size+1) (by have:=E.out.box.lt;omega) (Nat.le_of_ble_eq_true rfl));replace E:=Jh (E.out.step ((Below.refl _ _).alloc (Nat.le_refl _) (.cells #[.string f.acc] 9)));change Hid (OwnP (World.alloc W1 (.cells #[.string f.acc] 9)) _ (.slice (some ⟨W1.heap.size,0,none⟩) 1 1) _) at O1;generalize hW:World.alloc W1 _=W2 at E O1 ⊢;clear hW;generalize Value.slice (some ⟨W1.heap.size,0,none⟩) 1 1=V1 at O1 ⊢;generalize hV:[f.acc]=L1 at O1;have HL1:=Jh hV;clear hV;have p2:=TP.atv E HX.out 4 (y:=.string f.acc) rfl;have p6:=TP.atv E HX.out 6 (y:=.slice m.Ac m.nc m.cc) rfl;have p7:=TP.atv E HX.out 7 (y:=.int .i64 (f.book:Int)) rfl;have plt:=E.out.box.lt;go_wp2_with fail;clear p2 p6 p7 plt;go_ret;have HE:Hid (L1=l):=by show _=_;rw[← HZ2.out,← HL1.out]
   rw[HE.out] at O1;exact RtP.of O1.out E.out.bel
  ·have d2:((f.book:Int) != 0)=true:=by rw[bne_iff_ne];omega
   have HZ2:Hid ([f.acc]++[Q]=l):=by show _=_;rw[← HL.out,if_pos HC.out,if_neg hb0];rfl
   clear hb0;obtain⟨X,hX⟩:∃X,cD f m=X:=⟨_,rfl⟩;have HX:=Jh hX;rw[hX];clear hX;go_enter Tryz.func26,Tryz.ntmps26;go_upto_region 1 with fail
   have E:=Jh (TP.start w X);generalize hW:World.alloc w (.cells X 45)=W1 at E ⊢;clear hW;have p2:=TP.atv E HX.out 4 (y:=.string f.acc) rfl;have p6:=TP.atv E HX.out 6 (y:=.slice m.Ac m.nc m.cc) rfl;have p7:=TP.atv E HX.out 7 (y:=.int .i64 (f.book:Int)) rfl;have plt:=E.out.box.lt;go_upto_region 2 with fail
   clear p2 p6 p7 plt;have O1:=Jh (own_lits W1 [f.acc] (base:=w.heap.size+1) (by have:=E.out.box.lt;omega) (Nat.le_of_ble_eq_true rfl));replace E:=Jh (E.out.step ((Below.refl _ _).alloc (Nat.le_refl _) (.cells #[.string f.acc] 9)));change Hid (OwnP (World.alloc W1 (.cells #[.string f.acc] 9)) _ (.slice (some ⟨W1.heap.size,0,none⟩) 1 1) _) at O1;generalize hW:World.alloc W1 _=W2 at E O1 ⊢;clear hW;generalize Value.slice (some ⟨W1.heap.size,0,none⟩) 1 1=V1 at O1 ⊢;generalize hV:[f.acc]=L1 at O1;have HL1:=Jh hV;clear hV;have p2:=TP.atv E HX.out 4 (y:=.string f.acc) rfl;have p6:=TP.atv E HX.out 6 (y:=.slice m.Ac m.nc m.cc) rfl;have p7:=TP.atv E HX.out 7 (y:=.int .i64 (f.book:Int)) rfl;have plt:=E.out.box.lt;go_wp2_with fail;clear p2 p6 p7 plt;refine(CM.out E.out.bel).mono ?_;rintro e w4 ⟨rfl,hb⟩;replace O1:=Jh (O1.out.on hb);replace E:=Jh (E.out.step hb);clear hb;go_wp2_with fail;refine CQ.out.mono ?_;rintro e w5 ⟨rfl,hb⟩;replace O1:=Jh (O1.out.on hb);replace E:=Jh (E.out.step hb);clear hb;have hrw:w5.ownsRow (w.heap.size+1) 9 1 _ _ _:=O1.out;have hws:=E.out.box.lt;have hal:(L1.map bs9).length≤50000:=by rw[List.length_map];rw[← HL1.out];exact Nat.le_of_ble_eq_true rfl
   go_wp2_with (at_builtin;refine wpList_append_own _ rfl _ _ 35 rfl (w.heap.size+1) 9 i0 (.string ⟨#[]⟩) 1 16 Tryz.underlying35 hi0 hz0 hz1 hz2 zcells1 (by decide) _ _ _ rfl (hrw.alloc _) ⟨w5.heap.size,0,none⟩ 1 1 [.string Q] rfl rfl (txt_new Q _) (by intro u hu;simp at hu;subst hu;rfl) (by unfold maxLen;omega) (by omega) (by simp;omega) ?_;intro v9 w9 hown9 hgrow9 hnil9;replace E:=Jh ((E.out.step ((Below.refl _ _).alloc (Nat.le_refl _) (.cells #[.string Q] 9))).grown (L:=L1) (OwnP.on O1.out ((Below.refl _ _).alloc (Nat.le_refl _) _)) hgrow9);replace O1:=Jh (own_push (L:=L1) hown9));clear hrw hown9 hgrow9 hnil9 hws hal;generalize hV:(L1++[Q])=L3 at O1;have HL3:=Jh hV;clear hV;go_ret;have HE:Hid (L3=l):=by show _=_;rw[← HZ2.out,← HL3.out,← HL1.out]
   rw[HE.out] at O1;exact RtP.of O1.out E.out.bel
 ·have d1:decide (0<m.nc)=true:=decide_eq_true (by rw[HN.out];exact List.length_pos_iff.2 hc)
  have HC:=Jh hc;clear hc;by_cases hb0:f.book=0
  ·have d2:((f.book:Int) != 0)=false:=by rw[hb0];rfl
   have HZ2:Hid ([f.acc]++[J]=l):=by show _=_;rw[← HL.out,if_neg HC.out,if_pos hb0];rfl
   clear hb0;obtain⟨X,hX⟩:∃X,cD f m=X:=⟨_,rfl⟩;have HX:=Jh hX;rw[hX];clear hX;go_enter Tryz.func26,Tryz.ntmps26;go_upto_region 1 with fail
   have E:=Jh (TP.start w X);generalize hW:World.alloc w (.cells X 45)=W1 at E ⊢;clear hW;have p2:=TP.atv E HX.out 4 (y:=.string f.acc) rfl;have p6:=TP.atv E HX.out 6 (y:=.slice m.Ac m.nc m.cc) rfl;have p7:=TP.atv E HX.out 7 (y:=.int .i64 (f.book:Int)) rfl;have plt:=E.out.box.lt;go_upto_region 2 with fail
   clear p2 p6 p7 plt;have O1:=Jh (own_lits W1 [f.acc] (base:=w.heap.size+1) (by have:=E.out.box.lt;omega) (Nat.le_of_ble_eq_true rfl));replace E:=Jh (E.out.step ((Below.refl _ _).alloc (Nat.le_refl _) (.cells #[.string f.acc] 9)));change Hid (OwnP (World.alloc W1 (.cells #[.string f.acc] 9)) _ (.slice (some ⟨W1.heap.size,0,none⟩) 1 1) _) at O1;generalize hW:World.alloc W1 _=W2 at E O1 ⊢;clear hW;generalize Value.slice (some ⟨W1.heap.size,0,none⟩) 1 1=V1 at O1 ⊢;generalize hV:[f.acc]=L1 at O1;have HL1:=Jh hV;clear hV;have p2:=TP.atv E HX.out 4 (y:=.string f.acc) rfl;have p6:=TP.atv E HX.out 6 (y:=.slice m.Ac m.nc m.cc) rfl;have p7:=TP.atv E HX.out 7 (y:=.int .i64 (f.book:Int)) rfl;have plt:=E.out.box.lt;go_wp2_with fail;clear p2 p6 p7 plt;refine(CJ.out E.out.bel).mono ?_;rintro e w3 ⟨rfl,hb⟩;replace O1:=Jh (O1.out.on hb);replace E:=Jh (E.out.step hb);clear hb;have hrw:w3.ownsRow (w.heap.size+1) 9 1 _ _ _:=O1.out;have hws:=E.out.box.lt;have hal:(L1.map bs9).length≤50000:=by rw[List.length_map];rw[← HL1.out];exact Nat.le_of_ble_eq_true rfl
   go_wp2_with (at_builtin;refine wpList_append_own _ rfl _ _ 35 rfl (w.heap.size+1) 9 i0 (.string ⟨#[]⟩) 1 16 Tryz.underlying35 hi0 hz0 hz1 hz2 zcells1 (by decide) _ _ _ rfl (hrw.alloc _) ⟨w3.heap.size,0,none⟩ 1 1 [.string J] rfl rfl (txt_new J _) (by intro u hu;simp at hu;subst hu;rfl) (by unfold maxLen;omega) (by omega) (by simp;omega) ?_;intro v8 w8 hown9 hgrow9 hnil9;replace E:=Jh ((E.out.step ((Below.refl _ _).alloc (Nat.le_refl _) (.cells #[.string J] 9))).grown (L:=L1) (OwnP.on O1.out ((Below.refl _ _).alloc (Nat.le_refl _) _)) hgrow9);replace O1:=Jh (own_push (L:=L1) hown9);have p7:=TP.atv E HX.out 7 (y:=.int .i64 (f.book:Int)) rfl;have plt:=E.out.box.lt);clear hrw hown9 hgrow9 hnil9 hws hal;generalize hV:(L1++[J])=L2 at O1;have HL2:=Jh hV;clear hV;clear p7 plt;go_ret;have HE:Hid (L2=l):=by show _=_;rw[← HZ2.out,← HL2.out,← HL1.out]
   rw[HE.out] at O1;exact RtP.of O1.out E.out.bel
  ·have d2:((f.book:Int) != 0)=true:=by rw[bne_iff_ne];omega
   have HZ2:Hid (([f.acc]++[J])++[Q]=l):=by show _=_;rw[← HL.out,if_neg HC.out,if_neg hb0]
   clear hb0;obtain⟨X,hX⟩:∃X,cD f m=X:=⟨_,rfl⟩;have HX:=Jh hX;rw[hX];clear hX;go_enter Tryz.func26,Tryz.ntmps26;go_upto_region 1 with fail
   have E:=Jh (TP.start w X);generalize hW:World.alloc w (.cells X 45)=W1 at E ⊢;clear hW;have p2:=TP.atv E HX.out 4 (y:=.string f.acc) rfl;have p6:=TP.atv E HX.out 6 (y:=.slice m.Ac m.nc m.cc) rfl;have p7:=TP.atv E HX.out 7 (y:=.int .i64 (f.book:Int)) rfl;have plt:=E.out.box.lt;go_upto_region 2 with fail
   clear p2 p6 p7 plt;have O1:=Jh (own_lits W1 [f.acc] (base:=w.heap.size+1) (by have:=E.out.box.lt;omega) (Nat.le_of_ble_eq_true rfl));replace E:=Jh (E.out.step ((Below.refl _ _).alloc (Nat.le_refl _) (.cells #[.string f.acc] 9)));change Hid (OwnP (World.alloc W1 (.cells #[.string f.acc] 9)) _ (.slice (some ⟨W1.heap.size,0,none⟩) 1 1) _) at O1;generalize hW:World.alloc W1 _=W2 at E O1 ⊢;clear hW;generalize Value.slice (some ⟨W1.heap.size,0,none⟩) 1 1=V1 at O1 ⊢;generalize hV:[f.acc]=L1 at O1;have HL1:=Jh hV;clear hV;have p2:=TP.atv E HX.out 4 (y:=.string f.acc) rfl;have p6:=TP.atv E HX.out 6 (y:=.slice m.Ac m.nc m.cc) rfl;have p7:=TP.atv E HX.out 7 (y:=.int .i64 (f.book:Int)) rfl;have plt:=E.out.box.lt;go_wp2_with fail;clear p2 p6 p7 plt;refine(CJ.out E.out.bel).mono ?_;rintro e w3 ⟨rfl,hb⟩;replace O1:=Jh (O1.out.on hb);replace E:=Jh (E.out.step hb);clear hb;have hrw:w3.ownsRow (w.heap.size+1) 9 1 _ _ _:=O1.out;have hws:=E.out.box.lt;have hal:(L1.map bs9).length≤50000:=by rw[List.length_map];rw[← HL1.out];exact Nat.le_of_ble_eq_true rfl
   go_wp2_with (at_builtin;refine wpList_append_own _ rfl _ _ 35 rfl (w.heap.size+1) 9 i0 (.string ⟨#[]⟩) 1 16 Tryz.underlying35 hi0 hz0 hz1 hz2 zcells1 (by decide) _ _ _ rfl (hrw.alloc _) ⟨w3.heap.size,0,none⟩ 1 1 [.string J] rfl rfl (txt_new J _) (by intro u hu;simp at hu;subst hu;rfl) (by unfold maxLen;omega) (by omega) (by simp;omega) ?_;intro v8 w8 hown9 hgrow9 hnil9;replace E:=Jh ((E.out.step ((Below.refl _ _).alloc (Nat.le_refl _) (.cells #[.string J] 9))).grown (L:=L1) (OwnP.on O1.out ((Below.refl _ _).alloc (Nat.le_refl _) _)) hgrow9);replace O1:=Jh (own_push (L:=L1) hown9);have p7:=TP.atv E HX.out 7 (y:=.int .i64 (f.book:Int)) rfl;have plt:=E.out.box.lt);clear hrw hown9 hgrow9 hnil9 hws hal;generalize hV:(L1++[J])=L2 at O1;have HL2:=Jh hV;clear hV;clear p7 plt;refine(CM.out E.out.bel).mono ?_;rintro e w4 ⟨rfl,hb⟩;replace O1:=Jh (O1.out.on hb);replace E:=Jh (E.out.step hb);clear hb;go_wp2_with fail;refine CQ.out.mono ?_;rintro e w5 ⟨rfl,hb⟩;replace O1:=Jh (O1.out.on hb);replace E:=Jh (E.out.step hb);clear hb;have hrw:w5.ownsRow (w.heap.size+1) 9 1 _ _ _:=O1.out;have hws:=E.out.box.lt;have hal:(L2.map bs9).length≤50000:=by rw[List.length_map];rw[← HL2.out,← HL1.out];exact Nat.le_of_ble_eq_true rfl
   go_wp2_with (at_builtin;refine wpList_append_own _ rfl _ _ 35 rfl (w.heap.size+1) 9 i0 (.string ⟨#[]⟩) 1 16 Tryz.underlying35 hi0 hz0 hz1 hz2 zcells1 (by decide) _ _ _ rfl (hrw.alloc _) ⟨w5.heap.size,0,none⟩ 1 1 [.string Q] rfl rfl (txt_new Q _) (by intro u hu;simp at hu;subst hu;rfl) (by unfold maxLen;omega) (by omega) (by simp;omega) ?_;intro v9 w9 hown9 hgrow9 hnil9;replace E:=Jh ((E.out.step ((Below.refl _ _).alloc (Nat.le_refl _) (.cells #[.string Q] 9))).grown (L:=L2) (OwnP.on O1.out ((Below.refl _ _).alloc (Nat.le_refl _) _)) hgrow9);replace O1:=Jh (own_push (L:=L2) hown9));clear hrw hown9 hgrow9 hnil9 hws hal;generalize hV:(L2++[Q])=L3 at O1;have HL3:=Jh hV;clear hV;go_ret;have HE:Hid (L3=l):=by show _=_;rw[← HZ2.out,← HL3.out,← HL2.out,← HL1.out]
   rw[HE.out] at O1;exact RtP.of O1.out E.out.bel
theorem str_bs9'(s:ByteArray):str (bs9 s)=s:=bs9_inj (codes_str (bs9_lt s))
theorem balp_is{w:World}{f:FD}{m:DM}(hm:MD w f m){N1 N2:ByteArray}(h1:Num.txtD f.i f.k=bs9 N1)(h2:Num.txtD f.ti f.tk=bs9 N2)(hn:m.n≤1000)(hk:f.k≤6000)(hn2:m.nt≤1000)(hk2:f.tk≤6000){l:List ByteArray}(hl:(([f.acc,N1]++(if f.hasTol=true then [⟨#[126]⟩,N2] else []))++[f.cur])=l):Calls Tryz.prog 29 #[.agg (cD f m)] w (RtP w l):=by
 have TX:Hid (∀{W:World},Below w.heap.size w W→Calls Tryz.prog 53 #[.agg #[.bool (ngB f.i),.slice m.A m.n m.c,.int .i64 (f.k:Int)]] W (RetVal W (.string N1))):=fun hb=>dtext_is (hm.num.on hb) hn hk (by rw[h1];exact str_bs9' N1)
 have TY:Hid (∀{W:World},Below w.heap.size w W→Calls Tryz.prog 53 #[.agg #[.bool (ngB f.ti),.slice m.At m.nt m.ct,.int .i64 (f.tk:Int)]] W (RetVal W (.string N2))):=fun hb=>dtext_is (hm.tol.on hb) hn2 hk2 (by rw[h2];exact str_bs9' N2)
 obtain⟨i0,hi0,hz0,hz1,hz2⟩:=info_parts11 info_txt;have HL:=Jh hl;clear hm h1 h2 hn hk hn2 hk2 hl;cases ht:f.hasTol with
 | true=>
  have HT:Hid ((cD f m)[12]?=some (.bool true)):=by show some (Value.bool f.hasTol)=_;rw[ht]
  have HZ2:Hid (([f.acc,N1]++[⟨#[126]⟩,N2])++[f.cur]=l):=by show _=_;rw[← HL.out,if_pos ht]
  clear ht;obtain⟨X,hX⟩:∃X,cD f m=X:=⟨_,rfl⟩;have HX:=Jh hX;rw[hX];clear hX;go_enter Tryz.func29,Tryz.ntmps29;go_upto_region 1 with fail
  have E:=Jh (TP.start w X);generalize hW:World.alloc w (.cells X 45)=W1 at E ⊢;clear hW;replace E:=Jh (E.out.step (Below.refl _ _).drew);have p4:=TP.atv E HX.out 4 (y:=.string f.acc) rfl;have p8:=TP.atv E HX.out 8 (y:=.bool (ngB f.i)) rfl;have p9:=TP.atv E HX.out 9 (y:=.slice m.A m.n m.c) rfl;have p10:=TP.atv E HX.out 10 (y:=.int .i64 (f.k:Int)) rfl;have plt:=E.out.box.lt;go_region_with (go_at_call 53;refine(TX.out E.out.bel).mono ?_;rintro e w5 ⟨rfl,hb⟩;replace E:=Jh (E.out.step hb);clear hb p4 p8 p9 p10 plt;have p4:=TP.atv E HX.out 4 (y:=.string f.acc) rfl;have p8:=TP.atv E HX.out 8 (y:=.bool (ngB f.i)) rfl;have p9:=TP.atv E HX.out 9 (y:=.slice m.A m.n m.c) rfl;have p10:=TP.atv E HX.out 10 (y:=.int .i64 (f.k:Int)) rfl;have plt:=E.out.box.lt)
  all_goals
   clear p4 p8 p9 p10 plt;have O1:=Jh (own_lits w5 [f.acc,N1] (base:=w.heap.size+1) (by have:=E.out.box.lt;omega) (Nat.le_of_ble_eq_true rfl));replace E:=Jh (E.out.step ((Below.refl _ _).alloc (Nat.le_refl _) (.cells #[.string f.acc,.string N1] 9)));change Hid (OwnP (World.alloc w5 (.cells #[.string f.acc,.string N1] 9)) _ (.slice (some ⟨w5.heap.size,0,none⟩) 2 2) _) at O1;generalize hW:World.alloc w5 _=W2 at E O1 ⊢;clear hW;generalize Value.slice (some ⟨w5.heap.size,0,none⟩) 2 2=V1 at O1 ⊢;generalize hV:[f.acc,N1]=L1 at O1;have HL1:=Jh hV;clear hV;have p12:=TP.atv E HX.out 12 HT.out;have p13:=TP.atv E HX.out 13 (y:=.bool (ngB f.ti)) rfl;have p14:=TP.atv E HX.out 14 (y:=.slice m.At m.nt m.ct) rfl;have p15:=TP.atv E HX.out 15 (y:=.int .i64 (f.tk:Int)) rfl;have plt:=E.out.box.lt;go_wp2_with fail;clear p12 p13 p14 p15 plt;refine(TY.out E.out.bel).mono ?_;rintro e w6 ⟨rfl,hb⟩;replace O1:=Jh (O1.out.on hb);replace E:=Jh (E.out.step hb);clear hb;have hrw:w6.ownsRow (w.heap.size+1) 9 1 _ _ _:=O1.out;have hws:=E.out.box.lt;have hal:(L1.map bs9).length≤5000:=by rw[List.length_map,← HL1.out];exact Nat.le_of_ble_eq_true rfl
   go_wp2_with (first|(at_builtin;refine wpList_append_own _ rfl _ _ 35 rfl (w.heap.size+1) 9 i0 (.string ⟨#[]⟩) 1 16 Tryz.underlying35 hi0 hz0 hz1 hz2 zcells1 (by decide) _ _ _ rfl (hrw.alloc _) ⟨w6.heap.size,0,none⟩ 2 2 [.string ⟨#[126]⟩,.string N2] rfl rfl (txt_new2 _ ⟨#[126]⟩ N2 _) (by intro u hu;simp at hu;rcases hu with rfl|rfl<;>rfl) (by unfold maxLen;omega) (by omega) (by simp;omega) ?_;intro v8 w8 hown8 hgrow8 hnil8;replace E:=Jh ((E.out.step ((Below.refl _ _).alloc (Nat.le_refl _) (.cells #[.string ⟨#[126]⟩,.string N2] 9))).grown (L:=L1) (OwnP.on O1.out ((Below.refl _ _).alloc (Nat.le_refl _) _)) hgrow8);replace O1:=Jh (own_push2 (L:=L1) hown8);have p11:=TP.atv E HX.out 11 (y:=.string f.cur) rfl;have plt:=E.out.box.lt;have hrw2:w8.ownsRow (w.heap.size+1) 9 1 _ _ _:=O1.out;have hws2:=E.out.box.lt;have hal2:((L1++[⟨#[126]⟩,N2]).map bs9).length≤5000:=by rw[List.length_map,← HL1.out];exact Nat.le_of_ble_eq_true rfl)|(at_builtin;refine wpList_append_own _ rfl _ _ 35 rfl (w.heap.size+1) 9 i0 (.string ⟨#[]⟩) 1 16 Tryz.underlying35 hi0 hz0 hz1 hz2 zcells1 (by decide) _ _ _ rfl (hrw2.alloc _) ⟨w8.heap.size,0,none⟩ 1 1 [.string f.cur] rfl rfl (txt_new f.cur _) (by intro u hu;simp at hu;subst hu;rfl) (by unfold maxLen;omega) (by omega) (by simp;omega) ?_;intro v9 w9 hown9 hgrow9 hnil9;replace E:=Jh ((E.out.step ((Below.refl _ _).alloc (Nat.le_refl _) (.cells #[.string f.cur] 9))).grown (L:=(L1++[⟨#[126]⟩,N2])) (OwnP.on O1.out ((Below.refl _ _).alloc (Nat.le_refl _) _)) hgrow9);replace O1:=Jh (own_push (L:=(L1++[⟨#[126]⟩,N2])) hown9)));generalize hV:(L1++[⟨#[126]⟩,N2])++[f.cur]=L3 at O1;have HL3:=Jh hV;clear hV;go_ret;have HE:Hid (L3=l):=by show _=_;rw[← HZ2.out,← HL3.out,← HL1.out]
   rw[HE.out] at O1;exact RtP.of O1.out E.out.bel
 | false=>
  have HT:Hid ((cD f m)[12]?=some (.bool false)):=by show some (Value.bool f.hasTol)=_;rw[ht]
  have HZ2:Hid ([f.acc,N1]++[f.cur]=l):=by show _=_;rw[← HL.out,if_neg (by rw[ht];decide)];rfl
  clear ht;obtain⟨X,hX⟩:∃X,cD f m=X:=⟨_,rfl⟩;have HX:=Jh hX;rw[hX];clear hX;go_enter Tryz.func29,Tryz.ntmps29;go_upto_region 1 with fail
  have E:=Jh (TP.start w X);generalize hW:World.alloc w (.cells X 45)=W1 at E ⊢;clear hW;replace E:=Jh (E.out.step (Below.refl _ _).drew);have p4:=TP.atv E HX.out 4 (y:=.string f.acc) rfl;have p8:=TP.atv E HX.out 8 (y:=.bool (ngB f.i)) rfl;have p9:=TP.atv E HX.out 9 (y:=.slice m.A m.n m.c) rfl;have p10:=TP.atv E HX.out 10 (y:=.int .i64 (f.k:Int)) rfl;have plt:=E.out.box.lt;go_region_with (go_at_call 53;refine(TX.out E.out.bel).mono ?_;rintro e w5 ⟨rfl,hb⟩;replace E:=Jh (E.out.step hb);clear hb p4 p8 p9 p10 plt;have p4:=TP.atv E HX.out 4 (y:=.string f.acc) rfl;have p8:=TP.atv E HX.out 8 (y:=.bool (ngB f.i)) rfl;have p9:=TP.atv E HX.out 9 (y:=.slice m.A m.n m.c) rfl;have p10:=TP.atv E HX.out 10 (y:=.int .i64 (f.k:Int)) rfl;have plt:=E.out.box.lt)
  all_goals
   clear p4 p8 p9 p10 plt;have O1:=Jh (own_lits w5 [f.acc,N1] (base:=w.heap.size+1) (by have:=E.out.box.lt;omega) (Nat.le_of_ble_eq_true rfl));replace E:=Jh (E.out.step ((Below.refl _ _).alloc (Nat.le_refl _) (.cells #[.string f.acc,.string N1] 9)));change Hid (OwnP (World.alloc w5 (.cells #[.string f.acc,.string N1] 9)) _ (.slice (some ⟨w5.heap.size,0,none⟩) 2 2) _) at O1;generalize hW:World.alloc w5 _=W2 at E O1 ⊢;clear hW;generalize Value.slice (some ⟨w5.heap.size,0,none⟩) 2 2=V1 at O1 ⊢;generalize hV:[f.acc,N1]=L1 at O1;have HL1:=Jh hV;clear hV;have p12:=TP.atv E HX.out 12 HT.out;have p11:=TP.atv E HX.out 11 (y:=.string f.cur) rfl;have plt:=E.out.box.lt;have hrw:W2.ownsRow (w.heap.size+1) 9 1 _ _ _:=O1.out;have hws:=E.out.box.lt;have hal:(L1.map bs9).length≤50000:=by rw[List.length_map];rw[← HL1.out];exact Nat.le_of_ble_eq_true rfl
   go_wp2_with (at_builtin;refine wpList_append_own _ rfl _ _ 35 rfl (w.heap.size+1) 9 i0 (.string ⟨#[]⟩) 1 16 Tryz.underlying35 hi0 hz0 hz1 hz2 zcells1 (by decide) _ _ _ rfl (hrw.alloc _) ⟨W2.heap.size,0,none⟩ 1 1 [.string f.cur] rfl rfl (txt_new f.cur _) (by intro u hu;simp at hu;subst hu;rfl) (by unfold maxLen;omega) (by omega) (by simp;omega) ?_;intro v9 w9 hown9 hgrow9 hnil9;replace E:=Jh ((E.out.step ((Below.refl _ _).alloc (Nat.le_refl _) (.cells #[.string f.cur] 9))).grown (L:=L1) (OwnP.on O1.out ((Below.refl _ _).alloc (Nat.le_refl _) _)) hgrow9);replace O1:=Jh (own_push (L:=L1) hown9));clear hrw hown9 hgrow9 hnil9 hws hal;generalize hV:(L1++[f.cur])=L3 at O1;have HL3:=Jh hV;clear hV;go_ret;have HE:Hid (L3=l):=by show _=_;rw[← HZ2.out,← HL3.out,← HL1.out]
   rw[HE.out] at O1;exact RtP.of O1.out E.out.bel
def mkT(k:Nat)(s:ByteArray):ByteArray:=st9 (YthpmaoimceojgaaGreatDoor.txt k (bs9 s))
theorem mkT_is{k:Nat}(hk:k=6∨k=7)(s:ByteArray):YthpmaoimceojgaaGreatDoor.txt k (bs9 s)=bs9 (mkT k s):=(bs9_st9 (by
 rcases hk with rfl|rfl
 ·intro c hc
  rcases List.mem_cons.1 hc with rfl|hc
  ·decide
  ·exact bs9_lt s c hc
 ·intro c hc
  rcases List.mem_cons.1 hc with rfl|hc
  ·decide
  ·exact bs9_lt s c hc)).symm
theorem mkT_step(L:List ByteArray){l:List ByteArray}{k j:Nat}{s:ByteArray}(h:l[j]?=some s):L++(l.take j).map (mkT k)++[mkT k s]=L++(l.take (j+1)).map (mkT k):=by
 rw[List.take_add_one,h,List.append_assoc,List.map_append];rfl
theorem mkT_more(L:List ByteArray){l:List ByteArray}{k j n:Nat}(hL:L.length≤n)(hl:l.length≤5000):(L++(l.take j).map (mkT k)).length≤n+5000:=by
 rw[List.length_append,List.length_map,List.length_take];omega
theorem own_all{w:World}{base k n:Nat}{v:Value}{L l:List ByteArray}(h:OwnP w base v ((L++(l.take n).map (mkT k)).map bs9))(hn:n=l.length):OwnP w base v ((L++l.map (mkT k)).map bs9):=by rw[List.take_of_length_le (by omega)] at h;exact h
theorem txnp_is{w:World}{f:FD}{m:DM}(hm:MD w f m){QP QN:ByteArray}(hQP:qt (bs9 f.pay)=bs9 QP)(hQN:qt (bs9 f.nar)=bs9 QN)(hp:f.pay.size≤6000)(hq:f.nar.size≤6000)(hts:∀s∈f.tags,s.size≤6000)(hks:∀s∈f.links,s.size≤6000)(htl:f.tags.length≤5000)(hkl:f.links.length≤5000){l:List ByteArray}(hl:((((if bs9 f.pay=[] then [] else [QP])++[QN])++f.tags.map (mkT 6))++f.links.map (mkT 7))=l):Calls Tryz.prog 30 #[.agg (cD f m)] w (RtP w l):=by
 have CP:Hid (∀{W:World},Calls Tryz.prog 24 #[.string f.pay] W (Ret9 W (.string QP))):=fun {W}=>lexquote_is hQP hp W
 have CN:Hid (∀{W:World},Calls Tryz.prog 24 #[.string f.nar] W (Ret9 W (.string QN))):=fun {W}=>lexquote_is hQN hq W
 have CT:Hid (∀{W:World}{s:ByteArray},s∈f.tags→Calls Tryz.prog 54 #[.agg #[.int .i64 6,.string s,.int .i64 0,.int .i64 0]] W (Ret9 W (.string (mkT 6 s)))):=fun {W s} h=>lextxt_is (k:=6) (mkT_is (.inl rfl) s) (hts s h) 0 0 W
 have CK:Hid (∀{W:World}{s:ByteArray},s∈f.links→Calls Tryz.prog 54 #[.agg #[.int .i64 7,.string s,.int .i64 0,.int .i64 0]] W (Ret9 W (.string (mkT 7 s)))):=fun {W s} h=>lextxt_is (k:=7) (mkT_is (.inr rfl) s) (hks s h) 0 0 W
 have hnt:=rdP_len hm.tag;have hnk:=rdP_len hm.lnk;have RT:Hid (∀{W:World}{k:Nat}{s:ByteArray},Below w.heap.size w W→f.tags[k]?=some s→∃b o,m.Ag=some ⟨b,o,none⟩∧W.cell? ⟨b,o+k,none⟩=some (.string s)):=fun {W k s} hb hs=>by
  have hlt:=(List.getElem?_eq_some_iff.1 hs).1;obtain⟨b,o,hA,hbb,hc⟩:=rdP_at hm.tag (by omega);exact⟨b,o,hA,(hb.cell (p:=⟨b,o+k,none⟩) hbb).trans (hc k s hs)⟩
 have RK:Hid (∀{W:World}{k:Nat}{s:ByteArray},Below w.heap.size w W→f.links[k]?=some s→∃b o,m.Al=some ⟨b,o,none⟩∧W.cell? ⟨b,o+k,none⟩=some (.string s)):=fun {W k s} hb hs=>by
  have hlt:=(List.getElem?_eq_some_iff.1 hs).1;obtain⟨b,o,hA,hbb,hc⟩:=rdP_at hm.lnk (by omega);exact⟨b,o,hA,(hb.cell (p:=⟨b,o+k,none⟩) hbb).trans (hc k s hs)⟩
 have BT:Hid (m.ng≤m.cg∧m.cg≤maxLen):=⟨hm.tag.2.1,hm.tag.2.2.1⟩;have BK:Hid (m.nl≤m.cl∧m.cl≤maxLen):=⟨hm.lnk.2.1,hm.lnk.2.2.1⟩;obtain⟨i0,hi0,hz0,hz1,hz2⟩:=info_parts11 info_txt;have HL:=Jh hl;have NT:=Jh hnt;have NK:=Jh hnk;have ZT:=Jh htl;have ZK:=Jh hkl;clear hm hQP hQN hp hq hts hks htl hkl hl hnt hnk;rcases Classical.em (bs9 f.pay=[]) with hpz|hpz
 obtain⟨u1,u2⟩:=emp_facts hpz;have HPZ:=Jh hpz;clear hpz;obtain⟨X,hX⟩:∃X,cD f m=X:=⟨_,rfl⟩;have HX:=Jh hX;rw[hX];clear hX;go_enter Tryz.func30,Tryz.ntmps30;go_upto_region 1 with fail
 have E:=Jh (TP.start w X);generalize hW:World.alloc w (.cells X 45)=W1 at E ⊢;clear hW;have O1:Hid (OwnP W1 (w.heap.size+1) (.slice none 0 0) (([]:List ByteArray).map bs9)):=OwnP.start _ _;generalize hV:([]:List ByteArray)=L1 at O1;have HL1:=Jh hV;clear hV;have p17:=TP.atv E HX.out 17 (y:=.string f.pay) rfl;have p18:=TP.atv E HX.out 18 (y:=.string f.nar) rfl;have plt:=E.out.box.lt;have HP:Hid (L1++[QN]++f.tags.map (mkT 6)++f.links.map (mkT 7)=l):=by show _=_;rw[← HL.out,if_pos HPZ.out,← HL1.out]
 go_wp2_with fail;clear p17 p18 plt;have C2:Hid (L1.length≤1):=by show _≤1;rw[← HL1.out];exact Nat.zero_le _
 clear HL1;obtain⟨L2,hV⟩:∃L2,L1=L2:=⟨_,rfl⟩;rw[hV] at O1 HP C2;clear hV;rotate_left
 obtain⟨u1,u2⟩:=emp_nots hpz;have HPZ:=Jh hpz;clear hpz;obtain⟨X,hX⟩:∃X,cD f m=X:=⟨_,rfl⟩;have HX:=Jh hX;rw[hX];clear hX;go_enter Tryz.func30,Tryz.ntmps30;go_upto_region 1 with fail
 have E:=Jh (TP.start w X);generalize hW:World.alloc w (.cells X 45)=W1 at E ⊢;clear hW;have O1:Hid (OwnP W1 (w.heap.size+1) (.slice none 0 0) (([]:List ByteArray).map bs9)):=OwnP.start _ _;generalize hV:([]:List ByteArray)=L1 at O1;have HL1:=Jh hV;clear hV;have p17:=TP.atv E HX.out 17 (y:=.string f.pay) rfl;have p18:=TP.atv E HX.out 18 (y:=.string f.nar) rfl;have plt:=E.out.box.lt;have HP:Hid ((L1++[QP])++[QN]++f.tags.map (mkT 6)++f.links.map (mkT 7)=l):=by show _=_;rw[← HL.out,if_neg HPZ.out,← HL1.out];rfl
 go_wp2_with fail;clear p17 p18 plt;refine CP.out.mono ?_;rintro e w4 ⟨rfl,hb⟩;replace O1:=Jh (O1.out.on hb);replace E:=Jh (E.out.step hb);clear hb;have hrw:w4.ownsRow (w.heap.size+1) 9 1 _ _ _:=O1.out;have hws:=E.out.box.lt;have hal:(L1.map bs9).length≤50000:=by rw[List.length_map];rw[← HL1.out];exact Nat.le_of_ble_eq_true rfl
 go_wp2_with (at_builtin;refine wpList_append_own _ rfl _ _ 35 rfl (w.heap.size+1) 9 i0 (.string ⟨#[]⟩) 1 16 Tryz.underlying35 hi0 hz0 hz1 hz2 zcells1 (by decide) _ _ _ rfl (hrw.alloc _) ⟨w4.heap.size,0,none⟩ 1 1 [.string QP] rfl rfl (txt_new QP _) (by intro u hu;simp at hu;subst hu;rfl) (by unfold maxLen;omega) (by omega) (by simp;omega) ?_;intro v8 w8 hown9 hgrow9 hnil9;replace E:=Jh ((E.out.step ((Below.refl _ _).alloc (Nat.le_refl _) (.cells #[.string QP] 9))).grown (L:=L1) (OwnP.on O1.out ((Below.refl _ _).alloc (Nat.le_refl _) _)) hgrow9);replace O1:=Jh (own_push (L:=L1) hown9);have p18:=TP.atv E HX.out 18 (y:=.string f.nar) rfl;have plt:=E.out.box.lt);clear hrw hown9 hgrow9 hnil9 hws hal;clear p18 plt;have C2:Hid ((L1++[QP]).length≤1):=by show _≤1;rw[← HL1.out];exact Nat.le_refl _
 clear HL1;obtain⟨L2,hV⟩:∃L2,L1++[QP]=L2:=⟨_,rfl⟩;rw[hV] at O1 HP C2;clear hV;all_goals
  refine CN.out.mono ?_;rintro e w5 ⟨rfl,hb⟩;replace O1:=Jh (O1.out.on hb);replace E:=Jh (E.out.step hb);clear hb;have hrw:w5.ownsRow (w.heap.size+1) 9 1 _ _ _:=O1.out;have hws:=E.out.box.lt;have hal:(L2.map bs9).length≤50000:=by rw[List.length_map];have:=C2.out;omega
  go_wp2_with (at_builtin;refine wpList_append_own _ rfl _ _ 35 rfl (w.heap.size+1) 9 i0 (.string ⟨#[]⟩) 1 16 Tryz.underlying35 hi0 hz0 hz1 hz2 zcells1 (by decide) _ _ _ rfl (hrw.alloc _) ⟨w5.heap.size,0,none⟩ 1 1 [.string QN] rfl rfl (txt_new QN _) (by intro u hu;simp at hu;subst hu;rfl) (by unfold maxLen;omega) (by omega) (by simp;omega) ?_;intro v7 w7 hown9 hgrow9 hnil9;replace E:=Jh ((E.out.step ((Below.refl _ _).alloc (Nat.le_refl _) (.cells #[.string QN] 9))).grown (L:=L2) (OwnP.on O1.out ((Below.refl _ _).alloc (Nat.le_refl _) _)) hgrow9);replace O1:=Jh (own_push (L:=L2) hown9);have p19:=TP.atv E HX.out 19 (y:=.slice m.Ag m.ng m.cg) rfl;have plt:=E.out.box.lt);clear hrw hown9 hgrow9 hnil9 hws hal;generalize hV:(L2++[QN])=L3 at O1;have HL3:=Jh hV;clear hV;clear p19 plt;have C3:Hid (L3.length≤2):=by show _≤2;rw[← HL3.out,List.length_append];exact Nat.add_le_add C2.out (Nat.le_refl 1)
  go_loopw [3,26] (fun v iv wr=>∃k:Nat,k≤m.ng∧iv=.int .i64 k∧TP w wr X∧OwnP wr (w.heap.size+1) v ((L3++(f.tags.take k).map (mkT 6)).map bs9)) (fun _ iv _=>m.ng-(intOf iv).toNat)
  case atStart=>exact⟨0,Nat.zero_le _,rfl,E.out,by rw[List.take_zero,List.map_nil,List.append_nil];exact O1.out⟩
  case round=>
   obtain⟨k,hk,rfl,hE,hO⟩:=hrel;replace E:=Jh hE;replace O1:=Jh hO;clear hE hO;by_cases hkn:k<m.ng
   ·obtain⟨s,hs⟩:∃s,f.tags[k]?=some s:=⟨_,List.getElem?_eq_getElem (by have:=NT.out;omega)⟩
    obtain⟨b,o,hA,q1⟩:=RT.out E.out.bel hs;have d1:decide (k<m.ng)=true:=decide_eq_true hkn;have d2:decide (m.ng≤k)=false:=decide_eq_false (by omega);have d4:(0:Int)≤(k:Int):=by omega
    have d5:(k:Int)<(m.ng:Int):=by omega
    have HM:Hid (s∈f.tags):=List.mem_of_getElem? hs;have HS:=Jh (mkT_step (k:=6) L3 hs);have hbb:=BT.out;unfold maxLen at hbb;rw[hA];clear hs;go_wp2_with fail;refine(CT.out HM.out).mono ?_;rintro e w4 ⟨rfl,hb⟩;replace O1:=Jh (O1.out.on hb);replace E:=Jh (E.out.step hb);clear hb q1;have hrw:w4.ownsRow (w.heap.size+1) 9 1 _ _ _:=O1.out;have hws:=E.out.box.lt;have hal:((L3++(f.tags.take k).map (mkT 6)).map bs9).length≤50000:=by rw[List.length_map];exact Nat.le_trans (mkT_more L3 C3.out ZT.out) (by decide)
    go_wp2_with (at_builtin;refine wpList_append_own _ rfl _ _ 35 rfl (w.heap.size+1) 9 i0 (.string ⟨#[]⟩) 1 16 Tryz.underlying35 hi0 hz0 hz1 hz2 zcells1 (by decide) _ _ _ rfl (hrw.alloc _) ⟨w4.heap.size,0,none⟩ 1 1 [.string (mkT 6 s)] rfl rfl (txt_new (mkT 6 s) _) (by intro u hu;simp at hu;subst hu;rfl) (by unfold maxLen;omega) (by omega) (by simp;omega) ?_;intro v9 w9 hown9 hgrow9 hnil9;replace E:=Jh ((E.out.step ((Below.refl _ _).alloc (Nat.le_refl _) (.cells #[.string (mkT 6 s)] 9))).grown (L:=(L3++(f.tags.take k).map (mkT 6))) (OwnP.on O1.out ((Below.refl _ _).alloc (Nat.le_refl _) _)) hgrow9);replace O1:=Jh (own_push (L:=(L3++(f.tags.take k).map (mkT 6))) hown9));clear hrw hown9 hgrow9 hnil9 hws hal;go_roundw
    case rel=>exact⟨k+1,by omega,by go_num,E.out,by rw[← HS.out];exact O1.out⟩
    case measure=>simp[intOf];omega
   ·obtain rfl:k=m.ng:=by omega
    have d1:decide (m.ng<m.ng)=false:=decide_eq_false (Nat.lt_irrefl _);replace O1:=Jh (own_all (k:=6) O1.out NT.out);generalize hV:L3++f.tags.map (mkT 6)=L4 at O1;have HL4:=Jh hV;clear hV;have C4:Hid (L4.length≤5002):=by show _≤_;rw[← HL4.out,List.length_append,List.length_map];have:=C3.out;have:=ZT.out;omega
    have p20:=TP.atv E HX.out 20 (y:=.slice m.Al m.nl m.cl) rfl;have plt:=E.out.box.lt;go_wp2_with fail;clear p20 plt;go_loopw [3,40] (fun v iv wr=>∃k:Nat,k≤m.nl∧iv=.int .i64 k∧TP w wr X∧OwnP wr (w.heap.size+1) v ((L4++(f.links.take k).map (mkT 7)).map bs9)) (fun _ iv _=>m.nl-(intOf iv).toNat)
    case atStart=>exact⟨0,Nat.zero_le _,rfl,E.out,by rw[List.take_zero,List.map_nil,List.append_nil];exact O1.out⟩
    case round=>
     obtain⟨k,hk,rfl,hE,hO⟩:=hrel;replace E:=Jh hE;replace O1:=Jh hO;clear hE hO;by_cases hkn:k<m.nl
     ·obtain⟨s,hs⟩:∃s,f.links[k]?=some s:=⟨_,List.getElem?_eq_getElem (by have:=NK.out;omega)⟩
      obtain⟨b,o,hA,q1⟩:=RK.out E.out.bel hs;have d1:decide (k<m.nl)=true:=decide_eq_true hkn;have d2:decide (m.nl≤k)=false:=decide_eq_false (by omega);have d4:(0:Int)≤(k:Int):=by omega
      have d5:(k:Int)<(m.nl:Int):=by omega
      have HM:Hid (s∈f.links):=List.mem_of_getElem? hs;have HS:=Jh (mkT_step (k:=7) L4 hs);have hbb:=BK.out;unfold maxLen at hbb;rw[hA];clear hs;go_wp2_with fail;refine(CK.out HM.out).mono ?_;rintro e w4 ⟨rfl,hb⟩;replace O1:=Jh (O1.out.on hb);replace E:=Jh (E.out.step hb);clear hb q1;have hrw:w4.ownsRow (w.heap.size+1) 9 1 _ _ _:=O1.out;have hws:=E.out.box.lt;have hal:((L4++(f.links.take k).map (mkT 7)).map bs9).length≤50000:=by rw[List.length_map];exact Nat.le_trans (mkT_more L4 C4.out ZK.out) (by decide)
      go_wp2_with (at_builtin;refine wpList_append_own _ rfl _ _ 35 rfl (w.heap.size+1) 9 i0 (.string ⟨#[]⟩) 1 16 Tryz.underlying35 hi0 hz0 hz1 hz2 zcells1 (by decide) _ _ _ rfl (hrw.alloc _) ⟨w4.heap.size,0,none⟩ 1 1 [.string (mkT 7 s)] rfl rfl (txt_new (mkT 7 s) _) (by intro u hu;simp at hu;subst hu;rfl) (by unfold maxLen;omega) (by omega) (by simp;omega) ?_;intro v9 w9 hown9 hgrow9 hnil9;replace E:=Jh ((E.out.step ((Below.refl _ _).alloc (Nat.le_refl _) (.cells #[.string (mkT 7 s)] 9))).grown (L:=(L4++(f.links.take k).map (mkT 7))) (OwnP.on O1.out ((Below.refl _ _).alloc (Nat.le_refl _) _)) hgrow9);replace O1:=Jh (own_push (L:=(L4++(f.links.take k).map (mkT 7))) hown9));clear hrw hown9 hgrow9 hnil9 hws hal;go_roundw
      case rel=>exact⟨k+1,by omega,by go_num,E.out,by rw[← HS.out];exact O1.out⟩
      case measure=>simp[intOf];omega
     ·obtain rfl:k=m.nl:=by omega
      have d1:decide (m.nl<m.nl)=false:=decide_eq_false (Nat.lt_irrefl _);replace O1:=Jh (own_all (k:=7) O1.out NK.out);go_wp2_with fail;go_ret;have HE:Hid (L4++f.links.map (mkT 7)=l):=by show _=_;rw[← HL4.out,← HL3.out];exact HP.out
      rw[HE.out] at O1;exact RtP.of O1.out E.out.bel
theorem cell_at{w:World}{g:Nat}{X:Array Value}{t:TypeId}{f:FD}{m:DM}(h:Bk w g X t)(hX:cD f m=X)(j:Nat){y:Value}(hy:(cD f m)[j]?=some y):w.cell? ⟨g,j,none⟩=some y:=by rw[hX] at hy;exact(h.cell j).trans hy
theorem text_opt{w:World}{f:FD}{m:DM}{X:Array Value}{T:ByteArray}{l:List ByteArray}{Q1 Q2:ByteArray}(hX:cD f m=X)(hk:f.kind=9)(C1:Hid (∀{W:World},Calls Tryz.prog 24 #[.string f.name] W (Ret9 W (.string Q1))))(C2:Hid (∀{W:World},Calls Tryz.prog 24 #[.string f.text] W (Ret9 W (.string Q2))))(CL:Hid (∀{W:World}{A:Option Addr}{n c:Nat},Below w.heap.size w W→RdP W A n c (l.map bs9)→Calls Tryz.prog 23 #[.slice A n c] W (Ret9 W (.string T))))(hl:[⟨#[111,112,116,105,111,110]⟩,Q1,Q2]=l):Calls Tryz.prog 10 #[.agg X] w (Ret9 w (.string T)):=by
 subst hl;have HX:=Jh hX;have HS:Hid (X.size=27):=by rw[← hX];rfl
 have HK:Hid ((cD f m)[0]?=some (.int .i64 9)):=by show some (Value.int .i64 (f.kind:Int))=_;rw[hk];rfl
 clear hX hk;go_enter Tryz.func10,Tryz.ntmps10;go_upto_region 1 with fail
 have E:=Jh (TP.start w X);generalize hW:World.alloc w (.cells X 45)=W1 at E ⊢;clear hW;have p0:=TP.atv E HX.out 0 HK.out;have plt:=E.out.box.lt;go_upto_region 3 with fail
 clear p0 plt;replace E:=Jh (E.out.step (Below.refl _ _).drew);refine wp_region_held_drew (S:=fun v=>Bk v w.heap.size X 45) (by kernel_rfl) E.out.box (fun _=>?_);generalize World.drew W1=v0 at E ⊢;refine wpAnyH_take (i:=0) (v:=(.pointer (some ⟨w.heap.size,23,none⟩))) rfl (by kernel_rfl) (by kernel_rfl) (by kernel_rfl) (fun _ _ _ h=>h) (Or.inl ⟨by rfl,fun w9 _=>by go_simp⟩) E.out.box ?_;refine wpAnyH_take (i:=1) (v:=(.string f.name)) rfl (by kernel_rfl) (by kernel_rfl) (by kernel_rfl) (fun _ _ _ h=>h) (Or.inl ⟨by rfl,fun w9 hS=>by have p23:=cell_at hS HX.out 23 (y:=.string f.name) rfl;have plt:=Bk.lt hS;go_simp⟩) E.out.box ?_;refine wpAnyH_take (i:=3) (v:=(.pointer (some ⟨w.heap.size,24,none⟩))) rfl (by kernel_rfl) (by kernel_rfl) (by kernel_rfl) (fun _ _ _ h=>h) (Or.inl ⟨by rfl,fun w9 _=>by go_simp⟩) E.out.box ?_;refine wpAnyH_take (i:=4) (v:=(.string f.text)) rfl (by kernel_rfl) (by kernel_rfl) (by kernel_rfl) (fun _ _ _ h=>h) (Or.inl ⟨by rfl,fun w9 hS=>by have p24:=cell_at hS HX.out 24 (y:=.string f.text) rfl;have plt:=Bk.lt hS;go_simp⟩) E.out.box ?_;refine wpAnyH_ready (rs:=[2]) (by kernel_rfl) (by simp) ?_;refine AllReadyH.cons rfl (fun K hK=>?_) AllReadyH.nil;go_simp;refine(C1.out).mono ?_;rintro e v1 ⟨rfl,hb⟩;replace E:=Jh (E.out.step hb);clear hb;refine hK.out _ _ E.out.box (fun _=>?_);clear hK K;refine wpAnyH_ready (rs:=[5]) (by kernel_rfl) (by simp) ?_;refine AllReadyH.cons rfl (fun K hK=>?_) AllReadyH.nil;go_simp;refine(C2.out).mono ?_;rintro e v2 ⟨rfl,hb⟩;replace E:=Jh (E.out.step hb);clear hb;refine hK.out _ _ E.out.box (fun _=>?_);clear hK K;refine wpAnyH_ready (rs:=[6]) (by kernel_rfl) (by simp) ?_;refine AllReadyH.cons rfl (fun K hK=>?_) AllReadyH.nil;have R:=Jh (rdP_new v2 [⟨#[111,112,116,105,111,110]⟩,Q1,Q2] (Nat.le_of_ble_eq_true rfl));replace E:=Jh (E.out.step ((Below.refl _ _).alloc (Nat.le_refl _) (.cells #[.string ⟨#[111,112,116,105,111,110]⟩,.string Q1,.string Q2] 9)));go_simp;refine hK.out _ _ E.out.box (fun _=>?_);clear hK K;change Hid (RdP (World.alloc v2 (.cells #[.string ⟨#[111,112,116,105,111,110]⟩,.string Q1,.string Q2] 9)) (some ⟨v2.heap.size,0,none⟩) 3 3 _) at R;generalize hW:World.alloc v2 _=v3 at E R ⊢;clear hW;generalize v2.heap.size=g3 at R ⊢;refine wpAnyH_ready (rs:=[7]) (by kernel_rfl) (by simp) ?_;refine AllReadyH.cons rfl (fun K hK=>?_) AllReadyH.nil;go_simp;refine(CL.out E.out.bel R.out).mono ?_;rintro e v4 ⟨rfl,hb⟩;replace E:=Jh (E.out.step hb);clear hb;refine hK.out _ _ E.out.box (fun _=>?_);clear hK K;refine wpAnyH_take (i:=8) (v:=(.string T)) rfl (by kernel_rfl) (by kernel_rfl) (by kernel_rfl) (fun _ _ _ h=>h) (Or.inl ⟨by rfl,fun w9 _=>by go_simp⟩) E.out.box ?_;refine wpAnyH_done (by kernel_rfl) ?_ _;go_wp2_with fail;go_ret;exact⟨rfl,E.out.bel⟩
theorem text_opn{w:World}{f:FD}{m:DM}{X:Array Value}{T:ByteArray}{l:List ByteArray}  (hX:cD f m=X) (hk:f.kind=1) (CP:Hid (∀{W:World},Below w.heap.size w W→Calls Tryz.prog 26 #[.agg X] W (RtP W l))) (CO:Hid (∀{W:World}{A:Option Addr}{n c:Nat},Below w.heap.size w W→RdP W A n c (l.map bs9)→Calls Tryz.prog 25 #[.agg X,.string ⟨#[111,112,101,110]⟩,.slice A n c] W (Ret9 W (.string T)))):Calls Tryz.prog 10 #[.agg X] w (Ret9 w (.string T)):=by
 have HX:=Jh hX;have HS:Hid (X.size=27):=by rw[← hX];rfl
 have HK:Hid ((cD f m)[0]?=some (.int .i64 1)):=by show some (Value.int .i64 (f.kind:Int))=_;rw[hk];rfl
 clear hX hk;go_enter Tryz.func10,Tryz.ntmps10;go_upto_region 1 with fail
 have E:=Jh (TP.start w X);generalize hW:World.alloc w (.cells X 45)=W1 at E ⊢;clear hW;have p0:=TP.atv E HX.out 0 HK.out;have plt:=E.out.box.lt;go_upto_region 5 with fail
 clear p0 plt;replace E:=Jh (E.out.step (Below.refl _ _).drew);refine wp_region_held_drew (S:=fun v=>Bk v w.heap.size X 45) (by kernel_rfl) E.out.box (fun _=>?_);generalize World.drew W1=v0 at E ⊢;refine wpAnyH_take (i:=0) (v:=(.agg X)) rfl (by kernel_rfl) (by kernel_rfl) (by kernel_rfl) (fun _ _ _ h=>h) (Or.inl ⟨by rfl,fun w9 hS=>exec_load_row 45 (.tmp 1) rfl w.heap.size rfl 45 X (0,0) _ hS Tryz.underlying45 rfl (by rw[dir_size,HS.out])⟩) E.out.box ?_;refine wpAnyH_take (i:=1) (v:=(.agg X)) rfl (by kernel_rfl) (by kernel_rfl) (by kernel_rfl) (fun _ _ _ h=>h) (Or.inl ⟨by rfl,fun w9 hS=>exec_load_row 45 (.tmp 1) rfl w.heap.size rfl 45 X (0,0) _ hS Tryz.underlying45 rfl (by rw[dir_size,HS.out])⟩) E.out.box ?_;refine wpAnyH_ready (rs:=[2]) (by kernel_rfl) (by simp) ?_;refine AllReadyH.cons rfl (fun K hK=>?_) AllReadyH.nil;go_simp;refine(CP.out E.out.bel).mono ?_;rintro e v1 ⟨B1,n1,c1,rfl,hr,hb⟩;replace E:=Jh (E.out.step hb);have R:=Jh hr;clear hb hr;refine hK.out _ _ E.out.box (fun _=>?_);clear hK K;refine wpAnyH_ready (rs:=[3]) (by kernel_rfl) (by simp) ?_;refine AllReadyH.cons rfl (fun K hK=>?_) AllReadyH.nil;go_simp;refine(CO.out E.out.bel R.out).mono ?_;rintro e v2 ⟨rfl,hb⟩;replace E:=Jh (E.out.step hb);clear hb;refine hK.out _ _ E.out.box (fun _=>?_);clear hK K;refine wpAnyH_take (i:=4) (v:=(.string T)) rfl (by kernel_rfl) (by kernel_rfl) (by kernel_rfl) (fun _ _ _ h=>h) (Or.inl ⟨by rfl,fun w9 _=>by go_simp⟩) E.out.box ?_;refine wpAnyH_done (by kernel_rfl) ?_ _;go_wp2_with fail;go_ret;exact⟨rfl,E.out.bel⟩
theorem text_com{w:World}{f:FD}{m:DM}{X:Array Value}{T:ByteArray}{l:List ByteArray}{c:ByteArray}(hX:cD f m=X)(hk:f.kind=3)(CC:Hid (∀{W:World},Below w.heap.size w W→Calls Tryz.prog 27 #[.agg X] W (Ret9 W (.string c))))(CO:Hid (∀{W:World}{A:Option Addr}{n c:Nat},Below w.heap.size w W→RdP W A n c (l.map bs9)→Calls Tryz.prog 25 #[.agg X,.string ⟨#[99,111,109,109,111,100,105,116,121]⟩,.slice A n c] W (Ret9 W (.string T))))(hl:[c]=l):Calls Tryz.prog 10 #[.agg X] w (Ret9 w (.string T)):=by
 subst hl;have HX:=Jh hX;have HS:Hid (X.size=27):=by rw[← hX];rfl
 have HK:Hid ((cD f m)[0]?=some (.int .i64 3)):=by show some (Value.int .i64 (f.kind:Int))=_;rw[hk];rfl
 clear hX hk;go_enter Tryz.func10,Tryz.ntmps10;go_upto_region 1 with fail
 have E:=Jh (TP.start w X);generalize hW:World.alloc w (.cells X 45)=W1 at E ⊢;clear hW;have p0:=TP.atv E HX.out 0 HK.out;have plt:=E.out.box.lt;go_upto_region 9 with fail
 clear p0 plt;replace E:=Jh (E.out.step (Below.refl _ _).drew);refine wp_region_held_drew (S:=fun v=>Bk v w.heap.size X 45) (by kernel_rfl) E.out.box (fun _=>?_);generalize World.drew W1=v0 at E ⊢;refine wpAnyH_take (i:=0) (v:=(.agg X)) rfl (by kernel_rfl) (by kernel_rfl) (by kernel_rfl) (fun _ _ _ h=>h) (Or.inl ⟨by rfl,fun w9 hS=>exec_load_row 45 (.tmp 1) rfl w.heap.size rfl 45 X (0,0) _ hS Tryz.underlying45 rfl (by rw[dir_size,HS.out])⟩) E.out.box ?_;refine wpAnyH_take (i:=1) (v:=(.agg X)) rfl (by kernel_rfl) (by kernel_rfl) (by kernel_rfl) (fun _ _ _ h=>h) (Or.inl ⟨by rfl,fun w9 hS=>exec_load_row 45 (.tmp 1) rfl w.heap.size rfl 45 X (0,0) _ hS Tryz.underlying45 rfl (by rw[dir_size,HS.out])⟩) E.out.box ?_;refine wpAnyH_ready (rs:=[2]) (by kernel_rfl) (by simp) ?_;refine AllReadyH.cons rfl (fun K hK=>?_) AllReadyH.nil;go_simp;refine(CC.out E.out.bel).mono ?_;rintro e v1 ⟨rfl,hb⟩;replace E:=Jh (E.out.step hb);clear hb;refine hK.out _ _ E.out.box (fun _=>?_);clear hK K;refine wpAnyH_ready (rs:=[3]) (by kernel_rfl) (by simp) ?_;refine AllReadyH.cons rfl (fun K hK=>?_) AllReadyH.nil;have R:=Jh (rdP_new v1 [c] (Nat.le_of_ble_eq_true rfl));replace E:=Jh (E.out.step ((Below.refl _ _).alloc (Nat.le_refl _) (.cells #[.string c] 9)));go_simp;refine hK.out _ _ E.out.box (fun _=>?_);clear hK K;change Hid (RdP (World.alloc v1 (.cells #[.string c] 9)) (some ⟨v1.heap.size,0,none⟩) 1 1 _) at R;generalize hW:World.alloc v1 _=v2 at E R ⊢;clear hW;generalize v1.heap.size=g2 at R ⊢;refine wpAnyH_ready (rs:=[4]) (by kernel_rfl) (by simp) ?_;refine AllReadyH.cons rfl (fun K hK=>?_) AllReadyH.nil;go_simp;refine(CO.out E.out.bel R.out).mono ?_;rintro e v3 ⟨rfl,hb⟩;replace E:=Jh (E.out.step hb);clear hb;refine hK.out _ _ E.out.box (fun _=>?_);clear hK K;refine wpAnyH_take (i:=5) (v:=(.string T)) rfl (by kernel_rfl) (by kernel_rfl) (by kernel_rfl) (fun _ _ _ h=>h) (Or.inl ⟨by rfl,fun w9 _=>by go_simp⟩) E.out.box ?_;refine wpAnyH_done (by kernel_rfl) ?_ _;go_wp2_with fail;go_ret;exact⟨rfl,E.out.bel⟩
theorem text_prc{w:World}{f:FD}{m:DM}{X:Array Value}{T:ByteArray}{l:List ByteArray}{c N:ByteArray}(hX:cD f m=X)(hk:f.kind=4)(CC:Hid (∀{W:World},Below w.heap.size w W→Calls Tryz.prog 27 #[.agg X] W (Ret9 W (.string c))))(CA:Hid (∀{W:World},Below w.heap.size w W→Calls Tryz.prog 28 #[.agg #[.bool (ngB f.i),.slice m.A m.n m.c,.int .i64 (f.k:Int),.string f.cur]] W (Ret9 W (.string N))))(CO:Hid (∀{W:World}{A:Option Addr}{n c:Nat},Below w.heap.size w W→RdP W A n c (l.map bs9)→Calls Tryz.prog 25 #[.agg X,.string ⟨#[112,114,105,99,101]⟩,.slice A n c] W (Ret9 W (.string T))))(hl:[c,N]=l):Calls Tryz.prog 10 #[.agg X] w (Ret9 w (.string T)):=by
 subst hl;have HX:=Jh hX;have HS:Hid (X.size=27):=by rw[← hX];rfl
 have HK:Hid ((cD f m)[0]?=some (.int .i64 4)):=by show some (Value.int .i64 (f.kind:Int))=_;rw[hk];rfl
 clear hX hk;go_enter Tryz.func10,Tryz.ntmps10;go_upto_region 1 with fail
 have E:=Jh (TP.start w X);generalize hW:World.alloc w (.cells X 45)=W1 at E ⊢;clear hW;have p0:=TP.atv E HX.out 0 HK.out;have plt:=E.out.box.lt;go_upto_region 11 with fail
 clear p0 plt;replace E:=Jh (E.out.step (Below.refl _ _).drew);refine wp_region_held_drew (S:=fun v=>Bk v w.heap.size X 45) (by kernel_rfl) E.out.box (fun _=>?_);generalize World.drew W1=v0 at E ⊢;refine wpAnyH_take (i:=0) (v:=(.agg X)) rfl (by kernel_rfl) (by kernel_rfl) (by kernel_rfl) (fun _ _ _ h=>h) (Or.inl ⟨by rfl,fun w9 hS=>exec_load_row 45 (.tmp 1) rfl w.heap.size rfl 45 X (0,0) _ hS Tryz.underlying45 rfl (by rw[dir_size,HS.out])⟩) E.out.box ?_;refine wpAnyH_take (i:=1) (v:=(.agg X)) rfl (by kernel_rfl) (by kernel_rfl) (by kernel_rfl) (fun _ _ _ h=>h) (Or.inl ⟨by rfl,fun w9 hS=>exec_load_row 45 (.tmp 1) rfl w.heap.size rfl 45 X (0,0) _ hS Tryz.underlying45 rfl (by rw[dir_size,HS.out])⟩) E.out.box ?_;refine wpAnyH_take (i:=3) (v:=(.pointer (some ⟨w.heap.size,8,none⟩))) rfl (by kernel_rfl) (by kernel_rfl) (by kernel_rfl) (fun _ _ _ h=>h) (Or.inl ⟨by rfl,fun w9 _=>by go_simp⟩) E.out.box ?_;refine wpAnyH_take (i:=4) (v:=(.agg #[.bool (ngB f.i),.slice m.A m.n m.c,.int .i64 (f.k:Int),.string f.cur])) rfl (by kernel_rfl) (by kernel_rfl) (by kernel_rfl) (fun _ _ _ h=>h) (Or.inl ⟨by rfl,fun w9 hS=>by have p8:=cell_at hS HX.out 8 (y:=.bool (ngB f.i)) rfl;have p9:=cell_at hS HX.out 9 (y:=.slice m.A m.n m.c) rfl;have p10:=cell_at hS HX.out 10 (y:=.int .i64 (f.k:Int)) rfl;have p11:=cell_at hS HX.out 11 (y:=.string f.cur) rfl;have plt:=Bk.lt hS;go_simp⟩) E.out.box ?_;refine wpAnyH_ready (rs:=[2]) (by kernel_rfl) (by simp) ?_;refine AllReadyH.cons rfl (fun K hK=>?_) AllReadyH.nil;go_simp;refine(CC.out E.out.bel).mono ?_;rintro e v1 ⟨rfl,hb⟩;replace E:=Jh (E.out.step hb);clear hb;refine hK.out _ _ E.out.box (fun _=>?_);clear hK K;refine wpAnyH_ready (rs:=[5]) (by kernel_rfl) (by simp) ?_;refine AllReadyH.cons rfl (fun K hK=>?_) AllReadyH.nil;go_simp;refine(CA.out E.out.bel).mono ?_;rintro e v2 ⟨rfl,hb⟩;replace E:=Jh (E.out.step hb);clear hb;refine hK.out _ _ E.out.box (fun _=>?_);clear hK K;refine wpAnyH_ready (rs:=[6]) (by kernel_rfl) (by simp) ?_;refine AllReadyH.cons rfl (fun K hK=>?_) AllReadyH.nil;have R:=Jh (rdP_new v2 [c,N] (Nat.le_of_ble_eq_true rfl));replace E:=Jh (E.out.step ((Below.refl _ _).alloc (Nat.le_refl _) (.cells #[.string c,.string N] 9)));go_simp;refine hK.out _ _ E.out.box (fun _=>?_);clear hK K;change Hid (RdP (World.alloc v2 (.cells #[.string c,.string N] 9)) (some ⟨v2.heap.size,0,none⟩) 2 2 _) at R;generalize hW:World.alloc v2 _=v3 at E R ⊢;clear hW;generalize v2.heap.size=g3 at R ⊢;refine wpAnyH_ready (rs:=[7]) (by kernel_rfl) (by simp) ?_;refine AllReadyH.cons rfl (fun K hK=>?_) AllReadyH.nil;go_simp;refine(CO.out E.out.bel R.out).mono ?_;rintro e v4 ⟨rfl,hb⟩;replace E:=Jh (E.out.step hb);clear hb;refine hK.out _ _ E.out.box (fun _=>?_);clear hK K;refine wpAnyH_take (i:=8) (v:=(.string T)) rfl (by kernel_rfl) (by kernel_rfl) (by kernel_rfl) (fun _ _ _ h=>h) (Or.inl ⟨by rfl,fun w9 _=>by go_simp⟩) E.out.box ?_;refine wpAnyH_done (by kernel_rfl) ?_ _;go_wp2_with fail;go_ret;exact⟨rfl,E.out.bel⟩
theorem text_bal{w:World}{f:FD}{m:DM}{X:Array Value}{T:ByteArray}{l:List ByteArray}  (hX:cD f m=X) (hk:f.kind=6) (CP:Hid (∀{W:World},Below w.heap.size w W→Calls Tryz.prog 29 #[.agg X] W (RtP W l))) (CO:Hid (∀{W:World}{A:Option Addr}{n c:Nat},Below w.heap.size w W→RdP W A n c (l.map bs9)→Calls Tryz.prog 25 #[.agg X,.string ⟨#[98,97,108,97,110,99,101]⟩,.slice A n c] W (Ret9 W (.string T)))):Calls Tryz.prog 10 #[.agg X] w (Ret9 w (.string T)):=by
 have HX:=Jh hX;have HS:Hid (X.size=27):=by rw[← hX];rfl
 have HK:Hid ((cD f m)[0]?=some (.int .i64 6)):=by show some (Value.int .i64 (f.kind:Int))=_;rw[hk];rfl
 clear hX hk;go_enter Tryz.func10,Tryz.ntmps10;go_upto_region 1 with fail
 have E:=Jh (TP.start w X);generalize hW:World.alloc w (.cells X 45)=W1 at E ⊢;clear hW;have p0:=TP.atv E HX.out 0 HK.out;have plt:=E.out.box.lt;go_upto_region 15 with fail
 clear p0 plt;replace E:=Jh (E.out.step (Below.refl _ _).drew);refine wp_region_held_drew (S:=fun v=>Bk v w.heap.size X 45) (by kernel_rfl) E.out.box (fun _=>?_);generalize World.drew W1=v0 at E ⊢;refine wpAnyH_take (i:=0) (v:=(.agg X)) rfl (by kernel_rfl) (by kernel_rfl) (by kernel_rfl) (fun _ _ _ h=>h) (Or.inl ⟨by rfl,fun w9 hS=>exec_load_row 45 (.tmp 1) rfl w.heap.size rfl 45 X (0,0) _ hS Tryz.underlying45 rfl (by rw[dir_size,HS.out])⟩) E.out.box ?_;refine wpAnyH_take (i:=1) (v:=(.agg X)) rfl (by kernel_rfl) (by kernel_rfl) (by kernel_rfl) (fun _ _ _ h=>h) (Or.inl ⟨by rfl,fun w9 hS=>exec_load_row 45 (.tmp 1) rfl w.heap.size rfl 45 X (0,0) _ hS Tryz.underlying45 rfl (by rw[dir_size,HS.out])⟩) E.out.box ?_;refine wpAnyH_ready (rs:=[2]) (by kernel_rfl) (by simp) ?_;refine AllReadyH.cons rfl (fun K hK=>?_) AllReadyH.nil;go_simp;refine(CP.out E.out.bel).mono ?_;rintro e v1 ⟨B1,n1,c1,rfl,hr,hb⟩;replace E:=Jh (E.out.step hb);have R:=Jh hr;clear hb hr;refine hK.out _ _ E.out.box (fun _=>?_);clear hK K;refine wpAnyH_ready (rs:=[3]) (by kernel_rfl) (by simp) ?_;refine AllReadyH.cons rfl (fun K hK=>?_) AllReadyH.nil;go_simp;refine(CO.out E.out.bel R.out).mono ?_;rintro e v2 ⟨rfl,hb⟩;replace E:=Jh (E.out.step hb);clear hb;refine hK.out _ _ E.out.box (fun _=>?_);clear hK K;refine wpAnyH_take (i:=4) (v:=(.string T)) rfl (by kernel_rfl) (by kernel_rfl) (by kernel_rfl) (fun _ _ _ h=>h) (Or.inl ⟨by rfl,fun w9 _=>by go_simp⟩) E.out.box ?_;refine wpAnyH_done (by kernel_rfl) ?_ _;go_wp2_with fail;go_ret;exact⟨rfl,E.out.bel⟩
theorem text_txn{w:World}{f:FD}{m:DM}{X:Array Value}{T:ByteArray}{l:List ByteArray}  (hX:cD f m=X) (hk:f.kind=7) (CP:Hid (∀{W:World},Below w.heap.size w W→Calls Tryz.prog 30 #[.agg X] W (RtP W l))) (CO:Hid (∀{W:World}{A:Option Addr}{n c:Nat},Below w.heap.size w W→RdP W A n c (l.map bs9)→Calls Tryz.prog 25 #[.agg X,.string f.flag,.slice A n c] W (Ret9 W (.string T)))):Calls Tryz.prog 10 #[.agg X] w (Ret9 w (.string T)):=by
 have HX:=Jh hX;have HS:Hid (X.size=27):=by rw[← hX];rfl
 have HK:Hid ((cD f m)[0]?=some (.int .i64 7)):=by show some (Value.int .i64 (f.kind:Int))=_;rw[hk];rfl
 clear hX hk;go_enter Tryz.func10,Tryz.ntmps10;go_upto_region 1 with fail
 have E:=Jh (TP.start w X);generalize hW:World.alloc w (.cells X 45)=W1 at E ⊢;clear hW;have p0:=TP.atv E HX.out 0 HK.out;have plt:=E.out.box.lt;go_upto_region 17 with fail
 clear p0 plt;replace E:=Jh (E.out.step (Below.refl _ _).drew);refine wp_region_held_drew (S:=fun v=>Bk v w.heap.size X 45) (by kernel_rfl) E.out.box (fun _=>?_);generalize World.drew W1=v0 at E ⊢;refine wpAnyH_take (i:=0) (v:=(.agg X)) rfl (by kernel_rfl) (by kernel_rfl) (by kernel_rfl) (fun _ _ _ h=>h) (Or.inl ⟨by rfl,fun w9 hS=>exec_load_row 45 (.tmp 1) rfl w.heap.size rfl 45 X (0,0) _ hS Tryz.underlying45 rfl (by rw[dir_size,HS.out])⟩) E.out.box ?_;refine wpAnyH_take (i:=1) (v:=(.pointer (some ⟨w.heap.size,16,none⟩))) rfl (by kernel_rfl) (by kernel_rfl) (by kernel_rfl) (fun _ _ _ h=>h) (Or.inl ⟨by rfl,fun w9 _=>by go_simp⟩) E.out.box ?_;refine wpAnyH_take (i:=2) (v:=(.string f.flag)) rfl (by kernel_rfl) (by kernel_rfl) (by kernel_rfl) (fun _ _ _ h=>h) (Or.inl ⟨by rfl,fun w9 hS=>by have p16:=cell_at hS HX.out 16 (y:=.string f.flag) rfl;have plt:=Bk.lt hS;go_simp⟩) E.out.box ?_;refine wpAnyH_take (i:=3) (v:=(.agg X)) rfl (by kernel_rfl) (by kernel_rfl) (by kernel_rfl) (fun _ _ _ h=>h) (Or.inl ⟨by rfl,fun w9 hS=>exec_load_row 45 (.tmp 1) rfl w.heap.size rfl 45 X (0,0) _ hS Tryz.underlying45 rfl (by rw[dir_size,HS.out])⟩) E.out.box ?_;refine wpAnyH_ready (rs:=[4]) (by kernel_rfl) (by simp) ?_;refine AllReadyH.cons rfl (fun K hK=>?_) AllReadyH.nil;go_simp;refine(CP.out E.out.bel).mono ?_;rintro e v1 ⟨B1,n1,c1,rfl,hr,hb⟩;replace E:=Jh (E.out.step hb);have R:=Jh hr;clear hb hr;refine hK.out _ _ E.out.box (fun _=>?_);clear hK K;refine wpAnyH_ready (rs:=[5]) (by kernel_rfl) (by simp) ?_;refine AllReadyH.cons rfl (fun K hK=>?_) AllReadyH.nil;go_simp;refine(CO.out E.out.bel R.out).mono ?_;rintro e v2 ⟨rfl,hb⟩;replace E:=Jh (E.out.step hb);clear hb;refine hK.out _ _ E.out.box (fun _=>?_);clear hK K;refine wpAnyH_take (i:=6) (v:=(.string T)) rfl (by kernel_rfl) (by kernel_rfl) (by kernel_rfl) (fun _ _ _ h=>h) (Or.inl ⟨by rfl,fun w9 _=>by go_simp⟩) E.out.box ?_;refine wpAnyH_done (by kernel_rfl) ?_ _;go_wp2_with fail;go_ret;exact⟨rfl,E.out.bel⟩
theorem text_nte{w:World}{f:FD}{m:DM}{X:Array Value}{T:ByteArray}{l:List ByteArray}{Q:ByteArray}(hX:cD f m=X)(hk:f.kind=8)(C1:Hid (∀{W:World},Calls Tryz.prog 24 #[.string f.text] W (Ret9 W (.string Q))))(CO:Hid (∀{W:World}{A:Option Addr}{n c:Nat},Below w.heap.size w W→RdP W A n c (l.map bs9)→Calls Tryz.prog 25 #[.agg X,.string ⟨#[110,111,116,101]⟩,.slice A n c] W (Ret9 W (.string T))))(hl:[f.acc,Q]=l):Calls Tryz.prog 10 #[.agg X] w (Ret9 w (.string T)):=by
 subst hl;have HX:=Jh hX;have HS:Hid (X.size=27):=by rw[← hX];rfl
 have HK:Hid ((cD f m)[0]?=some (.int .i64 8)):=by show some (Value.int .i64 (f.kind:Int))=_;rw[hk];rfl
 clear hX hk;go_enter Tryz.func10,Tryz.ntmps10;go_upto_region 1 with fail
 have E:=Jh (TP.start w X);generalize hW:World.alloc w (.cells X 45)=W1 at E ⊢;clear hW;have p0:=TP.atv E HX.out 0 HK.out;have plt:=E.out.box.lt;go_upto_region 19 with fail
 clear p0 plt;replace E:=Jh (E.out.step (Below.refl _ _).drew);refine wp_region_held_drew (S:=fun v=>Bk v w.heap.size X 45) (by kernel_rfl) E.out.box (fun _=>?_);generalize World.drew W1=v0 at E ⊢;refine wpAnyH_take (i:=0) (v:=(.agg X)) rfl (by kernel_rfl) (by kernel_rfl) (by kernel_rfl) (fun _ _ _ h=>h) (Or.inl ⟨by rfl,fun w9 hS=>exec_load_row 45 (.tmp 1) rfl w.heap.size rfl 45 X (0,0) _ hS Tryz.underlying45 rfl (by rw[dir_size,HS.out])⟩) E.out.box ?_;refine wpAnyH_take (i:=1) (v:=(.pointer (some ⟨w.heap.size,4,none⟩))) rfl (by kernel_rfl) (by kernel_rfl) (by kernel_rfl) (fun _ _ _ h=>h) (Or.inl ⟨by rfl,fun w9 _=>by go_simp⟩) E.out.box ?_;refine wpAnyH_take (i:=2) (v:=(.string f.acc)) rfl (by kernel_rfl) (by kernel_rfl) (by kernel_rfl) (fun _ _ _ h=>h) (Or.inl ⟨by rfl,fun w9 hS=>by have p4:=cell_at hS HX.out 4 (y:=.string f.acc) rfl;have plt:=Bk.lt hS;go_simp⟩) E.out.box ?_;refine wpAnyH_take (i:=3) (v:=(.pointer (some ⟨w.heap.size,24,none⟩))) rfl (by kernel_rfl) (by kernel_rfl) (by kernel_rfl) (fun _ _ _ h=>h) (Or.inl ⟨by rfl,fun w9 _=>by go_simp⟩) E.out.box ?_;refine wpAnyH_take (i:=4) (v:=(.string f.text)) rfl (by kernel_rfl) (by kernel_rfl) (by kernel_rfl) (fun _ _ _ h=>h) (Or.inl ⟨by rfl,fun w9 hS=>by have p24:=cell_at hS HX.out 24 (y:=.string f.text) rfl;have plt:=Bk.lt hS;go_simp⟩) E.out.box ?_;refine wpAnyH_ready (rs:=[5]) (by kernel_rfl) (by simp) ?_;refine AllReadyH.cons rfl (fun K hK=>?_) AllReadyH.nil;go_simp;refine(C1.out).mono ?_;rintro e v1 ⟨rfl,hb⟩;replace E:=Jh (E.out.step hb);clear hb;refine hK.out _ _ E.out.box (fun _=>?_);clear hK K;refine wpAnyH_ready (rs:=[6]) (by kernel_rfl) (by simp) ?_;refine AllReadyH.cons rfl (fun K hK=>?_) AllReadyH.nil;have R:=Jh (rdP_new v1 [f.acc,Q] (Nat.le_of_ble_eq_true rfl));replace E:=Jh (E.out.step ((Below.refl _ _).alloc (Nat.le_refl _) (.cells #[.string f.acc,.string Q] 9)));go_simp;refine hK.out _ _ E.out.box (fun _=>?_);clear hK K;change Hid (RdP (World.alloc v1 (.cells #[.string f.acc,.string Q] 9)) (some ⟨v1.heap.size,0,none⟩) 2 2 _) at R;generalize hW:World.alloc v1 _=v2 at E R ⊢;clear hW;generalize v1.heap.size=g2 at R ⊢;refine wpAnyH_ready (rs:=[7]) (by kernel_rfl) (by simp) ?_;refine AllReadyH.cons rfl (fun K hK=>?_) AllReadyH.nil;go_simp;refine(CO.out E.out.bel R.out).mono ?_;rintro e v3 ⟨rfl,hb⟩;replace E:=Jh (E.out.step hb);clear hb;refine hK.out _ _ E.out.box (fun _=>?_);clear hK K;refine wpAnyH_take (i:=8) (v:=(.string T)) rfl (by kernel_rfl) (by kernel_rfl) (by kernel_rfl) (fun _ _ _ h=>h) (Or.inl ⟨by rfl,fun w9 _=>by go_simp⟩) E.out.box ?_;refine wpAnyH_done (by kernel_rfl) ?_ _;go_wp2_with fail;go_ret;exact⟨rfl,E.out.bel⟩
theorem text_cls{w:World}{f:FD}{m:DM}{X:Array Value}{T:ByteArray}{l:List ByteArray}  (hX:cD f m=X) (hk:f.kind=2) (CO:Hid (∀{W:World}{A:Option Addr}{n c:Nat},Below w.heap.size w W→RdP W A n c (l.map bs9)→Calls Tryz.prog 25 #[.agg X,.string ⟨#[99,108,111,115,101]⟩,.slice A n c] W (Ret9 W (.string T)))) (hl:[f.acc]=l):Calls Tryz.prog 10 #[.agg X] w (Ret9 w (.string T)):=by
 subst hl;have HX:=Jh hX;have HS:Hid (X.size=27):=by rw[← hX];rfl
 have HK:Hid ((cD f m)[0]?=some (.int .i64 2)):=by show some (Value.int .i64 (f.kind:Int))=_;rw[hk];rfl
 clear hX hk;go_enter Tryz.func10,Tryz.ntmps10;go_upto_region 1 with fail
 have E:=Jh (TP.start w X);generalize hW:World.alloc w (.cells X 45)=W1 at E ⊢;clear hW;have p0:=TP.atv E HX.out 0 HK.out;have plt:=E.out.box.lt;go_upto_region 7 with fail
 clear p0;have p4:=TP.atv E HX.out 4 (y:=.string f.acc) rfl;refine wp_region_lit ?_;refine wpList_load_row rfl 45 (.tmp 1) rfl w.heap.size rfl 45 X (0,0) _ E.out.box Tryz.underlying45 rfl (by rw[dir_size,HS.out]) ?_;go_wp2_with fail;clear plt p4;have R:=Jh (rdP_new W1 [f.acc] (Nat.le_of_ble_eq_true rfl));replace E:=Jh (E.out.step ((Below.refl _ _).alloc (Nat.le_refl _) (.cells #[.string f.acc] 9)));change Hid (RdP (World.alloc W1 (.cells #[.string f.acc] 9)) (some ⟨W1.heap.size,0,none⟩) 1 1 _) at R;refine(CO.out E.out.bel R.out).mono ?_;rintro e w5 ⟨rfl,hb⟩;replace E:=Jh (E.out.step hb);clear hb R;go_wp2_with fail;go_ret;exact⟨rfl,E.out.bel⟩
theorem text_pad{w:World}{f:FD}{m:DM}{X:Array Value}{T:ByteArray}{l:List ByteArray}  (hX:cD f m=X) (hk:f.kind=5) (CO:Hid (∀{W:World}{A:Option Addr}{n c:Nat},Below w.heap.size w W→RdP W A n c (l.map bs9)→Calls Tryz.prog 25 #[.agg X,.string ⟨#[112,97,100]⟩,.slice A n c] W (Ret9 W (.string T)))) (hl:[f.acc,f.oth]=l):Calls Tryz.prog 10 #[.agg X] w (Ret9 w (.string T)):=by
 subst hl;have HX:=Jh hX;have HS:Hid (X.size=27):=by rw[← hX];rfl
 have HK:Hid ((cD f m)[0]?=some (.int .i64 5)):=by show some (Value.int .i64 (f.kind:Int))=_;rw[hk];rfl
 clear hX hk;go_enter Tryz.func10,Tryz.ntmps10;go_upto_region 1 with fail
 have E:=Jh (TP.start w X);generalize hW:World.alloc w (.cells X 45)=W1 at E ⊢;clear hW;have p0:=TP.atv E HX.out 0 HK.out;have plt:=E.out.box.lt;go_upto_region 13 with fail
 clear p0;have p4:=TP.atv E HX.out 4 (y:=.string f.acc) rfl;have p5:=TP.atv E HX.out 5 (y:=.string f.oth) rfl;refine wp_region_lit ?_;refine wpList_load_row rfl 45 (.tmp 1) rfl w.heap.size rfl 45 X (0,0) _ E.out.box Tryz.underlying45 rfl (by rw[dir_size,HS.out]) ?_;go_wp2_with fail;clear plt p4 p5;have R:=Jh (rdP_new W1 [f.acc,f.oth] (Nat.le_of_ble_eq_true rfl));replace E:=Jh (E.out.step ((Below.refl _ _).alloc (Nat.le_refl _) (.cells #[.string f.acc,.string f.oth] 9)));change Hid (RdP (World.alloc W1 (.cells #[.string f.acc,.string f.oth] 9)) (some ⟨W1.heap.size,0,none⟩) 2 2 _) at R;refine(CO.out E.out.bel R.out).mono ?_;rintro e w5 ⟨rfl,hb⟩;replace E:=Jh (E.out.step hb);clear hb R;go_wp2_with fail;go_ret;exact⟨rfl,E.out.bel⟩
theorem onday_all{w:World}{f:FD}{m:DM}{X:Array Value}(hX:cD f m=X)(hok:Ok15 w){l:List ByteArray}(hl:l≠[]){y T:ByteArray}(hT:jnB (dayT (f.y,f.m,f.d)::bs9 y::l.map bs9)=bs9 T)(hz:T.size≤4000):Hid (∀{W:World}{A:Option Addr}{n c:Nat},Below w.heap.size w W→RdP W A n c (l.map bs9)→Calls Tryz.prog 25 #[.agg X,.string y,.slice A n c] W (Ret9 W (.string T))):=fun {W A n c} hb hr=>by
 subst hX;obtain⟨S,hS⟩:∃S,dayT (f.y,f.m,f.d)=bs9 S:=⟨_,rfl⟩;obtain⟨J,hJ⟩:∃J,jnB (l.map bs9)=bs9 J:=⟨_,(bs9_joinB l).symm⟩;refine onday_is l hr (okw15 hok hb) hS hJ ?_ (by omega);have e:=jnB_in [bs9 S,bs9 y] (r:=l.map bs9) (by simpa using hl);rw[hJ] at e;show jnB ([bs9 S,bs9 y]++[bs9 J])=bs9 T;rw[e,← hS];exact hT
theorem jnB_mid:∀(l:List (List Nat)) {r:List (List Nat)}(s:List (List Nat)),r≠[]→jnB (l++(jnB r::s))=jnB (l++(r++s))
 | [],r,s,h=>by
  cases s with
  | nil=>rw[List.append_nil];rfl
  | cons y s=>
   show jnB (jnB r::y::s)=jnB (r++(y::s));rw[jnB_cons (jnB r) (by simp)];revert h;induction r with
   | nil=>intro h;exact absurd rfl h
   | cons x r ih=>
    intro _;cases r with
    | nil=>rfl
    | cons z r=>
     rw[List.cons_append,jnB_cons x (by simp),jnB_cons x (by simp),← ih (by simp),List.append_assoc];rfl
 | x::l,r,s,h=>by
  rw[List.cons_append,List.cons_append,jnB_cons x (by simp),jnB_cons x (by simp[h]),jnB_mid l s h]
theorem mthT_byt15(m:Nat):∀c∈mthT m,c<256:=by
 unfold mthT;split<;>decide
theorem mthW_nat(b:Nat):mthW (b:Int)=mthT b:=by
 unfold mthW;by_cases h:b≤4
 ·rw[if_pos (by omega)];rfl
 ·rw[if_neg (by omega)]
  obtain⟨c,rfl⟩:∃c,b=c+5:=⟨b-5,by omega⟩;rfl
theorem qt_txt(s:ByteArray):∃Q:ByteArray,qt (bs9 s)=bs9 Q:=⟨st9 (qt (bs9 s)),(bs9_st9 (pW_lt 5 (bs9_lt s))).symm⟩
theorem qtb_ge:∀x:List Nat,x.length≤(qtb x).length
 | []=>Nat.zero_le _
 | c::x=>by
  have h:=qtb_ge x;have h1:1≤(esc c).length:=by
   unfold esc;repeat(first|(split)|(show 1≤_;simp))
  unfold qtb at h ⊢;rw[List.flatMap_cons,List.length_append,List.length_cons];omega
theorem qt_ge(x:List Nat):x.length≤(qt x).length:=by
 have:=qtb_ge x;unfold qt;simp only[List.length_cons,List.length_append]
 omega
theorem txtD_txt(i:Int)(k:Nat):∃N:ByteArray,Num.txtD i k=bs9 N:=⟨st9 (Num.txtD i k),(bs9_st9 (Num.txtD_lt i k)).symm⟩
theorem curP_len:∀cs:List ByteArray,(curP cs).length=cs.length
 | []=>rfl
 | [_]=>rfl
 | x::y::r=>by
  show(curP (y::r)).length+1=(y::r).length+1;rw[curP_len (y::r)]
theorem headt15:TEXTH:=by
 intro w m d T hm hfit hz hok hT;unfold drT at hT;have PC:∀p∈pcs d,p.t.length≤4000:=fun p hp=>by
  have:=jnB_mem (l:=(pcs d).map (·.t)) (List.mem_map_of_mem hp);rw[hT,bs9_len] at this;omega
 have CNT:(pcs d).length≤4001:=by
  have:=jnB_long ((pcs d).map (·.t));rw[hT,bs9_len,List.length_map] at this;omega
 cases d with
 | cls x a=>exact text_cls rfl rfl (onday_all (f:=fdOf (some (.cls x a))) (m:=m) rfl hok (l:=[a]) (y:=⟨#[99,108,111,115,101]⟩) (by simp) hT hz) rfl
 | pad x a b=>exact text_pad rfl rfl (onday_all (f:=fdOf (some (.pad x a b))) (m:=m) rfl hok (l:=[a,b]) (y:=⟨#[112,97,100]⟩) (by simp) hT hz) rfl
 | com x c=>exact text_com rfl rfl (Jh fun hb=>currency_is (hm.on hb) rfl) (onday_all (f:=fdOf (some (.com x c))) (m:=m) rfl hok (l:=[c]) (y:=⟨#[99,111,109,109,111,100,105,116,121]⟩) (by simp) hT hz) rfl
 | nte x a t=>
  obtain⟨Q,hQ⟩:=qt_txt t;have hs:t.size≤6000:=by
   have h1:=PC (pW 5 (bs9 t)) (by simp[pcs]);have h2:=qt_ge (bs9 t);rw[bs9_len] at h2;have h3:(pW 5 (bs9 t)).t=qt (bs9 t):=rfl;rw[h3] at h1;omega
  have hT2:jnB (dayT x::bs9 ⟨#[110,111,116,101]⟩::[a,Q].map bs9)=bs9 T:=by
   rw[← hT];show jnB [_,_,bs9 a,bs9 Q]=_;rw[← hQ];rfl
  exact text_nte (f:=fdOf (some (.nte x a t))) rfl rfl (Jh (lexquote_is hQ hs _)) (onday_all (m:=m) rfl hok (l:=[a,Q]) (by simp) hT2 hz) rfl
 | opt n t=>
  obtain⟨Q1,hQ1⟩:=qt_txt n;obtain⟨Q2,hQ2⟩:=qt_txt t;have hs1:n.size≤6000:=by
   have h1:=PC (pW 5 (bs9 n)) (by simp[pcs]);have h2:=qt_ge (bs9 n);rw[bs9_len] at h2;have h3:(pW 5 (bs9 n)).t=qt (bs9 n):=rfl;rw[h3] at h1;omega
  have hs2:t.size≤6000:=by
   have h1:=PC (pW 5 (bs9 t)) (by simp[pcs]);have h2:=qt_ge (bs9 t);rw[bs9_len] at h2;have h3:(pW 5 (bs9 t)).t=qt (bs9 t):=rfl;rw[h3] at h1;omega
  have hT2:jnB ([⟨#[111,112,116,105,111,110]⟩,Q1,Q2].map bs9)=bs9 T:=by
   rw[← hT];show jnB [_,bs9 Q1,bs9 Q2]=_;rw[← hQ1,← hQ2];rfl
  exact text_opt (f:=fdOf (some (.opt n t))) rfl rfl (Jh (lexquote_is hQ1 hs1 _)) (Jh (lexquote_is hQ2 hs2 _)) (Jh fun _ hr=>line_is _ hr hT2 (by omega)) rfl
 | prc x c i k u=>
  have hu:u.size≤4000:=by
   have h1:=PC (pW 3 (bs9 u)) (by simp[pcs]);rw[← bs9_len];exact h1
  obtain⟨N,hN⟩:=txtD_txt i k;obtain⟨M,hM⟩:∃M,jnB [Num.txtD i k,bs9 u]=bs9 M:=⟨_,by rw[hN];exact(bs9_joinB [N,u]).symm⟩;have hT2:jnB (dayT x::bs9 ⟨#[112,114,105,99,101]⟩::[c,M].map bs9)=bs9 T:=by
   rw[← hT];have e:=jnB_in [dayT x,bs9 ⟨#[112,114,105,99,101]⟩,bs9 c] (r:=[Num.txtD i k,bs9 u]) (by simp);rw[hM] at e;exact e
  exact text_prc (f:=fdOf (some (.prc x c i k u))) rfl rfl (Jh fun hb=>currency_is (hm.on hb) rfl) (Jh fun hb=>amtt15 (hm.on hb).num (len_le hm.num hfit.1) hfit.2 hu hM) (onday_all (m:=m) rfl hok (l:=[c,M]) (by simp) hT2 hz) rfl
 | opn x a cs b=>
  obtain⟨J,hJ⟩:∃J,jnT (cs.map bs9)=bs9 J:=⟨_,(bs9_join cs).symm⟩;obtain⟨M,hM⟩:∃M,mthW (b:Int)=bs9 M:=⟨st9 (mthW (b:Int)),(bs9_st9 (by rw[mthW_nat];exact mthT_byt15 b)).symm⟩;obtain⟨Q,hQ⟩:=qt_txt M;have hQ2:bs9 Q=qt (mthT b):=by rw[← hQ,← hM,mthW_nat]
  obtain⟨l,hl⟩:∃l,(([a]++(if cs=[] then [] else [J]))++(if b=0 then [] else [Q]))=l:=⟨_,rfl⟩;have hne:l≠[]:=by rw[← hl];simp
  have hcl:cs.length≤5000:=by
   have:(pcs (.opn x a cs b)).length=3+((curP cs).length+(if b=0 then [] else [pW 5 (mthT b)]).length):=by
    show(_::_::_::(curP cs++_)).length=_;simp only[List.length_cons,List.length_append]
    omega
   rw[curP_len] at this;omega
  have key:jnB (dayT x::bs9 ⟨#[111,112,101,110]⟩::l.map bs9)=jnB ((pcs (.opn x a cs b)).map (·.t)):=by
   have e0:(pcs (.opn x a cs b)).map (·.t)=[dayT x,bs9 ⟨#[111,112,101,110]⟩,bs9 a]++((curP cs).map (·.t)++(if b=0 then [] else [bs9 Q])):=by
    show(pD x::pW 8 wOpen::pW 2 (bs9 a)::(curP cs++if b=0 then [] else [pW 5 (mthT b)])).map (·.t)=_;rw[List.map_cons,List.map_cons,List.map_cons,List.map_append,hQ2];by_cases hb0:b=0
    ·rw[if_pos hb0,if_pos hb0];rfl
    ·rw[if_neg hb0,if_neg hb0];rfl
   have e1:dayT x::bs9 ⟨#[111,112,101,110]⟩::l.map bs9=[dayT x,bs9 ⟨#[111,112,101,110]⟩,bs9 a]++((if cs=[] then [] else [bs9 J])++(if b=0 then [] else [bs9 Q])):=by
    rw[← hl];by_cases hc:cs=[]
    ·by_cases hb0:b=0
     ·rw[if_pos hc,if_pos hb0,if_pos hc,if_pos hb0];rfl
     ·rw[if_pos hc,if_neg hb0,if_pos hc,if_neg hb0];rfl
    ·by_cases hb0:b=0
     ·rw[if_neg hc,if_pos hb0,if_neg hc,if_pos hb0];rfl
     ·rw[if_neg hc,if_neg hb0,if_neg hc,if_neg hb0];rfl
   rw[e0,e1];by_cases hc:cs=[]
   ·rw[if_pos hc,hc];rfl
   ·rw[if_neg hc,← hJ,← curP_jnT hc]
    exact jnB_mid _ _ (by
     intro q;have:=congrArg List.length q;rw[List.length_map,curP_len] at this;exact hc (List.eq_nil_of_length_eq_zero this))
  have hJs:J.size≤4000:=by
   by_cases hc:cs=[]
   ·rw[← bs9_len,← hJ,hc];exact Nat.zero_le _
   ·have h:=jnB_mem (l:=dayT x::bs9 ⟨#[111,112,101,110]⟩::l.map bs9) (x:=bs9 J) (by
     rw[← hl,if_neg hc];simp)
    rw[key,hT,bs9_len,bs9_len] at h;omega
  exact text_opn (f:=fdOf (some (.opn x a cs b))) rfl rfl (Jh fun hb=>opnp_is (f:=fdOf (some (.opn x a cs b))) (hm.on hb) (okw15 hok hb) hJ hM hQ hJs hcl hl) (onday_all (m:=m) rfl hok hne (key.trans hT) hz)
 | bal x a i k t u=>
  obtain⟨N1,hN1⟩:=txtD_txt i k;cases t with
  | none=>
   obtain⟨N2,hN2⟩:=txtD_txt 0 0;have hT2:jnB (dayT x::bs9 ⟨#[98,97,108,97,110,99,101]⟩::[a,N1,u].map bs9)=bs9 T:=by
    rw[← hT];show jnB [_,_,bs9 a,bs9 N1,bs9 u]=_;rw[← hN1];rfl
   have hn1:m.n≤900:=len_le hm.num hfit.1.1;have hn2:m.nt≤900:=len_le hm.tol dg_none;exact text_bal (f:=fdOf (some (.bal x a i k none u))) rfl rfl (Jh fun hb=>balp_is (f:=fdOf (some (.bal x a i k none u))) (hm.on hb) hN1 hN2 (by omega) (by have:=hfit.1.2;show k≤_;omega) (by omega) (Nat.zero_le _) rfl) (onday_all (m:=m) rfl hok (l:=[a,N1,u]) (by simp) hT2 hz)
  | some n=>
   obtain⟨N2,hN2⟩:=txtD_txt n.1 n.2;obtain⟨hf1,hf2⟩:=hfit.2 n rfl;have hT2:jnB (dayT x::bs9 ⟨#[98,97,108,97,110,99,101]⟩::[a,N1,⟨#[126]⟩,N2,u].map bs9)=bs9 T:=by
    rw[← hT];show jnB [_,_,bs9 a,bs9 N1,_,bs9 N2,bs9 u]=_;rw[← hN1,← hN2];rfl
   have hn1:m.n≤900:=len_le hm.num hfit.1.1;have hn2:m.nt≤900:=len_le hm.tol hf1;exact text_bal (f:=fdOf (some (.bal x a i k (some n) u))) rfl rfl (Jh fun hb=>balp_is (f:=fdOf (some (.bal x a i k (some n) u))) (hm.on hb) hN1 hN2 (by omega) (by have:=hfit.1.2;show k≤_;omega) (by omega) (by show n.2≤_;omega) rfl) (onday_all (m:=m) rfl hok (l:=[a,N1,⟨#[126]⟩,N2,u]) (by simp) hT2 hz)
 | txn x fl p n ts ks=>
  obtain⟨QP,hQP⟩:=qt_txt p;obtain⟨QN,hQN⟩:=qt_txt n;have eP:pcs (.txn x fl p n ts ks)=pD x::pW 10 (if fl=true then [33] else [42])::((if bs9 p=[] then [] else [pW 5 (bs9 p)])++(pW 5 (bs9 n)::(ts.map (fun x=>pW 6 (bs9 x))++ks.map (fun x=>pW 7 (bs9 x))))):=rfl;have hs1:p.size≤6000:=by
   by_cases hp:bs9 p=[]
   ·rw[← bs9_len,hp];exact Nat.zero_le _
   ·have h1:=PC (pW 5 (bs9 p)) (by rw[eP,if_neg hp];simp)
    have h2:=qt_ge (bs9 p);rw[bs9_len] at h2;have h3:(pW 5 (bs9 p)).t=qt (bs9 p):=rfl;rw[h3] at h1;omega
  have hs2:n.size≤6000:=by
   have h1:=PC (pW 5 (bs9 n)) (by rw[eP];simp);have h2:=qt_ge (bs9 n);rw[bs9_len] at h2;have h3:(pW 5 (bs9 n)).t=qt (bs9 n):=rfl;rw[h3] at h1;omega
  have hst:∀s∈ts,s.size≤6000:=fun s hs=>by
   have h1:=PC (pW 6 (bs9 s)) (by
    rw[eP];refine List.mem_cons_of_mem _ (List.mem_cons_of_mem _ (List.mem_append_right _ (List.mem_cons_of_mem _ (List.mem_append_left _ ?_))));exact List.mem_map_of_mem (f:=fun x=>pW 6 (bs9 x)) hs)
   have h3:(pW 6 (bs9 s)).t.length=(bs9 s).length+1:=rfl;rw[h3,bs9_len] at h1;omega
  have hsk:∀s∈ks,s.size≤6000:=fun s hs=>by
   have h1:=PC (pW 7 (bs9 s)) (by
    rw[eP];refine List.mem_cons_of_mem _ (List.mem_cons_of_mem _ (List.mem_append_right _ (List.mem_cons_of_mem _ (List.mem_append_right _ ?_))));exact List.mem_map_of_mem (f:=fun x=>pW 7 (bs9 x)) hs)
   have h3:(pW 7 (bs9 s)).t.length=(bs9 s).length+1:=rfl;rw[h3,bs9_len] at h1;omega
  have hcnt:ts.length≤5000∧ks.length≤5000:=by
   rw[eP] at CNT;simp only[List.length_cons,List.length_append,List.length_map] at CNT
   omega
  obtain⟨l,hl⟩:∃l,((((if bs9 p=[] then [] else [QP])++[QN])++ts.map (mkT 6))++ks.map (mkT 7))=l:=⟨_,rfl⟩;have hne:l≠[]:=by rw[← hl];simp
  have em:∀(k:Nat) (hk:k=6∨k=7) (l:List ByteArray),(l.map (fun x=>pW k (bs9 x))).map (·.t)=(l.map (mkT k)).map bs9:=fun k hk l=>by
   rw[List.map_map,List.map_map];exact List.map_congr_left fun s _=>mkT_is hk s
  have key:dayT x::bs9 (if fl=true then ⟨#[33]⟩ else ⟨#[42]⟩)::l.map bs9=(pcs (.txn x fl p n ts ks)).map (·.t):=by
   rw[eP,List.map_cons,List.map_cons,List.map_append,List.map_cons,List.map_append,em 6 (.inl rfl),em 7 (.inr rfl),← hl];have ef:(pW 10 (if fl=true then [33] else [42])).t=bs9 (if fl=true then ⟨#[33]⟩ else ⟨#[42]⟩):=by cases fl<;>rfl
   rw[ef];by_cases hp:bs9 p=[]
   ·rw[if_pos hp,if_pos hp]
    simp only[List.map_append,List.map_nil,List.nil_append,List.map_cons,List.cons_append]
    rw[← hQN];rfl
   ·rw[if_neg hp,if_neg hp]
    simp only[List.map_append,List.map_nil,List.nil_append,List.map_cons,List.cons_append]
    rw[← hQN,← hQP];rfl
  exact text_txn (f:=fdOf (some (.txn x fl p n ts ks))) rfl rfl (Jh fun hb=>txnp_is (f:=fdOf (some (.txn x fl p n ts ks))) (hm.on hb) hQP hQN hs1 hs2 hst hsk hcnt.1 hcnt.2 hl) (onday_all (m:=m) rfl hok hne ((congrArg jnB key).trans hT) hz)
end Go.Proofs.YthpmaoimceojgaaGreatDoor.Num

