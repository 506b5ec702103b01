/- Lemmas of the proof: LexR, LexS. -/
import Derived.Test.YtpbbolgnnegmlaaGreatDoorAll32
import Derived.Test.YtpbbolgnnegmlaaGreatDoorAll19
import Derived.Deep.Cut
set_option linter.unusedVariables false
set_option linter.unusedSimpArgs false
set_option maxRecDepth 100000
set_option maxHeartbeats 32000000
open Go.Lib renaming hid→Jh
namespace Go.Proofs.YtpbbolgnnegmlaaGreatDoor
open Go.RowKit Go.Conc
def tokV(no:Int)(t:Wd):Value:=.agg #[.int .i64 (t.1:Int),.string (st9 t.2.1),.int .i64 no,.int .i64 (t.2.2:Int)]
def bufV(no:Int)(ts:List Wd):Array Value:=(ts.map (tokV no)).toArray
theorem bufV_get{no:Int}{ts:List Wd}{i:Nat}{t:Wd}(h:ts[i]?=some t):(bufV no (ts.drop i)).getD 0 undef=tokV no t:=by
 have:(ts.drop i)[0]?=some t:=by rw[List.getElem?_drop];simpa using h
 unfold bufV;cases hd:ts.drop i with
 | nil=>rw[hd] at this;cases this
 | cons x r=>rw[hd] at this;obtain rfl:=Option.some.inj this;rfl
theorem bufV_rest(no:Int)(ts:List Wd)(i:Nat):(bufV no (ts.drop i)).extract 1 (bufV no (ts.drop i)).size=bufV no (ts.drop (i+1)):=by
 unfold bufV;rw[← List.drop_drop];cases ts.drop i with
 | nil=>simp
 | cons x r=>simp;exact List.take_of_length_le (by simp)
theorem bufV_size(no:Int)(ts:List Wd):(bufV no ts).size=ts.length:=by simp[bufV]
theorem bufV_push(no:Int)(ts:List Wd)(t:Wd):(bufV no ts).push (tokV no t)=bufV no (ts++[t]):=by simp[bufV]
def chLeft(c:Nat)(w:World):Nat:=match w.heap[c]? with|some (.chan _ b _ _ _ _)=>b.size|_=>0
theorem chLeft_is{c n s r:Nat}{b:Array Value}{cl tm:Bool}{w:World}(h:w.heap[c]?=some (.chan n b cl s r tm)):chLeft c w=b.size:=by unfold chLeft;rw[h]
theorem grown_setChan(w:World)(c n:Nat)(b:Array Value)(cl:Bool)(s r:Nat)(tm:Bool):w.grownBy (w.setChan c n b cl s r tm) (some c):=
 ⟨rfl,rfl,rfl,by simp[World.setChan],fun k _ hk=>by simp only[World.setChan];rw[Array.getElem?_setIfInBounds_ne (fun h=>hk (by rw[h]))]⟩
theorem OwnT.setChan{w:World}{base c n s r:Nat}{v:Value}{no:Int}{L:List Wd}{b:Array Value}{cl tm:Bool}(h:OwnT w base v no L)(hc:c<base):OwnT (w.setChan c n b cl s r tm) base v no L:=
 World.ownsRow.kept h (grown_setChan ..) (.inr fun e=>by have:=(World.ownsRow.lt h c e).1;omega)
theorem res_r(c:Nat)(z v:Value)(ok:Bool):commResult #[rcase c z] .select ((0:Nat):Int) v ok=.tuple #[goInt 0,.bool ok,v]:=by
 simp[commResult,rcase,List.zipIdx_cons]
theorem res_rd(c:Nat)(z v:Value)(ok:Bool):commResult #[rcase c z] .select (-1) v ok=.tuple #[goInt (-1),.bool ok,z]:=by
 simp[commResult,rcase,List.zipIdx_cons]
theorem res_s(c:Nat)(x z v:Value)(ok:Bool):commResult #[scase c x z] .select ((0:Nat):Int) v ok=.tuple #[goInt 0,.bool ok]:=by
 simp[commResult,scase,List.zipIdx_cons]
theorem res_sd(c:Nat)(x z v:Value)(ok:Bool):commResult #[scase c x z] .select (-1) v ok=.tuple #[goInt (-1),.bool ok]:=by
 simp[commResult,scase,List.zipIdx_cons]
structure Kp (c:Nat) (row:Option Nat) (w w':World):Prop where
 os:w'.os=w.os
 tape:w'.tape=w.tape
 output:w'.output=w.output
 size:w.heap.size≤w'.heap.size
 block:∀k,k<w.heap.size→k≠c→some k≠row→w'.heap[k]?=w.heap[k]?
theorem Kp.refl(c:Nat)(row:Option Nat)(w:World):Kp c row w w:=⟨rfl,rfl,rfl,Nat.le_refl _,fun _ _ _ _=>rfl⟩
theorem Kp.grown{c:Nat}{row row':Option Nat}{w v w':World}(h:Kp c row w v)(hg:v.grownBy w' row')(hrow:∀g,row'=some g→row=some g∨w.heap.size≤g∨g=c):Kp c row w w':=
 ⟨hg.os.trans h.os,hg.tape.trans h.tape,hg.output.trans h.output,Nat.le_trans h.size hg.size,fun k hk hc hr=>by
  rw[hg.block k (Nat.lt_of_lt_of_le hk h.size) (fun e=>by
   rcases hrow k e.symm with e2|e2|e2
   ·exact hr e2.symm
   ·omega
   ·exact hc e2)]
  exact h.block k hk hc hr⟩
theorem Kp.on{c:Nat}{row:Option Nat}{w v w':World}(h:Kp c row w v)(hb:Below v.heap.size v w'):Kp c row w w':=
 ⟨hb.os.trans h.os,hb.tape.trans h.tape,hb.output.trans h.output,Nat.le_trans h.size hb.size,fun k hk hc hr=>(hb.block k (Nat.lt_of_lt_of_le hk h.size)).trans (h.block k hk hc hr)⟩
theorem Kp.below{c B:Nat}{row:Option Nat}{w w':World}(h:Kp c row w w')(hc:B≤c)(hr:∀g,row=some g→B≤g)(hB:B≤w.heap.size):Below B w w':=
 ⟨h.os,h.tape,h.output,h.size,fun k hk=>h.block k (Nat.lt_of_lt_of_le hk hB) (by omega) (fun e=>by have:=hr k e.symm;omega)⟩
theorem Bx4.kp{c g:Nat}{row:Option Nat}{v v':World}{x0 x1 x2 x3:Value}(h:Bx4 v g x0 x1 x2 x3)(hk:Kp c row v v')(hc:g≠c)(hr:some g≠row):Bx4 v' g x0 x1 x2 x3:=by
 have hb:=hk.block g h.lt hc hr;have hcell:∀j,v'.cell? ⟨g,j,none⟩=v.cell? ⟨g,j,none⟩:=fun j=>World.cell?_of_block hb
 have hfr:∀j,v'.frozen? ⟨g,j,none⟩=v.frozen? ⟨g,j,none⟩:=fun j=>World.frozen?_of_block hb
 exact⟨(hcell 0).trans h.c0,(hcell 1).trans h.c1,(hcell 2).trans h.c2,(hcell 3).trans h.c3,(hfr 0).trans h.f0,(hfr 1).trans h.f1,(hfr 2).trans h.f2,(hfr 3).trans h.f3,Nat.lt_of_lt_of_le h.lt hk.size⟩
def Row12(w:World)(v0 v:Value):Prop:=∀g,v.ownBlock=some g→v0.ownBlock=some g∨w.heap.size≤g
theorem take_is{no:Int}{w:World}{c base sn rn:Nat}{q L:List Wd}{v:Value}(hch:w.heap[c]?=some (.chan 16 (bufV no q) false sn rn false))(hown:OwnT w base v no L)(hcb:c<base)(hbw:base≤w.heap.size)(hl:L.length+q.length≤6000) :
  Calls Tryz.prog 17 #[.chan (some c),v] w (fun e w'=>∃v' sn' rn',e=.returned v'∧OwnT w' base v' no (L++q)∧w'.heap[c]?=some (.chan 16 (bufV no []) false sn' rn' false)∧Row12 w v v'∧Kp c v.ownBlock w w'):=by
 obtain⟨i0,hi0,hz0,hz1,hz2⟩:=info_parts11 info_tok;have CH0:=Jh hch;have OW0:=Jh hown;have HL:=Jh hl;have HCB:Hid (c<base∧base≤w.heap.size):=⟨hcb,hbw⟩;obtain⟨A0,c0,hv0⟩:=hown.slen;clear hch hown hl hcb hbw;go_enter Tryz.func17,Tryz.ntmps17;go_wp2_with fail;go_loopw [1] (fun ov wr=>∃i:Nat,i≤q.length∧OwnT wr base ov no (L++q.take i)∧wr.heap[c]?=some (.chan 16 (bufV no (q.drop i)) false sn (rn+i) false)∧Row12 w v ov∧Kp c v.ownBlock w wr) (fun _ wr=>chLeft c wr)
 case atStart=>exact⟨0,Nat.zero_le _,by rw[List.take_zero,List.append_nil];exact OW0.out,CH0.out,fun g e=>.inl e,Kp.refl _ _ _⟩
 case round=>
  obtain⟨i,hi,hown,hch,hrow,hkp⟩:=hrel;obtain⟨A2,c2,hcv⟩:=hown.slen;rw[List.length_append,List.length_take,Nat.min_eq_left hi] at hcv;subst hcv;obtain⟨n,hn⟩:∃n,L.length+i=n:=⟨_,rfl⟩;rw[hn] at hown hrow ⊢;have OW:=Jh hown;have CH:=Jh hch;have RW:=Jh hrow;have KP:=Jh hkp;have HI:=Jh hi;have HN:=Jh hn;clear hown hch hrow hkp hi hn;have hml:=chLeft_is CH.out;rw[bufV_size] at hml;have ML:=Jh hml;clear hml;go_upto_region 2 with fail
  rcases Nat.lt_or_ge i q.length with hlt|hge
  ·obtain⟨t,ht⟩:∃t,q[i]?=some t:=⟨_,List.getElem?_eq_getElem hlt⟩
   refine wp_region_comm _ _ rfl (comm_sel_recv (cases:=#[rcase c (.agg #[.int .i64 0,.string ⟨#[]⟩,.int .i64 0,.int .i64 0])]) (blocking:=false) (by simp[go_sem,execOp,rcase,Act.eval]) 0 rfl (fun m c' hm hc'=>?_) CH.out (by rw[bufV_size,List.length_drop];omega)) ?_
   ·rcases m with _|m
    ·exact absurd rfl hm
    ·simp at hc'
   rw[res_r,bufV_get ht,bufV_rest];have hc1:c<wr.heap.size:=by have:=KP.out.size;have:=HCB.out;omega
   have OW1:=Jh (OW.out.setChan (c:=c) (n:=16) (b:=bufV no (q.drop (i+1))) (cl:=false) (s:=sn) (r:=rn+i+1) (tm:=false) HCB.out.1);have CH1:=Jh (heap_setChan wr c 16 (bufV no (q.drop (i+1))) false sn (rn+i+1) false hc1);have KP1:=Jh (KP.out.grown (grown_setChan wr c 16 (bufV no (q.drop (i+1))) false sn (rn+i+1) false) (fun g e=>.inr (.inr (Option.some.inj e).symm)));generalize World.setChan wr c 16 (bufV no (q.drop (i+1))) false sn (rn+i+1) false=w2 at OW1 CH1 KP1 ⊢;obtain⟨k,hk⟩:∃k:Int,(t.1:Int)=k:=⟨_,rfl⟩;obtain⟨T,hT⟩:∃T,st9 t.2.1=T:=⟨_,rfl⟩;obtain⟨col,hcol⟩:∃c:Int,(t.2.2:Int)=c:=⟨_,rfl⟩;have TV:Hid (rowT no (L++q.take (i+1))=rowT no (L++q.take i)++[.int .i64 k,.string T,.int .i64 no,.int .i64 col]):=by
    show _=_;rw[List.take_add_one,ht,Option.toList_some,← List.append_assoc,rowT_push,hk,hT,hcol]
   rw[show tokV no t=.agg #[.int .i64 k,.string T,.int .i64 no,.int .i64 col] from by unfold tokV;rw[hk,hT,hcol]];clear hk hT hcol ht CH KP OW;obtain⟨W9,hW9⟩:∃v,World.alloc (World.alloc w2 (.cells #[.int .i64 k,.string T,.int .i64 no,.int .i64 col] 65)) (.cells #[.int .i64 k,.string T,.int .i64 no,.int .i64 col] 65)=v:=⟨_,rfl⟩;have B9:Hid (Below w2.heap.size w2 W9):=by show Below _ _ _;rw[← hW9];exact((Below.refl _ _).alloc (Nat.le_refl _) _).alloc (by simp) _
   have KP9:=Jh (KP1.out.on B9.out);have g2:c<w2.heap.size:=by have:=KP1.out.size;have:=HCB.out;omega
   have LEN:Hid ((L++q.take i).length=n):=by show _=_;rw[List.length_append,List.length_take,Nat.min_eq_left HI.out];exact HN.out
   have LEN1:Hid ((L++q.take (i+1)).length=n+1):=by show _=_;rw[List.length_append,List.length_take,Nat.min_eq_left hlt];have:=HN.out;omega
   have OW9:Hid (W9.ownsRow base 65 4 (.slice A2 n c2) n (rowT no (L++q.take i))):=by
    have:=OW1.out.on B9.out;unfold OwnT at this;rw[LEN.out] at this;exact this
   have NEW:Hid (∀j u,([.int .i64 k,.string T,.int .i64 no,.int .i64 col]:List Value)[j]?=some u→W9.cell? ((⟨w2.heap.size+1,0,none⟩:Addr).add j)=some u):=by
    show ∀j u,_;rw[← hW9];exact tok_new _ _ _ _ _ _ (by simp)
   have hb9:base≤W9.heap.size:=by have:=KP9.out.size;have:=HCB.out;omega
   have hn2:n≤6000:=by have:=HN.out;have:=HL.out;omega
   have R9:Hid (∀g,(Value.slice A2 n c2).ownBlock=some g→base≤g∧g<W9.heap.size):=fun g e=>World.ownsRow.lt OW9.out g e
   go_wp2_with (at_builtin;(try rw[hW9]);refine wpList_append_lies _ rfl (.tmp 12) (.tmp 14) 23 rfl base 65 i0 (.agg #[.int .i64 0,.string ⟨#[]⟩,.int .i64 0,.int .i64 0]) 4 40 Tryz.underlying23 hi0 hz0 hz1 hz2 zcells4 (by decide) (.slice A2 n c2) n (rowT no (L++q.take i)) rfl OW9.out ⟨w2.heap.size+1,0,none⟩ 1 1 [.int .i64 k,.string T,.int .i64 no,.int .i64 col] rfl rfl NEW.out (by intro u hu;simp at hu;rcases hu with rfl|rfl|rfl|rfl<;>rfl) (by decide) (by unfold maxLen;omega) (by omega) hb9 W9.heap.size rfl ?_;intro g4 cap4 w11 hown4 hgr4 hat4 hlt4;have OWB:Hid (OwnT w11 base (.slice (some ⟨g4,0,none⟩) (n+1) cap4) no (L++q.take (i+1))):=(by show OwnT _ _ _ _ _;unfold OwnT;rw[LEN1.out,TV.out];exact hown4);have CHB:Hid (w11.heap[c]?=some (.chan 16 (bufV no (q.drop (i+1))) false sn (rn+i+1) false)):=(by show _=_;rw[hgr4.block c (by have:=B9.out.size;omega) (fun e=>by have:=(R9.out c e.symm).1;have:=HCB.out.1;omega),B9.out.block c g2];exact CH1.out);have KPB:=Jh (KP9.out.grown hgr4 (fun g e=>(RW.out g e).elim .inl (fun h=>.inr (.inl h))));have RWB:Hid (Row12 w v (.slice (some ⟨g4,0,none⟩) (n+1) cap4)):=(fun g e=>by obtain rfl:g4=g:=Option.some.inj e;rcases hat4 with h|h;exact RW.out _ h;exact .inr (by rw[h];exact KP9.out.size));clear hown4 hgr4 hat4 hlt4);go_roundw
   case rel=>exact⟨i+1,hlt,OWB.out,CHB.out,RWB.out,KPB.out⟩
   case measure=>
    show chLeft c w11<chLeft c wr;rw[ML.out,chLeft_is CHB.out,bufV_size,List.length_drop,List.length_drop];omega
  ·refine wp_region_comm _ _ rfl (comm_sel_default (cases:=#[rcase c (.agg #[.int .i64 0,.string ⟨#[]⟩,.int .i64 0,.int .i64 0])]) (by simp[go_sem,execOp,rcase,Act.eval]) (fun cc hcc=>?_)) ?_
   ·simp only[List.mem_toArray,List.mem_cons,List.not_mem_nil,or_false] at hcc
    subst hcc;have:=CH.out;rw[List.drop_of_length_le hge] at this;exact noWay_recv this
   rw[res_rd];obtain rfl:i=q.length:=by have:=HI.out;omega
   rw[List.take_length] at OW;have CHE:Hid (wr.heap[c]?=some (.chan 16 (bufV no []) false sn (rn+q.length) false)):=by show _=_;have:=CH.out;rw[List.drop_of_length_le (Nat.le_refl _)] at this;exact this
   go_wp2_with fail;go_ret;exact⟨_,_,_,rfl,OW.out,CHE.out,RW.out,KP.out⟩
theorem handon_is{no:Int}{w:World}{c base sn rn:Nat}{q L:List Wd}{v:Value}{t:Wd}(hch:w.heap[c]?=some (.chan 16 (bufV no q) false sn rn false))(hown:OwnT w base v no L)(hcb:c<base)(hbw:base≤w.heap.size)(hl:L.length+q.length≤6000) :
  Calls Tryz.prog 16 #[tokV no t,.chan (some c),v] w (fun e w'=>∃v' L' q' sn' rn',e=.returned v'∧OwnT w' base v' no L'∧w'.heap[c]?=some (.chan 16 (bufV no q') false sn' rn' false)∧L'++q'=L++q++[t]∧Below c w w'):=by
 obtain⟨k,hk⟩:∃k:Int,(t.1:Int)=k:=⟨_,rfl⟩;obtain⟨T,hT⟩:∃T,st9 t.2.1=T:=⟨_,rfl⟩;obtain⟨col,hcol⟩:∃c:Int,(t.2.2:Int)=c:=⟨_,rfl⟩;have TV:Hid (tokV no t=.agg #[.int .i64 k,.string T,.int .i64 no,.int .i64 col]):=by show _=_;unfold tokV;rw[hk,hT,hcol]
 rw[TV.out];clear hk hT hcol;have CH0:=Jh hch;have OW0:=Jh hown;have HL:=Jh hl;have HCB:Hid (c<base∧base≤w.heap.size):=⟨hcb,hbw⟩;obtain⟨A0,c0,hv0⟩:=hown.slen;subst hv0;clear hch hown hl hcb hbw;go_enter Tryz.func16,Tryz.ntmps16;go_wp2_with fail;generalize hW:World.alloc w _=W0;have B0:Hid (Below w.heap.size w W0):=by show Below _ _ _;rw[← hW];exact(Below.refl _ _).alloc (Nat.le_refl _) _
 have X0:Hid (Bx4 W0 w.heap.size (.int .i64 k) (.string T) (.int .i64 no) (.int .i64 col)):=by show Bx4 _ _ _ _ _ _;rw[← hW];exact Bx4.newAt _ _ _ _ _ _ rfl
 clear hW;go_loopw [2] (fun ov wr=>∃(L' q':List Wd) (sn' rn':Nat),OwnT wr base ov no L'∧wr.heap[c]?=some (.chan 16 (bufV no q') false sn' rn' false)∧L'++q'=L++q∧ov.ownBlock≠some w.heap.size∧Bx4 wr w.heap.size (.int .i64 k) (.string T) (.int .i64 no) (.int .i64 col)∧Below c w wr) (fun _ wr=>chLeft c wr)
 case atStart=>exact⟨L,q,sn,rn,OW0.out.on B0.out,(B0.out.block c (by have:=HCB.out;omega)).trans CH0.out,rfl,fun e=>by have:=(World.ownsRow.lt OW0.out _ e).2;omega,X0.out,B0.out.mono (by have:=HCB.out;omega)⟩
 case round=>
  obtain⟨L',q',sn',rn',hown,hch,hlq,hne,hbx,hb⟩:=hrel;obtain⟨A2,c2,hcv⟩:=hown.slen;subst hcv;have OW:=Jh hown;have CH:=Jh hch;have LQ:=Jh hlq;have NE:=Jh hne;have BX:=Jh hbx;have HB:=Jh hb;clear hown hch hlq hne hbx hb;have hml:=chLeft_is CH.out;rw[bufV_size] at hml;have ML:=Jh hml;clear hml;obtain⟨p0,p1,p2,p3,pf0,pf1,pf2,pf3,plt⟩:=BX.out;go_upto_region 3 with fail
  clear p0 p1 p2 p3 pf0 pf1 pf2 pf3 plt;have hcw:c<wr.heap.size:=by have:=HB.out.size;have:=HCB.out;omega
  rcases Nat.lt_or_ge q'.length 16 with hlt|hge
  ·refine wp_region_comm _ _ rfl (comm_sel_send (cases:=#[scase c (.agg #[.int .i64 k,.string T,.int .i64 no,.int .i64 col]) (.agg #[.int .i64 0,.string ⟨#[]⟩,.int .i64 0,.int .i64 0])]) (blocking:=false) (by simp[go_sem,execOp,scase,Act.eval]) 0 rfl (fun m c' hm hc'=>?_) CH.out (by rw[bufV_size];exact hlt)) ?_
   ·rcases m with _|m
    ·exact absurd rfl hm
    ·simp at hc'
   rw[res_s,← TV.out,bufV_push];have OW1:=Jh (OW.out.setChan (c:=c) (n:=16) (b:=bufV no (q'++[t])) (cl:=false) (s:=sn'+1) (r:=rn') (tm:=false) HCB.out.1);have CH1:=Jh (heap_setChan wr c 16 (bufV no (q'++[t])) false (sn'+1) rn' false hcw);have HB1:=Jh (below_setChan HB.out (Nat.le_refl c) 16 (bufV no (q'++[t])) false (sn'+1) rn' false);generalize World.setChan wr c 16 (bufV no (q'++[t])) false (sn'+1) rn' false=w2 at OW1 CH1 HB1 ⊢;go_wp2_with fail;go_ret;exact⟨_,L',q'++[t],_,_,rfl,OW1.out,CH1.out,by rw[← List.append_assoc,LQ.out],HB1.out⟩
  ·refine wp_region_comm _ _ rfl (comm_sel_default (cases:=#[scase c (.agg #[.int .i64 k,.string T,.int .i64 no,.int .i64 col]) (.agg #[.int .i64 0,.string ⟨#[]⟩,.int .i64 0,.int .i64 0])]) (by simp[go_sem,execOp,scase,Act.eval]) (fun cc hcc=>?_)) ?_
   ·simp only[List.mem_toArray,List.mem_cons,List.not_mem_nil,or_false] at hcc
    subst hcc;exact noWay_send CH.out (by rw[bufV_size];exact hge)
   rw[res_sd];go_wp2_with fail;have hlen:L'.length+q'.length≤6000:=by
    have:=congrArg List.length LQ.out;rw[List.length_append,List.length_append] at this;have:=HL.out;omega
   refine(take_is CH.out OW.out HCB.out.1 (by have:=HB.out.size;have:=HCB.out;omega) hlen).mono ?_;rintro e w3 ⟨v3,sn3,rn3,rfl,hown3,hch3,hrow3,hkp3⟩;have OW3:=Jh hown3;have CH3:=Jh hch3;have NE3:Hid (v3.ownBlock≠some w.heap.size):=fun e=>by
    rcases hrow3 _ e with h|h
    ·exact NE.out h
    ·have:=BX.out.lt;omega
   have BX3:=Jh (BX.out.kp hkp3 (by have:=HCB.out;omega) (fun e=>NE.out e.symm));have HB3:=Jh (HB.out.trans (hkp3.below (Nat.le_refl c) (fun g e=>by have:=(World.ownsRow.lt OW.out g e).1;have:=HCB.out.1;omega) (by omega)));clear hown3 hch3 hrow3 hkp3;go_wp2_with fail;go_roundw
   case rel=>exact⟨L'++q',[],sn3,rn3,OW3.out,CH3.out,by rw[List.append_nil];exact LQ.out,NE3.out,BX3.out,HB3.out⟩
   case measure=>
    show chLeft c w3<chLeft c wr;rw[ML.out,chLeft_is CH3.out,bufV_size];show 0<_;omega
def wat(l:List Nat)(a:Nat):Nat:=if l[a+indl (l.drop a)]?=some 59 then l.length else a+indl (l.drop a)
theorem wat_le{l:List Nat}{a:Nat}(h:a≤l.length):a≤wat l a∧wat l a≤l.length:=by
 have:=indl_le (l.drop a);rw[List.length_drop] at this;unfold wat;split<;>omega
theorem wat_at{l:List Nat}{a:Nat}(h:wat l a<l.length):indl (l.drop (wat l a))=0∧¬Stop12 (l.drop (wat l a)):=by
 unfold wat at h ⊢;split at h
 ·omega
 ·rename_i h59
  rw[if_neg h59];refine⟨by rw[← List.drop_drop];exact indl_drop _,?_⟩;rintro(e|e)
  ·have:=congrArg List.length e
   rw[List.length_drop] at this;have h0:l.length-(a+indl (l.drop a))=0:=this;omega
  ·rw[List.head?_drop] at e
   exact h59 e
theorem wat_WD{D N:List Nat→Bool}(hD:DayOk D)(l:List Nat)(a:Nat):WD D N a (l.drop a)=WD D N (wat l a) (l.drop (wat l a)):=by
 unfold wat;split
 ·rename_i h59
  rw[WD_stop (.inr (by rw[List.drop_drop,List.head?_drop];exact h59)),WD_stop (.inl (by rw[List.drop_of_length_le (Nat.le_refl _)];rfl))]
 ·rw[WD_indent hD,List.drop_drop]
theorem wordat_is{s:ByteArray}{a i:Nat}(ha:a≤s.size)(h:wat (bs9 s) a=i)(hs:s.size≤6000)(w:World):Calls Tryz.prog 14 #[.string s,.int .i64 (a:Int)] w (Ret9 w (.int .i64 (i:Int))):=by
 obtain⟨A,hA⟩:∃A,s.extract a s.size=A:=⟨_,rfl⟩;have hslA:∀w',(Instr.slice 9 (.string s) (some (.int .i64 (a:Int))) none none).run Tryz.prog w'=.ok (.string A) w':=sl_from ha hA;have AB:bs9 A=(bs9 s).drop a:=by rw[← hA,bs9_drop]
 have hAs:A.size≤1000000:=by rw[← bs9_len,AB,List.length_drop,bs9_len];omega
 obtain⟨j,hj⟩:∃j,indl (bs9 A)=j:=⟨_,rfl⟩;have HJ:=Jh hj;have hjs:a+j≤s.size:=by have:=indl_le (bs9 A);rw[hj,AB,List.length_drop,bs9_len] at this;omega
 obtain⟨m,hm⟩:∃m,a+j=m:=⟨_,rfl⟩;have e1:(a:Int)+(j:Int)=(m:Int):=by omega
 rw[hm] at hjs;obtain⟨B,hB⟩:∃B,s.extract m s.size=B:=⟨_,rfl⟩;have hslB:∀w',(Instr.slice 9 (.string s) (some (.int .i64 (m:Int))) none none).run Tryz.prog w'=.ok (.string B) w':=sl_from hjs hB;have BB:(bs9 B).head?=(bs9 s)[m]?:=by rw[← hB,bs9_drop,List.head?_drop]
 have WT:Hid (wat (bs9 s) a=if (bs9 s)[m]?=some 59 then s.size else m):=by
  show _=_;unfold wat;rw[← AB,hj,hm,bs9_len]
 by_cases hc:(bs9 s)[m]?=some 59
 ·have PB:Hid (((bs9 B).head? == some 59)=true):=by show _=_;rw[BB,hc];rfl
  have E:Hid (i=s.size):=by show _=_;rw[← h,WT.out,if_pos hc]
  clear hc BB WT h hB hA AB hj hm;go_enter Tryz.func14,Tryz.ntmps14;go_wp2_with fail;refine(indent_any A _ hAs).mono ?_;rintro e w1 ⟨rfl,hb⟩;rw[HJ.out];have HB:=Jh hb;clear hb;go_wp2_with fail;refine(first_is (c:=59) (p:=⟨#[59]⟩) rfl PB.out _).mono ?_;rintro e w2 ⟨rfl,hw⟩;obtain rfl:=hw.symm;go_wp2_with fail;go_ret;exact⟨by rw[E.out];rfl,HB.out⟩
 ·have PB:Hid (((bs9 B).head? == some 59)=false):=by show _=_;rw[BB,beq_eq_false_iff_ne];exact hc
  have E:Hid (i=m):=by show _=_;rw[← h,WT.out,if_neg hc]
  clear hc BB WT h hB hA AB hj hm;go_enter Tryz.func14,Tryz.ntmps14;go_wp2_with fail;refine(indent_any A _ hAs).mono ?_;rintro e w1 ⟨rfl,hb⟩;rw[HJ.out];have HB:=Jh hb;clear hb;go_wp2_with fail;refine(first_is (c:=59) (p:=⟨#[59]⟩) rfl PB.out _).mono ?_;rintro e w2 ⟨rfl,hw⟩;obtain rfl:=hw.symm;go_wp2_with fail;go_ret;exact⟨by rw[E.out];rfl,HB.out⟩
theorem lexwords_is{D N:List Nat→Bool}{ok:World→Prop}(hk:Okw ok)(hD:DayOk D)(hu:UNQ ok)(h8:O08 D ok)(h7:O07 N ok)(h11:O11 ok)(no:Int)(s:ByteArray)(hs:s.size≤6000)(w:World)(hok:ok w):Calls Tryz.prog 5 #[.agg #[.int .i64 no,.string s]] w (RetW w no (WD D N 0 (bs9 s))):=by
 obtain⟨i0,hi0,hz0,hz1,hz2⟩:=info_parts11 info_tok;have hmc:∀w',(Instr.makeChan 62 (.int .i64 16)).run Tryz.prog w'=.ok (.chan (some w'.heap.size)) (w'.alloc (.chan 16 #[] false 0 0 false)):=fun w'=>
  run_makeChan Tryz.underlying62 hi0 .i64 16 (by omega) (by rw[hz2];omega)
 have NXT:Hid (∀{S Y:ByteArray}{k n e0:Nat}{W:World},ok W→S.size≤6000→nvq (nxt D N (bs9 S))=(k,Y,n,e0)→Calls Tryz.prog 15 #[.string S] W (Q4 W k Y n e0)):=fun hok hS h=>lexnext_is hk hu h8 h7 h11 h hS _ hok
 have HDY:=Jh hD;have OK:Hid (∀{W:World},Below w.heap.size w W→ok W):=fun hb=>hk hok hb
 obtain⟨G,hG⟩:∃G,WD D N 0 (bs9 s)=G:=⟨_,rfl⟩;rw[hG];have HG:=Jh hG;have HL:Hid ((bs9 s).length=s.size):=bs9_len s;obtain⟨a0,ha0⟩:∃a,wat (bs9 s) 0=a:=⟨_,rfl⟩;have HA0:=Jh ha0;have ha0s:a0≤s.size:=by have:=(wat_le (l:=bs9 s) (Nat.zero_le _)).2;rw[ha0,bs9_len] at this;exact this
 have GO0:Hid (G=appW ([]++[]) (WD D N a0 ((bs9 s).drop a0))):=by
  show _=_;have:=wat_WD (N:=N) hD (bs9 s) 0;rw[List.drop_zero,ha0] at this;rw[← hG,this];exact(appW_nil _).symm
 have AT0:Hid (a0<s.size→indl ((bs9 s).drop a0)=0∧¬Stop12 ((bs9 s).drop a0)):=fun h=>by
  have:=wat_at (l:=bs9 s) (a:=0) (by rw[ha0,bs9_len];exact h);rwa [ha0] at this
 clear hG hD hu h8 h7 h11 ha0 hk hok;go_enter Tryz.func5,Tryz.ntmps5;go_wp2_with fail;obtain⟨W3,hW3⟩:∃v,World.alloc (World.alloc (World.alloc w (.cells #[.int .i64 no,.string s] 32)) (.cells #[.int .i64 0,.int .i64 0,.int .i64 0] 28)) (.chan 16 #[] false 0 0 false)=v:=⟨_,rfl⟩;obtain⟨c,hc⟩:∃c,w.heap.size+1+1=c:=⟨_,rfl⟩;have MW:Hid (Mw w W3 no s):=by
  show Mw _ _ _ _;rw[← hW3];have M2:Mw w (World.alloc (World.alloc w (.cells #[.int .i64 no,.string s] 32)) (.cells #[.int .i64 0,.int .i64 0,.int .i64 0] 28)) no s:=
   ⟨((Below.refl _ _).alloc (Nat.le_refl _) _).alloc (by simp) _,(Bx2.newAt _ _ _ _ rfl).on ((Below.refl _ _).alloc (Nat.le_refl _) _),Bx3.newAt _ _ _ _ _ (by simp)⟩
  exact M2.on ((Below.refl _ _).alloc (Nat.le_refl _) _)
 have S3:W3.heap.size=c+1:=by rw[← hW3,← hc];simp
 have CH:Hid (W3.heap[c]?=some (.chan 16 (bufV no []) false 0 0 false)):=by
  show _=_;have:=heap_alloc_new (World.alloc (World.alloc w (.cells #[.int .i64 no,.string s] 32)) (.cells #[.int .i64 0,.int .i64 0,.int .i64 0] 28)) (.chan 16 #[] false 0 0 false);rw[show bufV no []=#[] from rfl,← hW3,← hc];simpa using this
 rw[hW3,hc];have HC:Hid (w.heap.size+2=c):=hc;clear hW3 hc;refine(wordat_is (a:=0) (Nat.zero_le _) HA0.out hs _).mono ?_;rintro e w1 ⟨rfl,hb⟩;replace MW:=Jh (MW.out.on hb);replace CH:=Jh ((hb.block c (by omega)).trans CH.out);have hcs:c+1≤w1.heap.size:=by have:=hb.size;omega
 clear hb S3;go_wp2_with fail;go_loopw [5,6] (fun ov av wr=>∃(a:Nat) (L q:List Wd) (sn rn:Nat),av=.int .i64 a∧a≤s.size∧(a<s.size→indl ((bs9 s).drop a)=0∧¬Stop12 ((bs9 s).drop a))∧OwnT wr (c+1) ov no L∧wr.heap[c]?=some (.chan 16 (bufV no q) false sn rn false)∧G=appW (L++q) (WD D N a ((bs9 s).drop a))∧L.length+q.length≤a∧Mw w wr no s∧c+1≤wr.heap.size) (fun _ av _=>s.size-(intOf av).toNat)
 case atStart=>exact⟨a0,[],[],0,0,rfl,ha0s,AT0.out,OwnT.start _ _ _,CH.out,GO0.out,Nat.zero_le _,MW.out,hcs⟩
 case round=>
  obtain⟨a,L,q,sn,rn,rfl,has,hat,hown,hch,hgo,hll,hmw,hcw⟩:=hrel;clear MW CH HG GO0 AT0 hcs;have MW:=Jh hmw;have OW:=Jh hown;have CH:=Jh hch;have GO:=Jh hgo;have AT:=Jh hat;have LL:=Jh hll;have HCW:=Jh hcw;obtain⟨A2,c2,hmv⟩:=OW.out.slen;subst hmv;clear hown hgo hat hmw hch hll hcw;obtain⟨q0,q1,qf0,qf1,qlt⟩:=MW.out.2.1;rcases Nat.lt_or_ge a s.size with hlt|hge
  ·obtain⟨I0,NS⟩:=AT.out hlt
   have HI0:=Jh I0;have HNS:=Jh NS;clear I0 NS;obtain⟨S,hS⟩:∃S,s.extract a s.size=S:=⟨_,rfl⟩;have hsl:∀w',(Instr.slice 9 (.string s) (some (.int .i64 (a:Int))) none none).run Tryz.prog w'=.ok (.string S) w':=sl_from has hS;have HSB:Hid (bs9 S=(bs9 s).drop a):=by show _=_;rw[← hS,bs9_drop]
   have mS:S.size≤6000:=by rw[← hS];simp only[ByteArray.size_extract];omega
   have DR:Hid (((bs9 s).drop a).drop (indl ((bs9 s).drop a))=(bs9 s).drop a):=by show _=_;rw[HI0.out,List.drop_zero]
   obtain⟨a1,ha1⟩:∃a1,a1=a+1:=⟨_,rfl⟩;have ea:(a:Int)+1=(a1:Int):=by omega
   clear hS;have PX:Hid (Bx2 (wr.alloc (.cells #[.int .i64 no,.int .i64 (a1:Int)] 25)) wr.heap.size (.int .i64 no) (.int .i64 (a1:Int))):=Bx2.newAt _ _ _ _ rfl;have BP:Hid (Below wr.heap.size wr (wr.alloc (.cells #[.int .i64 no,.int .i64 (a1:Int)] 25))):=(Below.refl _ _).alloc (Nat.le_refl _) _;cases hn:nxt D N (bs9 S) with
   | inl e0=>
    have NE:Hid (nvq (nxt D N (bs9 S))=(0,⟨#[]⟩,0,e0)):=by show _=_;rw[hn];rfl
    have he0:=nxt_err hn;have de:((e0:Int) != 0)=true:=by rw[bne_iff_ne];omega
    have E:Hid (G=.inl (a1,e0)):=by
     show _=_;rw[GO.out,WD_err (e:=e0) (by rw[DR.out];exact HNS.out) (by rw[DR.out,← HSB.out];exact hn),HI0.out,ha1];rfl
    clear hn he0 ha1;go_wp2_with fail;replace MW:=Jh (MW.out.on BP.out);refine(NXT.out (OK.out MW.out.1) mS NE.out).mono ?_;rintro e w2 ⟨rfl,hb⟩;replace MW:=Jh (MW.out.on hb);replace PX:=Jh (PX.out.on hb);clear hb q0 q1 qf0 qf1 qlt;obtain⟨q0,q1,qf0,qf1,qlt⟩:=PX.out;obtain⟨y0,y1,y2,yf0,yf1,yf2,ylt⟩:=MW.out.2.2;go_wp2_with fail;go_region
    all_goals go_wp2_with fail
    have Z:=((MW.out.2.2.set0 (.int .i64 no)).set1 (.int .i64 (a1:Int))).set2 (.int .i64 (e0:Int));have BZ:=Jh (((MW.out.1.setCell (p:=⟨w.heap.size+1,0,none⟩) (by simp) (.int .i64 no)).setCell (p:=⟨w.heap.size+1,1,none⟩) (by simp) (.int .i64 (a1:Int))).setCell (p:=⟨w.heap.size+1,2,none⟩) (by simp) (.int .i64 (e0:Int)));have BA:=(((Below.refl _ (((w2.setCell ⟨w.heap.size+1,0,none⟩ (.int .i64 no)).setCell ⟨w.heap.size+1,1,none⟩ (.int .i64 (a1:Int))).setCell ⟨w.heap.size+1,2,none⟩ (.int .i64 (e0:Int)))).alloc (Nat.le_refl _) (.cells #[.int .i64 0,.string ⟨#[]⟩,.int .i64 0,.int .i64 0] 65)).drew);have HBZ:=Jh (BZ.out.trans (BA.mono BZ.out.size));obtain⟨zc0,zc1,zc2,_,_,_,_⟩:=Z.on BA;clear BA;exact bodyPost_ret (v:=.tuple #[.slice none 0 0,.agg #[.int .i64 no,.int .i64 (a1:Int),.int .i64 (e0:Int)]]) (by simp[results,Tryz.results5,go_sem,zc0,zc1,zc2]) rfl (by rw[E.out];exact⟨rfl,HBZ.out⟩)
   | inr r=>
    obtain⟨k,y,n⟩:=r;have hyl:=nxt_lt hn (bs9_lt S);obtain⟨Y,hY⟩:∃Y,bs9 Y=y:=⟨st9 y,bs9_st9 hyl⟩;subst hY;have NE:Hid (nvq (nxt D N (bs9 S))=(k,Y,n,0)):=by show _=_;rw[hn];show(k,st9 (bs9 Y),n,0)=_;rw[st9_bs9]
    obtain⟨g1,g2,_⟩:=nxt_back HDY.out hn;rw[bs9_len] at g2;have G12:Hid (1≤n∧n≤S.size):=⟨g1,g2⟩;have hn6000:n≤6000:=by omega
    obtain⟨a2,ha2⟩:∃a2,a2=a+n:=⟨_,rfl⟩;have ea2:(a:Int)+(n:Int)=(a2:Int):=by omega
    have hSs:S.size=s.size-a:=by rw[← bs9_len S,HSB.out,List.length_drop,HL.out]
    have ha2s:a2≤s.size:=by omega
    obtain⟨a3,ha3⟩:∃a3,wat (bs9 s) a2=a3:=⟨_,rfl⟩;have HA3:=Jh ha3;have W3L:=wat_le (l:=bs9 s) (a:=a2) (by rw[bs9_len];exact ha2s);rw[ha3,bs9_len] at W3L;have FIN:Hid (a2≤a3∧a3≤s.size∧a+1≤a2):=⟨W3L.1,W3L.2,by omega⟩;have AT3:Hid (a3<s.size→indl ((bs9 s).drop a3)=0∧¬Stop12 ((bs9 s).drop a3)):=fun h=>by
     have:=wat_at (l:=bs9 s) (a:=a2) (by rw[ha3,bs9_len];exact h);rwa [ha3] at this
    have GO2:Hid (∀{M:List Wd},M=L++q++[(k,bs9 Y,a1)]→G=appW M (WD D N a3 ((bs9 s).drop a3))):=fun {M} hM=>by
     have hw:=WD_ok (N:=N) HDY.out (a:=a) (l:=(bs9 s).drop a) (k:=k) (n:=n) (x:=bs9 Y) (by rw[DR.out];exact HNS.out) (by rw[DR.out,← HSB.out];exact hn);have ez:∀m:Nat,m+0=m:=fun m=>rfl
     rw[HI0.out,List.drop_zero,List.drop_drop,ez a,← ha1,← ha2] at hw;rw[hM,GO.out,hw,appW_cons,wat_WD HDY.out (bs9 s) a2,ha3]
    have TK:Hid (tokV no (k,bs9 Y,a1)=.agg #[.int .i64 (k:Int),.string Y,.int .i64 no,.int .i64 (a1:Int)]):=by show _=_;unfold tokV;rw[st9_bs9]
    have LL2:=Jh (Nat.le_trans LL.out (Nat.le_trans has hs));clear hn hyl ha1 g1 g2 ha2 ha3 hSs W3L;go_wp2_with fail;replace MW:=Jh (MW.out.on BP.out);replace OW:=Jh (OW.out.on BP.out);replace CH:=Jh ((BP.out.block c (by have:=HCW.out;omega)).trans CH.out);have SZ:=Jh BP.out.size;refine(NXT.out (OK.out MW.out.1) mS NE.out).mono ?_;rintro e w2 ⟨rfl,hb⟩;replace MW:=Jh (MW.out.on hb);replace OW:=Jh (OW.out.on hb);replace PX:=Jh (PX.out.on hb);replace CH:=Jh ((hb.block c (by have:=HCW.out;have:=SZ.out;omega)).trans CH.out);have SZ2:Hid (c+1≤w2.heap.size):=by have:=HCW.out;have:=SZ.out;have:=hb.size;show _≤_;omega
    clear hb q0 q1 qf0 qf1 qlt;obtain⟨q0,q1,qf0,qf1,qlt⟩:=PX.out;have BT:Hid (Below w2.heap.size w2 (w2.alloc (.cells #[.int .i64 (k:Int),.string Y,.int .i64 no,.int .i64 (a1:Int)] 65))):=(Below.refl _ _).alloc (Nat.le_refl _) _;go_wp2_with fail;clear q0 q1 qf0 qf1 qlt;replace MW:=Jh (MW.out.on BT.out);replace OW:=Jh (OW.out.on BT.out);replace CH:=Jh ((BT.out.block c (by have:=SZ2.out;omega)).trans CH.out);have HO:=handon_is (t:=(k,bs9 Y,a1)) CH.out OW.out (Nat.lt_succ_self c) (Nat.le_trans SZ2.out BT.out.size) LL2.out;rw[TK.out] at HO;refine HO.mono ?_;clear HO;rintro e w4 ⟨v4,L4,q4,sn4,rn4,rfl,hown4,hch4,hlq4,hb4⟩;have OW4:=Jh hown4;have CH4:=Jh hch4;have LQ4:=Jh hlq4;have MW4:=Jh (MW.out.below hb4 (by have:=HC.out;omega));have SZ4:Hid (c+1≤w4.heap.size):=Nat.le_trans (Nat.le_trans SZ2.out BT.out.size) hb4.size;clear hown4 hch4 hlq4 hb4;obtain⟨q0,q1,qf0,qf1,qlt⟩:=MW4.out.2.1;go_wp2_with fail;refine(wordat_is ha2s HA3.out hs _).mono ?_;rintro e w5 ⟨rfl,hb⟩;replace MW4:=Jh (MW4.out.on hb);replace OW4:=Jh (OW4.out.on hb);replace CH4:=Jh ((hb.block c (by have:=SZ4.out;omega)).trans CH4.out);replace SZ4:=Jh (Nat.le_trans SZ4.out hb.size);clear hb q0 q1 qf0 qf1 qlt;go_wp2_with fail;go_roundw
    case rel=>exact⟨a3,L4,q4,sn4,rn4,by first|rfl|go_num,FIN.out.2.1,AT3.out,OW4.out,CH4.out,GO2.out LQ4.out,by have e1:=congrArg List.length LQ4.out;rw[List.length_append,List.length_append,List.length_append] at e1;have:=LL.out;have:=FIN.out;simp at e1;omega,MW4.out,SZ4.out⟩
    case measure=>have:=FIN.out;simp[intOf]<;>omega
  ·have E:Hid (G=.inr (L++q)):=by
    show _=_;rw[GO.out,WD_stop (.inl (by rw[List.drop_drop,List.drop_of_length_le (by rw[HL.out];omega)]))];show Sum.inr (L++q++[])=_;rw[List.append_nil]
   have LL2:=Jh (Nat.le_trans LL.out (Nat.le_trans has hs));go_wp2_with fail;refine(take_is CH.out OW.out (Nat.lt_succ_self c) HCW.out LL2.out).mono ?_;rintro e w4 ⟨v4,sn4,rn4,rfl,hown4,hch4,hrow4,hkp4⟩;have OW4:=Jh hown4;have MW4:=Jh (MW.out.below (hkp4.below (Nat.le_refl c) (fun g e=>by have:=(World.ownsRow.lt OW.out g e).1;omega) (by have:=HCW.out;omega)) (by have:=HC.out;omega));obtain⟨A4,c4,hv4⟩:=hown4.slen;subst hv4;clear hown4 hch4 hrow4 hkp4 q0 q1 qf0 qf1 qlt;obtain⟨y0,y1,y2,yf0,yf1,yf2,ylt⟩:=MW4.out.2.2;go_wp2_with fail;have hc2:=HC.out;obtain⟨A,c',hv,hr⟩:=OwnT.rd (ownsRow_setCell_below (ownsRow_setCell_below (ownsRow_setCell_below OW4.out (a:=⟨w.heap.size+1,0,none⟩) (by show w.heap.size+1<_;omega) (.int .i64 0)) (a:=⟨w.heap.size+1,1,none⟩) (by show w.heap.size+1<_;omega) (.int .i64 0)) (a:=⟨w.heap.size+1,2,none⟩) (by show w.heap.size+1<_;omega) (.int .i64 0):OwnT _ (c+1) (.slice A4 (L++q).length c4) no (L++q));injection hv with v1 v2 v3
   subst v1;subst v3;have Z:=((MW4.out.2.2.set0 (.int .i64 0)).set1 (.int .i64 0)).set2 (.int .i64 0);obtain⟨zc0,zc1,zc2,_,_,_,_⟩:=Z;have HBZ:=Jh (((MW4.out.1.setCell (p:=⟨w.heap.size+1,0,none⟩) (by simp) (.int .i64 0)).setCell (p:=⟨w.heap.size+1,1,none⟩) (by simp) (.int .i64 0)).setCell (p:=⟨w.heap.size+1,2,none⟩) (by simp) (.int .i64 0));exact bodyPost_ret (v:=.tuple #[.slice A4 (L++q).length c4,.agg #[.int .i64 0,.int .i64 0,.int .i64 0]]) (by simp[results,Tryz.results5,go_sem,zc0,zc1,zc2]) rfl (by rw[E.out];exact⟨⟨_,_,rfl,hr⟩,HBZ.out⟩)
end Go.Proofs.YtpbbolgnnegmlaaGreatDoor
