/- Lemmas of the proof: LexT, LexU, LexUb, LexUc. -/
import Derived.Test.YtpbbolgnnegmlaaGreatDoorAll33
import Derived.Test.YtpbbolgnnegmlaaGreatDoorAll32
import Derived.Test.YtpbbolgnnegmlaaGreatDoorAll35
import Derived.Test.YtpbbolgnnegmlaaGreatDoorAll27
import Derived.Test.YtpbbolgnnegmlaaGreatDoorAll28
set_option linter.unusedVariables false
set_option linter.unusedSimpArgs false
set_option maxRecDepth 100000
set_option maxHeartbeats 32000000
namespace Go.Proofs.YtpbbolgnnegmlaaGreatDoor
open Go.RowKit
def Ok12(w:World):Prop:=Dat.Tabs w∧MaxLen w∧Roots w
theorem okw12:Okw Ok12:=fun h hb=>⟨h.1.on hb,h.2.1.on hb,h.2.2.on hb⟩
def D12(l:List Nat):Bool:=l.all (fun c=>decide (c<256))&&Dat.prOk (st9 l)
def N12(l:List Nat):Bool:=(Num.rst l != [])&&Num.frmB (Num.rst l)
theorem d12_is(s:ByteArray):D12 (bs9 s)=Dat.prOk s:=by
 unfold D12;rw[st9_bs9,List.all_eq_true.2 (fun c hc=>decide_eq_true (bs9_lt s c hc)),Bool.true_and]
theorem n12_yes{l:List Nat}(h:Num.rst l≠[])(hf:Num.frmB (Num.rst l)=true):N12 l=true:=by
 unfold N12;rw[hf,Bool.and_true,bne_iff_ne];exact h
theorem n12_no{l:List Nat}(h:Num.rst l=[]∨Num.frmB (Num.rst l)=false):N12 l=false:=by
 unfold N12;rcases h with h|h
 ·rw[h];rfl
 ·rw[h,Bool.and_false]
theorem o08:O08 D12 Ok12:=fun s w hok hs=>by
 cases hp:Dat.prOk s with
 | true=>
  have hp2:=hp;unfold Dat.prOk at hp2;rw[Bool.and_eq_true] at hp2;exact(Dat.parse_is hok.1 hp2.1 rfl rfl rfl hp2.2).mono fun e w' h=>⟨_,_,_,0,h.1,by rw[d12_is,hp];rfl,h.2⟩
 | false=>exact(Dat.parse_no hok.1 (Nat.le_trans hs (by decide)) hp).mono fun e w' h=>⟨0,0,0,3,h.1,by rw[d12_is,hp];rfl,h.2⟩
theorem read12{w:World}{s:ByteArray}{e:Ending}{w':World}(h:Num.RetRead w (Num.codes s) e w'):∃(b:Bool) (A:Option Addr) (n c:Nat) (k:Int) (z:Nat),e=.returned (.tuple #[.agg #[.bool b,.slice A n c,.int .i64 k],.int .i64 (z:Int)])∧N12 (bs9 s)=decide (z=0)∧Below w.heap.size w w':=by
 rcases h with⟨h1,h2⟩|⟨h1,h2,h3⟩|⟨h1,h2,A,n,c,h3,_,h4⟩
 ·exact⟨false,none,0,0,0,2,h2.1,n12_no (.inl h1),h2.2⟩
 ·exact⟨false,none,0,0,0,3,h3.1,n12_no (.inr h2),h3.2⟩
 ·exact⟨_,A,n,c,_,0,h3,n12_yes h1 h2,h4⟩
theorem o07:O07 N12 Ok12:=fun s w hok hs=>(Num.read_any s w hs hok.2.1).mono fun _ _ h=>read12 h
theorem o11:O11 Ok12:=fun _ _ hok hs=>account_is rfl (by omega) hok.2.1 hok.2.2
theorem nm8_digits{l:List UInt8}(h:1≤Dat.nm8 l):∀u∈l,48≤u.toNat:=by
 unfold Dat.nm8 at h;split at h
 ·rename_i ha
  intro u hu;have:=List.all_eq_true.1 ha u hu;unfold Dat.isd8 at this;rw[Bool.and_eq_true,decide_eq_true_iff] at this;exact this.1
 ·omega
theorem day_bytes{s:ByteArray}(h:Dat.prOk s=true):(bs9 s).length=10∧32∉bs9 s∧((bs9 s)[4]?=some 45∨(bs9 s)[4]?=some 47):=by
 unfold Dat.prOk at h;rw[Bool.and_eq_true] at h;obtain⟨hf,hr⟩:=h;have hz:s.size=10:=by
  rcases Nat.decEq s.size 10 with h|h
  ·unfold Dat.frm8 at hf;rw[dif_neg h] at hf;cases hf
  ·exact h
 obtain⟨h47,h4⟩:=(Dat.frm8_iff hz).1 hf;obtain⟨y1,_,m1,_,d1,_⟩:=Dat.ok8_iff.1 hr;have b4:=bs9_at s 4 (by omega);have b7:=bs9_at s 7 (by omega);have part:∀{a b j:Nat},1≤Dat.nm8 (s.extract a b).data.toList→a≤j→j<b→(bs9 s)[j]?≠some 32:=fun {a b j} h1 ha hb e=>by
  have e2:(bs9 (s.extract a b))[j-a]?=some 32:=by
   rw[bs9_extract,List.getElem?_take_of_lt (by omega),List.getElem?_drop,show a+(j-a)=j by omega];exact e
  obtain⟨u,hu,hu2⟩:=List.mem_map.1 (List.mem_of_getElem? e2);have:=nm8_digits h1 u hu;omega
 refine⟨by rw[bs9_len];exact hz,fun h32=>?_,?_⟩
 ·obtain⟨j,hj⟩:=List.mem_iff_getElem?.1 h32
  have hj10:j<10:=by
   have:=(List.getElem?_eq_some_iff.1 hj).1;rwa [bs9_len,hz] at this
  rcases Nat.lt_or_ge j 4 with h|h
  ·exact part (a:=0) (b:=4) y1 (Nat.zero_le _) h hj
  ·rcases Nat.lt_or_ge j 5 with g|g
   ·obtain rfl:j=4:=by omega
    rw[b4] at hj;have:=Option.some.inj hj;omega
   ·rcases Nat.lt_or_ge j 7 with k|k
    ·exact part (a:=5) (b:=7) m1 g k hj
    ·rcases Nat.lt_or_ge j 8 with q|q
     ·obtain rfl:j=7:=by omega
      rw[b7] at hj;have:=Option.some.inj hj;omega
     ·exact part (a:=8) (b:=10) d1 q hj10 hj
 ·rw[b4]
  rcases h4 with h4|h4
  ·exact .inl (by rw[h4])
  ·exact .inr (by rw[h4])
theorem dayok12:DayOk D12:=fun y h=>by
 unfold D12 at h;rw[Bool.and_eq_true,List.all_eq_true] at h;have hb:=bs9_st9 (l:=y) (fun c hc=>of_decide_eq_true (h.1 c hc));have:=day_bytes h.2;rwa [hb] at this
end Go.Proofs.YtpbbolgnnegmlaaGreatDoor
namespace Go.Proofs.YtpbbolgnnegmlaaGreatDoor
def Wds(l:List Nat)(us:List (Nat×List Nat)):Prop:=∀a,∃ts,WD D12 N12 a l=.inr ts∧ts.map (fun t=>(t.1,t.2.1))=us
theorem wds_nil:Wds [] []:=fun a=>⟨[],WD_stop (.inl rfl),rfl⟩
theorem wds_of{l m:List Nat}{us:List (Nat×List Nat)}{k n:Nat}{x:List Nat}(h0:indl l=0)(hs:¬Stop12 l)(hn:nxt D12 N12 l=.inr (k,x,n))(hm:l.drop n=m)(h:Wds m us):Wds l ((k,x)::us):=fun a=>by
 obtain⟨ts,h1,h2⟩:=h (a+0+n);have hd:l.drop (indl l)=l:=by rw[h0,List.drop_zero]
 refine⟨(k,x,a+0+1)::ts,?_,by rw[List.map_cons,h2]⟩;have:=WD_ok (a:=a) dayok12 (by rw[hd];exact hs) (by rw[hd];exact hn);rw[this,hd,hm,h0,h1];rfl
theorem wds_blank{l:List Nat}{us:List (Nat×List Nat)}(h:Wds l us):Wds (32::l) us:=fun a=>by
 obtain⟨ts,h1,h2⟩:=h (a+1);refine⟨ts,?_,h2⟩;rw[WD_indent dayok12] at h1 ⊢;have e:indl (32::l)=indl l+1:=by rw[indl,if_pos (.inl rfl)]
 rw[e,List.drop_succ_cons,← h1];congr 1
 omega
theorem wds_sign{c:Nat}(hc:c=40∨c=41∨c=42∨c=43∨c=45∨c=47){l:List Nat}{us:List (Nat×List Nat)}(h:Wds l us):Wds (c::l) ((10,[c])::us):=by
 have hm:mrk (c::l)=1:=mrk_single (by rcases hc with rfl|rfl|rfl|rfl|rfl|rfl<;>rfl) (.inl (by rcases hc with rfl|rfl|rfl|rfl|rfl|rfl<;>rfl));refine wds_of (n:=1) ?_ ?_ ?_ rfl h
 ·rw[indl,if_neg (by omega)]
 ·rintro(e|e)
  ·cases e
  ·have:=Option.some.inj e;omega
 ·rw[(nxt_of D12 N12 c l).2.2.2.2.2 (by omega) (by omega) (by rcases hc with rfl|rfl|rfl|rfl|rfl|rfl<;>rfl) (by rcases hc with rfl|rfl|rfl|rfl|rfl|rfl<;>rfl) (by rcases hc with rfl|rfl|rfl|rfl|rfl|rfl<;>rfl),hm]
  rfl
def bod(a s:Nat):List Nat:=Num.txt (a/10^s)++Num.beh s a
theorem txtD_bod(i:Int)(s:Nat):Num.txtD i s=Num.sgT i++bod i.natAbs s:=rfl
theorem bod_good(a s:Nat):N12 (bod a s)=true:=by
 obtain⟨h1,h2,h3,-,-⟩:=Num.told (i:=(a:Int)) (s:=s) (x:=Num.txt (a/10^s)) (.inl rfl);have e0:Num.sgT (a:Int)=[]:=by unfold Num.sgT;rw[if_neg (by omega)]
 rw[e0] at h1 h2;rw[List.nil_append,Int.natAbs_natCast] at h1 h2;rw[Int.natAbs_natCast] at h3;exact n12_yes h2 (by unfold bod;rw[h1];exact h3)
theorem digs_dg{l:List Nat}(h:Num.digs l):∀c∈l,dgB c=true:=fun c hc=>by
 have:=h c hc;unfold dgB;rw[Bool.and_eq_true,decide_eq_true_iff,decide_eq_true_iff];exact this
theorem bod_bytes(a s:Nat):∀c∈bod a s,dgB c=true∨c=46:=fun c hc=>by
 unfold bod at hc;rcases List.mem_append.1 hc with h|h
 ·exact .inl (digs_dg (Num.digs_txt _) c h)
 ·unfold Num.beh at h
  split at h
  ·cases h
  ·rcases List.mem_cons.1 h with h|h
   ·exact .inr h
   ·exact .inl (digs_dg (Num.digs_pad _ _) c h)
theorem bod_head(a s:Nat):∃c t,bod a s=c::t∧dgB c=true:=by
 have h:=digs_dg (Num.digs_txt (a/10^s));have hne:=Num.txt_ne (a/10^s);unfold bod;cases e:Num.txt (a/10^s) with
 | nil=>exact absurd e hne
 | cons c t=>exact⟨c,t++Num.beh s a,rfl,h c (by rw[e];exact List.mem_cons_self)⟩
def Fol(r:List Nat):Prop:=(∀c,r.head?=some c→dgB c=false∧c≠44∧c≠46)∧(r=[]∨32∈r.take 4∨∀j,j≤3→r[j]?=some 41)
theorem run_all{t r:List Nat}(h:∀c∈t,dgB c=true)(hr:∀c,r.head?=some c→dgB c=false):runl dgB (t++r)=t.length:=runl_stop h hr
theorem nmb_bod(a s:Nat){r:List Nat}(hr:Fol r):nmb (bod a s++r)=(bod a s).length:=by
 have ht:=digs_dg (Num.digs_txt (a/10^s));have hne:=Num.txt_ne (a/10^s);unfold bod;generalize Num.txt (a/10^s)=t at ht hne;unfold Num.beh;split
 ·rw[List.append_nil]
  have e1:runl dgB (t++r)=t.length:=run_all ht fun c hc=>(hr.1 c hc).1
  have e2:nmb1 (t++r)=t.length:=by
   rw[nmb1_digits,e1,List.drop_left,nmb1_off (fun c hc=>⟨(hr.1 c hc).1,(hr.1 c hc).2.1⟩)];rfl
  unfold nmb;rw[e2,List.drop_left];have e3:frac r=0:=by
   unfold frac;rw[if_neg];rintro⟨h1,-⟩;exact(hr.1 46 h1).2.2 rfl
  rw[e3,Nat.add_zero]
 ·rename_i hs
  have hp:=digs_dg (Num.digs_pad s a);have hl:=Num.pad_len s a;generalize Num.pad s a=p at hp hl;have e0:(t++46::p)++r=t++(46::(p++r)):=by rw[List.append_assoc];rfl
  rw[e0];have e1:runl dgB (t++46::(p++r))=t.length:=run_all ht fun c hc=>by obtain rfl:=Option.some.inj hc;rfl
  have e2:nmb1 (t++46::(p++r))=t.length:=by
   rw[nmb1_digits,e1,List.drop_left,nmb1_off (fun c hc=>by obtain rfl:=Option.some.inj hc;exact⟨rfl,by decide⟩)];rfl
  unfold nmb;rw[e2,List.drop_left];have e3:frac (46::(p++r))=1+p.length:=by
   have e4:runl dgB (p++r)=p.length:=run_all hp fun c hc=>(hr.1 c hc).1
   unfold frac;rw[if_pos]
   ·show 1+runl dgB (p++r)=_
    rw[e4]
   ·refine⟨rfl,?_⟩
    show(p++r).head?.any dgB=true;cases p with
    | nil=>exact absurd hl.symm hs
    | cons c u=>exact hp c List.mem_cons_self
  rw[e3,List.length_append,List.length_cons];omega
theorem bod_noday(a s:Nat){r:List Nat}(hr:Fol r):¬(10≤(bod a s++r).length∧D12 ((bod a s++r).take 10)=true∧((bod a s++r)[10]?).any dgB=false):=by
 rintro⟨h1,h2,-⟩;obtain⟨g1,g2,g3⟩:=dayok12 _ h2;have hb:=bod_bytes a s;obtain⟨c0,t0,hc0,-⟩:=bod_head a s;have hlen:1≤(bod a s).length:=by rw[hc0];simp
 rw[List.getElem?_take_of_lt (by omega)] at g3;rcases Nat.lt_or_ge 4 (bod a s).length with h|h
 ·rw[List.getElem?_append_left h] at g3
  rcases g3 with g3|g3
  ·rcases hb _ (List.mem_of_getElem? g3) with q|q
   ·cases q
   ·cases q
  ·rcases hb _ (List.mem_of_getElem? g3) with q|q
   ·cases q
   ·cases q
 ·rcases hr.2 with e|e|e
  ·rw[e,List.append_nil] at h1;omega
  ·refine g2 ?_
   rw[List.take_append];exact List.mem_append_right _ ((List.take_subset_take_left r (by omega:4≤10-(bod a s).length)) e)
  ·rw[List.getElem?_append_right h,e _ (by omega)] at g3
   rcases g3 with g3|g3<;>cases g3
theorem wds_num(a s:Nat){r:List Nat}(hr:Fol r){us:List (Nat×List Nat)}(h:Wds r us):Wds (bod a s++r) ((4,bod a s)::us):=by
 have hn:=nmb_bod a s hr;have hd:=bod_noday a s hr;have hg:=bod_good a s;obtain⟨c,t,hc,hcd⟩:=bod_head a s;have hc2:48≤c∧c≤57:=by unfold dgB at hcd;rw[Bool.and_eq_true,decide_eq_true_iff,decide_eq_true_iff] at hcd;exact hcd
 have hx:nxt D12 N12 (bod a s++r)=.inr (4,bod a s,(bod a s).length):=by
  have e:nxt D12 N12 (bod a s++r)=num12 D12 N12 (bod a s++r):=by
   rw[hc,List.cons_append];exact(nxt_of D12 N12 c (t++r)).2.2.1 hcd
  rw[e];unfold num12;rw[if_neg hd,hn,List.take_left,hg];rfl
 refine wds_of ?_ ?_ hx (List.drop_left) h
 ·rw[hc,List.cons_append,indl,if_neg (by omega)]
 ·rw[hc]
  rintro(e|e)
  ·cases e
  ·have:=Option.some.inj e;omega
def tT(i:Int)(s:Nat):List (Nat×List Nat):=if i<0 then [(10,[45]),(4,bod i.natAbs s)] else [(4,bod i.natAbs s)]
theorem wds_dec(i:Int)(s:Nat){r:List Nat}(hr:Fol r){us:List (Nat×List Nat)}(h:Wds r us):Wds (Num.txtD i s++r) (tT i s++us):=by
 rw[txtD_bod];unfold Num.sgT tT;split
 ·exact wds_sign (.inr (.inr (.inr (.inr (.inl rfl))))) (wds_num _ s hr h)
 ·exact wds_num _ s hr h
theorem fol_blank(r:List Nat):Fol (32::r):=⟨fun c hc=>by obtain rfl:=Option.some.inj hc;exact⟨rfl,by decide,by decide⟩,.inr (.inl (by simp))⟩
def CurW(y:List Nat):Prop:=(∃c u,y=c::u∧upB c=true)∧(∀c∈y,runB mA c=true)∧accB y=false∧curB y=true
def Prp(k:Nat)(y:List Nat):Prop:=∃l n,nxt D12 N12 l=.inr (k,y,n)
theorem kind_of{l:List Nat}{k n:Nat}{y:List Nat}(h:nxt D12 N12 l=.inr (k,y,n))(hk:k=1∨k=3):∃c t,l=c::t∧((k=1∧num12 D12 N12 (c::t)=.inr (k,y,n))∨(k=3∧upB c=true∧acc12 (c::t)=.inr (k,y,n))):=by
 cases l with
 | nil=>rw[nxt] at h;cases h
 | cons c t=>
  refine⟨c,t,rfl,?_⟩;obtain⟨o1,o2,o3,o4,o5,o6⟩:=nxt_of D12 N12 c t;have tk:∀{k' n':Nat}{x:List Nat}{g:Bool},tkn k' x n' g=.inr (k,y,n)→k=k':=fun e=>by
   obtain⟨-,hp⟩:=tkn_ok e;exact congrArg Prod.fst hp
  by_cases c1:c=34
  ·rw[o1 c1] at h
   cases hu:uqg t with
   | inl e=>rw[hu] at h;cases h
   | inr p=>
    rw[hu] at h;cases h;omega
  by_cases c2:c=35∨c=94
  ·rw[o2 c2] at h
   have:=tk h;split at this<;>omega
  cases c3:dgB c with
  | true=>
   rw[o3 c3] at h;have hh:=h;unfold num12 at h;split at h
   ·cases h;exact .inl ⟨rfl,hh⟩
   ·have:=tk h;omega
  | false=>
   cases c4:upB c with
   | true=>
    rw[o4 c4] at h;have hh:=h;unfold acc12 at h;split at h
    ·cases h;omega
    ·have:=tk h;exact .inr ⟨this,rfl,hh⟩
   | false=>
    cases c5:lwB c with
    | true=>
     rw[o5 c5] at h;unfold key12 at h;split at h
     ·have:=tk h;omega
     ·have:=tk h;omega
    | false=>
     rw[o6 c1 c2 c3 c4 c5] at h;have:=tk h;omega
theorem Prp.cur{y:List Nat}(h:Prp 3 y):CurW y:=by
 obtain⟨l,n,h⟩:=h;obtain⟨c,t,rfl,h|h⟩:=kind_of h (.inr rfl)
 ·omega
 ·obtain⟨-,hc,h⟩:=h
  unfold acc12 at h;split at h
  ·cases h
  ·rename_i ha
   obtain⟨hg,hp⟩:=tkn_ok h;have e:y=(c::t).take (runl (runB mA) (c::t)):=congrArg (fun p=>p.2.1) hp;obtain⟨x,hx⟩:=run_more (f:=runB mA) (t:=t) (runB_up (more:=mA) hc);rw[← e] at ha hg hx;refine⟨⟨c,x,hx,hc⟩,fun b hb=>?_,by simpa using ha,hg⟩;rw[e,runl_take] at hb;exact takeWhile_all b hb
theorem Prp.day{y:List Nat}(h:Prp 1 y):D12 y=true:=by
 obtain⟨l,n,h⟩:=h;obtain⟨c,t,rfl,h|h⟩:=kind_of h (.inl rfl)
 ·obtain⟨-,h⟩:=h
  unfold num12 at h;split at h
  ·rename_i hd
   cases h;exact hd.2.1
  ·obtain⟨-,hp⟩:=tkn_ok h
   have:(1:Nat)=4:=congrArg Prod.fst hp;omega
 ·omega
theorem up_of{c:Nat}(h:upB c=true):65≤c∧c≤90:=by unfold upB at h;simpa using h
def StC(r:List Nat):Prop:=∀c,r.head?=some c→runB mA c=false
theorem wds_cur{y r:List Nat}{us:List (Nat×List Nat)}(hy:CurW y)(hr:StC r)(h:Wds r us):Wds (y++r) ((3,y)::us):=by
 obtain⟨⟨c,u,rfl,hc⟩,h1,h2,h3⟩:=hy;have hc2:=up_of hc;have hl:runl (runB mA) ((c::u)++r)=(c::u).length:=runl_stop h1 hr;refine wds_of (n:=(c::u).length) ?_ ?_ ?_ List.drop_left h
 ·rw[List.cons_append,indl,if_neg (by omega)]
 ·rintro(e|e)
  ·cases e
  ·have:=Option.some.inj e;omega
 ·rw[List.cons_append,(nxt_of D12 N12 c (u++r)).2.2.2.1 hc,← List.cons_append]
  unfold acc12;rw[hl,List.take_left,h2,if_neg (by decide),h3];rfl
theorem wds_day{y r:List Nat}{us:List (Nat×List Nat)}(hy:D12 y=true)(hd:∃c u,y=c::u∧dgB c=true)(hr:∀c,r.head?=some c→dgB c=false)(h:Wds r us):Wds (y++r) ((1,y)::us):=by
 obtain⟨d1,d2,d3⟩:=dayok12 y hy;obtain⟨c,u,rfl,hc⟩:=hd;have hc2:48≤c∧c≤57:=by unfold dgB at hc;simpa using hc
 refine wds_of (n:=10) ?_ ?_ ?_ (by rw[← d1];exact List.drop_left) h
 ·rw[List.cons_append,indl,if_neg (by omega)]
 ·rintro(e|e)
  ·cases e
  ·have:=Option.some.inj e;omega
 ·rw[List.cons_append,(nxt_of D12 N12 c (u++r)).2.2.1 hc,← List.cons_append]
  unfold num12;rw[if_pos,← d1,List.take_left];refine⟨by rw[List.length_append];omega,by rw[← d1,List.take_left];exact hy,?_⟩;rw[List.getElem?_append_right (by omega),d1,Nat.sub_self,← List.head?_eq_getElem?];cases hh:r.head? with
  | none=>rfl
  | some b=>exact hr b hh
theorem wds_text(x:List Nat){r:List Nat}{us:List (Nat×List Nat)}(h:Wds r us):Wds (qt x++r) ((5,x)::us):=by
 refine wds_of (n:=(qt x).length) ?_ ?_ ?_ List.drop_left h
 ·unfold qt;rw[List.cons_append,indl,if_neg (by omega)]
 ·unfold qt
  rintro(e|e)
  ·cases e
  ·have:=Option.some.inj e;omega
 ·unfold qt
  rw[List.cons_append,(nxt_of D12 N12 34 _).1 rfl,List.append_assoc,List.singleton_append,uqg_quote];show Sum.inr (5,x,(qtb x).length+1+1)=_;rw[List.length_cons,List.length_append];rfl
theorem wds_one{c:Nat}(hc:c=44∨c=123∨c=125∨c=64){r:List Nat}(hr:r.head?≠some c){us:List (Nat×List Nat)}(h:Wds r us):Wds (c::r) ((10,[c])::us):=by
 have hm:mrk (c::r)=1:=mrk_single (by rcases hc with rfl|rfl|rfl|rfl<;>rfl) (.inr hr);refine wds_of (n:=1) ?_ ?_ ?_ rfl h
 ·rw[indl,if_neg (by omega)]
 ·rintro(e|e)
  ·cases e
  ·have:=Option.some.inj e;omega
 ·rw[(nxt_of D12 N12 c r).2.2.2.2.2 (by omega) (by omega) (by rcases hc with rfl|rfl|rfl|rfl<;>rfl) (by rcases hc with rfl|rfl|rfl|rfl<;>rfl) (by rcases hc with rfl|rfl|rfl|rfl<;>rfl),hm]
  rfl
theorem wds_two{c:Nat}(hc:c=123∨c=125∨c=64){r:List Nat}{us:List (Nat×List Nat)}(h:Wds r us):Wds (c::c::r) ((10,[c,c])::us):=by
 have hm:mrk (c::c::r)=2:=mrk_same (by rcases hc with rfl|rfl|rfl<;>rfl);refine wds_of (n:=2) ?_ ?_ ?_ rfl h
 ·rw[indl,if_neg (by omega)]
 ·rintro(e|e)
  ·cases e
  ·have:=Option.some.inj e;omega
 ·rw[(nxt_of D12 N12 c _).2.2.2.2.2 (by omega) (by omega) (by rcases hc with rfl|rfl|rfl<;>rfl) (by rcases hc with rfl|rfl|rfl<;>rfl) (by rcases hc with rfl|rfl|rfl<;>rfl),hm]
  rfl
theorem WD_prp:∀(f:Nat) {a:Nat}{l:List Nat}{ts:List Wd},l.length≤f→WD D12 N12 a l=.inr ts→∀t∈ts,Prp t.1 t.2.1:=by
 intro f;induction f with
 | zero=>
  intro a l ts hf h t ht;obtain rfl:l=[]:=List.eq_nil_of_length_eq_zero (by omega);rw[WD_stop (.inl rfl)] at h;cases h;cases ht
 | succ f ih=>
  intro a l ts hf h t ht;by_cases hs:Stop12 (l.drop (indl l))
  ·rw[WD_stop hs] at h
   cases h;cases ht
  cases hn:nxt D12 N12 (l.drop (indl l)) with
  | inl e=>rw[WD_err hs hn] at h;cases h
  | inr p=>
   obtain⟨k,x,n⟩:=p;obtain⟨q1,q2,-,-⟩:=nxt_back dayok12 hn;rw[WD_ok dayok12 hs hn] at h;rw[List.length_drop] at q2;cases hw:WD D12 N12 (a+indl l+n) ((l.drop (indl l)).drop n) with
   | inl e=>rw[hw] at h;cases h
   | inr us=>
    rw[hw] at h;cases h
    rcases List.mem_cons.1 ht with rfl|ht
    ·exact⟨_,_,hn⟩
    ·exact ih (by rw[List.length_drop,List.length_drop];omega) hw t ht
def wgt(ts:List Wd):Nat:=(ts.map fun t=>t.2.1.length+11).sum
def Wgt(l:List Nat)(m:Nat):Prop:=∀a ts,WD D12 N12 a l=.inr ts→wgt ts≤m
theorem wgt_nil:Wgt [] 0:=fun a ts h=>by rw[WD_stop (.inl rfl)] at h;cases h;exact Nat.le_refl _
theorem nxt_len{l:List Nat}{k n:Nat}{x:List Nat}(h:nxt D12 N12 l=.inr (k,x,n)):x.length≤n:=by
 cases l with
 | nil=>rw[nxt] at h;cases h
 | cons c t=>
  obtain⟨o1,o2,o3,o4,o5,o6⟩:=nxt_of D12 N12 c t;have tk:∀{k' n' m:Nat}{y:List Nat}{g:Bool},tkn k' (y.take m) n' g=.inr (k,x,n)→m≤n'→x.length≤n:=fun e hm=>by
   obtain⟨-,hp⟩:=tkn_ok e;cases hp
   rw[List.length_take];omega
  by_cases c1:c=34
  ·rw[o1 c1] at h
   cases hu:uqg t with
   | inl e=>rw[hu] at h;cases h
   | inr p=>
    obtain⟨o,m⟩:=p;rw[hu] at h;cases h
    have hb:=uqg_bound _ (Nat.le_refl _) hu;omega
  by_cases c2:c=35∨c=94
  ·rw[o2 c2] at h
   exact tk h (by omega)
  cases c3:dgB c with
  | true=>
   rw[o3 c3] at h;unfold num12 at h;split at h
   ·cases h;rw[List.length_take];omega
   ·exact tk h (Nat.le_refl _)
  | false=>
   cases c4:upB c with
   | true=>
    rw[o4 c4] at h;unfold acc12 at h;split at h
    ·cases h;rw[List.length_take];omega
    ·exact tk h (Nat.le_refl _)
   | false=>
    cases c5:lwB c with
    | true=>
     rw[o5 c5] at h;unfold key12 at h;split at h
     ·exact tk h (by omega)
     ·exact tk h (Nat.le_refl _)
    | false=>
     rw[o6 c1 c2 c3 c4 c5] at h;exact tk h (Nat.le_refl _)
theorem wgt_any:∀(f:Nat) {l:List Nat},l.length≤f→Wgt l (12*l.length):=by
 intro f;induction f with
 | zero=>
  intro l hf;obtain rfl:l=[]:=List.eq_nil_of_length_eq_zero (by omega);exact wgt_nil
 | succ f ih=>
  intro l hf a ts h;by_cases hs:Stop12 (l.drop (indl l))
  ·rw[WD_stop hs] at h
   cases h;exact Nat.zero_le _
  cases hn:nxt D12 N12 (l.drop (indl l)) with
  | inl e=>rw[WD_err hs hn] at h;cases h
  | inr p=>
   obtain⟨k,x,n⟩:=p;obtain⟨q1,q2,-,-⟩:=nxt_back dayok12 hn;have q3:=nxt_len hn;rw[WD_ok dayok12 hs hn] at h;rw[List.length_drop] at q2;cases hw:WD D12 N12 (a+indl l+n) ((l.drop (indl l)).drop n) with
   | inl e=>rw[hw] at h;cases h
   | inr us=>
    rw[hw] at h;cases h
    have:=ih (by rw[List.length_drop,List.length_drop];omega) _ _ hw;rw[List.length_drop,List.length_drop] at this;show x.length+11+wgt us≤_;omega
end Go.Proofs.YtpbbolgnnegmlaaGreatDoor
