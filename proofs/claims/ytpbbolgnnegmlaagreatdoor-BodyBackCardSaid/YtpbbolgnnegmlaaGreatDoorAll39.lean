/- Lemmas of the proof: AmoMathB, AmoMathC, HeaMath, AmoMathD, AmoMathE, HeaMathB, HeaMathC, HeaMathD, HeaMathE, AmoA, AmoB, HeaMathF, HeaMathG, BodMath, BodMathB, BodMathC, HeaD, AmoC, AmoD, AmoE, HeaA, HeaMathH. -/
import Derived.Test.YtpbbolgnnegmlaaGreatDoorAll37
import Derived.Test.YtpbbolgnnegmlaaGreatDoorAll38
import Derived.Test.YtpbbolgnnegmlaaGreatDoorAll36
import Derived.Test.YtpbbolgnnegmlaaGreatDoorAll29
import Derived.Test.YtpbbolgnnegmlaaGreatDoorAll32
import Derived.Test.YtpbbolgnnegmlaaGreatDoorAll15
import Derived.Deep.Cut
set_option linter.unusedVariables false
set_option linter.unusedSimpArgs false
set_option maxRecDepth 100000
set_option maxHeartbeats 32000000
namespace Go.Proofs.YtpbbolgnnegmlaaGreatDoor.Num
open Go.RowKit
def StQ(r:List Nat):Prop:=∀c,r.head?=some c→c=44∨c=125∨c=32
theorem StQ.cur{r:List Nat}(h:StQ r):StC r:=fun c hc=>by rcases h c hc with rfl|rfl|rfl<;>rfl
theorem StQ.dig{r:List Nat}(h:StQ r):∀c,r.head?=some c→YtpbbolgnnegmlaaGreatDoor.dgB c=false:=fun c hc=>by rcases h c hc with rfl|rfl|rfl<;>rfl
theorem bs9_nil{s:ByteArray}(h:bs9 s=[]):s=⟨#[]⟩:=by rw[← st9_bs9 s,h];rfl
def untW(u:Un):List (Nat×List Nat):=(if u.has=true then tT u.i u.k else [])++[(3,bs9 u.cur)]
def Un.some(u:Un):Prop:=u.has=true∨bs9 u.cur≠[]
instance (u:Un):Decidable u.some:=by unfold Un.some;infer_instance
theorem Un.none{u:Un}(h:u.ok)(hs:¬u.some):u=Un.zero:=by
 obtain⟨a,i,k,s⟩:=u;have h1:bs9 s=[]:=Decidable.byContradiction fun e=>hs (.inr e)
 have h2:a=false:=by cases a with|false=>rfl|true=>exact absurd (.inl rfl) hs
 rcases h with⟨-,g2,g3,-⟩|⟨-,g2,g3,-⟩|⟨g1,-⟩
 ·have e2:i=0:=g2
  have e3:k=0:=g3;rw[h2,e2,e3,bs9_nil h1];rfl
 ·have e2:i=0:=g2
  have e3:k=0:=g3;rw[h2,e2,e3,bs9_nil h1];rfl
 ·rw[h2] at g1;cases g1
theorem Un.curw{u:Un}(h:u.ok)(hs:u.some):CurW (bs9 u.cur):=by
 rcases h with⟨g1,-,-,g4⟩|⟨-,-,-,g4⟩|⟨-,g4⟩
 ·rcases hs with e|e
  ·rw[g1] at e;cases e
  ·exact absurd g4 e
 ·exact g4
 ·exact g4
theorem Un.plain{u:Un}(h:u.ok)(hs:u.has=false):u=⟨false,0,0,u.cur⟩:=by
 obtain⟨a,i,k,s⟩:=u;have h2:a=false:=hs;rcases h with⟨-,g2,g3,-⟩|⟨-,g2,g3,-⟩|⟨g1,-⟩
 ·have e2:i=0:=g2
  have e3:k=0:=g3;rw[h2,e2,e3]
 ·have e2:i=0:=g2
  have e3:k=0:=g3;rw[h2,e2,e3]
 ·rw[hs] at g1;cases g1
theorem wds_unt{u:Un}(hu:u.ok)(hs:u.some){r:List Nat}{us:List (Nat×List Nat)}(hr:StC r)(h:Wds r us):Wds (untT u++r) (untW u++us):=by
 have hc:=Un.curw hu hs;unfold untT untW;split
 ·unfold amtT
  rw[List.append_assoc,List.append_assoc];exact wds_dec _ _ (fol_blank _) (wds_blank (wds_cur hc hr h))
 ·exact wds_cur hc hr h
theorem untT_none{u:Un}(hs:¬u.some):untT u=[]:=by
 unfold untT;rw[if_neg (fun e=>hs (.inl e))];exact Decidable.byContradiction fun e=>hs (.inr e)
theorem untT_some{u:Un}(hu:u.ok)(hs:u.some):untT u≠[]:=by
 unfold untT;split
 ·unfold amtT;intro e;have:=congrArg List.length e;simp at this
 ·exact CurW.ne (Un.curw hu hs)
theorem dig_head:∀n,n<10→YtpbbolgnnegmlaaGreatDoor.dgB (Dat.dg8 n).toNat=true:=by decide
theorem day_told{d:Int×Int×Int}(h:Dat.ok8 d.1 d.2.1 d.2.2=true):D12 (dayT d)=true∧(∃c u,dayT d=c::u∧YtpbbolgnnegmlaaGreatDoor.dgB c=true)∧pday (st9 (dayT d))=d∧dayT d≠[]:=by
 obtain⟨h1,h2,h3,h4,h5⟩:=Dat.told_day h;have hp:Dat.prOk (Dat.text8 d.1 d.2.1 d.2.2)=true:=by unfold Dat.prOk;rw[h2,h3,h4,h5,h];rfl
 have hl:(dayT d).length=10:=by unfold dayT;rw[bs9_len];exact h1
 refine⟨by unfold dayT;rw[d12_is];exact hp,?_,?_,by intro e;rw[e] at hl;cases hl⟩
 ·unfold dayT
  rw[Dat.text8_ok h];exact⟨_,_,rfl,dig_head _ (Nat.mod_lt _ (by decide))⟩
 ·unfold dayT pday
  rw[st9_bs9,if_pos hp,h3,h4,h5]
theorem tk_ne{k:Nat}{x:List Nat}{m:Int}(h:(k:Int)≠m):(tk (k,x)).1≠m:=h
section
variable {L:List Tok}{a b:Nat}{Q:List Tok}{u:Un}{c:Co}
theorem cur_end{x:List Nat}:∀cc,isg (tk (3,x)) cc=false:=fun cc=>by
 unfold isg;rw[decide_eq_false (tk_ne (by decide))];rfl
theorem amt_told{i:Int}{k:Nat}{x:List Nat}(h:L.drop a=(tT i k).map tk++(tk (3,x)::Q)):amt L a=.inr (i,k,st9 x,a+(tT i k).length+1):=by
 have f0:=fac_val (d:=0) h (by decide);have h1:=dr_app h rfl;rw[List.length_map] at f0 h1;have i1:∀cc,isAt L (a+(tT i k).length) cc=false:=fun cc=>by rw[dr_is h1];exact cur_end cc
 have P0:PRO L 0 a=.inr (i,k,a+(tT i k).length):=by rw[PRO_go f0,PROL_end (i1 _) (i1 _)]
 have S0:SUM L 0 a=.inr (i,k,a+(tT i k).length):=by rw[SUM_go P0,SUML_end (i1 _) (i1 _)]
 unfold amt;rw[S0];dsimp only
 rw[dr_get h1];rfl
theorem sta_tT{i:Int}{k:Nat}{Q:List Tok}(h:L.drop a=(tT i k).map tk++Q):∃t,L[a]?=some t∧t.1≠1∧t.1≠5∧t.1≠3∧sta t=true:=by
 unfold tT at h;split at h
 ·have h0:L.drop a=tk (10,[45])::(tk (4,bod i.natAbs k)::Q):=h
  refine⟨_,dr_get h0,tk_ne (by decide),tk_ne (by decide),tk_ne (by decide),?_⟩;unfold sta;rw[isg_tk 45 45 (by decide)];simp
 ·have h0:L.drop a=tk (4,bod i.natAbs k)::Q:=h
  exact⟨_,dr_get h0,tk_ne (by decide),tk_ne (by decide),tk_ne (by decide),rfl⟩
theorem unt_told(hu:u.ok)(hs:u.some)(h:L.drop a=(untW u).map tk++Q):unt L a=.inr (u,a+(untW u).length):=by
 unfold untW at h ⊢;cases hb:u.has with
 | true=>
  rw[hb,if_pos rfl,List.map_append,List.append_assoc] at h;obtain⟨t,g0,g1,g2,g3,g4⟩:=sta_tT h;have g5:=amt_told h;unfold unt;rw[g0];dsimp only
  rw[if_neg g3,g4,if_neg (by decide),g5];dsimp only
  rw[if_pos rfl,st9_bs9,List.length_append,← hb];rfl
 | false=>
  rw[hb,if_neg (by decide)] at h;have h0:L.drop a=tk (3,bs9 u.cur)::Q:=h;unfold unt;rw[dr_get h0];dsimp only
  rw[if_pos (show(tk (3,bs9 u.cur)).1=3 from rfl),if_neg (by decide)];have e:=Un.plain hu hb;show(Sum.inr ((⟨false,0,0,st9 (bs9 u.cur)⟩:Un),a+1):(Nat×Nat)⊕(Un×Nat))=_;rw[st9_bs9,← e];rfl
theorem itm_unt(hu:u.ok)(hs:u.some)(hc:c.un=Un.zero)(h:L.drop a=(untW u).map tk++Q):itm L c a=.inr (⟨c.tot,u,c.day,c.lab⟩,a+(untW u).length):=by
 have hz:bs9 c.un.cur=[]:=by rw[hc];rfl
 unfold untW at h ⊢;cases hb:u.has with
 | true=>
  rw[hb,if_pos rfl,List.map_append,List.append_assoc] at h;obtain⟨t,g0,g1,g2,g3,g4⟩:=sta_tT h;have g5:=amt_told h;unfold itm;rw[g0];dsimp only
  rw[if_neg (fun e=>g1 e.1),if_neg (fun e=>g2 e.1),if_neg (fun e=>g3 e.1),if_pos ⟨g4,hz⟩,g5];dsimp only
  rw[if_pos rfl,st9_bs9,List.length_append,← hb];rfl
 | false=>
  rw[hb,if_neg (by decide)] at h;have h0:L.drop a=tk (3,bs9 u.cur)::Q:=h;unfold itm;rw[dr_get h0];dsimp only
  rw[if_neg (fun e=>absurd e.1 (tk_ne (by decide))),if_neg (fun e=>absurd e.1 (tk_ne (by decide))),if_pos ⟨rfl,hz⟩,if_neg (by decide)];have e:=Un.plain hu hb;rw[hc];show(Sum.inr ((⟨c.tot,⟨false,0,0,st9 (bs9 u.cur)⟩,c.day,c.lab⟩:Co),a+1):(Nat×Nat)⊕(Co×Nat))=_;rw[st9_bs9,← e];rfl
theorem itm_day{d:Int×Int×Int}(hd:Dat.ok8 d.1 d.2.1 d.2.2=true)(hc:c.day=(0,0,0))(h:L.drop a=tk (1,dayT d)::Q):itm L c a=.inr (⟨c.tot,c.un,d,c.lab⟩,a+1):=by
 unfold itm;rw[dr_get h];dsimp only
 rw[if_pos ⟨rfl,hc⟩];show(Sum.inr ((⟨c.tot,c.un,pday (st9 (dayT d)),c.lab⟩:Co),a+1):(Nat×Nat)⊕(Co×Nat))=_;rw[(day_told hd).2.2.1]
theorem itm_lab{s:ByteArray}(hl:bs9 s≠[])(hc:bs9 c.lab=[])(h:L.drop a=tk (5,bs9 s)::Q):itm L c a=.inr (⟨c.tot,c.un,c.day,s⟩,a+1):=by
 unfold itm;rw[dr_get h];dsimp only
 have e:bs9 (tk (5,bs9 s)).2=bs9 s:=by show bs9 (st9 (bs9 s))=_;rw[st9_bs9]
 rw[if_neg (fun e=>absurd e.1 (tk_ne (by decide))),if_pos ⟨rfl,hc,by rw[e];exact hl⟩];show(Sum.inr ((⟨c.tot,c.un,c.day,st9 (bs9 s)⟩:Co),a+1):(Nat×Nat)⊕(Co×Nat))=_;rw[st9_bs9]
end
structure Pt where
 t:List Nat
 w:List (Nat×List Nat)
 f:Co→Co
def jnP:List Pt→List (Nat×List Nat)
 | []=>[]
 | [p]=>p.w
 | p::q::r=>p.w++(10,[44])::jnP (q::r)
def Pt.told(p:Pt):Prop:=(∀{r:List Nat}{us:List (Nat×List Nat)},StQ r→Wds r us→Wds (p.t++r) (p.w++us))∧∃c u,p.t=c::u∧c≠123∧c≠32
theorem wds_parts:∀(P:List Pt) {r:List Nat}{us:List (Nat×List Nat)},(∀p∈P,p.told)→StQ r→Wds r us→Wds (jnT (P.map (·.t))++r) (jnP P++us)
 | [],_,_,_,_,h=>h
 | [p],_,_,hp,hr,h=>(hp p List.mem_cons_self).1 hr h
 | p::q::l,r,us,hp,hr,h=>by
  have ih:=wds_parts (q::l) (fun x hx=>hp x (List.mem_cons_of_mem _ hx)) hr h;show Wds ((p.t++44::32::jnT ((q::l).map (·.t)))++r) ((p.w++(10,[44])::jnP (q::l))++us);rw[List.append_assoc,List.append_assoc];refine(hp p List.mem_cons_self).1 (fun c hc=>.inl (Option.some.inj hc).symm) ?_;exact wds_one (.inl rfl) (by intro e;cases e) (wds_blank ih)
theorem jn_head:∀{P:List Pt}{r:List Nat},(∀p∈P,p.told)→r.head?≠some 123→(jnT (P.map (·.t))++r).head?≠some 123
 | [],_,_,hr=>hr
 | [p],r,hp,_=>by
  obtain⟨c,u,e,h1,-⟩:=(hp p List.mem_cons_self).2;show(p.t++r).head?≠_;rw[e];intro e2;exact h1 (Option.some.inj e2)
 | p::q::l,r,hp,_=>by
  obtain⟨c,u,e,h1,-⟩:=(hp p List.mem_cons_self).2;show((p.t++44::32::jnT ((q::l).map (·.t)))++r).head?≠_;rw[e];intro e2;exact h1 (Option.some.inj e2)
def Rds:List Pt→Co→Prop
 | [],_=>True
 | p::r,c=>(∀{L:List Tok}{a:Nat}{Q:List Tok},L.drop a=p.w.map tk++Q→itm L c a=.inr (p.f c,a+p.w.length))∧(p.f c).tot=c.tot∧Rds r (p.f c)
theorem isW_tk{L Q:List Tok}{a:Nat}{x:List Nat}(h:L.drop a=tk (10,x)::Q)(hx:∀c∈x,c<256)(y:List Nat):isW L a y=decide (x=y):=by
 unfold isW;rw[dr_get h];have:bs9 (tk (10,x)).2=x:=bs9_st9 hx;show(decide ((tk (10,x)).1=10)&&decide (bs9 (tk (10,x)).2=y))=_;rw[this,decide_eq_true (show(tk (10,x)).1=10 from rfl),Bool.true_and]
theorem isW_end{L:List Tok}{a:Nat}(h:L.drop a=[])(y:List Nat):isW L a y=false:=by
 unfold isW;rw[List.getElem?_eq_none (List.drop_eq_nil_iff.1 h)];rfl
theorem isW_kind{L Q:List Tok}{a k:Nat}{x:List Nat}(h:L.drop a=tk (k,x)::Q)(hk:(k:Int)≠10)(y:List Nat):isW L a y=false:=by
 unfold isW;rw[dr_get h];show(decide ((tk (k,x)).1=10)&&_)=_;rw[decide_eq_false (tk_ne hk)];rfl
theorem shut_lt(m:Bool):∀c∈shutC m,c<256:=by cases m<;>decide
theorem opn_lt(m:Bool):∀c∈opnC m,c<256:=by cases m<;>decide
def parts(c:Co):List Pt:=(if c.un.has=true∨bs9 c.un.cur≠[] then [⟨untT c.un,untW c.un,fun e=>⟨e.tot,c.un,e.day,e.lab⟩⟩] else [])++
 ((if dayT c.day≠[] then [⟨dayT c.day,[(1,dayT c.day)],fun e=>⟨e.tot,e.un,c.day,e.lab⟩⟩] else [])++
 (if bs9 c.lab≠[] then [⟨qt (bs9 c.lab),[(5,bs9 c.lab)],fun e=>⟨e.tot,e.un,e.day,c.lab⟩⟩] else []))
theorem parts_text(c:Co):prtT c=(parts c).map (·.t):=by
 unfold prtT parts;split<;>split<;>split<;>rfl
theorem day_none:dayT (0,0,0)=[]:=by kernel_rfl
section
variable {c:Co}(hc:c.ok)
include hc
theorem day_ok(h:dayT c.day≠[]):Dat.ok8 c.day.1 c.day.2.1 c.day.2.2=true:=by
 rcases hc.2 with e|e
 ·rw[e] at h;exact absurd day_none h
 ·exact e
theorem day_no(h:¬dayT c.day≠[]):c.day=(0,0,0):=by
 rcases hc.2 with e|e
 ·exact e
 ·exact absurd (day_told e).2.2.2 h
theorem parts_told:∀p∈parts c,p.told:=by
 intro p hp;unfold parts at hp;rcases List.mem_append.1 hp with hp|hp
 ·split at hp
  ·rename_i hs
   obtain rfl:=List.mem_singleton.1 hp;refine⟨fun hr h=>wds_unt hc.1 hs hr.cur h,?_⟩;show ∃d u,untT c.un=d::u∧_;unfold untT;split
   ·unfold amtT
    rw[txtD_bod];obtain⟨d,t,e,hd⟩:=bod_head c.un.i.natAbs c.un.k;have hd2:48≤d∧d≤57:=by unfold YtpbbolgnnegmlaaGreatDoor.dgB at hd;simpa using hd
    unfold sgT;split
    ·exact⟨_,_,rfl,by decide,by decide⟩
    ·rw[e];exact⟨_,_,rfl,by omega,by omega⟩
   ·obtain⟨⟨d,u,e,hd⟩,-⟩:=Un.curw hc.1 hs
    have:=up_of hd;exact⟨d,u,e,by omega,by omega⟩
  ·cases hp
 ·rcases List.mem_append.1 hp with hp|hp
  ·split at hp
   ·rename_i hd
    obtain rfl:=List.mem_singleton.1 hp;obtain⟨g1,⟨d,u,g2,g3⟩,-,-⟩:=day_told (day_ok hc hd);have hd2:48≤d∧d≤57:=by unfold YtpbbolgnnegmlaaGreatDoor.dgB at g3;simpa using g3
    exact⟨fun hr h=>wds_day g1 ⟨d,u,g2,g3⟩ hr.dig h,d,u,g2,by omega,by omega⟩
   ·cases hp
  ·split at hp
   ·obtain rfl:=List.mem_singleton.1 hp
    exact⟨fun hr h=>wds_text _ h,34,_,rfl,by decide,by decide⟩
   ·cases hp
theorem parts_read:Rds (parts c) (Co.start c.tot)∧(parts c).foldl (fun e p=>p.f e) (Co.start c.tot)=c:=by
 obtain⟨m,u,d,s⟩:=c;have hU:∀{e:Co},u.some→e.un=Un.zero→∀{L:List Tok}{a:Nat}{Q:List Tok},L.drop a=(untW u).map tk++Q→itm L e a=.inr (⟨e.tot,u,e.day,e.lab⟩,a+(untW u).length):=fun {e} hs he {L a Q} h=>itm_unt hc.1 hs he h
 have hD:∀{e:Co},dayT d≠[]→e.day=(0,0,0)→∀{L:List Tok}{a:Nat}{Q:List Tok},L.drop a=[(1,dayT d)].map tk++Q→itm L e a=.inr (⟨e.tot,e.un,d,e.lab⟩,a+[(1,dayT d)].length):=fun {e} hs he {L a Q} h=>itm_day (day_ok hc hs) he h
 have hS:∀{e:Co},bs9 s≠[]→bs9 e.lab=[]→∀{L:List Tok}{a:Nat}{Q:List Tok},L.drop a=[(5,bs9 s)].map tk++Q→itm L e a=.inr (⟨e.tot,e.un,e.day,s⟩,a+[(5,bs9 s)].length):=fun {e} hs he {L a Q} h=>itm_lab hs he h
 have zU:¬u.some→u=Un.zero:=Un.none hc.1;have zD:¬dayT d≠[]→d=(0,0,0):=day_no hc;have zS:¬bs9 s≠[]→s=⟨#[]⟩:=fun h=>bs9_nil (Decidable.byContradiction h)
 unfold parts;by_cases h1:u.some<;>by_cases h2:dayT d≠[]<;>by_cases h3:bs9 s≠[]
 all_goals (have h1':=h1;unfold Un.some at h1')
 all_goals first|rw[if_pos h1']|rw[if_neg h1']
 all_goals first|rw[if_pos h2]|rw[if_neg h2]
 all_goals first|rw[if_pos h3]|rw[if_neg h3]
 ·exact⟨⟨hU h1 rfl,rfl,hD h2 rfl,rfl,hS h3 rfl,rfl,trivial⟩,rfl⟩
 ·exact⟨⟨hU h1 rfl,rfl,hD h2 rfl,rfl,trivial⟩,by rw[zS h3];rfl⟩
 ·exact⟨⟨hU h1 rfl,rfl,hS h3 rfl,rfl,trivial⟩,by rw[zD h2];rfl⟩
 ·exact⟨⟨hU h1 rfl,rfl,trivial⟩,by rw[zD h2,zS h3];rfl⟩
 ·exact⟨⟨hD h2 rfl,rfl,hS h3 rfl,rfl,trivial⟩,by rw[zU h1];rfl⟩
 ·exact⟨⟨hD h2 rfl,rfl,trivial⟩,by rw[zU h1,zS h3];rfl⟩
 ·exact⟨⟨hS h3 rfl,rfl,trivial⟩,by rw[zU h1,zD h2];rfl⟩
 ·exact⟨trivial,by rw[zU h1,zD h2,zS h3];rfl⟩
def cstW(c:Co):List (Nat×List Nat):=(10,opnC c.tot)::(jnP (parts c)++[(10,shutC c.tot)])
omit hc in
omit hc in
end
def unW(u:Un):List (Nat×List Nat):=if u.has=true∨bs9 u.cur≠[] then untW u else []
theorem unt_back{u:Un}(hu:u.ok){L:List Tok}{a:Nat}(h:L.drop a=(unW u).map tk)(ha:a≤L.length):unt L a=.inr (u,L.length):=by
 have hl:=congrArg List.length h;rw[List.length_drop,List.length_map] at hl;unfold unW at h hl;split at h
 ·rename_i hs
  rw[if_pos hs] at hl;rw[unt_told hu hs (Q:=[]) (by rw[h,List.append_nil]),← hl];congr 2;omega
 ·rename_i hs
  rw[if_neg hs] at hl;have h1:L[a]?=none:=List.getElem?_eq_none (List.drop_eq_nil_iff.1 h);unfold unt;rw[h1,Un.none hu hs];have h2:L.length-a=0:=hl;have h3:a=L.length:=by omega
  rw[h3]
def prcW(p:Bool×Un):List (Nat×List Nat):=(10,if p.1=true then [64,64] else [64])::unW p.2
abbrev RH(α:Type):=(Nat×Nat)⊕(α×Nat)
def thn{α β:Type}:RH α→(α→Nat→RH β)→RH β
 | .inl e,_=>.inl e
 | .inr (x,b),f=>f x b
theorem thn_ok{α β:Type}{r:RH α}{f:α→Nat→RH β}{y:β}{c:Nat}(h:thn r f=.inr (y,c)):∃x b,r=.inr (x,b)∧f x b=.inr (y,c):=by
 rcases r with e|⟨x,b⟩
 ·cases h
 ·exact⟨x,b,rfl,h⟩
theorem thn_go{α β:Type}{r:RH α}{f:α→Nat→RH β}{x:α}{b:Nat}(h:r=.inr (x,b)):thn r f=f x b:=by rw[h];rfl
theorem thn_bad{α β:Type}{r:RH α}{f:α→Nat→RH β}{e p:Nat}(h:thn r f=.inl (e,p))(h1:∀{e p},r=.inl (e,p)→e≠0)(h2:∀{x b e p},f x b=.inl (e,p)→e≠0):e≠0:=by
 rcases r with q|⟨x,b⟩
 ·cases h;exact h1 rfl
 ·exact h2 h
def tkw(L:List Tok)(a:Nat)(k:Int):RH ByteArray:=match L[a]? with
 | none=>.inl (2,a)
 | some t=>if t.1=k then .inr (t.2,a+1) else .inl (3,a)
def knd(L:List Tok)(a:Nat)(k:Int):Bool:=(L[a]?).any fun t=>decide (t.1=k)
def nmr(L:List Tok)(a:Nat):RH (Int×Nat):=match SUM L 0 a with
 | .inl e=>.inl e
 | .inr (i,k,b)=>.inr ((i,k),b)
def amr(L:List Tok)(a:Nat):RH (Int×Nat×ByteArray):=match amt L a with
 | .inl e=>.inl e
 | .inr (i,k,x,b)=>.inr ((i,k,x),b)
def curL(L:List Tok):Nat→Nat→RH (List ByteArray)
 | 0,a=>.inr ([],a)
 | f+1,a=>if isW L a [44]=true then thn (tkw L (a+1) 3) fun x b=>thn (curL L f b) fun xs c=>.inr (x::xs,c) else .inr ([],a)
def curs(L:List Tok)(a:Nat):RH (List ByteArray):=if knd L a 3=true then thn (tkw L a 3) fun x b=>thn (curL L L.length b) fun xs c=>.inr (x::xs,c) else .inr ([],a)
def wStrict:List Nat:=[83,84,82,73,67,84]
def wFifo:List Nat:=[70,73,70,79]
def wLifo:List Nat:=[76,73,70,79]
def wAverage:List Nat:=[65,86,69,82,65,71,69]
def wNone:List Nat:=[78,79,78,69]
def mth(x:List Nat):Option Nat:=if x=wStrict then some 0 else if x=wFifo then some 1 else if x=wLifo then some 2 else if x=wAverage then some 3 else if x=wNone then some 4 else none
def wOption:List Nat:=[111,112,116,105,111,110]
def wOpen:List Nat:=[111,112,101,110]
def wClose:List Nat:=[99,108,111,115,101]
def wCommodity:List Nat:=[99,111,109,109,111,100,105,116,121]
def wPrice:List Nat:=[112,114,105,99,101]
def wPad:List Nat:=[112,97,100]
def wBalance:List Nat:=[98,97,108,97,110,99,101]
def wNote:List Nat:=[110,111,116,101]
def wTxn:List Nat:=[116,120,110]
inductive Dr
 | opn (day:Int×Int×Int) (acc:ByteArray) (cs:List ByteArray) (book:Nat)
 | cls (day:Int×Int×Int) (acc:ByteArray)
 | com (day:Int×Int×Int) (cur:ByteArray)
 | prc (day:Int×Int×Int) (cur:ByteArray) (i:Int) (k:Nat) (x:ByteArray)
 | pad (day:Int×Int×Int) (acc oth:ByteArray)
 | bal (day:Int×Int×Int) (acc:ByteArray) (i:Int) (k:Nat) (tol:Option (Int×Nat)) (x:ByteArray)
 | txn (day:Int×Int×Int) (flag:Bool) (pay nar:ByteArray) (tags links:List ByteArray)
 | nte (day:Int×Int×Int) (acc text:ByteArray)
 | opt (name text:ByteArray)
def mthO(L:List Tok)(a:Nat):Option Nat:=(L[a]?).bind fun t=>mth (bs9 t.2)
def rOpen(L:List Tok)(d:Int×Int×Int)(a:Nat):RH Dr:=thn (tkw L a 2) fun ac a=>thn (curs L a) fun cs a=>
 if knd L a 5=true then (match mthO L a with|none=>.inl (3,a)|some m=>.inr (.opn d ac cs m,a+1)) else .inr (.opn d ac cs 0,a)
def rTol(L:List Tok)(a:Nat):RH (Option (Int×Nat)):=if isW L a [126]=true then thn (nmr L (a+1)) fun n a=>if n.1<0 then .inl (3,a-1) else .inr (some n,a) else .inr (none,a)
def rBal(L:List Tok)(d:Int×Int×Int)(a:Nat):RH Dr:=thn (tkw L a 2) fun ac a=>thn (nmr L a) fun n a=>thn (rTol L a) fun t a=>thn (tkw L a 3) fun x a=>.inr (.bal d ac n.1 n.2 t x,a)
def rTxt(L:List Tok)(a:Nat):(ByteArray×ByteArray)×Nat:=match L[a]? with
 | none=>((⟨#[]⟩,⟨#[]⟩),a)
 | some t=>if t.1=5 then (match L[a+1]? with
  | none=>((⟨#[]⟩,t.2),a+1)
  | some u=>if u.1=5 then ((t.2,u.2),a+2) else ((⟨#[]⟩,t.2),a+1)) else ((⟨#[]⟩,⟨#[]⟩),a)
def adds(l:List ByteArray)(s:ByteArray):List ByteArray:=if l.any (fun x=>decide (bs9 x=bs9 s))=true then l else l++[s]
def rTgs(L:List Tok):Nat→List ByteArray→List ByteArray→Nat→(List ByteArray×List ByteArray)×Nat
 | 0,T,K,a=>((T,K),a)
 | f+1,T,K,a=>match L[a]? with
  | none=>((T,K),a)
  | some t=>if t.1=6 then rTgs L f (adds T t.2) K (a+1) else if t.1=7 then rTgs L f T (adds K t.2) (a+1) else ((T,K),a)
def rTxn(L:List Tok)(d:Int×Int×Int)(flag:Bool)(a:Nat):RH Dr:=
 .inr (.txn d flag (rTxt L a).1.1 (rTxt L a).1.2 (rTgs L (L.length+1) [] [] (rTxt L a).2).1.1 (rTgs L (L.length+1) [] [] (rTxt L a).2).1.2,(rTgs L (L.length+1) [] [] (rTxt L a).2).2)
def rest15(L:List Tok)(d:Int×Int×Int)(w:List Nat)(a:Nat):RH Dr:=
 if w=wOpen then rOpen L d a
 else if w=wClose then thn (tkw L a 2) fun ac a=>.inr (.cls d ac,a)
 else if w=wCommodity then thn (tkw L a 3) fun c a=>.inr (.com d c,a)
 else if w=wPrice then thn (tkw L a 3) fun c a=>thn (amr L a) fun n a=>.inr (.prc d c n.1 n.2.1 n.2.2,a)
 else if w=wPad then thn (tkw L a 2) fun x a=>thn (tkw L a 2) fun y a=>.inr (.pad d x y,a)
 else if w=wBalance then rBal L d a
 else if w=wNote then thn (tkw L a 2) fun x a=>thn (tkw L a 5) fun y a=>.inr (.nte d x y,a)
 else if w=wTxn∨w=[42] then rTxn L d false a
 else if w=[33] then rTxn L d true a
 else .inl (3,a-1)
def fin15(L:List Tok)(r:RH Dr):RH Dr:=thn r fun d a=>if a<L.length then .inl (3,a) else .inr (d,a)
def hd(L:List Tok):RH Dr:=match L[0]? with
 | none=>.inl (2,0)
 | some t=>if t.1=8∧bs9 t.2=wOption then fin15 L (thn (tkw L 1 5) fun n a=>thn (tkw L a 5) fun x a=>.inr (.opt n x,a))
  else if t.1=1 then (if Dat.prOk t.2=true then (match L[1]? with
   | none=>.inl (2,1)
   | some u=>if u.1=8∨u.1=10 then fin15 L (rest15 L (pday t.2) (bs9 u.2) 2) else .inl (3,1)) else .inl (3,0))
  else .inl (3,0)
structure Pc where
 t:List Nat
 w:List (Nat×List Nat)
def Pc.told(p:Pc):Prop:=∀{r:List Nat}{us:List (Nat×List Nat)},Nx r→Wds r us→Wds (p.t++r) (p.w++us)
def jnB:List (List Nat)→List Nat
 | []=>[]
 | [x]=>x
 | x::y::r=>x++32::jnB (y::r)
theorem wds_pcs:∀(P:List Pc),(∀p∈P,p.told)→Wds (jnB (P.map (·.t))) (P.flatMap (·.w))
 | [],_=>wds_nil
 | [p],h=>by
  have:=h p List.mem_cons_self (.inl rfl) wds_nil;rw[List.append_nil] at this;exact this
 | p::q::r,h=>by
  have:=h p List.mem_cons_self (r:=32::jnB ((q::r).map (·.t))) (.inr ⟨_,rfl⟩) (wds_blank (wds_pcs (q::r) fun x hx=>h x (List.mem_cons_of_mem _ hx)));exact this
def pW(k:Nat)(y:List Nat):Pc:=⟨YtpbbolgnnegmlaaGreatDoor.txt k y,[(k,y)]⟩
def pN(i:Int)(k:Nat):Pc:=⟨Num.txtD i k,tT i k⟩
theorem pW_told{k:Nat}{y:List Nat}(h:Prp k y):(pW k y).told:=fun {r us} hr hw=>by
 obtain⟨l,n,h⟩:=h;obtain⟨-,-,⟨c,u,e,h1,h2,h3⟩,hb⟩:=nxt_back dayok12 h;have hn:=hb r hr;show Wds (YtpbbolgnnegmlaaGreatDoor.txt k y++r) ((k,y)::us);refine wds_of (n:=(YtpbbolgnnegmlaaGreatDoor.txt k y).length) ?_ ?_ hn List.drop_left hw
 ·rw[e,List.cons_append,indl,if_neg (by omega)]
 ·rw[e]
  rintro(q|q)
  ·cases q
  ·exact h3 (Option.some.inj q)
theorem nx_cur{r:List Nat}(h:Nx r):StC r:=fun c hc=>by
 rcases h with rfl|⟨u,rfl⟩
 ·cases hc
 ·obtain rfl:=Option.some.inj hc;rfl
theorem pT_told(y:List Nat):(pW 5 y).told:=fun {r us} _ hw=>wds_text y hw
theorem prp_lit10:Prp 10 [42]∧Prp 10 [33]∧Prp 10 [126]:=⟨⟨[42],1,by kernel_rfl⟩,⟨[33],1,by kernel_rfl⟩,⟨[126],1,by kernel_rfl⟩⟩
theorem txtD_len{i:Int}{k K:Nat}(h:Sz i k K):(txtD i k).length≤K+k+3:=by
 have h1:nd (i.natAbs/10^k)≤K+1:=by
  refine nd_le_of_lt K ?_;unfold Sz at h;rw[Nat.pow_add] at h;refine Nat.lt_of_lt_of_le ((Nat.div_lt_iff_lt_mul (Nat.pow_pos (by omega))).2 h) (Nat.pow_le_pow_right (by omega) (by omega))
 have h2:(beh k i.natAbs).length≤k+1:=by
  unfold beh;split
  ·exact Nat.zero_le _
  ·rw[List.length_cons,pad_len];exact Nat.le_refl _
 have h3:(sgT i).length≤1:=by unfold sgT;split<;>decide
 have h4:(txt (i.natAbs/10^k)).length=nd (i.natAbs/10^k):=rfl;rw[txtD_bod,List.length_append];unfold bod;rw[List.length_append];omega
theorem sz_zero(k:Nat):Sz 0 0 k:=Nat.pow_pos (by omega)
theorem dayT_len(d:Int×Int×Int):(dayT d).length≤10:=by
 cases h:Dat.ok8 d.1 d.2.1 d.2.2 with
 | true=>unfold dayT;rw[bs9_len,(Dat.told_day h).1];exact Nat.le_refl _
 | false=>unfold dayT;rw[Dat.text8_not h];exact Nat.zero_le _
theorem shut_len(m:Bool):(shutC m).length≤2:=by cases m<;>decide
theorem opn_len(m:Bool):(opnC m).length≤2:=by cases m<;>decide
theorem ws_tks(no:Int)(ts:List Wd)(hb:∀t∈ts,∀c∈t.2.1,c<256):Wgh.ws ((tks no ts).map tok) ((tks no ts).map tok).length=wgt ts:=by
 unfold Wgh.ws wgt;rw[List.take_length];induction ts with
 | nil=>rfl
 | cons t r ih=>
  have h1:=ih fun t ht=>hb t (List.mem_cons_of_mem _ ht)
  show(st9 t.2.1).size+11+_=t.2.1.length+11+_;rw[← bs9_len,bs9_st9 (hb t List.mem_cons_self)];exact congrArg (fun z=>t.2.1.length+11+z) h1
theorem err_all(L:List Tok):∀f:Nat,
  (∀{d a e p},facF L f d a=.inl (e,p)→e≠0)∧(∀{d a e p},proF L f d a=.inl (e,p)→e≠0)∧(∀{d i k a e p},proL L f d i k a=.inl (e,p)→e≠0)∧
  (∀{d a e p},sumF L f d a=.inl (e,p)→e≠0)∧(∀{d i k a e p},sumL L f d i k a=.inl (e,p)→e≠0):=by
 intro f;induction f with
 | zero=>
  refine⟨fun h=>?_,fun h=>?_,fun h=>?_,fun h=>?_,fun h=>?_⟩
  ·rw[facF] at h;cases h;decide
  ·rw[proF] at h;cases h;decide
  ·rw[proL] at h;cases h;decide
  ·rw[sumF] at h;cases h;decide
  ·rw[sumL] at h;cases h;decide
 | succ f ih=>
  obtain⟨ih1,ih2,ih3,ih4,ih5⟩:=ih;refine⟨fun {d a e p} h=>?_,fun {d a e p} h=>?_,fun {d i k a e p} h=>?_,fun {d a e p} h=>?_,fun {d i k a e p} h=>?_⟩
  ·rw[facF] at h
   split at h
   ·cases h;decide
   ·split at h
    ·split at h
     ·cases h;decide
     ·cases h
    ·split at h
     ·cases h;decide
     ·split at h
      ·cases h;decide
      ·split at h
       ·cases hr:sumF L f (d+1) (a+1) with
        | inl q=>
         rw[hr] at h;obtain⟨x,y⟩:=q;cases h
         exact ih4 hr
        | inr q=>
         obtain⟨x,y,z⟩:=q;rw[hr] at h;unfold Rs.shut at h;dsimp only at h
         split at h
         ·cases h
         ·cases h
          split<;>decide
       ·cases hr:facF L f (d+1) (a+1) with
        | inl q=>
         rw[hr] at h;obtain⟨x,y⟩:=q;cases h
         exact ih1 hr
        | inr q=>
         obtain⟨x,y,z⟩:=q;rw[hr] at h;cases h
  ·rw[proF] at h
   split at h
   ·rename_i hr
    cases h
    exact ih1 hr
   ·exact ih3 h
  ·rw[proL] at h
   split at h
   ·split at h
    ·rename_i hr
     cases h
     exact ih1 hr
    ·exact ih3 h
   ·split at h
    ·split at h
     ·rename_i hr
      cases h
      exact ih1 hr
     ·split at h
      ·cases h;decide
      ·exact ih3 h
    ·cases h
  ·rw[sumF] at h
   split at h
   ·rename_i hr
    cases h
    exact ih2 hr
   ·exact ih5 h
  ·rw[sumL] at h
   split at h
   ·split at h
    ·rename_i hr
     cases h
     exact ih2 hr
    ·exact ih5 h
   ·split at h
    ·split at h
     ·rename_i hr
      cases h
      exact ih2 hr
     ·exact ih5 h
    ·cases h
theorem SUM_bad{L:List Tok}{d a e p:Nat}(h:SUM L d a=.inl (e,p)):e≠0:=(err_all L _).2.2.2.1 h
section
variable {L:List Tok}{a e p b:Nat}
theorem amt_bad(h:amt L a=.inl (e,p)):e≠0:=by
 unfold amt at h;split at h
 ·rename_i hs
  cases h
  exact SUM_bad hs
 ·split at h
  ·cases h;decide
  ·split at h
   ·cases h
   ·cases h;decide
theorem unt_bad(h:unt L a=.inl (e,p)):e≠0:=by
 unfold unt at h;split at h
 ·cases h
 ·split at h
  ·cases h
  ·split at h
   ·cases h
   ·split at h
    ·rename_i ha
     cases h
     exact amt_bad ha
    ·cases h
theorem itm_bad{c:Co}(h:itm L c a=.inl (e,p)):e≠0:=by
 unfold itm at h;split at h
 ·cases h;decide
 ·split at h
  ·cases h
  ·split at h
   ·cases h
   ·split at h
    ·cases h
    ·split at h
     ·split at h
      ·rename_i ha
       cases h
       exact amt_bad ha
      ·cases h
     ·cases h;decide
theorem cstL_bad:∀(f:Nat) {c:Co}{a:Nat},cstL L f c a=.inl (e,p)→e≠0:=by
 intro f;induction f with
 | zero=>intro c a h;rw[cstL] at h;cases h;decide
 | succ f ih=>
  intro c a h;rw[cstL] at h;split at h
  ·rename_i hi
   cases h
   exact itm_bad hi
  ·split at h
   ·cases h
   ·split at h
    ·exact ih h
    ·cases h
     unfold shr;split<;>decide
theorem cst_bad(h:cst L a=.inl (e,p)):e≠0:=by
 unfold cst at h;split at h
 ·split at h
  ·rename_i hb
   cases h
   unfold cstB at hb;split at hb
   ·cases hb
   ·exact cstL_bad _ hb
  ·cases h
 ·cases h
theorem prc_bad(h:prc L a=.inl (e,p)):e≠0:=by
 unfold prc at h;split at h
 ·split at h
  ·rename_i hb
   cases h
   exact unt_bad hb
  ·cases h
 ·cases h
end
theorem dg_none:(dg (0:Int).natAbs).length≤900:=Nat.le_trans (sz_zero 0).nine (by decide)
section
variable {L:List Tok}{a b:Nat}{k:Int}{x:ByteArray}
theorem tkw_ok(h:tkw L a k=.inr (x,b)):∃t,L[a]?=some t∧t.1=k∧x=t.2∧b=a+1:=by
 unfold tkw at h;split at h
 ·cases h
 ·rename_i t ht
  split at h
  ·rename_i hk;cases h;exact⟨t,ht,hk,rfl,rfl⟩
  ·cases h
theorem tkw_bad{e p:Nat}(h:tkw L a k=.inl (e,p)):e≠0:=by
 unfold tkw at h;split at h
 ·cases h;decide
 ·split at h
  ·cases h
  ·cases h;decide
theorem tkw_prp(hL:PrpL L)(h:tkw L a k=.inr (x,b)):Prp k.toNat (bs9 x):=by
 obtain⟨t,ht,hk,rfl,-⟩:=tkw_ok h;rw[← hk];exact hL t (List.mem_of_getElem? ht)
end
section
variable {L Q:List Tok}{a b:Nat}
theorem tkw_told{k:Nat}{x:List Nat}{m:Int}(h:L.drop a=tk (k,x)::Q)(hk:(k:Int)=m):tkw L a m=.inr (st9 x,a+1):=by
 unfold tkw;rw[dr_get h];dsimp only;rw[if_pos (show(tk (k,x)).1=m from hk)];rfl
theorem bsst(s:ByteArray):st9 (bs9 s)=s:=st9_bs9 s
end
namespace Byt
def bw(L:List Tok)(n:Nat):Nat:=((L.take n).map fun t=>max t.2.size 1).sum
theorem bw_step{L:List Tok}{n:Nat}{t:Tok}(h:L[n]?=some t):bw L (n+1)=bw L n+max t.2.size 1:=by
 unfold bw;rw[List.take_add_one,h,List.map_append,List.sum_append];show _+(max t.2.size 1+0)=_;omega
theorem bw_le {L : List Tok} {n m : Nat} (h : n ≤ m) : bw L n ≤ bw L m := by
  induction m with
  | zero => obtain rfl : n = 0 := by omega
            exact Nat.le_refl _
  | succ m ih =>
    rcases Nat.eq_or_lt_of_le h with rfl | h
    · exact Nat.le_refl _
    · refine Nat.le_trans (ih (by omega)) ?_
      unfold bw
      rw [List.take_add_one, List.map_append, List.sum_append]
      exact Nat.le_add_right _ _
theorem bw_lt{L:List Tok}{n m:Nat}(h:n<m)(hm:m≤L.length):bw L n+1≤bw L m:=by
 have h1:=bw_step (L:=L) (n:=n) (List.getElem?_eq_getElem (by omega));have h2:=bw_le (L:=L) (show n+1≤m from h);omega
def Grt(L:List Tok)(a b:Nat)(i:Int)(k:Nat):Prop:=a<b∧b≤L.length∧Sz i k (6*(bw L b-bw L a)-5)∧k≤6*(bw L b-bw L a)-5
theorem grt_all(L:List Tok):∀f:Nat,
  (∀{d a i k b},facF L f d a=.inr (i,k,b)→Grt L a b i k)∧(∀{d a i k b},proF L f d a=.inr (i,k,b)→Grt L a b i k)∧
  (∀{d j t a0 a i k b},proL L f d j t a=.inr (i,k,b)→Grt L a0 a j t→Grt L a0 b i k)∧(∀{d a i k b},sumF L f d a=.inr (i,k,b)→Grt L a b i k)∧
  (∀{d j t a0 a i k b},sumL L f d j t a=.inr (i,k,b)→Grt L a0 a j t→Grt L a0 b i k):=by
 intro f;induction f with
 | zero=>
  refine⟨fun h=>?_,fun h=>?_,fun h=>?_,fun h=>?_,fun h=>?_⟩
  ·rw[facF] at h;cases h
  ·rw[proF] at h;cases h
  ·rw[proL] at h;cases h
  ·rw[sumF] at h;cases h
  ·rw[sumL] at h;cases h
 | succ f ih=>
  obtain⟨ih1,ih2,ih3,ih4,ih5⟩:=ih;refine⟨fun {d a i k b} h=>?_,fun {d a i k b} h=>?_,fun {d j t a0 a i k b} h hg=>?_,fun {d a i k b} h=>?_,fun {d j t a0 a i k b} h hg=>?_⟩
  ·rw[facF] at h
   cases hl:L[a]? with
   | none=>rw[hl] at h;cases h
   | some t=>
    have ha:a<L.length:=(List.getElem?_eq_some_iff.1 hl).1;rw[hl] at h;dsimp only at h
    split at h
    ·split at h
     ·cases h
     ·rename_i hv
      obtain⟨h1,h2⟩:=Wgh.numV_size hv (Nat.le_refl _);cases h
      have w1:=bw_step hl;exact⟨by omega,by omega,h1.mono (by omega),by omega⟩
    ·split at h
     ·cases h
     ·split at h
      ·cases h
      ·split at h
       ·cases hr:sumF L f (d+1) (a+1) with
        | inl e=>rw[hr] at h;cases h
        | inr p=>
         obtain⟨x,y,z⟩:=p;rw[hr] at h;unfold Rs.shut at h;dsimp only at h
         obtain⟨g1,g2,g3,g4⟩:=ih4 hr;split at h
         ·rename_i hc
          cases h
          have:=isAt_lt hc;have w1:=bw_le (L:=L) (show a≤a+1 by omega);have w2:=bw_le (L:=L) (show z≤z+1 by omega);exact⟨by omega,by omega,g3.mono (by omega),by omega⟩
         ·cases h
       ·cases hr:facF L f (d+1) (a+1) with
        | inl e=>rw[hr] at h;cases h
        | inr p=>
         obtain⟨x,y,z⟩:=p;rw[hr] at h;obtain⟨g1,g2,g3,g4⟩:=ih1 hr;cases h
         have w1:=bw_le (L:=L) (show a≤a+1 by omega);refine⟨by omega,by omega,?_,by omega⟩;split
         ·exact g3.neg.mono (by omega)
         ·exact g3.mono (by omega)
  ·rw[proF] at h
   cases hr:facF L f d a with
   | inl e=>rw[hr] at h;cases h
   | inr p=>
    obtain⟨x,y,z⟩:=p;rw[hr] at h;exact ih3 h (ih1 hr)
  ·rw[proL] at h
   obtain⟨q1,q2,q3,q4⟩:=hg;split at h
   ·cases hr:facF L f d (a+1) with
    | inl e=>rw[hr] at h;cases h
    | inr p=>
     obtain⟨x,y,z⟩:=p;rw[hr] at h;obtain⟨g1,g2,g3,g4⟩:=ih1 hr;have w1:=bw_lt (L:=L) (show a<a+1 by omega) (by omega);have w2:=bw_le (L:=L) (show a0≤a by omega);have w3:=bw_le (L:=L) (show a+1≤z by omega);have w4:=bw_lt (L:=L) g1 (by omega);have w5:=bw_lt (L:=L) q1 (by omega);exact ih3 h ⟨by omega,by omega,(q3.mul g3).mono (by omega),by omega⟩
   ·split at h
    ·cases hr:facF L f d (a+1) with
     | inl e=>rw[hr] at h;cases h
     | inr p=>
      obtain⟨x,y,z⟩:=p;rw[hr] at h;dsimp only at h
      obtain⟨g1,g2,g3,g4⟩:=ih1 hr;split at h
      ·cases h
      ·rename_i hx
       obtain⟨r1,r2⟩:=quo_size (t:=y) q3 hx;have w1:=bw_lt (L:=L) (show a<a+1 by omega) (by omega);have w2:=bw_le (L:=L) (show a0≤a by omega);have w3:=bw_le (L:=L) (show a+1≤z by omega);have w4:=bw_lt (L:=L) g1 (by omega);have w5:=bw_lt (L:=L) q1 (by omega);exact ih3 h ⟨by omega,by omega,r1.mono (by omega),by omega⟩
    ·cases h;exact⟨q1,q2,q3,q4⟩
  ·rw[sumF] at h
   cases hr:proF L f d a with
   | inl e=>rw[hr] at h;cases h
   | inr p=>
    obtain⟨x,y,z⟩:=p;rw[hr] at h;exact ih5 h (ih2 hr)
  ·rw[sumL] at h
   obtain⟨q1,q2,q3,q4⟩:=hg;split at h
   ·cases hr:proF L f d (a+1) with
    | inl e=>rw[hr] at h;cases h
    | inr p=>
     obtain⟨x,y,z⟩:=p;rw[hr] at h;obtain⟨g1,g2,g3,g4⟩:=ih2 hr;have w1:=bw_lt (L:=L) (show a<a+1 by omega) (by omega);have w2:=bw_le (L:=L) (show a0≤a by omega);have w3:=bw_le (L:=L) (show a+1≤z by omega);have w4:=bw_lt (L:=L) g1 (by omega);have w5:=bw_lt (L:=L) q1 (by omega);exact ih5 h ⟨by omega,by omega,(q3.add g3).mono (by omega),by omega⟩
   ·split at h
    ·cases hr:proF L f d (a+1) with
     | inl e=>rw[hr] at h;cases h
     | inr p=>
      obtain⟨x,y,z⟩:=p;rw[hr] at h;obtain⟨g1,g2,g3,g4⟩:=ih2 hr;have w1:=bw_lt (L:=L) (show a<a+1 by omega) (by omega);have w2:=bw_le (L:=L) (show a0≤a by omega);have w3:=bw_le (L:=L) (show a+1≤z by omega);have w4:=bw_lt (L:=L) g1 (by omega);have w5:=bw_lt (L:=L) q1 (by omega);exact ih5 h ⟨by omega,by omega,(q3.sub g3).mono (by omega),by omega⟩
    ·cases h;exact⟨q1,q2,q3,q4⟩
section
variable {L:List Tok}{d a b a0 t:Nat}{i j:Int}{k:Nat}
theorem SUM_grt(h:SUM L d a=.inr (i,k,b)):Grt L a b i k:=(grt_all L _).2.2.2.1 h
end
end Byt
open Byt
def wgP(p:Pc):Nat:=(p.w.map fun u=>u.2.length+11).sum
def PC(p:Pc):Nat:=max (wgP p) (p.t.length+1)
def TC(P:List Pc):Nat:=(P.map PC).sum
theorem TC_app(P Q:List Pc):TC (P++Q)=TC P+TC Q:=by unfold TC;rw[List.map_append,List.sum_append]
theorem TC_cons(p:Pc)(P:List Pc):TC (p::P)=PC p+TC P:=rfl
theorem wg_pcs:∀P:List Pc,((P.flatMap (·.w)).map fun u=>u.2.length+11).sum≤TC P
 | []=>Nat.le_refl _
 | p::P=>by
  have:=wg_pcs P;rw[List.flatMap_cons,List.map_append,List.sum_append,TC_cons];have h2:wgP p≤PC p:=Nat.le_max_left _ _;unfold wgP at h2;omega
theorem len_pcs:∀P:List Pc,(jnB (P.map (·.t))).length≤TC P
 | []=>Nat.le_refl _
 | [p]=>by
  have h2:p.t.length+1≤PC p:=Nat.le_max_right _ _;show p.t.length≤PC p+0;omega
 | p::q::P=>by
  have:=len_pcs (q::P);have h2:p.t.length+1≤PC p:=Nat.le_max_right _ _;show(p.t++32::jnB ((q::P).map (·.t))).length≤PC p+TC (q::P);rw[List.length_append,List.length_cons];omega
theorem txt_lenk(k:Nat)(y:List Nat):(YtpbbolgnnegmlaaGreatDoor.txt k y).length≤2*y.length+2:=by
 unfold YtpbbolgnnegmlaaGreatDoor.txt;split
 ·exact qt_len y
 split
 ·rw[List.length_cons];omega
 split
 ·rw[List.length_cons];omega
 split
 ·rw[List.length_append,List.length_singleton];omega
 ·omega
theorem PC_word(k:Nat)(y:List Nat):PC (pW k y)≤12*max y.length 1:=by
 have:=txt_lenk k y;have h2:wgP (pW k y)=y.length+11:=by show y.length+11+0=_;omega
 unfold PC;rw[h2];show max _ ((YtpbbolgnnegmlaaGreatDoor.txt k y).length+1)≤_;omega
theorem bod_tT(i:Int)(k:Nat):wgP (pN i k)≤(Num.txtD i k).length+22:=by
 show((tT i k).map fun u=>u.2.length+11).sum≤_;rw[txtD_bod,List.length_append];unfold tT Num.sgT;split
 ·show 1+11+((bod i.natAbs k).length+11+0)≤_
  simp only[List.length_cons,List.length_nil]
  omega
 ·show(bod i.natAbs k).length+11+0≤_
  omega
theorem PC_num{i:Int}{k m:Nat}(h:Sz i k m)(hk:k≤m):PC (pN i k)≤2*m+25:=by
 have h1:=txtD_len h;have h2:=bod_tT i k;unfold PC;show max _ ((Num.txtD i k).length+1)≤_;omega
section
variable {L:List Tok}{a b:Nat}{k:Int}{x:ByteArray}
theorem tkw_cost(q:Nat)(h:tkw L a k=.inr (x,b)):PC (pW q (bs9 x))+12*bw L a≤12*bw L b:=by
 obtain⟨t,ht,-,rfl,rfl⟩:=tkw_ok h;have h1:=PC_word q (bs9 t.2);have h2:=bw_step ht;rw[bs9_len] at h1;omega
theorem amr_cost{n:Int×Nat×ByteArray}(h:amr L a=.inr (n,b)):PC (pN n.1 n.2.1)+PC (pW 3 (bs9 n.2.2))+12*bw L a≤12*bw L b+15∧∃m,Sz n.1 n.2.1 m∧n.2.1≤m∧m+5≤6*bw L L.length:=by
 unfold amr at h;split at h
 ·cases h
 ·rename_i ha
  cases h
  unfold amt at ha;split at ha
  ·cases ha
  ·rename_i hs
   split at ha
   ·cases ha
   ·rename_i t ht
    split at ha
    ·cases ha
     obtain⟨q1,q2,q3,q4⟩:=Byt.SUM_grt hs;have h1:=PC_num q3 q4;have h2:=bw_lt q1 q2;have h3:=PC_word 3 (bs9 t.2);have h4:=bw_step ht;have h5:=bw_le (L:=L) q2;rw[bs9_len] at h3;refine⟨by dsimp only;omega,_,q3,q4,by omega⟩
    ·cases ha
theorem isW_one{L:List Tok}{a:Nat}{y:List Nat}(h:isW L a y=true):∃t,L[a]?=some t∧bs9 t.2=y:=by
 unfold isW at h;cases ht:L[a]? with
 | none=>rw[ht] at h;cases h
 | some t=>
  rw[ht] at h;have h2:(decide (t.1=10)&&decide (bs9 t.2=y))=true:=h;rw[Bool.and_eq_true] at h2;exact⟨t,rfl,of_decide_eq_true h2.2⟩
theorem tc_one(p:Pc):TC [p]=PC p:=by show PC p+0=_;omega
theorem tkw_le(h:tkw L a k=.inr (x,b)):b≤L.length:=by
 obtain⟨t,ht,-,-,rfl⟩:=tkw_ok h;exact(List.getElem?_eq_some_iff.1 ht).1
end
end Go.Proofs.YtpbbolgnnegmlaaGreatDoor.Num
namespace Go.Proofs.YtpbbolgnnegmlaaGreatDoor.Num
open Go.RowKit
def wdsOf(l:List Nat):List Wd:=match WD D12 N12 0 l with
 | .inl _=>[]
 | .inr ts=>ts
theorem rdK_nil(w:World)(B:Nat):RdK w B none 0 0 []:=⟨rfl,Nat.le_refl _,Nat.zero_le _,.inl rfl⟩
def RetL(w:World)(ts:List Wd)(e:Ending)(w':World):Prop:=∃A n c,e=.returned (.slice A n c)∧RdK w' w'.heap.size A n c (tks 1 ts)∧Below w.heap.size w w'
end Go.Proofs.YtpbbolgnnegmlaaGreatDoor.Num
namespace Go.Proofs.YtpbbolgnnegmlaaGreatDoor.Num
open Go.RowKit
open Byt
theorem byt_any:∀(f:Nat) {l:List Nat}{a:Nat}{ts:List Wd},l.length≤f→WD D12 N12 a l=.inr ts→(ts.map fun t=>max t.2.1.length 1).sum≤l.length:=by
 intro f;induction f with
 | zero=>
  intro l a ts hf h;obtain rfl:l=[]:=List.eq_nil_of_length_eq_zero (by omega);rw[WD_stop (.inl rfl)] at h;cases h;exact Nat.le_refl _
 | succ f ih=>
  intro l a ts hf h;by_cases hs:Stop12 (l.drop (indl l))
  ·rw[WD_stop hs] at h
   cases h;exact Nat.zero_le _
  cases hn:nxt D12 N12 (l.drop (indl l)) with
  | inl e=>rw[WD_err hs hn] at h;cases h
  | inr p=>
   obtain⟨k,x,n⟩:=p;obtain⟨q1,q2,-,-⟩:=nxt_back dayok12 hn;have q3:=nxt_len hn;rw[WD_ok dayok12 hs hn] at h;rw[List.length_drop] at q2;cases hw:WD D12 N12 (a+indl l+n) ((l.drop (indl l)).drop n) with
   | inl e=>rw[hw] at h;cases h
   | inr us=>
    rw[hw] at h;cases h
    have:=ih (by rw[List.length_drop,List.length_drop];omega) hw;rw[List.length_drop,List.length_drop] at this;show max x.length 1+(us.map fun t=>max t.2.1.length 1).sum≤_;omega
theorem bw_tks(no:Int)(ts:List Wd)(hb:∀t∈ts,∀c∈t.2.1,c<256):bw ((tks no ts).map tok) ((tks no ts).map tok).length=(ts.map fun t=>max t.2.1.length 1).sum:=by
 unfold bw;rw[List.take_length,List.map_map];unfold tks;rw[List.map_map];congr 1
 refine List.map_congr_left fun t ht=>?_
 show max (st9 t.2.1).size 1=_;rw[← bs9_len,bs9_st9 (hb t ht)]
theorem wd_bytes{s:ByteArray}{ts:List Wd}(h:WD D12 N12 0 (bs9 s)=.inr ts):∀t∈ts,∀c∈t.2.1,c<256:=fun t ht=>((WD_all dayok12 _ (Nat.le_refl _) h (bs9_lt s)).2.2 t ht).1
theorem line_few{s:ByteArray}{ts:List Wd}(hs:s.size≤300)(h:WD D12 N12 0 (bs9 s)=.inr ts):bw ((tks 1 ts).map tok) ((tks 1 ts).map tok).length≤300∧Wgh.ws ((tks 1 ts).map tok) ((tks 1 ts).map tok).length≤4010∧ts.length≤300:=by
 have h1:=byt_any _ (Nat.le_refl _) h;have h2:=wgt_any _ (Nat.le_refl (bs9 s).length) 0 ts h;rw[bs9_len] at h1 h2;have hn:ts.length≤(ts.map fun t=>max t.2.1.length 1).sum:=by
  clear h h1 h2;induction ts with
  | nil=>exact Nat.le_refl _
  | cons t r ih=>rw[List.map_cons,List.sum_cons,List.length_cons];omega
 refine⟨by rw[bw_tks 1 ts (wd_bytes h)];omega,by rw[ws_tks 1 ts (wd_bytes h)];omega,by omega⟩
theorem line_prp{s:ByteArray}{ts:List Wd}(h:WD D12 N12 0 (bs9 s)=.inr ts):PrpL ((tks 1 ts).map tok):=by
 intro t ht;obtain⟨q,hq,rfl⟩:=List.mem_map.1 ht;unfold tks at hq;obtain⟨u,hu,rfl⟩:=List.mem_map.1 hq;have:=WD_prp _ (Nat.le_refl _) h u hu;show Prp ((u.1:Int)).toNat (bs9 (st9 u.2.1));rw[bs9_st9 (wd_bytes h u hu)];exact this
theorem sz_fit{i:Int}{k m:Nat}(h:Sz i k m)(hk:k≤m)(hm:m≤1800):(dg i.natAbs).length≤900∧k≤4010:=by
 have:=h.nine;omega
end Go.Proofs.YtpbbolgnnegmlaaGreatDoor.Num
namespace Go.Proofs.YtpbbolgnnegmlaaGreatDoor.Num
open Go.RowKit
def nxr{α:Type}(e a:Nat)(m:Nat→RH α):RH α:=if e=0 then m a else .inl (e,a)
def Aft{α:Type}(r:RH α)(a e:Nat)(P:α→Prop):Prop:=match r with
 | .inl (z,p)=>a=p∧e=z∧z≠0
 | .inr (x,b)=>a=b∧e=0∧P x
section
variable {α β:Type}{r:RH α}{f:α→Nat→RH β}{a e a' e':Nat}{v:α}{P Q:α→Prop}{R:β→Prop}{m:Nat→RH α}
theorem Aft.thn(h:Aft r a e (· = v))(h2:Aft (nxr e a (f v)) a' e' R):Aft (thn r f) a' e' R:=by
 rcases r with⟨z,p⟩|⟨x,b⟩
 ·obtain⟨rfl,rfl,h3⟩:=h
  unfold nxr at h2;rw[if_neg h3] at h2;exact h2
 ·obtain⟨rfl,rfl,h3⟩:=h
  obtain rfl:x=v:=h3;unfold nxr at h2;rw[if_pos rfl] at h2;exact h2
theorem nxr_thn(e a:Nat)(m:Nat→RH α)(f:α→Nat→RH β):nxr e a (fun b=>Go.Proofs.YtpbbolgnnegmlaaGreatDoor.Num.thn (m b) f)=Go.Proofs.YtpbbolgnnegmlaaGreatDoor.Num.thn (nxr e a m) f:=by
 unfold nxr;by_cases h:e=0
 ·rw[if_pos h,if_pos h]
 ·rw[if_neg h,if_neg h];rfl
theorem Aft.go(h:Aft (nxr e a m) a' e' (· = v)){a2 e2:Nat}(h2:Aft (nxr e' a' (f v)) a2 e2 R):Aft (nxr e a (fun b=>Go.Proofs.YtpbbolgnnegmlaaGreatDoor.Num.thn (m b) f)) a2 e2 R:=by
 rw[nxr_thn];exact h.thn h2
theorem Aft.ret{x:β}(h:R x):Aft (nxr e a (fun b=>.inr (x,b))) a e R:=by
 unfold nxr;by_cases he:e=0
 ·rw[if_pos he];exact⟨rfl,he,h⟩
 ·rw[if_neg he];exact⟨rfl,rfl,he⟩
theorem Aft.stay(he:e≠0):Aft (nxr e a m) a e P:=by
 unfold nxr;rw[if_neg he];exact⟨rfl,rfl,he⟩
theorem nxr_go(m:Nat→RH α)(a:Nat):nxr 0 a m=m a:=if_pos rfl
end
def rTgP(L:List Tok):Nat→List ByteArray→List ByteArray→Nat→(List ByteArray×List ByteArray)×Nat
 | 0,T,K,a=>((T,K),a)
 | f+1,T,K,a=>match L[a]? with
  | none=>((T,K),a)
  | some t=>if t.1=6 then rTgP L f (T++[t.2]) K (a+1) else if t.1=7 then rTgP L f T (K++[t.2]) (a+1) else ((T,K),a)
structure Po where
 flag:ByteArray
 acc:ByteArray
 un:Un
 co:Option Co
 pr:Option (Bool×Un)
def flg(L:List Tok):ByteArray×Nat:=match L[0]? with
 | none=>(⟨#[]⟩,0)
 | some t=>if t.1=10∧(bs9 t.2=[42]∨bs9 t.2=[33]) then (t.2,1) else (⟨#[]⟩,0)
def cpr(L:List Tok)(u:Un)(a:Nat):RH (Option Co×Option (Bool×Un)):=if u.some then thn (cst L a) fun c a=>thn (prc L a) fun p a=>.inr ((c,p),a) else .inr ((none,none),a)
def pst0(L:List Tok):RH Po:=thn (tkw L (flg L).2 2) fun ac a=>thn (unt L a) fun u a=>thn (cpr L u a) fun q a=>.inr (⟨(flg L).1,ac,u,q.1,q.2⟩,a)
def fin16{α:Type}(L:List Tok)(r:RH α):RH α:=thn r fun x a=>if a<L.length then .inl (3,a) else .inr (x,a)
def pst(L:List Tok):RH Po:=fin16 L (pst0 L)
def met0(L:List Tok):RH (ByteArray×ByteArray):=thn (tkw L 0 9) fun k a=>thn (tkw L a 5) fun x a=>.inr ((k,x),a)
def met(L:List Tok):RH (ByteArray×ByteArray):=fin16 L (met0 L)
def pU(u:Un):Pc:=⟨untT u,untW u⟩
def pK(c:Co):Pc:=⟨cstT c,cstW c⟩
def pR(p:Bool×Un):Pc:=⟨prcT p,prcW p⟩
def flP(f:ByteArray):List Pc:=if bs9 f=[] then [] else [pW 10 (bs9 f)]
def unP(u:Un):List Pc:=if u.some then [pU u] else []
def coP:Option Co→List Pc
 | none=>[]
 | some c=>[pK c]
def prP:Option (Bool×Un)→List Pc
 | none=>[]
 | some q=>[pR q]
def poP(p:Po):List Pc:=flP p.flag++pW 2 (bs9 p.acc)::(unP p.un++(coP p.co++prP p.pr))
def poT(p:Po):List Nat:=jnB ((poP p).map (·.t))
def poW(p:Po):List (Nat×List Nat):=(poP p).flatMap (·.w)
def meP(m:ByteArray×ByteArray):List Pc:=[pW 9 (bs9 m.1),pW 5 (bs9 m.2)]
def meT(m:ByteArray×ByteArray):List Nat:=jnB ((meP m).map (·.t))
def meW(m:ByteArray×ByteArray):List (Nat×List Nat):=(meP m).flatMap (·.w)
structure Po.ok (p:Po):Prop where
 fl:bs9 p.flag=[]∨bs9 p.flag=[42]∨bs9 p.flag=[33]
 ac:Prp 2 (bs9 p.acc)
 un:p.un.ok
 co:∀c,p.co=some c→c.ok
 pr:∀q,p.pr=some q→q.2.ok
 no:¬p.un.some→p.co=none∧p.pr=none
theorem flg_ok(L:List Tok):bs9 (flg L).1=[]∨bs9 (flg L).1=[42]∨bs9 (flg L).1=[33]:=by
 unfold flg;split
 ·exact .inl rfl
 ·split
  ·rename_i h;exact .inr h.2
  ·exact .inl rfl
section
variable {L:List Tok}{a b:Nat}{p:Po}{u:Un}
theorem cpr_ok(hL:PrpL L){q:Option Co×Option (Bool×Un)}(h:cpr L u a=.inr (q,b)):(∀c,q.1=some c→c.ok)∧(∀r,q.2=some r→r.2.ok)∧(¬u.some→q.1=none∧q.2=none):=by
 unfold cpr at h;split at h
 ·rename_i hs
  obtain⟨c,a1,h1,h⟩:=thn_ok h;obtain⟨r,a2,h2,h⟩:=thn_ok h;cases h
  refine⟨fun x e=>?_,fun x e=>?_,fun hn=>absurd hs hn⟩
  ·have e:c=some x:=e
   subst e;exact cst_ok hL h1
  ·have e:r=some x:=e
   subst e;obtain⟨m,v⟩:=x;exact prc_ok hL h2
 ·cases h
  exact⟨fun x e=>(by cases e),fun x e=>(by cases e),fun _=>⟨rfl,rfl⟩⟩
theorem pst0_ok(hL:PrpL L)(h:pst0 L=.inr (p,a)):p.ok:=by
 unfold pst0 at h;obtain⟨x,a1,h1,h⟩:=thn_ok h;obtain⟨u,a2,h2,h⟩:=thn_ok h;obtain⟨q,a3,h3,h⟩:=thn_ok h;cases h
 obtain⟨k1,k2,k3⟩:=cpr_ok hL h3;exact⟨flg_ok L,tkw_prp hL h1,unt_ok hL h2,k1,k2,k3⟩
theorem fin16_ok{α:Type}{r:RH α}{x:α}(h:fin16 L r=.inr (x,a)):r=.inr (x,a)∧L.length≤a:=by
 obtain⟨y,b,h1,h⟩:=thn_ok h;split at h
 ·cases h
 ·cases h;exact⟨h1,by omega⟩
theorem fin16_bad{α:Type}{r:RH α}{e q:Nat}(h:fin16 L r=.inl (e,q))(hr:∀{e q},r=.inl (e,q)→e≠0):e≠0:=
 thn_bad h hr fun h=>by
  split at h
  ·cases h;decide
  ·cases h
theorem pst_bad{e q:Nat}(h:pst L=.inl (e,q)):e≠0:=fin16_bad h fun h=>by
 unfold pst0 at h;refine thn_bad h tkw_bad fun h=>thn_bad h unt_bad fun h=>thn_bad h (fun h=>?_) fun h=>by cases h
 unfold cpr at h;split at h
 ·exact thn_bad h cst_bad fun h=>thn_bad h prc_bad fun h=>by cases h
 ·cases h
theorem met_bad{e q:Nat}(h:met L=.inl (e,q)):e≠0:=fin16_bad h fun h=>thn_bad h tkw_bad fun h=>thn_bad h tkw_bad fun h=>by cases h
theorem pst_ok(hL:PrpL L)(h:pst L=.inr (p,a)):p.ok∧L.length≤a:=⟨pst0_ok hL (fin16_ok h).1,(fin16_ok h).2⟩
theorem met_ok(hL:PrpL L){m:ByteArray×ByteArray}(h:met L=.inr (m,a)):Prp 9 (bs9 m.1)∧a=2∧L.length=2:=by
 obtain⟨h,hl⟩:=fin16_ok h;unfold met0 at h;obtain⟨x,a1,h1,h⟩:=thn_ok h;obtain⟨y,a2,h2,h⟩:=thn_ok h;cases h
 have hp:=tkw_prp hL h1;obtain⟨t,-,-,-,rfl⟩:=tkw_ok h1;obtain⟨t2,ht,-,-,rfl⟩:=tkw_ok h2;have:=(List.getElem?_eq_some_iff.1 ht).1;exact⟨hp,rfl,by omega⟩
end
theorem pU_told{u:Un}(hu:u.ok)(hs:u.some):(pU u).told:=fun hr hw=>wds_unt hu hs (nx_cur hr) hw
theorem pR_told{p:Bool×Un}(hu:p.2.ok):(pR p).told:=fun {r us} hr hw=>by
 show Wds (prcT p++r) (prcW p++us);have h2:Wds ((if untT p.2≠[] then 32::untT p.2 else [])++r) (unW p.2++us):=by
  unfold unW;by_cases hs:p.2.some
  ·have e:p.2.has=true∨bs9 p.2.cur≠[]:=hs
   rw[if_pos (untT_some hu hs),if_pos e];exact wds_blank (wds_unt hu hs (nx_cur hr) hw)
  ·have e:¬(p.2.has=true∨bs9 p.2.cur≠[]):=hs
   rw[untT_none hs,if_neg (fun h=>h rfl),if_neg e];exact hw
 have hh:((if untT p.2≠[] then 32::untT p.2 else [])++r).head?≠some 64:=by
  split
  ·intro e;cases e
  ·rcases hr with rfl|⟨u,rfl⟩
   ·intro e;cases e
   ·intro e;cases e
 unfold prcT prcW;rw[List.append_assoc];generalize (if untT p.2≠[] then 32::untT p.2 else [])++r=z at h2 hh;split
 ·exact wds_two (.inr (.inr rfl)) h2
 ·exact wds_one (.inr (.inr (.inr rfl))) hh h2
theorem shutQ(m:Bool){r:List Nat}{us:List (Nat×List Nat)}(hr:Nx r)(h:Wds r us):Wds (shutC m++r) ((10,shutC m)::us):=by
 cases m
 ·refine wds_one (.inr (.inr (.inl rfl))) ?_ h
  rcases hr with rfl|⟨u,rfl⟩
  ·intro e;cases e
  ·intro e;cases e
 ·exact wds_two (.inr (.inl rfl)) h
theorem stq_shutQ(m:Bool)(r:List Nat):StQ (shutC m++r):=fun c h=>by cases m<;>exact .inr (.inl (Option.some.inj h).symm)
theorem pK_told{c:Co}(hc:c.ok):(pK c).told:=fun {r us} hr hw=>by
 have hp:=parts_told hc;have h:=wds_parts (parts c) hp (stq_shutQ c.tot r) (shutQ c.tot hr hw);have hh:=jn_head (r:=shutC c.tot++r) hp (by unfold shutC;split<;>(intro e;cases e));show Wds (cstT c++r) (cstW c++us);unfold cstT cstW;rw[parts_text,List.append_assoc,List.append_assoc,List.cons_append,List.append_assoc];generalize jnT ((parts c).map (·.t))++(shutC c.tot++r)=z at h hh;unfold opnC;split
 ·exact wds_two (.inl rfl) h
 ·exact wds_one (.inr (.inl rfl)) hh h
theorem prp_flag{y:List Nat}(h:y=[]∨y=[42]∨y=[33])(hn:y≠[]):Prp 10 y:=by
 rcases h with rfl|rfl|rfl
 ·exact absurd rfl hn
 ·exact prp_lit10.1
 ·exact prp_lit10.2.1
theorem poP_told{p:Po}(h:p.ok):∀x∈poP p,x.told:=by
 intro x hx;unfold poP at hx;rcases List.mem_append.1 hx with hx|hx
 ·unfold flP at hx
  split at hx
  ·cases hx
  ·rename_i hn
   rw[List.mem_singleton.1 hx];exact pW_told (prp_flag h.fl hn)
 rcases List.mem_cons.1 hx with rfl|hx
 ·exact pW_told h.ac
 rcases List.mem_append.1 hx with hx|hx
 ·unfold unP at hx
  split at hx
  ·rename_i hs
   rw[List.mem_singleton.1 hx];exact pU_told h.un hs
  ·cases hx
 rcases List.mem_append.1 hx with hx|hx
 ·cases hc:p.co with
  | none=>rw[hc] at hx;cases hx
  | some c=>rw[hc] at hx;rw[List.mem_singleton.1 hx];exact pK_told (h.co c hc)
 ·cases hc:p.pr with
  | none=>rw[hc] at hx;cases hx
  | some c=>rw[hc] at hx;rw[List.mem_singleton.1 hx];exact pR_told (h.pr c hc)
theorem wds_po{p:Po}(h:p.ok):Wds (poT p) (poW p):=wds_pcs (poP p) (poP_told h)
theorem wds_me{m:ByteArray×ByteArray}(h:Prp 9 (bs9 m.1)):Wds (meT m) (meW m):=wds_pcs (meP m) fun x hx=>by
 rcases List.mem_cons.1 hx with rfl|hx
 ·exact pW_told h
 ·rw[List.mem_singleton.1 hx];exact pT_told _
theorem cstL_toldQ{L Q:List Tok}:∀(P:List Pt) {f:Nat}{c:Co}{a:Nat},P≠[]→P.length≤f→Rds P c→L.drop a=(jnP P).map tk++tk (10,shutC c.tot)::Q→cstL L f c a=.inr (P.foldl (fun e p=>p.f e) c,a+(jnP P).length+1)
 | [],_,_,_,h,_,_,_=>absurd rfl h
 | [p],f,c,a,_,hf,hr,h=>by
  obtain⟨g1,g2,-⟩:=hr;obtain⟨f,rfl⟩:∃m,f=m+1:=⟨f-1,by simp at hf;omega⟩;have h1:=g1 h;have h2:L.drop (a+p.w.length)=tk (10,shutC c.tot)::Q:=dr_app h (List.length_map tk);rw[cstL,h1];dsimp only
  rw[g2,if_pos (by rw[isW_tk h2 (shut_lt _)];exact decide_eq_true rfl)];rfl
 | p::q::l,f,c,a,_,hf,hr,h=>by
  obtain⟨g1,g2,g3⟩:=hr;obtain⟨f,rfl⟩:∃m,f=m+1:=⟨f-1,by simp at hf;omega⟩;have h0:L.drop a=p.w.map tk++(tk (10,[44])::((jnP (q::l)).map tk++tk (10,shutC c.tot)::Q)):=by
   rw[h];show(p.w++(10,[44])::jnP (q::l)).map tk++_=_;rw[List.map_append,List.map_cons,List.append_assoc];rfl
  have h1:=g1 h0;have h2:=dr_app h0 (List.length_map tk);have h3:=dr_one h2;have h4:∀y,isW L (a+p.w.length) y=decide ([44]=y):=isW_tk h2 (by decide);rw[cstL,h1];dsimp only
  rw[h4,if_neg (by unfold shutC;split<;>decide),h4,if_pos (by decide)];rw[← g2] at h3;rw[cstL_toldQ (q::l) (by intro e;cases e) (by simp at hf ⊢;omega) g3 h3];show _=(Sum.inr ((q::l).foldl (fun e p=>p.f e) (p.f c),a+(p.w++(10,[44])::jnP (q::l)).length+1):(Nat×Nat)⊕(Co×Nat));rw[List.length_append,List.length_cons,show a+p.w.length+1+(jnP (q::l)).length+1=a+(p.w.length+((jnP (q::l)).length+1))+1 by omega]
theorem jnP_many:∀P:List Pt,P.length≤(jnP P).length+1
 | []=>Nat.zero_le _
 | [p]=>by show 1≤p.w.length+1;omega
 | p::q::l=>by
  have ih:=jnP_many (q::l);show(q::l).length+1≤(p.w++(10,[44])::jnP (q::l)).length+1;simp only[List.length_append,List.length_cons] at ih ⊢
  omega
theorem cst_toldQ{c:Co}(hc:c.ok){L Q:List Tok}{a:Nat}(hL:L.drop a=(cstW c).map tk++Q):cst L a=.inr (some c,a+(cstW c).length):=by
 have h0:L.drop a=tk (10,opnC c.tot)::((jnP (parts c)).map tk++tk (10,shutC c.tot)::Q):=by
  rw[hL];unfold cstW;rw[List.map_cons,List.map_append,List.cons_append,List.append_assoc];rfl
 have hlen:(cstW c).length=(jnP (parts c)).length+1+1:=by unfold cstW;rw[List.length_cons,List.length_append,List.length_singleton]
 have h1:=dr_one h0;have i0:∀y,isW L a y=decide (opnC c.tot=y):=isW_tk h0 (opn_lt _);obtain⟨r1,r2⟩:=parts_read hc;have hm:isW L a [123,123]=c.tot:=by rw[i0];unfold opnC;cases c.tot<;>rfl
 have ho:isW L a [123,123]=true∨isW L a [123]=true:=by rw[i0,i0];unfold opnC;cases c.tot<;>decide
 have hB:cstB L c.tot (a+1)=.inr (c,a+(cstW c).length):=by
  unfold cstB;by_cases hP:parts c=[]
  ·rw[hP] at h1 r2 hlen
   have h2:L.drop (a+1)=tk (10,shutC c.tot)::Q:=h1;rw[if_pos (by rw[isW_tk h2 (shut_lt _)];exact decide_eq_true rfl),show Co.start c.tot=c from r2,hlen];rfl
  ·have hn:isW L (a+1) (shutC c.tot)=false:=by
    have hpw:∀p∈parts c,∃x r,p.w=x::r∧((x.1:Int)≠10∨x=(10,[45])):=by
     intro p hp;unfold parts at hp;rcases List.mem_append.1 hp with hp|hp
     ·split at hp
      ·obtain rfl:=List.mem_singleton.1 hp
       show ∃x r,untW c.un=x::r∧_;unfold untW tT;split
       ·split
        ·exact⟨_,_,rfl,.inr rfl⟩
        ·exact⟨_,_,rfl,.inl (by show((4:Nat):Int)≠10;decide)⟩
       ·exact⟨_,_,rfl,.inl (by show((3:Nat):Int)≠10;decide)⟩
      ·cases hp
     ·rcases List.mem_append.1 hp with hp|hp
      ·split at hp
       ·obtain rfl:=List.mem_singleton.1 hp
        exact⟨_,_,rfl,.inl (by show((1:Nat):Int)≠10;decide)⟩
       ·cases hp
      ·split at hp
       ·obtain rfl:=List.mem_singleton.1 hp
        exact⟨_,_,rfl,.inl (by show((5:Nat):Int)≠10;decide)⟩
       ·cases hp
    obtain⟨p,l,hp⟩:=List.exists_cons_of_ne_nil hP;obtain⟨x,r,e,hx⟩:=hpw p (by rw[hp];exact List.mem_cons_self);have hj:∃z,jnP (parts c)=x::z:=by
     rw[hp];cases l with
     | nil=>exact⟨r,e⟩
     | cons q l=>exact⟨r++(10,[44])::jnP (q::l),by show p.w++_=_;rw[e];rfl⟩
    obtain⟨z,hj⟩:=hj;rw[hj] at h1;have h2:L.drop (a+1)=tk x::(z.map tk++tk (10,shutC c.tot)::Q):=h1;rcases hx with hx|hx
    ·exact isW_kind (k:=x.1) (x:=x.2) h2 hx _
    ·rw[hx] at h2
     rw[isW_tk h2 (by decide)];unfold shutC;split<;>rfl
   rw[if_neg (by rw[hn];decide)];have hl:(parts c).length≤L.length+1:=by
    have h3:=congrArg List.length h1;rw[List.length_drop,List.length_append,List.length_cons,List.length_map] at h3;have h5:=jnP_many (parts c);omega
   rw[cstL_toldQ (parts c) hP hl r1 h1,r2,hlen];congr 2
   omega
 unfold cst;rw[if_pos ho,hm,hB]
theorem prc_toldQ{p:Bool×Un}(hu:p.2.ok){L:List Tok}{a:Nat}(hL:L.drop a=(prcW p).map tk):prc L a=.inr (some p,L.length):=by
 have h0:L.drop a=tk (10,if p.1=true then [64,64] else [64])::(unW p.2).map tk:=hL;have h1:=dr_one h0;have hlt:=(List.getElem?_eq_some_iff.1 (dr_get h0)).1;have i0:∀y,isW L a y=decide ((if p.1=true then [64,64] else [64])=y):=isW_tk h0 (by split<;>decide);have hm:isW L a [64,64]=p.1:=by rw[i0];cases p.1<;>rfl
 have ho:isW L a [64,64]=true∨isW L a [64]=true:=by rw[i0,i0];cases p.1<;>decide
 unfold prc;rw[if_pos ho,unt_back hu h1 hlt,hm]
def flW(f:ByteArray):List (Nat×List Nat):=if bs9 f=[] then [] else [(10,bs9 f)]
def coW:Option Co→List (Nat×List Nat)
 | none=>[]
 | some c=>cstW c
def prW:Option (Bool×Un)→List (Nat×List Nat)
 | none=>[]
 | some q=>prcW q
theorem poW_eq(p:Po):poW p=flW p.flag++(2,bs9 p.acc)::(unW p.un++(coW p.co++prW p.pr)):=by
 unfold poW poP;rw[List.flatMap_append,List.flatMap_cons,List.flatMap_append,List.flatMap_append];have e1:(flP p.flag).flatMap (·.w)=flW p.flag:=by unfold flP flW;split<;>rfl
 have e2:(unP p.un).flatMap (·.w)=unW p.un:=by
  unfold unP unW;by_cases hs:p.un.some
  ·have e:p.un.has=true∨bs9 p.un.cur≠[]:=hs
   rw[if_pos hs,if_pos e];exact List.append_nil _
  ·have e:¬(p.un.has=true∨bs9 p.un.cur≠[]):=hs
   rw[if_neg hs,if_neg e];rfl
 have e3:(coP p.co).flatMap (·.w)=coW p.co:=by cases p.co with
  | none=>rfl
  | some c=>exact List.append_nil _
 have e4:(prP p.pr).flatMap (·.w)=prW p.pr:=by cases p.pr with
  | none=>rfl
  | some c=>exact List.append_nil _
 rw[e1,e2,e3,e4];rfl
theorem flg_told{p:Po}(hp:p.ok){L Q:List Tok}(h:L.drop 0=(flW p.flag).map tk++tk (2,bs9 p.acc)::Q):flg L=(p.flag,(flW p.flag).length):=by
 unfold flW at h ⊢;by_cases hn:bs9 p.flag=[]
 ·rw[if_pos hn] at h ⊢
  have h0:L.drop 0=tk (2,bs9 p.acc)::Q:=h;unfold flg;rw[dr_get h0];dsimp only
  rw[if_neg (fun q=>absurd q.1 (tk_ne (by decide))),bs9_nil hn];rfl
 ·rw[if_neg hn] at h ⊢
  have h0:L.drop 0=tk (10,bs9 p.flag)::(tk (2,bs9 p.acc)::Q):=h;unfold flg;rw[dr_get h0];dsimp only
  have e:(tk (10,bs9 p.flag)).2=p.flag:=st9_bs9 _;rw[if_pos (by rw[e];exact⟨rfl,hp.fl.resolve_left hn⟩),e];rfl
theorem cst_none{L:List Tok}{a:Nat}(h1:isW L a [123,123]=false)(h2:isW L a [123]=false):cst L a=.inr (none,a):=by
 unfold cst;rw[if_neg (by rw[h1,h2];decide)]
theorem cpr_told{p:Po}(hp:p.ok)(hs:p.un.some){L:List Tok}{a:Nat}(h:L.drop a=(coW p.co++prW p.pr).map tk)(ha:a≤L.length):cpr L p.un a=.inr ((p.co,p.pr),L.length):=by
 rw[List.map_append] at h;have pr:∀{b:Nat},b≤L.length→L.drop b=(prW p.pr).map tk→prc L b=.inr (p.pr,L.length):=fun {b} hb h=>by
  cases hq:p.pr with
  | none=>
   rw[hq] at h;have h9:L.drop b=[]:=h;have:=List.drop_eq_nil_iff.1 h9;unfold prc;rw[isW_end h9,isW_end h9,if_neg (by decide),show b=L.length by omega]
  | some q=>rw[hq] at h;exact prc_toldQ (hp.pr q hq) h
 unfold cpr;rw[if_pos hs];cases hc:p.co with
 | none=>
  rw[hc] at h;have h1:L.drop a=(prW p.pr).map tk:=h;have hn:∀y,y=[123,123]∨y=[123]→isW L a y=false:=fun y hy=>by
   cases hq:p.pr with
   | none=>rw[hq] at h1;exact isW_end h1 y
   | some q=>
    rw[hq] at h1;have h2:L.drop a=tk (10,if q.1=true then [64,64] else [64])::(unW q.2).map tk:=h1;rw[isW_tk h2 (by split<;>decide)];rcases hy with rfl|rfl<;>(split<;>rfl)
  rw[thn_go (cst_none (hn _ (.inl rfl)) (hn _ (.inr rfl))),thn_go (pr ha h1)]
 | some c=>
  rw[hc] at h;have h1:L.drop a=(cstW c).map tk++(prW p.pr).map tk:=h;have hl:=congrArg List.length h1;rw[List.length_drop,List.length_append,List.length_map] at hl;rw[thn_go (cst_toldQ (hp.co c hc) h1),thn_go (pr (by omega) (dr_app h1 (List.length_map tk)))]
theorem pst_told{p:Po}(hp:p.ok){L:List Tok}(hL:L=(poW p).map tk):pst L=.inr (p,L.length):=by
 have h0:L.drop 0=(flW p.flag).map tk++tk (2,bs9 p.acc)::((unW p.un).map tk++(coW p.co++prW p.pr).map tk):=by
  rw[List.drop_zero,hL,poW_eq,List.map_append,List.map_cons,List.map_append]
 have h1:=dr_app h0 (List.length_map tk);rw[Nat.zero_add] at h1;have h2:=dr_one h1;have hlt:=(List.getElem?_eq_some_iff.1 (dr_get h1)).1;have hz:pst0 L=.inr (p,L.length):=by
  unfold pst0;rw[flg_told hp h0];dsimp only
  rw[thn_go (tkw_told (m:=2) h1 rfl),bsst];by_cases hs:p.un.some
  ·have e:unW p.un=untW p.un:=by
    have e:p.un.has=true∨bs9 p.un.cur≠[]:=hs;unfold unW;rw[if_pos e]
   rw[e] at h2;have hl:=congrArg List.length h2;rw[List.length_drop,List.length_append,List.length_map] at hl;rw[thn_go (unt_told hp.un hs h2),thn_go (cpr_told hp hs (dr_app h2 (List.length_map tk)) (by omega))]
  ·obtain⟨n1,n2⟩:=hp.no hs
   rw[n1,n2] at h2;have h3:L.drop ((flW p.flag).length+1)=(unW p.un).map tk:=by rw[h2];exact List.append_nil _
   rw[thn_go (unt_back hp.un h3 hlt)];unfold cpr;rw[if_neg hs,← n1,← n2];rfl
 unfold pst fin16;rw[thn_go hz,if_neg (Nat.lt_irrefl _)]
theorem met_told{m:ByteArray×ByteArray}{L:List Tok}(hL:L=(meW m).map tk):met L=.inr (m,2):=by
 have h0:L.drop 0=tk (9,bs9 m.1)::(tk (5,bs9 m.2)::[]):=hL;have hl:L.length=2:=by rw[hL];rfl
 unfold met fin16 met0;rw[thn_go (tkw_told (m:=9) h0 rfl),thn_go (tkw_told (m:=5) (dr_one h0) rfl),bsst,bsst];show(if 0+1+1<L.length then _ else _)=_;rw[if_neg (by omega)]
end Go.Proofs.YtpbbolgnnegmlaaGreatDoor.Num
namespace Go.Proofs.YtpbbolgnnegmlaaGreatDoor.Num
open Go.RowKit
open Byt
def Un.fit(u:Un):Prop:=(dg u.i.natAbs).length≤900∧u.k≤4010∧u.cur.size≤300
theorem dg_nought:(dg (0:Int).natAbs).length≤900:=dg_none
theorem zero_fit:Un.zero.fit:=⟨dg_nought,Nat.zero_le _,Nat.zero_le _⟩
theorem PC_unN{u:Un}(h:u.has=true):PC (pU u)≤PC (pN u.i u.k)+PC (pW 3 (bs9 u.cur)):=by
 have h1:wgP (pU u)=wgP (pN u.i u.k)+wgP (pW 3 (bs9 u.cur)):=by
  show((untW u).map fun v=>v.2.length+11).sum=((tT u.i u.k).map fun v=>v.2.length+11).sum+(([(3,bs9 u.cur)]:List (Nat×List Nat)).map fun v=>v.2.length+11).sum;unfold untW;rw[if_pos h,List.map_append,List.sum_append]
 have h2:(pU u).t.length=(Num.txtD u.i u.k).length+1+(bs9 u.cur).length:=by
  show(untT u).length=_;unfold untT amtT;rw[if_pos h,List.length_append,List.length_cons];omega
 have h3:(pW 3 (bs9 u.cur)).t.length=(bs9 u.cur).length:=rfl;have h4:(pN u.i u.k).t.length=(Num.txtD u.i u.k).length:=rfl;unfold PC;omega
theorem PC_unC{u:Un}(h:u.has=false):PC (pU u)≤PC (pW 3 (bs9 u.cur)):=by
 have h1:wgP (pU u)=wgP (pW 3 (bs9 u.cur)):=by
  show((untW u).map fun v=>v.2.length+11).sum=_;unfold untW;rw[if_neg (by rw[h];decide)];rfl
 have h2:(pU u).t.length=(bs9 u.cur).length:=by
  show(untT u).length=_;unfold untT;rw[if_neg (by rw[h];decide)]
 have h3:(pW 3 (bs9 u.cur)).t.length=(bs9 u.cur).length:=rfl;unfold PC;omega
theorem PC_zero:PC (pU Un.zero)≤12:=by decide
section
variable {L:List Tok}{a b:Nat}{u:Un}{c c':Co}{e p:Nat}
theorem bw_top{n:Nat}:bw L n≤bw L L.length:=by
 rcases Nat.le_total n L.length with h|h
 ·exact bw_le h
 ·unfold bw;rw[List.take_of_length_le h,List.take_length];exact Nat.le_refl _
theorem word_size{t:Tok}(h:L[a]?=some t):t.2.size≤bw L L.length:=by
 have h1:=bw_step h;have h2:=bw_top (L:=L) (n:=a+1);omega
theorem amt_cost{i:Int}{k:Nat}{x:ByteArray}(h:amt L a=.inr (i,k,x,b)):PC (pU ⟨true,i,k,x⟩)+12*bw L a≤12*bw L b+15∧(bw L L.length≤300→Un.fit ⟨true,i,k,x⟩)∧bw L a≤bw L b:=by
 have hr:amr L a=.inr ((i,k,x),b):=by unfold amr;rw[h]
 obtain⟨h1,m,h2,h3,h4⟩:=amr_cost hr;have h5:=PC_unN (u:=⟨true,i,k,x⟩) rfl;dsimp only at h1 h5
 refine⟨by omega,fun hb=>?_,?_⟩
 ·obtain⟨q1,q2⟩:=sz_fit h2 h3 (by omega)
  refine⟨q1,q2,?_⟩;unfold amt at h;split at h
  ·cases h
  ·split at h
   ·cases h
   ·rename_i t ht
    split at h
    ·cases h
     exact Nat.le_trans (word_size ht) hb
    ·cases h
 ·unfold amt at h
  split at h
  ·cases h
  ·rename_i hs
   obtain⟨q1,q2,-,-⟩:=Byt.SUM_grt hs;split at h
   ·cases h
   ·split at h
    ·cases h;exact bw_le (by omega)
    ·cases h
theorem unt_cost(h:unt L a=.inr (u,b)):PC (pU u)+12*bw L a≤12*bw L b+15∧(bw L L.length≤300→u.fit):=by
 unfold unt at h;split at h
 ·cases h
  have:=PC_zero;exact⟨by omega,fun _=>zero_fit⟩
 ·rename_i t ht
  split at h
  ·cases h
   have h1:=PC_unC (u:=⟨false,0,0,t.2⟩) rfl;have h2:=PC_word 3 (bs9 t.2);have h3:=bw_step ht;rw[bs9_len] at h2;dsimp only at h1
   exact⟨by omega,fun hb=>⟨dg_nought,Nat.zero_le _,Nat.le_trans (word_size ht) hb⟩⟩
  ·split at h
   ·cases h
    have:=PC_zero;exact⟨by omega,fun _=>zero_fit⟩
   ·split at h
    ·cases h
    ·rename_i ha
     cases h
     exact⟨(amt_cost ha).1,(amt_cost ha).2.1⟩
def CB(L:List Tok)(a0 a:Nat)(c:Co):Prop:=(∃x y,PC (pU c.un)≤12*x+15∧PC (pW 5 (bs9 c.lab))≤12*y+12∧x+y+bw L a0≤bw L a)∧(bw L L.length≤300→c.un.fit∧c.lab.size≤300)
theorem CB.more{a0 a':Nat}(h:CB L a0 a c)(ha:bw L a≤bw L a'):CB L a0 a' c:=by
 obtain⟨⟨x,y,h1,h2,h3⟩,h4⟩:=h;exact⟨⟨x,y,h1,h2,by omega⟩,h4⟩
theorem CB.start(m:Bool):CB L a a (Co.start m):=by
 have h1:=PC_zero;have h2:PC (pW 5 (bs9 (Co.start m).lab))≤12:=PC_word 5 [];exact⟨⟨0,0,(show PC (pU Un.zero)≤_ by omega),by omega,by omega⟩,fun _=>⟨zero_fit,Nat.zero_le _⟩⟩
theorem itm_cost{a0:Nat}(hc:c.ok)(hb:CB L a0 a c)(h:itm L c a=.inr (c',b)):CB L a0 b c':=by
 obtain⟨⟨x,y,h1,h2,h3⟩,h4⟩:=hb;unfold itm at h;split at h
 ·cases h
 ·rename_i t ht
  have w1:=bw_step ht;split at h
  ·cases h
   exact⟨⟨x,y,h1,h2,by omega⟩,h4⟩
  ·split at h
   ·cases h
    have h5:=PC_word 5 (bs9 t.2);rw[bs9_len] at h5;exact⟨⟨x,max t.2.size 1,h1,by dsimp only;omega,by omega⟩,fun q=>⟨(h4 q).1,Nat.le_trans (word_size ht) q⟩⟩
   ·split at h
    ·rename_i h7
     have hf:c.un.has=false:=by
      rcases hc.1 with⟨g1,-,-,-⟩|⟨g1,-,-,-⟩|⟨-,g4⟩
      ·exact g1
      ·exact g1
      ·exact absurd h7.2 (CurW.ne g4)
     cases h
     have h5:=PC_word 3 (bs9 t.2);have h6:=PC_unC (u:=⟨c.un.has,c.un.i,c.un.k,t.2⟩) hf;rw[bs9_len] at h5;dsimp only at h6
     exact⟨⟨max t.2.size 1,y,by dsimp only;omega,h2,by omega⟩,fun q=>⟨⟨(h4 q).1.1,(h4 q).1.2.1,Nat.le_trans (word_size ht) q⟩,(h4 q).2⟩⟩
    ·split at h
     ·split at h
      ·cases h
      ·rename_i ha
       cases h
       obtain⟨h5,h6,h7⟩:=amt_cost ha;exact⟨⟨bw L b-bw L a,y,by dsimp only;omega,h2,by omega⟩,fun q=>⟨h6 q,(h4 q).2⟩⟩
     ·cases h
theorem cstL_cost(hL:PrpL L){a0:Nat}:∀(f:Nat) {c:Co}{a:Nat},c.ok→CB L a0 a c→cstL L f c a=.inr (c',b)→CB L a0 b c':=by
 intro f;induction f with
 | zero=>intro c a _ _ h;rw[cstL] at h;cases h
 | succ f ih=>
  intro c a hc hb h;rw[cstL] at h;split at h
  ·cases h
  ·rename_i b1 hi
   have g:=itm_cost hc hb hi;have g2:=(itm_ok hL hc hi).1;split at h
   ·cases h;exact g.more (bw_le (by omega))
   ·split at h
    ·exact ih g2 (g.more (bw_le (by omega))) h
    ·cases h
theorem PC_cst(c:Co):PC (pK c)≤PC (pU c.un)+PC (pW 5 (bs9 c.lab))+90:=by
 have o1:=opn_len c.tot;have o2:=shut_len c.tot;have d1:=dayT_len c.day;have hw:wgP (pK c)=(opnC c.tot).length+11+(((jnP (parts c)).map fun u=>u.2.length+11).sum+((shutC c.tot).length+11)):=by
  show((cstW c).map fun u=>u.2.length+11).sum=_;unfold cstW;rw[List.map_cons,List.sum_cons,List.map_append,List.sum_append];rfl
 have ht:(pK c).t.length=(opnC c.tot).length+((jnT ((parts c).map (·.t))).length+(shutC c.tot).length):=by
  show(cstT c).length=_;unfold cstT;rw[parts_text,List.length_append,List.length_append]
 have u1:((untW c.un).map fun u=>u.2.length+11).sum=wgP (pU c.un):=rfl;have u2:(untT c.un).length=(pU c.un).t.length:=rfl;have l1:wgP (pW 5 (bs9 c.lab))=(bs9 c.lab).length+11:=by show(bs9 c.lab).length+11+0=_;omega
 have l2:(pW 5 (bs9 c.lab)).t.length=(qt (bs9 c.lab)).length:=rfl;have k1:((jnP (parts c)).map fun u=>u.2.length+11).sum≤wgP (pU c.un)+((dayT c.day).length+11)+wgP (pW 5 (bs9 c.lab))+24∧(jnT ((parts c).map (·.t))).length≤(pU c.un).t.length+(dayT c.day).length+(pW 5 (bs9 c.lab)).t.length+4:=by
  rw[l1,l2,← u1,← u2];unfold parts;split<;>split<;>split<;>simp[jnP,jnT]<;>omega
 unfold PC;omega
theorem cst_cost(hL:PrpL L){o:Option Co}(h:cst L a=.inr (o,b)):TC (coP o)+12*bw L a≤12*bw L b+117∧(bw L L.length≤300→∀c,o=some c→c.un.fit∧c.lab.size≤300):=by
 unfold cst at h;split at h
 ·split at h
  ·cases h
  ·rename_i c1 b1 hb
   cases h
   have key:CB L (a+1) b c1:=by
    unfold cstB at hb;split at hb
    ·cases hb;exact(CB.start _).more (bw_le (by omega))
    ·exact cstL_cost hL _ ⟨zero_ok,.inl rfl⟩ (CB.start _) hb
   obtain⟨⟨x,y,h1,h2,h3⟩,h4⟩:=key;have h5:=PC_cst c1;have h6:=bw_le (L:=L) (show a≤a+1 by omega);refine⟨?_,fun q c e=>by cases e;exact h4 q⟩;show PC (pK c1)+0+_≤_;omega
 ·cases h
  exact⟨by show 0+_≤_;omega,fun q c e=>by cases e⟩
theorem prc_cost{o:Option (Bool×Un)}(h:prc L a=.inr (o,b)):TC (prP o)+12*bw L a≤12*bw L b+31∧(bw L L.length≤300→∀q,o=some q→q.2.fit):=by
 unfold prc at h;split at h
 ·split at h
  ·cases h
  ·rename_i u1 b1 hb
   cases h
   obtain⟨h1,h2⟩:=unt_cost hb;have h6:=bw_le (L:=L) (show a≤a+1 by omega);refine⟨?_,fun q c e=>by cases e;exact h2 q⟩;have h7:∀m:Bool,PC (pR (m,u1))≤PC (pU u1)+16:=fun m=>by
    have e1:wgP (pR (m,u1))≤13+wgP (pU u1):=by
     show((prcW (m,u1)).map fun v=>v.2.length+11).sum≤13+((untW u1).map fun v=>v.2.length+11).sum;unfold prcW unW;split<;>split<;>simp<;>omega
    have e2:(pR (m,u1)).t.length≤3+(pU u1).t.length:=by
     show(prcT (m,u1)).length≤3+(untT u1).length;unfold prcT;split<;>split<;>simp<;>omega
    unfold PC;omega
   show PC (pR (_,u1))+0+_≤_;have h8:=h7 (isW L a [64,64]);omega
 ·cases h
  exact⟨by show 0+_≤_;omega,fun q c e=>by cases e⟩
theorem isW_lt16{L:List Tok}{a:Nat}{y:List Nat}(h:isW L a y=true):a<L.length:=by
 obtain⟨t,ht,-⟩:=isW_one h;exact(List.getElem?_eq_some_iff.1 ht).1
theorem amt_le{L:List Tok}{a b k:Nat}{i:Int}{x:ByteArray}(h:amt L a=.inr (i,k,x,b)):b≤L.length:=by
 unfold amt at h;split at h
 ·cases h
 ·split at h
  ·cases h
  ·rename_i t ht
   split at h
   ·cases h;exact(List.getElem?_eq_some_iff.1 ht).1
   ·cases h
theorem unt_le{L:List Tok}{a b:Nat}{u:Un}(ha:a≤L.length)(h:unt L a=.inr (u,b)):b≤L.length:=by
 unfold unt at h;split at h
 ·cases h;exact ha
 ·rename_i t ht
  split at h
  ·cases h;exact(List.getElem?_eq_some_iff.1 ht).1
  ·split at h
   ·cases h;exact ha
   ·split at h
    ·cases h
    ·rename_i hq
     cases h
     exact amt_le hq
theorem cstL_le{L:List Tok}{b:Nat}{c':Co}:∀(f:Nat) {c:Co}{a:Nat},cstL L f c a=.inr (c',b)→b≤L.length
 | 0,c,a,h=>by rw[cstL] at h;cases h
 | f+1,c,a,h=>by
  rw[cstL] at h;split at h
  ·cases h
  ·split at h
   ·rename_i hw
    cases h;exact isW_lt16 hw
   ·split at h
    ·exact cstL_le f h
    ·cases h
theorem cst_le{L:List Tok}{a b:Nat}{o:Option Co}(ha:a≤L.length)(h:cst L a=.inr (o,b)):b≤L.length:=by
 unfold cst at h;split at h
 ·split at h
  ·cases h
  ·rename_i hb
   cases h
   unfold cstB at hb;split at hb
   ·rename_i hw
    cases hb;exact isW_lt16 hw
   ·exact cstL_le _ hb
 ·cases h;exact ha
theorem prc_le{L:List Tok}{a b:Nat}{o:Option (Bool×Un)}(ha:a≤L.length)(h:prc L a=.inr (o,b)):b≤L.length:=by
 unfold prc at h;split at h
 ·rename_i hw
  have h1:a<L.length:=hw.elim isW_lt16 isW_lt16;split at h
  ·cases h
  ·rename_i hb
   cases h
   exact unt_le h1 hb
 ·cases h;exact ha
structure Po.fit (p:Po):Prop where
 un:p.un.fit
 co:∀c,p.co=some c→c.un.fit∧c.lab.size≤300
 pr:∀q,p.pr=some q→q.2.fit
 ac:p.acc.size≤300
theorem pst_cost(hL:PrpL L){p:Po}(h:pst L=.inr (p,a)):TC (poP p)≤12*bw L L.length+180∧a=L.length∧(bw L L.length≤300→p.fit):=by
 obtain⟨h,ha⟩:=fin16_ok h;unfold pst0 at h;obtain⟨x,a1,h1,h⟩:=thn_ok h;obtain⟨u,a2,h2,h⟩:=thn_ok h;obtain⟨q,a3,h3,h⟩:=thn_ok h;cases h
 have c1:=tkw_cost 2 h1;obtain⟨c2,f2⟩:=unt_cost h2;have l1:=tkw_le h1;have l2:a2≤L.length:=unt_le l1 h2;have fl:TC (flP (flg L).1)≤12:=by
  unfold flP;split
  ·exact Nat.zero_le _
  ·rename_i hn
   rw[tc_one];have:=PC_word 10 (bs9 (flg L).1);have h9:(bs9 (flg L).1).length≤1:=by rcases flg_ok L with e|e|e<;>(rw[e];decide)
   omega
 have un:TC (unP u)≤PC (pU u):=by
  unfold unP;split
  ·rw[tc_one];exact Nat.le_refl _
  ·exact Nat.zero_le _
 have c3:TC (coP q.1)+TC (prP q.2)+12*bw L a2≤12*bw L a+148∧(bw L L.length≤300→(∀c,q.1=some c→c.un.fit∧c.lab.size≤300)∧∀r,q.2=some r→r.2.fit):=by
  unfold cpr at h3;split at h3
  ·obtain⟨c,b1,k1,h3⟩:=thn_ok h3
   obtain⟨r,b2,k2,h3⟩:=thn_ok h3;cases h3
   obtain⟨m1,m2⟩:=cst_cost hL k1;obtain⟨m3,m4⟩:=prc_cost k2;exact⟨by dsimp only;omega,fun hb=>⟨m2 hb,m4 hb⟩⟩
  ·cases h3
   exact⟨by show 0+0+_≤_;omega,fun _=>⟨fun c e=>(by cases e),fun c e=>(by cases e)⟩⟩
 have tp:=bw_top (L:=L) (n:=a);obtain⟨t0,ht0,-,hx,-⟩:=tkw_ok h1;refine⟨?_,?_,fun hb=>⟨f2 hb,(c3.2 hb).1,(c3.2 hb).2,?_⟩⟩
 ·unfold poP
  rw[TC_app,TC_cons,TC_app,TC_app];dsimp only
  omega
 ·refine Nat.le_antisymm ?_ ha
  unfold cpr at h3;split at h3
  ·obtain⟨c,b1,k1,h3⟩:=thn_ok h3
   obtain⟨r,b2,k2,h3⟩:=thn_ok h3;cases h3
   have lb:=cst_le l2 k1;exact prc_le lb k2
  ·cases h3;exact l2
 ·show x.size≤300
  rw[hx];exact Nat.le_trans (word_size ht0) hb
end
theorem pcs_line{P:List Pc}{T:ByteArray}{us:List Wd}(hT:jnB (P.map (·.t))=bs9 T)(hc:TC P≤4000)(e1:WD D12 N12 0 (bs9 T)=.inr us)(e2:us.map (fun t=>(t.1,t.2.1))=P.flatMap (·.w)):T.size≤4000∧wdsOf (bs9 T)=us∧us.length≤400∧Wgh.ws ((tks 1 us).map tok) ((tks 1 us).map tok).length≤4010:=by
 have t1:=len_pcs P;have t2:=wg_pcs P;have e4:wgt us=((P.flatMap (·.w)).map fun u=>u.2.length+11).sum:=by
  unfold wgt;rw[← e2,List.map_map];rfl
 have hw:wgt us≤TC P:=by rw[e4];exact t2
 have hn:11*us.length≤wgt us:=by
  unfold wgt;clear e1 e2 e4 hw;induction us with
  | nil=>exact Nat.le_refl _
  | cons t r ih=>rw[List.map_cons,List.sum_cons,List.length_cons];omega
 refine⟨?_,?_,by omega,?_⟩
 ·rw[← bs9_len,← hT];omega
 ·unfold wdsOf;rw[e1]
 ·rw[ws_tks 1 us (wd_bytes e1)];omega
theorem tks_len(us:List Wd):((tks 1 us).map tok).length=us.length:=by unfold tks;rw[List.length_map,List.length_map]
theorem po_line{s T:ByteArray}{ts:List Wd}{p:Po}{a:Nat}(hs:s.size≤300)(h:WD D12 N12 0 (bs9 s)=.inr ts)(hp:pst ((tks 1 ts).map tok)=.inr (p,a))(hT:poT p=bs9 T) :
  p.ok∧p.fit∧a=ts.length∧T.size≤4000∧(wdsOf (bs9 T)).length≤400∧Wgh.ws ((tks 1 (wdsOf (bs9 T))).map tok) ((tks 1 (wdsOf (bs9 T))).map tok).length≤4010∧pst ((tks 1 (wdsOf (bs9 T))).map tok)=.inr (p,(wdsOf (bs9 T)).length):=by
 obtain⟨h1,h2,h3⟩:=line_few hs h;have hL:=line_prp h;obtain⟨g1,-⟩:=pst_ok hL hp;obtain⟨g2,g3,g4⟩:=pst_cost hL hp;obtain⟨us,e1,e2⟩:=wds_po g1 0;rw[hT] at e1;obtain⟨k1,k2,k3,k4⟩:=pcs_line (P:=poP p) hT (by omega) e1 e2;rw[k2];exact⟨g1,g4 h1,by rw[g3,tks_len],k1,k3,k4,by rw[pst_told g1 (tks_tk 1 e2),tks_len]⟩
theorem me_line{s T:ByteArray}{ts:List Wd}{m:ByteArray×ByteArray}{a:Nat}(hs:s.size≤300)(h:WD D12 N12 0 (bs9 s)=.inr ts)(hp:met ((tks 1 ts).map tok)=.inr (m,a))(hT:meT m=bs9 T) :
  m.1.size≤300∧m.2.size≤300∧a=2∧T.size≤4000∧(wdsOf (bs9 T)).length≤400∧Wgh.ws ((tks 1 (wdsOf (bs9 T))).map tok) ((tks 1 (wdsOf (bs9 T))).map tok).length≤4010∧met ((tks 1 (wdsOf (bs9 T))).map tok)=.inr (m,2):=by
 obtain⟨h1,h2,h3⟩:=line_few hs h;have hL:=line_prp h;obtain⟨g1,g2,-⟩:=met_ok hL hp;obtain⟨hq,-⟩:=fin16_ok hp;unfold met0 at hq;obtain⟨x,a1,q1,hq⟩:=thn_ok hq;obtain⟨y,a2,q2,hq⟩:=thn_ok hq;have em:m=(x,y):=by cases hq;rfl
 obtain⟨t1,ht1,-,hx,-⟩:=tkw_ok q1;obtain⟨t2,ht2,-,hy,-⟩:=tkw_ok q2;have s1:=word_size ht1;have s2:=word_size ht2;rw[← hx] at s1;rw[← hy] at s2;obtain⟨us,e1,e2⟩:=wds_me g1 0;rw[hT] at e1;have c1:=PC_word 9 (bs9 m.1);have c2:=PC_word 5 (bs9 m.2);have c3:=tkw_cost 9 q1;have c4:=tkw_cost 5 q2;have top:=bw_top (L:=(tks 1 ts).map tok) (n:=a2);have tc:TC (meP m)≤4000:=by
  show PC (pW 9 (bs9 m.1))+(PC (pW 5 (bs9 m.2))+0)≤_;rw[em];dsimp only
  omega
 obtain⟨k1,k2,k3,k4⟩:=pcs_line (P:=meP m) hT tc e1 e2;rw[k2];exact⟨by rw[em];dsimp only;omega,by rw[em];dsimp only;omega,g2,k1,k3,k4,met_told (tks_tk 1 e2)⟩
end Go.Proofs.YtpbbolgnnegmlaaGreatDoor.Num
namespace Go.Proofs.YtpbbolgnnegmlaaGreatDoor.Num
open Go.RowKit
structure FD where
 kind:Nat
 y:Int
 m:Int
 d:Int
 acc:ByteArray
 oth:ByteArray
 curs:List ByteArray
 book:Nat
 i:Int
 k:Nat
 cur:ByteArray
 hasTol:Bool
 ti:Int
 tk:Nat
 flag:ByteArray
 pay:ByteArray
 nar:ByteArray
 tags:List ByteArray
 links:List ByteArray
 name:ByteArray
 text:ByteArray
structure DM where
 A:Option Addr
 n:Nat
 c:Nat
 At:Option Addr
 nt:Nat
 ct:Nat
 Ac:Option Addr
 nc:Nat
 cc:Nat
 Ag:Option Addr
 ng:Nat
 cg:Nat
 Al:Option Addr
 nl:Nat
 cl:Nat
 p:Int
 q:Int
structure MD (w:World) (f:FD) (m:DM):Prop where
 num:Num w w.heap.size m.A m.n m.c f.i.natAbs
 tol:Num w w.heap.size m.At m.nt m.ct f.ti.natAbs
 cur:RdP w m.Ac m.nc m.cc (f.curs.map bs9)
 tag:RdP w m.Ag m.ng m.cg (f.tags.map bs9)
 lnk:RdP w m.Al m.nl m.cl (f.links.map bs9)
structure Far (lo:Nat) (m:DM):Prop where
 cur:∀a,m.Ac=some a→lo≤a.block
 tag:∀a,m.Ag=some a→lo≤a.block
 lnk:∀a,m.Al=some a→lo≤a.block
theorem Lim.row15{w:World}{B n c g:Nat}{A:Option Addr}{ys:List Nat}{xs cs:Array Value}{t:TypeId}(h:Lim w B A n c ys)(hb:w.heap[g]?=some (.cells xs t (0,0)))(hc:∀x∈xs.toList,NoLimb x):Lim (w.setRow g cs) B A n c ys:=by
 refine⟨h.len,h.cap,h.room,h.fit,?_,h.addr⟩;rcases h.row with h' | ⟨b,o,rfl,hB,hr⟩
 ·exact .inl h'
 ·refine .inr ⟨b,o,rfl,hB,fun k u hu=>?_⟩
  have hj:=hr k u hu;by_cases hbg:b=g
  ·exfalso
   have hm:=List.mem_of_getElem? hu;unfold vals at hm;obtain⟨x,_,rfl⟩:=List.mem_map.1 hm;subst hbg;rw[cell_of_row w b (o+k) _ _ _ hb,← Array.getElem?_toList] at hj;exact hc _ (List.mem_of_getElem? hj) x rfl
  ·exact(cell_setRow_other w g cs ⟨b,o+k,none⟩ hbg).trans hj
structure S15 (w0 w:World) (ms:List (FD×DM)) (bs:List (Nat×Array Value×TypeId)):Prop where
 bel:Below w0.heap.size w0 w
 md:∀q∈ms,MD w q.1 q.2
 blk:∀q∈bs,w.heap[q.1]?=some (.cells q.2.1 q.2.2 (0,0))
section
variable {w0 w w':World}{ms:List (FD×DM)}{bs:List (Nat×Array Value×TypeId)}
theorem blk_lt{w:World}{g:Nat}{xs:Array Value}{t:TypeId}(h:w.heap[g]?=some (.cells xs t (0,0))):g<w.heap.size:=by
 rcases Nat.lt_or_ge g w.heap.size with h1|h1
 ·exact h1
 ·rw[Array.getElem?_eq_none h1] at h;cases h
end
def Bk(w:World)(g:Nat)(xs:Array Value)(t:TypeId):Prop:=w.heap[g]?=some (.cells xs t (0,0))
theorem Bk.lt{w:World}{g:Nat}{xs:Array Value}{t:TypeId}(h:Bk w g xs t):g<w.heap.size:=by
 rcases Nat.lt_or_ge g w.heap.size with h1|h1
 ·exact h1
 ·unfold Bk at h;rw[Array.getElem?_eq_none h1] at h;cases h
theorem Bk.on{w w':World}{g:Nat}{xs:Array Value}{t:TypeId}(h:Bk w g xs t)(hb:Below w.heap.size w w'):Bk w' g xs t:=(hb.block g h.lt).trans h
theorem Bk.cell{w:World}{g:Nat}{xs:Array Value}{t:TypeId}(h:Bk w g xs t)(j:Nat):w.cell? ⟨g,j,none⟩=xs[j]?:=cell_of_row w g j _ _ _ h
theorem Bk.new(v:World)(xs:Array Value)(t:TypeId){g:Nat}(h:g=v.heap.size):Bk (v.alloc (.cells xs t)) g xs t:=by subst h;exact heap_alloc_new v _
structure VU where
 b:Bool
 i:Int
 k:Nat
 s:ByteArray
structure VP where
 h:Bool
 t:Bool
 b:Bool
 i:Int
 k:Nat
 s:ByteArray
structure VC where
 h:Bool
 t:Bool
 b:Bool
 i:Int
 k:Nat
 s:ByteArray
 y:Int
 m:Int
 d:Int
 l:ByteArray
def VU.of(u:Un):VU:=⟨u.has,u.i,u.k,u.cur⟩
def VP.of:Option (Bool×Un)→VP
 | none=>⟨false,false,false,0,0,⟨#[]⟩⟩
 | some (t,u)=>⟨true,t,u.has,u.i,u.k,u.cur⟩
def VC.of:Option Co→VC
 | none=>⟨false,false,false,0,0,⟨#[]⟩,0,0,0,⟨#[]⟩⟩
 | some c=>⟨true,c.tot,c.un.has,c.un.i,c.un.k,c.un.cur,c.day.1,c.day.2.1,c.day.2.2,c.lab⟩
def resU:(Nat×Nat)⊕(Un×Nat)→VU×Nat×Nat
 | .inl (e,p)=>(VU.of Un.zero,p,e)
 | .inr (u,p)=>(VU.of u,p,0)
def resC:(Nat×Nat)⊕(Option Co×Nat)→VC×Nat×Nat
 | .inl (e,p)=>(VC.of none,p,e)
 | .inr (u,p)=>(VC.of u,p,0)
def resP:(Nat×Nat)⊕(Option (Bool×Un)×Nat)→VP×Nat×Nat
 | .inl (e,p)=>(VP.of none,p,e)
 | .inr (u,p)=>(VP.of u,p,0)
def sameU(v v':VU):Bool:=decide (v.b=v'.b∧v.i=v'.i∧v.k=v'.k∧bs9 v.s=bs9 v'.s)
def sameC(v v':VC):Bool:=decide (v.h=v'.h∧v.t=v'.t∧v.b=v'.b∧v.i=v'.i∧v.k=v'.k∧bs9 v.s=bs9 v'.s∧v.y=v'.y∧v.m=v'.m∧v.d=v'.d∧bs9 v.l=bs9 v'.l)
def sameP(v v':VP):Bool:=decide (v.h=v'.h∧v.t=v'.t∧v.b=v'.b∧v.i=v'.i∧v.k=v'.k∧bs9 v.s=bs9 v'.s)
theorem sameU_refl(v:VU):sameU v v=true:=decide_eq_true ⟨rfl,rfl,rfl,rfl⟩
theorem sameC_refl(v:VC):sameC v v=true:=decide_eq_true ⟨rfl,rfl,rfl,rfl,rfl,rfl,rfl,rfl,rfl,rfl⟩
theorem sameP_refl(v:VP):sameP v v=true:=decide_eq_true ⟨rfl,rfl,rfl,rfl,rfl,rfl⟩
structure VA where
 i:Int
 k:Nat
 s:ByteArray
def resA:RA→VA×Nat×Nat
 | .inl (e,p)=>(⟨0,0,⟨#[]⟩⟩,p,e)
 | .inr (i,k,c,p)=>(⟨i,k,c⟩,p,0)
def txtA(v:VA):List Nat:=amtT v.i v.k (bs9 v.s)
def txtU(v:VU):List Nat:=untT ⟨v.b,v.i,v.k,v.s⟩
def txtC(v:VC):List Nat:=if v.h=true then cstT ⟨v.t,⟨v.b,v.i,v.k,v.s⟩,(v.y,v.m,v.d),v.l⟩ else []
def txtP(v:VP):List Nat:=if v.h=true then prcT (v.t,⟨v.b,v.i,v.k,v.s⟩) else []
def RvU(w:World)(v:VU)(p e:Nat)(en:Ending)(w':World):Prop:=∃(A:Option Addr) (n c:Nat),en=.returned (.tuple #[.agg #[.bool v.b,.bool (ngB v.i),.slice A n c,.int .i64 (v.k:Int),.string v.s],.int .i64 (p:Int),.int .i64 (e:Int)])∧Num w' w'.heap.size A n c v.i.natAbs∧Below w.heap.size w w'
def TEXTU:Prop:=∀{w:World}{A:Option Addr}{n c:Nat}{v:VU}{T:ByteArray},Num w w.heap.size A n c v.i.natAbs→n≤900→v.k≤4010→v.s.size≤300→Ok12 w→txtU v=bs9 T→Calls Tryz.prog 21 #[.agg #[.bool v.b,.bool (ngB v.i),.slice A n c,.int .i64 (v.k:Int),.string v.s]] w (Ret9 w (.string T))
def SAMEU:Prop:=∀{w:World}{A A':Option Addr}{n c n' c':Nat}{v v':VU}{x:Bool},Num w w.heap.size A n c v.i.natAbs→Num w w.heap.size A' n' c' v'.i.natAbs→Ok12 w→sameU v v'=x→Calls Tryz.prog 25 #[.agg #[.bool v.b,.bool (ngB v.i),.slice A n c,.int .i64 (v.k:Int),.string v.s],.agg #[.bool v'.b,.bool (ngB v'.i),.slice A' n' c',.int .i64 (v'.k:Int),.string v'.s]] w (Ret9 w (.bool x))
def RvC(w:World)(v:VC)(p e:Nat)(en:Ending)(w':World):Prop:=∃(A:Option Addr) (n c:Nat),en=.returned (.tuple #[.agg #[.bool v.h,.bool v.t,.bool v.b,.bool (ngB v.i),.slice A n c,.int .i64 (v.k:Int),.string v.s,.int .i64 v.y,.int .i64 v.m,.int .i64 v.d,.string v.l],.int .i64 (p:Int),.int .i64 (e:Int)])∧Num w' w'.heap.size A n c v.i.natAbs∧Below w.heap.size w w'
def TEXTC:Prop:=∀{w:World}{A:Option Addr}{n c:Nat}{v:VC}{T:ByteArray},Num w w.heap.size A n c v.i.natAbs→n≤900→v.k≤4010→v.s.size≤300→v.l.size≤300→Ok12 w→txtC v=bs9 T→Calls Tryz.prog 22 #[.agg #[.bool v.h,.bool v.t,.bool v.b,.bool (ngB v.i),.slice A n c,.int .i64 (v.k:Int),.string v.s,.int .i64 v.y,.int .i64 v.m,.int .i64 v.d,.string v.l]] w (Ret9 w (.string T))
def SAMEC:Prop:=∀{w:World}{A A':Option Addr}{n c n' c':Nat}{v v':VC}{x:Bool},Num w w.heap.size A n c v.i.natAbs→Num w w.heap.size A' n' c' v'.i.natAbs→Ok12 w→sameC v v'=x→Calls Tryz.prog 26 #[.agg #[.bool v.h,.bool v.t,.bool v.b,.bool (ngB v.i),.slice A n c,.int .i64 (v.k:Int),.string v.s,.int .i64 v.y,.int .i64 v.m,.int .i64 v.d,.string v.l],.agg #[.bool v'.h,.bool v'.t,.bool v'.b,.bool (ngB v'.i),.slice A' n' c',.int .i64 (v'.k:Int),.string v'.s,.int .i64 v'.y,.int .i64 v'.m,.int .i64 v'.d,.string v'.l]] w (Ret9 w (.bool x))
def RvP(w:World)(v:VP)(p e:Nat)(en:Ending)(w':World):Prop:=∃(A:Option Addr) (n c:Nat),en=.returned (.tuple #[.agg #[.bool v.h,.bool v.t,.bool v.b,.bool (ngB v.i),.slice A n c,.int .i64 (v.k:Int),.string v.s],.int .i64 (p:Int),.int .i64 (e:Int)])∧Num w' w'.heap.size A n c v.i.natAbs∧Below w.heap.size w w'
def TEXTP:Prop:=∀{w:World}{A:Option Addr}{n c:Nat}{v:VP}{T:ByteArray},Num w w.heap.size A n c v.i.natAbs→n≤900→v.k≤4010→v.s.size≤300→Ok12 w→txtP v=bs9 T→Calls Tryz.prog 23 #[.agg #[.bool v.h,.bool v.t,.bool v.b,.bool (ngB v.i),.slice A n c,.int .i64 (v.k:Int),.string v.s]] w (Ret9 w (.string T))
def SAMEP:Prop:=∀{w:World}{A A':Option Addr}{n c n' c':Nat}{v v':VP}{x:Bool},Num w w.heap.size A n c v.i.natAbs→Num w w.heap.size A' n' c' v'.i.natAbs→Ok12 w→sameP v v'=x→Calls Tryz.prog 27 #[.agg #[.bool v.h,.bool v.t,.bool v.b,.bool (ngB v.i),.slice A n c,.int .i64 (v.k:Int),.string v.s],.agg #[.bool v'.h,.bool v'.t,.bool v'.b,.bool (ngB v'.i),.slice A' n' c',.int .i64 (v'.k:Int),.string v'.s]] w (Ret9 w (.bool x))
def RvA(w:World)(v:VA)(p e:Nat)(en:Ending)(w':World):Prop:=∃(A:Option Addr) (n c:Nat),en=.returned (.tuple #[.agg #[.bool (ngB v.i),.slice A n c,.int .i64 (v.k:Int),.string v.s],.int .i64 (p:Int),.int .i64 (e:Int)])∧Num w' w'.heap.size A n c v.i.natAbs∧Below w.heap.size w w'
def TEXTA:Prop:=∀{w:World}{A:Option Addr}{n c:Nat}{v:VA}{T:ByteArray},Num w w.heap.size A n c v.i.natAbs→n≤900→v.k≤4010→v.s.size≤300→Ok12 w→txtA v=bs9 T→Calls Tryz.prog 49 #[.agg #[.bool (ngB v.i),.slice A n c,.int .i64 (v.k:Int),.string v.s]] w (Ret9 w (.string T))
theorem unt_bytes(u:Un):∀c∈untT u,c<256:=by
 unfold untT;split
 ·intro c h
  rcases List.mem_append.1 h with h|h
  ·exact txtD_lt _ _ c h
  ·rcases List.mem_cons.1 h with rfl|h
   ·decide
   ·exact bs9_lt _ c h
 ·exact bs9_lt _
theorem jnT_bytes:∀l:List (List Nat),(∀x∈l,∀c∈x,c<256)→∀c∈jnT l,c<256
 | [],_,c,h=>by cases h
 | [x],h,c,hc=>h x List.mem_cons_self c hc
 | x::y::r,h,c,hc=>by
  rcases List.mem_append.1 hc with hc|hc
  ·exact h x List.mem_cons_self c hc
  ·rcases List.mem_cons.1 hc with rfl|hc
   ·decide
   ·rcases List.mem_cons.1 hc with rfl|hc
    ·decide
    ·exact jnT_bytes (y::r) (fun z hz=>h z (List.mem_cons_of_mem _ hz)) c hc
theorem cst_bytes(c:Co):∀x∈cstT c,x<256:=by
 unfold cstT;intro x h;rcases List.mem_append.1 h with h|h
 ·exact opn_lt _ x h
 ·rcases List.mem_append.1 h with h|h
  ·refine jnT_bytes _ (fun z hz y hy=>?_) x h
   unfold prtT at hz;rcases List.mem_append.1 hz with hz|hz
   ·split at hz
    ·rw[List.mem_singleton.1 hz] at hy;exact unt_bytes _ y hy
    ·cases hz
   ·rcases List.mem_append.1 hz with hz|hz
    ·split at hz
     ·rw[List.mem_singleton.1 hz] at hy;exact bs9_lt _ y hy
     ·cases hz
    ·split at hz
     ·rw[List.mem_singleton.1 hz] at hy;exact qt_lt (bs9_lt _) y hy
     ·cases hz
  ·exact shut_lt _ x h
theorem prc_bytes(p:Bool×Un):∀x∈prcT p,x<256:=by
 unfold prcT;intro x h;rcases List.mem_append.1 h with h|h
 ·split at h
  ·rcases List.mem_cons.1 h with rfl|h
   ·decide
   ·rw[List.mem_singleton.1 h];decide
  ·rw[List.mem_singleton.1 h];decide
 ·split at h
  ·rcases List.mem_cons.1 h with rfl|h
   ·decide
   ·exact unt_bytes _ x h
  ·cases h
theorem txtU_lt(v:VU):∀c∈txtU v,c<256:=unt_bytes _
theorem txtC_lt(v:VC):∀c∈txtC v,c<256:=by
 unfold txtC;split
 ·exact cst_bytes _
 ·intro c h;cases h
theorem txtP_lt(v:VP):∀c∈txtP v,c<256:=by
 unfold txtP;split
 ·exact prc_bytes _
 ·intro c h;cases h
structure S14 (w0 w:World) (l:List (Option Addr×Nat×Nat×Nat)) (bs:List (Nat×Array Value×TypeId)):Prop where
 bel:Below w0.heap.size w0 w
 num:∀q∈l,Num w w.heap.size q.1 q.2.1 q.2.2.1 q.2.2.2
 blk:∀q∈bs,Bk w q.1 q.2.1 q.2.2
section
variable {w0 w w':World}{l:List (Option Addr×Nat×Nat×Nat)}{bs:List (Nat×Array Value×TypeId)}
theorem S14.start(w:World):S14 w w [] []:=⟨Below.refl _ _,fun q hq=>(by cases hq),fun q hq=>(by cases hq)⟩
theorem S14.step(h:S14 w0 w l bs)(hb:Below w.heap.size w w'):S14 w0 w' l bs:=⟨h.bel.trans (hb.mono h.bel.size),fun q hq=>(h.num q hq).on hb,fun q hq=>(h.blk q hq).on hb⟩
theorem S14.push(h:S14 w0 w l bs)(hb:Below w.heap.size w w'){A:Option Addr}{n c a:Nat}(hn:Num w' w'.heap.size A n c a):S14 w0 w' ((A,n,c,a)::l) bs:=by
 have h2:=h.step hb;refine⟨h2.bel,fun q hq=>?_,h2.blk⟩;rcases List.mem_cons.1 hq with rfl|hq
 ·exact hn
 ·exact h2.num q hq
theorem S14.lay(h:S14 w0 w l bs)(xs:Array Value)(t:TypeId){g:Nat}(hg:g=w.heap.size):S14 w0 (w.alloc (.cells xs t)) l ((g,xs,t)::bs):=by
 have h2:=h.step ((Below.refl _ _).alloc (Nat.le_refl _) (.cells xs t));refine⟨h2.bel,h2.num,fun q hq=>?_⟩;rcases List.mem_cons.1 hq with rfl|hq
 ·exact Bk.new w xs t hg
 ·exact h2.blk q hq
theorem S14.got{A:Option Addr}{n c a:Nat}(h:Hid (S14 w0 w l bs))(hm:(A,n,c,a)∈l):Num w w.heap.size A n c a:=h.out.num _ hm
theorem S14.at_{g:Nat}{xs:Array Value}{t:TypeId}(h:Hid (S14 w0 w l bs))(hm:(g,xs,t)∈bs)(j:Nat):w.cell? ⟨g,j,none⟩=xs[j]?:=(h.out.blk _ hm).cell j
theorem S14.c4{g:Nat}{t:TypeId}{x0 x1 x2 x3:Value}(h:Hid (S14 w0 w l bs))(hm:(g,#[x0,x1,x2,x3],t)∈bs):w.cell? ⟨g,0,none⟩=some x0∧w.cell? ⟨g,1,none⟩=some x1∧w.cell? ⟨g,2,none⟩=some x2∧w.cell? ⟨g,3,none⟩=some x3:=⟨S14.at_ h hm 0,S14.at_ h hm 1,S14.at_ h hm 2,S14.at_ h hm 3⟩
theorem S14.c5{g:Nat}{t:TypeId}{x0 x1 x2 x3 x4:Value}(h:Hid (S14 w0 w l bs))(hm:(g,#[x0,x1,x2,x3,x4],t)∈bs):w.cell? ⟨g,0,none⟩=some x0∧w.cell? ⟨g,1,none⟩=some x1∧w.cell? ⟨g,2,none⟩=some x2∧w.cell? ⟨g,3,none⟩=some x3∧w.cell? ⟨g,4,none⟩=some x4:=⟨S14.at_ h hm 0,S14.at_ h hm 1,S14.at_ h hm 2,S14.at_ h hm 3,S14.at_ h hm 4⟩
theorem S14.c7{g:Nat}{t:TypeId}{x0 x1 x2 x3 x4 x5 x6:Value}(h:Hid (S14 w0 w l bs))(hm:(g,#[x0,x1,x2,x3,x4,x5,x6],t)∈bs):w.cell? ⟨g,0,none⟩=some x0∧w.cell? ⟨g,1,none⟩=some x1∧w.cell? ⟨g,2,none⟩=some x2∧w.cell? ⟨g,3,none⟩=some x3∧w.cell? ⟨g,4,none⟩=some x4∧w.cell? ⟨g,5,none⟩=some x5∧w.cell? ⟨g,6,none⟩=some x6:=⟨S14.at_ h hm 0,S14.at_ h hm 1,S14.at_ h hm 2,S14.at_ h hm 3,S14.at_ h hm 4,S14.at_ h hm 5,S14.at_ h hm 6⟩
theorem S14.c11{g:Nat}{t:TypeId}{x0 x1 x2 x3 x4 x5 x6 x7 x8 x9 x10:Value}(h:Hid (S14 w0 w l bs))(hm:(g,#[x0,x1,x2,x3,x4,x5,x6,x7,x8,x9,x10],t)∈bs):w.cell? ⟨g,0,none⟩=some x0∧w.cell? ⟨g,1,none⟩=some x1∧w.cell? ⟨g,2,none⟩=some x2∧w.cell? ⟨g,3,none⟩=some x3∧w.cell? ⟨g,4,none⟩=some x4∧w.cell? ⟨g,5,none⟩=some x5∧w.cell? ⟨g,6,none⟩=some x6∧w.cell? ⟨g,7,none⟩=some x7∧w.cell? ⟨g,8,none⟩=some x8∧w.cell? ⟨g,9,none⟩=some x9∧w.cell? ⟨g,10,none⟩=some x10:=⟨S14.at_ h hm 0,S14.at_ h hm 1,S14.at_ h hm 2,S14.at_ h hm 3,S14.at_ h hm 4,S14.at_ h hm 5,S14.at_ h hm 6,S14.at_ h hm 7,S14.at_ h hm 8,S14.at_ h hm 9,S14.at_ h hm 10⟩
end
end Go.Proofs.YtpbbolgnnegmlaaGreatDoor.Num
