/- Lemmas of the proof: AmoMathB, AmoMathC, HeaMath, AmoMathD, AmoMathE, HeaMathB, HeaMathC, HeaMathD, HeaMathE, AmoA, AmoB, HeaMathF, HeaD, HeaA, HeaMathG, AmoC, AmoD, AmoE, HeaMathH. -/
import Derived.Test.YthpmaoimceojgaaGreatDoorAll37
import Derived.Test.YthpmaoimceojgaaGreatDoorAll38
import Derived.Test.YthpmaoimceojgaaGreatDoorAll36
import Derived.Test.YthpmaoimceojgaaGreatDoorAll29
import Derived.Test.YthpmaoimceojgaaGreatDoorAll32
import Derived.Test.YthpmaoimceojgaaGreatDoorAll15
import Derived.Deep.Cut
set_option linter.unusedVariables false
set_option linter.unusedSimpArgs false
set_option maxRecDepth 100000
set_option maxHeartbeats 32000000
open Go.Lib renaming hid→Jh
namespace Go.Proofs.YthpmaoimceojgaaGreatDoor.Num
open Go.RowKit
theorem bs9_nil{s:ByteArray}(h:bs9 s=[]):s=⟨#[]⟩:=by rw[← st9_bs9 s,h];rfl
def untW(u:Un):List (Nat×List Nat):=(if u.has=true then tT u.i u.k else [])++[(3,bs9 u.cur)]
theorem dig_head:∀n,n<10→YthpmaoimceojgaaGreatDoor.dgB (Dat.dg8 n).toNat=true:=by decide
theorem day_told{d:Int×Int×Int}(h:Dat.ok8 d.1 d.2.1 d.2.2=true):D12 (dayT d)=true∧(∃c u,dayT d=c::u∧YthpmaoimceojgaaGreatDoor.dgB c=true)∧pday (st9 (dayT d))=d∧dayT d≠[]:=by
 obtain⟨h1,h2,h3,h4,h5⟩:=Dat.told_day h;have hp:Dat.prOk (Dat.text8 d.1 d.2.1 d.2.2)=true:=by unfold Dat.prOk;rw[h2,h3,h4,h5,h];rfl
 have hl:(dayT d).length=10:=by unfold dayT;rw[bs9_len];exact h1
 refine⟨by unfold dayT;rw[d12_is];exact hp,?_,?_,by intro e;rw[e] at hl;cases hl⟩
 ·unfold dayT
  rw[Dat.text8_ok h];exact⟨_,_,rfl,dig_head _ (Nat.mod_lt _ (by decide))⟩
 ·unfold dayT pday
  rw[st9_bs9,if_pos hp,h3,h4,h5]
theorem tk_ne{k:Nat}{x:List Nat}{m:Int}(h:(k:Int)≠m):(tk (k,x)).1≠m:=h
section
variable {L:List Tok}{a b:Nat}{Q:List Tok}{u:Un}{c:Co}
theorem cur_end{x:List Nat}:∀cc,isg (tk (3,x)) cc=false:=fun cc=>by
 unfold isg;rw[decide_eq_false (tk_ne (by decide))];rfl
theorem amt_told{i:Int}{k:Nat}{x:List Nat}(h:L.drop a=(tT i k).map tk++(tk (3,x)::Q)):amt L a=.inr (i,k,st9 x,a+(tT i k).length+1):=by
 have f0:=fac_val (d:=0) h (by decide);have h1:=dr_app h rfl;rw[List.length_map] at f0 h1;have i1:∀cc,isAt L (a+(tT i k).length) cc=false:=fun cc=>by rw[dr_is h1];exact cur_end cc
 have P0:PRO L 0 a=.inr (i,k,a+(tT i k).length):=by rw[PRO_go f0,PROL_end (i1 _) (i1 _)]
 have S0:SUM L 0 a=.inr (i,k,a+(tT i k).length):=by rw[SUM_go P0,SUML_end (i1 _) (i1 _)]
 unfold amt;rw[S0];dsimp only
 rw[dr_get h1];rfl
end
structure Pt where
 t:List Nat
 w:List (Nat×List Nat)
 f:Co→Co
theorem isW_tk{L Q:List Tok}{a:Nat}{x:List Nat}(h:L.drop a=tk (10,x)::Q)(hx:∀c∈x,c<256)(y:List Nat):isW L a y=decide (x=y):=by
 unfold isW;rw[dr_get h];have:bs9 (tk (10,x)).2=x:=bs9_st9 hx;show(decide ((tk (10,x)).1=10)&&decide (bs9 (tk (10,x)).2=y))=_;rw[this,decide_eq_true (show(tk (10,x)).1=10 from rfl),Bool.true_and]
theorem isW_end{L:List Tok}{a:Nat}(h:L.drop a=[])(y:List Nat):isW L a y=false:=by
 unfold isW;rw[List.getElem?_eq_none (List.drop_eq_nil_iff.1 h)];rfl
theorem isW_kind{L Q:List Tok}{a k:Nat}{x:List Nat}(h:L.drop a=tk (k,x)::Q)(hk:(k:Int)≠10)(y:List Nat):isW L a y=false:=by
 unfold isW;rw[dr_get h];show(decide ((tk (k,x)).1=10)&&_)=_;rw[decide_eq_false (tk_ne hk)];rfl
def parts(c:Co):List Pt:=(if c.un.has=true∨bs9 c.un.cur≠[] then [⟨untT c.un,untW c.un,fun e=>⟨e.tot,c.un,e.day,e.lab⟩⟩] else [])++
 ((if dayT c.day≠[] then [⟨dayT c.day,[(1,dayT c.day)],fun e=>⟨e.tot,e.un,c.day,e.lab⟩⟩] else [])++
 (if bs9 c.lab≠[] then [⟨qt (bs9 c.lab),[(5,bs9 c.lab)],fun e=>⟨e.tot,e.un,e.day,c.lab⟩⟩] else []))
abbrev RH(α:Type):=(Nat×Nat)⊕(α×Nat)
def thn{α β:Type}:RH α→(α→Nat→RH β)→RH β
 | .inl e,_=>.inl e
 | .inr (x,b),f=>f x b
theorem thn_ok{α β:Type}{r:RH α}{f:α→Nat→RH β}{y:β}{c:Nat}(h:thn r f=.inr (y,c)):∃x b,r=.inr (x,b)∧f x b=.inr (y,c):=by
 rcases r with e|⟨x,b⟩
 ·cases h
 ·exact⟨x,b,rfl,h⟩
theorem thn_go{α β:Type}{r:RH α}{f:α→Nat→RH β}{x:α}{b:Nat}(h:r=.inr (x,b)):thn r f=f x b:=by rw[h];rfl
theorem thn_bad{α β:Type}{r:RH α}{f:α→Nat→RH β}{e p:Nat}(h:thn r f=.inl (e,p))(h1:∀{e p},r=.inl (e,p)→e≠0)(h2:∀{x b e p},f x b=.inl (e,p)→e≠0):e≠0:=by
 rcases r with q|⟨x,b⟩
 ·cases h;exact h1 rfl
 ·exact h2 h
def tkw(L:List Tok)(a:Nat)(k:Int):RH ByteArray:=match L[a]? with
 | none=>.inl (2,a)
 | some t=>if t.1=k then .inr (t.2,a+1) else .inl (3,a)
def knd(L:List Tok)(a:Nat)(k:Int):Bool:=(L[a]?).any fun t=>decide (t.1=k)
def nmr(L:List Tok)(a:Nat):RH (Int×Nat):=match SUM L 0 a with
 | .inl e=>.inl e
 | .inr (i,k,b)=>.inr ((i,k),b)
def amr(L:List Tok)(a:Nat):RH (Int×Nat×ByteArray):=match amt L a with
 | .inl e=>.inl e
 | .inr (i,k,x,b)=>.inr ((i,k,x),b)
def curL(L:List Tok):Nat→Nat→RH (List ByteArray)
 | 0,a=>.inr ([],a)
 | f+1,a=>if isW L a [44]=true then thn (tkw L (a+1) 3) fun x b=>thn (curL L f b) fun xs c=>.inr (x::xs,c) else .inr ([],a)
def curs(L:List Tok)(a:Nat):RH (List ByteArray):=if knd L a 3=true then thn (tkw L a 3) fun x b=>thn (curL L L.length b) fun xs c=>.inr (x::xs,c) else .inr ([],a)
def wStrict:List Nat:=[83,84,82,73,67,84]
def wFifo:List Nat:=[70,73,70,79]
def wLifo:List Nat:=[76,73,70,79]
def wAverage:List Nat:=[65,86,69,82,65,71,69]
def wNone:List Nat:=[78,79,78,69]
def mthT:Nat→List Nat
 | 0=>wStrict
 | 1=>wFifo
 | 2=>wLifo
 | 3=>wAverage
 | 4=>wNone
 | _=>[]
def mth(x:List Nat):Option Nat:=if x=wStrict then some 0 else if x=wFifo then some 1 else if x=wLifo then some 2 else if x=wAverage then some 3 else if x=wNone then some 4 else none
def wOption:List Nat:=[111,112,116,105,111,110]
def wOpen:List Nat:=[111,112,101,110]
def wClose:List Nat:=[99,108,111,115,101]
def wCommodity:List Nat:=[99,111,109,109,111,100,105,116,121]
def wPrice:List Nat:=[112,114,105,99,101]
def wPad:List Nat:=[112,97,100]
def wBalance:List Nat:=[98,97,108,97,110,99,101]
def wNote:List Nat:=[110,111,116,101]
def wTxn:List Nat:=[116,120,110]
inductive Dr
 | opn (day:Int×Int×Int) (acc:ByteArray) (cs:List ByteArray) (book:Nat)
 | cls (day:Int×Int×Int) (acc:ByteArray)
 | com (day:Int×Int×Int) (cur:ByteArray)
 | prc (day:Int×Int×Int) (cur:ByteArray) (i:Int) (k:Nat) (x:ByteArray)
 | pad (day:Int×Int×Int) (acc oth:ByteArray)
 | bal (day:Int×Int×Int) (acc:ByteArray) (i:Int) (k:Nat) (tol:Option (Int×Nat)) (x:ByteArray)
 | txn (day:Int×Int×Int) (flag:Bool) (pay nar:ByteArray) (tags links:List ByteArray)
 | nte (day:Int×Int×Int) (acc text:ByteArray)
 | opt (name text:ByteArray)
def mthO(L:List Tok)(a:Nat):Option Nat:=(L[a]?).bind fun t=>mth (bs9 t.2)
def rOpen(L:List Tok)(d:Int×Int×Int)(a:Nat):RH Dr:=thn (tkw L a 2) fun ac a=>thn (curs L a) fun cs a=>
 if knd L a 5=true then (match mthO L a with|none=>.inl (3,a)|some m=>.inr (.opn d ac cs m,a+1)) else .inr (.opn d ac cs 0,a)
def rTol(L:List Tok)(a:Nat):RH (Option (Int×Nat)):=if isW L a [126]=true then thn (nmr L (a+1)) fun n a=>if n.1<0 then .inl (3,a-1) else .inr (some n,a) else .inr (none,a)
def rBal(L:List Tok)(d:Int×Int×Int)(a:Nat):RH Dr:=thn (tkw L a 2) fun ac a=>thn (nmr L a) fun n a=>thn (rTol L a) fun t a=>thn (tkw L a 3) fun x a=>.inr (.bal d ac n.1 n.2 t x,a)
def rTxt(L:List Tok)(a:Nat):(ByteArray×ByteArray)×Nat:=match L[a]? with
 | none=>((⟨#[]⟩,⟨#[]⟩),a)
 | some t=>if t.1=5 then (match L[a+1]? with
  | none=>((⟨#[]⟩,t.2),a+1)
  | some u=>if u.1=5 then ((t.2,u.2),a+2) else ((⟨#[]⟩,t.2),a+1)) else ((⟨#[]⟩,⟨#[]⟩),a)
def adds(l:List ByteArray)(s:ByteArray):List ByteArray:=if l.any (fun x=>decide (bs9 x=bs9 s))=true then l else l++[s]
def rTgs(L:List Tok):Nat→List ByteArray→List ByteArray→Nat→(List ByteArray×List ByteArray)×Nat
 | 0,T,K,a=>((T,K),a)
 | f+1,T,K,a=>match L[a]? with
  | none=>((T,K),a)
  | some t=>if t.1=6 then rTgs L f (adds T t.2) K (a+1) else if t.1=7 then rTgs L f T (adds K t.2) (a+1) else ((T,K),a)
def rTxn(L:List Tok)(d:Int×Int×Int)(flag:Bool)(a:Nat):RH Dr:=
 .inr (.txn d flag (rTxt L a).1.1 (rTxt L a).1.2 (rTgs L (L.length+1) [] [] (rTxt L a).2).1.1 (rTgs L (L.length+1) [] [] (rTxt L a).2).1.2,(rTgs L (L.length+1) [] [] (rTxt L a).2).2)
def rest15(L:List Tok)(d:Int×Int×Int)(w:List Nat)(a:Nat):RH Dr:=
 if w=wOpen then rOpen L d a
 else if w=wClose then thn (tkw L a 2) fun ac a=>.inr (.cls d ac,a)
 else if w=wCommodity then thn (tkw L a 3) fun c a=>.inr (.com d c,a)
 else if w=wPrice then thn (tkw L a 3) fun c a=>thn (amr L a) fun n a=>.inr (.prc d c n.1 n.2.1 n.2.2,a)
 else if w=wPad then thn (tkw L a 2) fun x a=>thn (tkw L a 2) fun y a=>.inr (.pad d x y,a)
 else if w=wBalance then rBal L d a
 else if w=wNote then thn (tkw L a 2) fun x a=>thn (tkw L a 5) fun y a=>.inr (.nte d x y,a)
 else if w=wTxn∨w=[42] then rTxn L d false a
 else if w=[33] then rTxn L d true a
 else .inl (3,a-1)
def fin15(L:List Tok)(r:RH Dr):RH Dr:=thn r fun d a=>if a<L.length then .inl (3,a) else .inr (d,a)
def hd(L:List Tok):RH Dr:=match L[0]? with
 | none=>.inl (2,0)
 | some t=>if t.1=8∧bs9 t.2=wOption then fin15 L (thn (tkw L 1 5) fun n a=>thn (tkw L a 5) fun x a=>.inr (.opt n x,a))
  else if t.1=1 then (if Dat.prOk t.2=true then (match L[1]? with
   | none=>.inl (2,1)
   | some u=>if u.1=8∨u.1=10 then fin15 L (rest15 L (pday t.2) (bs9 u.2) 2) else .inl (3,1)) else .inl (3,0))
  else .inl (3,0)
structure Pc where
 t:List Nat
 w:List (Nat×List Nat)
def Pc.told(p:Pc):Prop:=∀{r:List Nat}{us:List (Nat×List Nat)},Nx r→Wds r us→Wds (p.t++r) (p.w++us)
def jnB:List (List Nat)→List Nat
 | []=>[]
 | [x]=>x
 | x::y::r=>x++32::jnB (y::r)
theorem wds_pcs:∀(P:List Pc),(∀p∈P,p.told)→Wds (jnB (P.map (·.t))) (P.flatMap (·.w))
 | [],_=>wds_nil
 | [p],h=>by
  have:=h p List.mem_cons_self (.inl rfl) wds_nil;rw[List.append_nil] at this;exact this
 | p::q::r,h=>by
  have:=h p List.mem_cons_self (r:=32::jnB ((q::r).map (·.t))) (.inr ⟨_,rfl⟩) (wds_blank (wds_pcs (q::r) fun x hx=>h x (List.mem_cons_of_mem _ hx)));exact this
def pW(k:Nat)(y:List Nat):Pc:=⟨YthpmaoimceojgaaGreatDoor.txt k y,[(k,y)]⟩
def pC(y:List Nat):Pc:=⟨y++[44],[(3,y),(10,[44])]⟩
def pN(i:Int)(k:Nat):Pc:=⟨Num.txtD i k,tT i k⟩
def pD(d:Int×Int×Int):Pc:=⟨dayT d,[(1,dayT d)]⟩
theorem pW_told{k:Nat}{y:List Nat}(h:Prp k y):(pW k y).told:=fun {r us} hr hw=>by
 obtain⟨l,n,h⟩:=h;obtain⟨-,-,⟨c,u,e,h1,h2,h3⟩,hb⟩:=nxt_back dayok12 h;have hn:=hb r hr;show Wds (YthpmaoimceojgaaGreatDoor.txt k y++r) ((k,y)::us);refine wds_of (n:=(YthpmaoimceojgaaGreatDoor.txt k y).length) ?_ ?_ hn List.drop_left hw
 ·rw[e,List.cons_append,indl,if_neg (by omega)]
 ·rw[e]
  rintro(q|q)
  ·cases q
  ·exact h3 (Option.some.inj q)
theorem nx_fol{r:List Nat}(h:Nx r):Fol r:=by
 rcases h with rfl|⟨u,rfl⟩
 ·exact fol_nil
 ·exact fol_blank _
theorem pC_told{y:List Nat}(h:CurW y):(pC y).told:=fun {r us} hr hw=>by
 show Wds ((y++[44])++r) ((3,y)::(10,[44])::us);rw[List.append_assoc];refine wds_cur h (fun c hc=>by obtain rfl:=Option.some.inj hc;rfl) (wds_one (.inl rfl) ?_ hw);rcases hr with rfl|⟨u,rfl⟩
 ·intro e;cases e
 ·intro e;have:=Option.some.inj e;omega
theorem pN_told(i:Int)(k:Nat):(pN i k).told:=fun {r us} hr hw=>wds_dec i k (nx_fol hr) hw
theorem pD_told{d:Int×Int×Int}(h:Dat.ok8 d.1 d.2.1 d.2.2=true):(pD d).told:=fun {r us} hr hw=>by
 obtain⟨h1,h2,-,-⟩:=day_told h;refine wds_day h1 h2 (fun c hc=>?_) hw;rcases hr with rfl|⟨u,rfl⟩
 ·cases hc
 ·obtain rfl:=Option.some.inj hc;rfl
theorem pT_told(y:List Nat):(pW 5 y).told:=fun {r us} _ hw=>wds_text y hw
def curP:List ByteArray→List Pc
 | []=>[]
 | [x]=>[pW 3 (bs9 x)]
 | x::y::r=>pC (bs9 x)::curP (y::r)
def pcs:Dr→List Pc
 | .opn d a cs b=>pD d::pW 8 wOpen::pW 2 (bs9 a)::(curP cs++if b=0 then [] else [pW 5 (mthT b)])
 | .cls d a=>[pD d,pW 8 wClose,pW 2 (bs9 a)]
 | .com d c=>[pD d,pW 8 wCommodity,pW 3 (bs9 c)]
 | .prc d c i k x=>[pD d,pW 8 wPrice,pW 3 (bs9 c),pN i k,pW 3 (bs9 x)]
 | .pad d a o=>[pD d,pW 8 wPad,pW 2 (bs9 a),pW 2 (bs9 o)]
 | .bal d a i k t x=>pD d::pW 8 wBalance::pW 2 (bs9 a)::pN i k::((match t with|none=>[]|some n=>[pW 10 [126],pN n.1 n.2])++[pW 3 (bs9 x)])
 | .txn d f p n T K=>pD d::pW 10 (if f=true then [33] else [42])::((if bs9 p=[] then [] else [pW 5 (bs9 p)])++(pW 5 (bs9 n)::(T.map (fun x=>pW 6 (bs9 x))++K.map (fun x=>pW 7 (bs9 x)))))
 | .nte d a x=>[pD d,pW 8 wNote,pW 2 (bs9 a),pW 5 (bs9 x)]
 | .opt n x=>[pW 8 wOption,pW 5 (bs9 n),pW 5 (bs9 x)]
def drT(d:Dr):List Nat:=jnB ((pcs d).map (·.t))
def drW(d:Dr):List (Nat×List Nat):=(pcs d).flatMap (·.w)
def Dr.ok:Dr→Prop
 | .opn d a cs b=>Dat.ok8 d.1 d.2.1 d.2.2=true∧Prp 2 (bs9 a)∧(∀c∈cs,Prp 3 (bs9 c))∧b≤4
 | .cls d a=>Dat.ok8 d.1 d.2.1 d.2.2=true∧Prp 2 (bs9 a)
 | .com d c=>Dat.ok8 d.1 d.2.1 d.2.2=true∧Prp 3 (bs9 c)
 | .prc d c _ _ x=>Dat.ok8 d.1 d.2.1 d.2.2=true∧Prp 3 (bs9 c)∧Prp 3 (bs9 x)
 | .pad d a o=>Dat.ok8 d.1 d.2.1 d.2.2=true∧Prp 2 (bs9 a)∧Prp 2 (bs9 o)
 | .bal d a _ _ t x=>Dat.ok8 d.1 d.2.1 d.2.2=true∧Prp 2 (bs9 a)∧(∀n,t=some n→0≤n.1)∧Prp 3 (bs9 x)
 | .txn d _ _ _ T K=>Dat.ok8 d.1 d.2.1 d.2.2=true∧(∀x∈T,Prp 6 (bs9 x))∧(∀x∈K,Prp 7 (bs9 x))∧(T.map bs9).Nodup∧(K.map bs9).Nodup
 | .nte d a _=>Dat.ok8 d.1 d.2.1 d.2.2=true∧Prp 2 (bs9 a)
 | .opt _ _=>True
theorem prp_lit8:Prp 8 wOption∧Prp 8 wOpen∧Prp 8 wClose∧Prp 8 wCommodity∧Prp 8 wPrice∧Prp 8 wPad∧Prp 8 wBalance∧Prp 8 wNote:=
 ⟨⟨wOption,6,by kernel_rfl⟩,⟨wOpen,4,by kernel_rfl⟩,⟨wClose,5,by kernel_rfl⟩,⟨wCommodity,9,by kernel_rfl⟩,⟨wPrice,5,by kernel_rfl⟩,⟨wPad,3,by kernel_rfl⟩,⟨wBalance,7,by kernel_rfl⟩,⟨wNote,4,by kernel_rfl⟩⟩
theorem prp_lit10:Prp 10 [42]∧Prp 10 [33]∧Prp 10 [126]:=⟨⟨[42],1,by kernel_rfl⟩,⟨[33],1,by kernel_rfl⟩,⟨[126],1,by kernel_rfl⟩⟩
theorem curP_told:∀(cs:List ByteArray),(∀c∈cs,Prp 3 (bs9 c))→∀p∈curP cs,p.told
 | [],_,p,hp=>by cases hp
 | [x],h,p,hp=>by rw[List.mem_singleton.1 hp];exact pW_told (h x List.mem_cons_self)
 | x::y::r,h,p,hp=>by
  rcases List.mem_cons.1 hp with rfl|hp
  ·exact pC_told (h x List.mem_cons_self).cur
  ·exact curP_told (y::r) (fun c hc=>h c (List.mem_cons_of_mem _ hc)) p hp
theorem pcs_told{d:Dr}(h:d.ok):∀p∈pcs d,p.told:=by
 obtain⟨w1,w2,w3,w4,w5,w6,w7,w8⟩:=prp_lit8;obtain⟨s1,s2,s3⟩:=prp_lit10;intro p hp;cases d with
 | opn d a cs b=>
  obtain⟨h1,h2,h3,-⟩:=h;rcases List.mem_cons.1 hp with rfl|hp
  ·exact pD_told h1
  rcases List.mem_cons.1 hp with rfl|hp
  ·exact pW_told w2
  rcases List.mem_cons.1 hp with rfl|hp
  ·exact pW_told h2
  rcases List.mem_append.1 hp with hp|hp
  ·exact curP_told cs h3 p hp
  ·split at hp
   ·cases hp
   ·rw[List.mem_singleton.1 hp];exact pT_told _
 | cls d a=>
  obtain⟨h1,h2⟩:=h;simp only[pcs,List.mem_cons,List.not_mem_nil,or_false] at hp
  rcases hp with rfl|rfl|rfl
  ·exact pD_told h1
  ·exact pW_told w3
  ·exact pW_told h2
 | com d c=>
  obtain⟨h1,h2⟩:=h;simp only[pcs,List.mem_cons,List.not_mem_nil,or_false] at hp
  rcases hp with rfl|rfl|rfl
  ·exact pD_told h1
  ·exact pW_told w4
  ·exact pW_told h2
 | prc d c i k x=>
  obtain⟨h1,h2,h3⟩:=h;simp only[pcs,List.mem_cons,List.not_mem_nil,or_false] at hp
  rcases hp with rfl|rfl|rfl|rfl|rfl
  ·exact pD_told h1
  ·exact pW_told w5
  ·exact pW_told h2
  ·exact pN_told i k
  ·exact pW_told h3
 | pad d a o=>
  obtain⟨h1,h2,h3⟩:=h;simp only[pcs,List.mem_cons,List.not_mem_nil,or_false] at hp
  rcases hp with rfl|rfl|rfl|rfl
  ·exact pD_told h1
  ·exact pW_told w6
  ·exact pW_told h2
  ·exact pW_told h3
 | bal d a i k t x=>
  obtain⟨h1,h2,-,h3⟩:=h;rcases List.mem_cons.1 hp with rfl|hp
  ·exact pD_told h1
  rcases List.mem_cons.1 hp with rfl|hp
  ·exact pW_told w7
  rcases List.mem_cons.1 hp with rfl|hp
  ·exact pW_told h2
  rcases List.mem_cons.1 hp with rfl|hp
  ·exact pN_told i k
  rcases List.mem_append.1 hp with hp|hp
  ·cases t with
   | none=>cases hp
   | some n=>
    rcases List.mem_cons.1 hp with rfl|hp
    ·exact pW_told s3
    ·rw[List.mem_singleton.1 hp];exact pN_told n.1 n.2
  ·rw[List.mem_singleton.1 hp];exact pW_told h3
 | txn d f q n T K=>
  obtain⟨h1,h2,h3,-,-⟩:=h;rcases List.mem_cons.1 hp with rfl|hp
  ·exact pD_told h1
  rcases List.mem_cons.1 hp with rfl|hp
  ·cases f with
   | true=>exact pW_told s2
   | false=>exact pW_told s1
  rcases List.mem_append.1 hp with hp|hp
  ·split at hp
   ·cases hp
   ·rw[List.mem_singleton.1 hp];exact pT_told _
  rcases List.mem_cons.1 hp with rfl|hp
  ·exact pT_told _
  rcases List.mem_append.1 hp with hp|hp
  ·obtain⟨x,hx,rfl⟩:=List.mem_map.1 hp
   exact pW_told (h2 x hx)
  ·obtain⟨x,hx,rfl⟩:=List.mem_map.1 hp
   exact pW_told (h3 x hx)
 | nte d a x=>
  obtain⟨h1,h2⟩:=h;simp only[pcs,List.mem_cons,List.not_mem_nil,or_false] at hp
  rcases hp with rfl|rfl|rfl|rfl
  ·exact pD_told h1
  ·exact pW_told w8
  ·exact pW_told h2
  ·exact pT_told _
 | opt n x=>
  simp only[pcs,List.mem_cons,List.not_mem_nil,or_false] at hp
  rcases hp with rfl|rfl|rfl
  ·exact pW_told w1
  ·exact pT_told _
  ·exact pT_told _
theorem wds_dr{d:Dr}(h:d.ok):Wds (drT d) (drW d):=wds_pcs (pcs d) (pcs_told h)
theorem txtD_len{i:Int}{k K:Nat}(h:Sz i k K):(txtD i k).length≤K+k+3:=by
 have h1:nd (i.natAbs/10^k)≤K+1:=by
  refine nd_le_of_lt K ?_;unfold Sz at h;rw[Nat.pow_add] at h;refine Nat.lt_of_lt_of_le ((Nat.div_lt_iff_lt_mul (Nat.pow_pos (by omega))).2 h) (Nat.pow_le_pow_right (by omega) (by omega))
 have h2:(beh k i.natAbs).length≤k+1:=by
  unfold beh;split
  ·exact Nat.zero_le _
  ·rw[List.length_cons,pad_len];exact Nat.le_refl _
 have h3:(sgT i).length≤1:=by unfold sgT;split<;>decide
 have h4:(txt (i.natAbs/10^k)).length=nd (i.natAbs/10^k):=rfl;rw[txtD_bod,List.length_append];unfold bod;rw[List.length_append];omega
theorem sz_zero(k:Nat):Sz 0 0 k:=Nat.pow_pos (by omega)
theorem dayT_len(d:Int×Int×Int):(dayT d).length≤10:=by
 cases h:Dat.ok8 d.1 d.2.1 d.2.2 with
 | true=>unfold dayT;rw[bs9_len,(Dat.told_day h).1];exact Nat.le_refl _
 | false=>unfold dayT;rw[Dat.text8_not h];exact Nat.zero_le _
theorem ws_tks(no:Int)(ts:List Wd)(hb:∀t∈ts,∀c∈t.2.1,c<256):Wgh.ws ((tks no ts).map tok) ((tks no ts).map tok).length=wgt ts:=by
 unfold Wgh.ws wgt;rw[List.take_length];induction ts with
 | nil=>rfl
 | cons t r ih=>
  have h1:=ih fun t ht=>hb t (List.mem_cons_of_mem _ ht)
  show(st9 t.2.1).size+11+_=t.2.1.length+11+_;rw[← bs9_len,bs9_st9 (hb t List.mem_cons_self)];exact congrArg (fun z=>t.2.1.length+11+z) h1
theorem err_all(L:List Tok):∀f:Nat,
  (∀{d a e p},facF L f d a=.inl (e,p)→e≠0)∧(∀{d a e p},proF L f d a=.inl (e,p)→e≠0)∧(∀{d i k a e p},proL L f d i k a=.inl (e,p)→e≠0)∧
  (∀{d a e p},sumF L f d a=.inl (e,p)→e≠0)∧(∀{d i k a e p},sumL L f d i k a=.inl (e,p)→e≠0):=by
 intro f;induction f with
 | zero=>
  refine⟨fun h=>?_,fun h=>?_,fun h=>?_,fun h=>?_,fun h=>?_⟩
  ·rw[facF] at h;cases h;decide
  ·rw[proF] at h;cases h;decide
  ·rw[proL] at h;cases h;decide
  ·rw[sumF] at h;cases h;decide
  ·rw[sumL] at h;cases h;decide
 | succ f ih=>
  obtain⟨ih1,ih2,ih3,ih4,ih5⟩:=ih;refine⟨fun {d a e p} h=>?_,fun {d a e p} h=>?_,fun {d i k a e p} h=>?_,fun {d a e p} h=>?_,fun {d i k a e p} h=>?_⟩
  ·rw[facF] at h
   split at h
   ·cases h;decide
   ·split at h
    ·split at h
     ·cases h;decide
     ·cases h
    ·split at h
     ·cases h;decide
     ·split at h
      ·cases h;decide
      ·split at h
       ·cases hr:sumF L f (d+1) (a+1) with
        | inl q=>
         rw[hr] at h;obtain⟨x,y⟩:=q;cases h
         exact ih4 hr
        | inr q=>
         obtain⟨x,y,z⟩:=q;rw[hr] at h;unfold Rs.shut at h;dsimp only at h
         split at h
         ·cases h
         ·cases h
          split<;>decide
       ·cases hr:facF L f (d+1) (a+1) with
        | inl q=>
         rw[hr] at h;obtain⟨x,y⟩:=q;cases h
         exact ih1 hr
        | inr q=>
         obtain⟨x,y,z⟩:=q;rw[hr] at h;cases h
  ·rw[proF] at h
   split at h
   ·rename_i hr
    cases h
    exact ih1 hr
   ·exact ih3 h
  ·rw[proL] at h
   split at h
   ·split at h
    ·rename_i hr
     cases h
     exact ih1 hr
    ·exact ih3 h
   ·split at h
    ·split at h
     ·rename_i hr
      cases h
      exact ih1 hr
     ·split at h
      ·cases h;decide
      ·exact ih3 h
    ·cases h
  ·rw[sumF] at h
   split at h
   ·rename_i hr
    cases h
    exact ih2 hr
   ·exact ih5 h
  ·rw[sumL] at h
   split at h
   ·split at h
    ·rename_i hr
     cases h
     exact ih2 hr
    ·exact ih5 h
   ·split at h
    ·split at h
     ·rename_i hr
      cases h
      exact ih2 hr
     ·exact ih5 h
    ·cases h
theorem SUM_bad{L:List Tok}{d a e p:Nat}(h:SUM L d a=.inl (e,p)):e≠0:=(err_all L _).2.2.2.1 h
section
variable {L:List Tok}{a e p b:Nat}
theorem amt_bad(h:amt L a=.inl (e,p)):e≠0:=by
 unfold amt at h;split at h
 ·rename_i hs
  cases h
  exact SUM_bad hs
 ·split at h
  ·cases h;decide
  ·split at h
   ·cases h
   ·cases h;decide
end
theorem dg_none:(dg (0:Int).natAbs).length≤900:=Nat.le_trans (sz_zero 0).nine (by decide)
section
variable {L:List Tok}{a b:Nat}{k:Int}{x:ByteArray}
theorem tkw_ok(h:tkw L a k=.inr (x,b)):∃t,L[a]?=some t∧t.1=k∧x=t.2∧b=a+1:=by
 unfold tkw at h;split at h
 ·cases h
 ·rename_i t ht
  split at h
  ·rename_i hk;cases h;exact⟨t,ht,hk,rfl,rfl⟩
  ·cases h
theorem tkw_bad{e p:Nat}(h:tkw L a k=.inl (e,p)):e≠0:=by
 unfold tkw at h;split at h
 ·cases h;decide
 ·split at h
  ·cases h
  ·cases h;decide
theorem tkw_prp(hL:PrpL L)(h:tkw L a k=.inr (x,b)):Prp k.toNat (bs9 x):=by
 obtain⟨t,ht,hk,rfl,-⟩:=tkw_ok h;rw[← hk];exact hL t (List.mem_of_getElem? ht)
theorem nmr_bad{e p:Nat}(h:nmr L a=.inl (e,p)):e≠0:=by
 unfold nmr at h;split at h
 ·rename_i hs;cases h;exact SUM_bad hs
 ·cases h
theorem amr_bad{e p:Nat}(h:amr L a=.inl (e,p)):e≠0:=by
 unfold amr at h;split at h
 ·rename_i hs;cases h;exact amt_bad hs
 ·cases h
theorem amr_cur(hL:PrpL L){n:Int×Nat×ByteArray}(h:amr L a=.inr (n,b)):Prp 3 (bs9 n.2.2):=by
 unfold amr at h;split at h
 ·cases h
 ·rename_i ha
  cases h
  unfold amt at ha;split at ha
  ·cases ha
  ·split at ha
   ·cases ha
   ·rename_i t ht
    split at ha
    ·rename_i h3
     cases ha
     have:=hL t (List.mem_of_getElem? ht);rw[h3] at this;exact this
    ·cases ha
theorem curL_ok(hL:PrpL L):∀(f:Nat) {a b:Nat}{cs:List ByteArray},curL L f a=.inr (cs,b)→∀c∈cs,Prp 3 (bs9 c)
 | 0,a,b,cs,h,c,hc=>by rw[curL] at h;cases h;cases hc
 | f+1,a,b,cs,h,c,hc=>by
  rw[curL] at h;split at h
  ·obtain⟨x,a1,h1,h⟩:=thn_ok h
   obtain⟨xs,a2,h2,h⟩:=thn_ok h;cases h
   rcases List.mem_cons.1 hc with rfl|hc
   ·exact tkw_prp hL h1
   ·exact curL_ok hL f h2 c hc
  ·cases h;cases hc
theorem curL_bad:∀(f:Nat) {a e p:Nat},curL L f a=.inl (e,p)→e≠0
 | 0,a,e,p,h=>by rw[curL] at h;cases h
 | f+1,a,e,p,h=>by
  rw[curL] at h;split at h
  ·exact thn_bad h tkw_bad fun h=>thn_bad h (curL_bad f) fun h=>by cases h
  ·cases h
theorem curs_ok(hL:PrpL L){cs:List ByteArray}(h:curs L a=.inr (cs,b)):∀c∈cs,Prp 3 (bs9 c):=by
 unfold curs at h;split at h
 ·obtain⟨x,a1,h1,h⟩:=thn_ok h
  obtain⟨xs,a2,h2,h⟩:=thn_ok h;cases h
  intro c hc;rcases List.mem_cons.1 hc with rfl|hc
  ·exact tkw_prp hL h1
  ·exact curL_ok hL _ h2 c hc
 ·cases h;intro c hc;cases hc
theorem curs_bad{e p:Nat}(h:curs L a=.inl (e,p)):e≠0:=by
 unfold curs at h;split at h
 ·exact thn_bad h tkw_bad fun h=>thn_bad h (curL_bad _) fun h=>by cases h
 ·cases h
theorem mth_le{y:List Nat}{m:Nat}(h:mth y=some m):m≤4∧y=mthT m:=by
 unfold mth at h;split at h
 ·rename_i e;cases h;exact⟨by decide,e⟩
 split at h
 ·rename_i e;cases h;exact⟨by decide,e⟩
 split at h
 ·rename_i e;cases h;exact⟨by decide,e⟩
 split at h
 ·rename_i e;cases h;exact⟨by decide,e⟩
 split at h
 ·rename_i e;cases h;exact⟨by decide,e⟩
 ·cases h
theorem mthO_le{m:Nat}(h:mthO L a=some m):m≤4:=by
 unfold mthO at h;cases ht:L[a]? with
 | none=>rw[ht] at h;cases h
 | some t=>rw[ht] at h;exact(mth_le h).1
theorem adds_mem{l:List ByteArray}{s y:ByteArray}(h:y∈adds l s):y∈l∨y=s:=by
 unfold adds at h;split at h
 ·exact .inl h
 ·rcases List.mem_append.1 h with h|h
  ·exact .inl h
  ·exact .inr (List.mem_singleton.1 h)
theorem adds_nodup{l:List ByteArray}{s:ByteArray}(h:(l.map bs9).Nodup):((adds l s).map bs9).Nodup:=by
 unfold adds;split
 ·exact h
 ·rename_i hn
  rw[List.map_append,List.nodup_append];refine⟨h,List.nodup_cons.2 ⟨List.not_mem_nil,List.nodup_nil⟩,fun y hy z hz=>?_⟩;intro e;subst e;obtain⟨u,hu,rfl⟩:=List.mem_map.1 hy;have:bs9 u=bs9 s:=List.mem_singleton.1 hz;exact hn (List.any_eq_true.2 ⟨u,hu,decide_eq_true this⟩)
theorem rTgs_ok(hL:PrpL L):∀(f:Nat) {T K:List ByteArray}{a:Nat},(∀y∈T,Prp 6 (bs9 y))→(∀y∈K,Prp 7 (bs9 y))→(T.map bs9).Nodup→(K.map bs9).Nodup→
  (∀y∈(rTgs L f T K a).1.1,Prp 6 (bs9 y))∧(∀y∈(rTgs L f T K a).1.2,Prp 7 (bs9 y))∧((rTgs L f T K a).1.1.map bs9).Nodup∧((rTgs L f T K a).1.2.map bs9).Nodup
 | 0,T,K,a,h1,h2,h3,h4=>⟨h1,h2,h3,h4⟩
 | f+1,T,K,a,h1,h2,h3,h4=>by
  rw[rTgs];split
  ·exact⟨h1,h2,h3,h4⟩
  ·rename_i t ht
   have hp:=hL t (List.mem_of_getElem? ht);split
   ·rename_i h6
    rw[h6] at hp;refine rTgs_ok hL f (fun y hy=>?_) h2 (adds_nodup h3) h4;rcases adds_mem hy with h|rfl
    ·exact h1 y h
    ·exact hp
   ·split
    ·rename_i h7
     rw[h7] at hp;refine rTgs_ok hL f h1 (fun y hy=>?_) h3 (adds_nodup h4);rcases adds_mem hy with h|rfl
     ·exact h2 y h
     ·exact hp
    ·exact⟨h1,h2,h3,h4⟩
theorem rTol_ok{t:Option (Int×Nat)}(h:rTol L a=.inr (t,b)):∀n,t=some n→0≤n.1:=by
 unfold rTol at h;split at h
 ·obtain⟨n,a1,-,h⟩:=thn_ok h
  split at h
  ·cases h
  ·rename_i hn;cases h;intro m e;cases e;omega
 ·cases h;intro m e;cases e
theorem rTol_bad{e p:Nat}(h:rTol L a=.inl (e,p)):e≠0:=by
 unfold rTol at h;split at h
 ·exact thn_bad h nmr_bad fun h=>by
   split at h
   ·cases h;decide
   ·cases h
 ·cases h
theorem rst_bad{d:Int×Int×Int}{w:List Nat}{e p:Nat}(h:rest15 L d w a=.inl (e,p)):e≠0:=by
 unfold rest15 at h;split at h
 ·unfold rOpen at h
  exact thn_bad h tkw_bad fun h=>thn_bad h curs_bad fun h=>by
   split at h
   ·split at h
    ·cases h;decide
    ·cases h
   ·cases h
 split at h
 ·exact thn_bad h tkw_bad fun h=>by cases h
 split at h
 ·exact thn_bad h tkw_bad fun h=>by cases h
 split at h
 ·exact thn_bad h tkw_bad fun h=>thn_bad h amr_bad fun h=>by cases h
 split at h
 ·exact thn_bad h tkw_bad fun h=>thn_bad h tkw_bad fun h=>by cases h
 split at h
 ·unfold rBal at h
  exact thn_bad h tkw_bad fun h=>thn_bad h nmr_bad fun h=>thn_bad h rTol_bad fun h=>thn_bad h tkw_bad fun h=>by cases h
 split at h
 ·exact thn_bad h tkw_bad fun h=>thn_bad h tkw_bad fun h=>by cases h
 split at h
 ·cases h
 split at h
 ·cases h
 ·cases h;decide
theorem fin_bad{r:RH Dr}{e p:Nat}(h:fin15 L r=.inl (e,p))(hr:∀{e p},r=.inl (e,p)→e≠0):e≠0:=
 thn_bad h hr fun h=>by
  split at h
  ·cases h;decide
  ·cases h
theorem hd_bad{e p:Nat}(h:hd L=.inl (e,p)):e≠0:=by
 unfold hd at h;split at h
 ·cases h;decide
 split at h
 ·exact fin_bad h fun h=>thn_bad h tkw_bad fun h=>thn_bad h tkw_bad fun h=>by cases h
 split at h
 ·split at h
  ·split at h
   ·cases h;decide
   split at h
   ·exact fin_bad h rst_bad
   ·cases h;decide
  ·cases h;decide
 ·cases h;decide
theorem fin_ok{r:RH Dr}{d:Dr}(h:fin15 L r=.inr (d,a)):r=.inr (d,a)∧L.length≤a:=by
 obtain⟨x,b,h1,h⟩:=thn_ok h;split at h
 ·cases h
 ·cases h;exact⟨h1,by omega⟩
theorem rst_ok(hL:PrpL L){d:Int×Int×Int}(hd:Dat.ok8 d.1 d.2.1 d.2.2=true){w:List Nat}{r:Dr}(h:rest15 L d w a=.inr (r,b)):r.ok:=by
 unfold rest15 at h;split at h
 ·unfold rOpen at h
  obtain⟨x,a1,h1,h⟩:=thn_ok h;obtain⟨cs,a2,h2,h⟩:=thn_ok h;split at h
  ·split at h
   ·cases h
   ·rename_i hm
    cases h
    exact⟨hd,tkw_prp hL h1,curs_ok hL h2,mthO_le hm⟩
  ·cases h
   exact⟨hd,tkw_prp hL h1,curs_ok hL h2,Nat.zero_le _⟩
 split at h
 ·obtain⟨x,a1,h1,h⟩:=thn_ok h
  cases h;exact⟨hd,tkw_prp hL h1⟩
 split at h
 ·obtain⟨x,a1,h1,h⟩:=thn_ok h
  cases h;exact⟨hd,tkw_prp hL h1⟩
 split at h
 ·obtain⟨x,a1,h1,h⟩:=thn_ok h
  obtain⟨n,a2,h2,h⟩:=thn_ok h;cases h;exact⟨hd,tkw_prp hL h1,amr_cur hL h2⟩
 split at h
 ·obtain⟨x,a1,h1,h⟩:=thn_ok h
  obtain⟨y,a2,h2,h⟩:=thn_ok h;cases h;exact⟨hd,tkw_prp hL h1,tkw_prp hL h2⟩
 split at h
 ·unfold rBal at h
  obtain⟨x,a1,h1,h⟩:=thn_ok h;obtain⟨n,a2,h2,h⟩:=thn_ok h;obtain⟨t,a3,h3,h⟩:=thn_ok h;obtain⟨c,a4,h4,h⟩:=thn_ok h;cases h;exact⟨hd,tkw_prp hL h1,rTol_ok h3,tkw_prp hL h4⟩
 split at h
 ·obtain⟨x,a1,h1,h⟩:=thn_ok h
  obtain⟨y,a2,h2,h⟩:=thn_ok h;cases h;exact⟨hd,tkw_prp hL h1⟩
 have tg:=fun a=>rTgs_ok hL (L.length+1) (T:=[]) (K:=[]) (a:=a) (fun y h=>by cases h) (fun y h=>by cases h) List.nodup_nil List.nodup_nil
 split at h
 ·unfold rTxn at h
  cases h;exact⟨hd,(tg _).1,(tg _).2.1,(tg _).2.2.1,(tg _).2.2.2⟩
 split at h
 ·unfold rTxn at h
  cases h;exact⟨hd,(tg _).1,(tg _).2.1,(tg _).2.2.1,(tg _).2.2.2⟩
 ·cases h
theorem hd_ok(hL:PrpL L){d:Dr}(h:hd L=.inr (d,a)):d.ok∧L.length≤a:=by
 unfold hd at h;split at h
 ·cases h
 rename_i t ht
 split at h
 ·obtain⟨h,ha⟩:=fin_ok h
  obtain⟨x,a1,h1,h⟩:=thn_ok h;obtain⟨y,a2,h2,h⟩:=thn_ok h;cases h;exact⟨trivial,ha⟩
 split at h
 ·split at h
  ·rename_i hp
   have hday:Dat.ok8 (pday t.2).1 (pday t.2).2.1 (pday t.2).2.2=true:=by
    unfold pday;rw[if_pos hp];unfold Dat.prOk at hp;rw[Bool.and_eq_true] at hp;exact hp.2
   split at h
   ·cases h
   split at h
   ·obtain⟨h,ha⟩:=fin_ok h
    exact⟨rst_ok hL hday h,ha⟩
   ·cases h
  ·cases h
 ·cases h
end
section
variable {L Q:List Tok}{a b:Nat}
theorem tkw_told{k:Nat}{x:List Nat}{m:Int}(h:L.drop a=tk (k,x)::Q)(hk:(k:Int)=m):tkw L a m=.inr (st9 x,a+1):=by
 unfold tkw;rw[dr_get h];dsimp only;rw[if_pos (show(tk (k,x)).1=m from hk)];rfl
theorem knd_told{k:Nat}{x:List Nat}(h:L.drop a=tk (k,x)::Q)(m:Int):knd L a m=decide ((k:Int)=m):=by
 unfold knd;rw[dr_get h];rfl
theorem knd_end(h:L.drop a=[])(m:Int):knd L a m=false:=by
 unfold knd;rw[List.getElem?_eq_none (List.drop_eq_nil_iff.1 h)];rfl
theorem nmr_told{i:Int}{k:Nat}(h:L.drop a=(tT i k).map tk++Q)(hq:∀cc,cc=43∨cc=45∨cc=42∨cc=47→isAt L (a+(tT i k).length) cc=false):nmr L a=.inr ((i,k),a+(tT i k).length):=by
 have f0:=fac_val (d:=0) h (by decide);rw[List.length_map] at f0;have P0:PRO L 0 a=.inr (i,k,a+(tT i k).length):=by rw[PRO_go f0,PROL_end (hq 42 (by decide)) (hq 47 (by decide))]
 have S0:SUM L 0 a=.inr (i,k,a+(tT i k).length):=by rw[SUM_go P0,SUML_end (hq 43 (by decide)) (hq 45 (by decide))]
 unfold nmr;rw[S0]
theorem amr_told{i:Int}{k:Nat}{x:List Nat}(h:L.drop a=(tT i k).map tk++(tk (3,x)::Q)):amr L a=.inr ((i,k,st9 x),a+(tT i k).length+1):=by
 unfold amr;rw[amt_told h]
def moreW:List ByteArray→List (Nat×List Nat)
 | []=>[]
 | y::r=>(10,[44])::(3,bs9 y)::moreW r
theorem curW_eq:∀(x:ByteArray) (r:List ByteArray),(curP (x::r)).flatMap (·.w)=(3,bs9 x)::moreW r
 | x,[]=>rfl
 | x,y::r=>by
  show [(3,bs9 x),(10,[44])]++(curP (y::r)).flatMap (·.w)=_;rw[curW_eq y r];rfl
theorem moreW_len:∀r:List ByteArray,(moreW r).length=2*r.length
 | []=>rfl
 | y::r=>by show(moreW r).length+1+1=_;rw[moreW_len r,List.length_cons];omega
def NoC(Q:List Tok):Prop:=∀t,Q.head?=some t→t.1≠10∧t.1≠3
theorem noc_is(h:L.drop a=Q)(hq:NoC Q):isW L a [44]=false∧knd L a 3=false:=by
 cases Q with
 | nil=>exact⟨isW_end h _,knd_end h 3⟩
 | cons t Q=>
  obtain⟨h1,h2⟩:=hq t rfl;refine⟨?_,?_⟩
  ·unfold isW;rw[dr_get h]
   show(decide (t.1=10)&&_)=false;rw[decide_eq_false h1];rfl
  ·unfold knd;rw[dr_get h]
   exact decide_eq_false h2
theorem curL_told(hq:NoC Q):∀(r:List ByteArray) {f a:Nat},r.length≤f→L.drop a=(moreW r).map tk++Q→curL L f a=.inr (r,a+2*r.length)
 | [],f,a,hf,h=>by
  have hw:=(noc_is h hq).1;cases f with
  | zero=>rfl
  | succ f=>rw[curL,if_neg (by rw[hw];decide)];rfl
 | y::r,0,a,hf,h=>absurd hf (by rw[List.length_cons];omega)
 | y::r,f+1,a,hf,h=>by
  have h0:L.drop a=tk (10,[44])::(tk (3,bs9 y)::((moreW r).map tk++Q)):=h;have h1:=dr_one h0;have h2:=dr_one h1;rw[curL,if_pos (by rw[isW_tk h0 (by decide)];rfl),thn_go (tkw_told (m:=3) h1 rfl),thn_go (curL_told hq r (by rw[List.length_cons] at hf;omega) h2),st9_bs9,List.length_cons];rw[show a+1+1+2*r.length=a+2*(r.length+1) by omega]
theorem curs_told(hq:NoC Q){cs:List ByteArray}(h:L.drop a=((curP cs).flatMap (·.w)).map tk++Q):curs L a=.inr (cs,a+((curP cs).flatMap (·.w)).length):=by
 unfold curs;cases cs with
 | nil=>
  rw[if_neg (by rw[(noc_is h hq).2];decide)];rfl
 | cons x r=>
  rw[curW_eq] at h ⊢;have h0:L.drop a=tk (3,bs9 x)::((moreW r).map tk++Q):=h;have hl:r.length≤L.length:=by
   have h9:=congrArg List.length h0;rw[List.length_drop,List.length_cons,List.length_append,List.length_map,moreW_len] at h9;omega
  rw[if_pos (by rw[knd_told h0];rfl),thn_go (tkw_told (m:=3) h0 rfl),thn_go (curL_told hq r hl (dr_one h0)),st9_bs9,List.length_cons,moreW_len];rw[show a+1+2*r.length=a+(2*r.length+1) by omega]
theorem adds_new{l:List ByteArray}{s:ByteArray}(h:bs9 s∉l.map bs9):adds l s=l++[s]:=by
 unfold adds;rw[if_neg];intro e;obtain⟨u,hu,hd⟩:=List.any_eq_true.1 e;exact h (List.mem_map.2 ⟨u,hu,of_decide_eq_true hd⟩)
theorem rTgs_links:∀(K:List ByteArray) {f a:Nat}{T0 K0:List ByteArray},K.length<f→((K0++K).map bs9).Nodup→L.drop a=(K.map fun x=>(7,bs9 x)).map tk→rTgs L f T0 K0 a=((T0,K0++K),a+K.length)
 | [],f,a,T0,K0,hf,hn,h=>by
  obtain⟨f,rfl⟩:∃g,f=g+1:=⟨f-1,by have:([]:List ByteArray).length=0:=rfl;omega⟩;rw[rTgs,List.getElem?_eq_none (List.drop_eq_nil_iff.1 h),List.append_nil];rfl
 | x::K,f,a,T0,K0,hf,hn,h=>by
  obtain⟨f,rfl⟩:∃g,f=g+1:=⟨f-1,by rw[List.length_cons] at hf;omega⟩;have h0:L.drop a=tk (7,bs9 x)::(K.map fun x=>(7,bs9 x)).map tk:=h;have hx:bs9 x∉K0.map bs9:=by
   rw[List.map_append,List.nodup_append] at hn;intro e;exact hn.2.2 _ e (bs9 x) List.mem_cons_self rfl
  have e:adds K0 (tk (7,bs9 x)).2=K0++[x]:=by
   show adds K0 (st9 (bs9 x))=_;rw[st9_bs9,adds_new hx]
  rw[rTgs,dr_get h0];dsimp only
  rw[if_neg (tk_ne (by decide)),if_pos (show(tk (7,bs9 x)).1=7 from rfl),e,rTgs_links K (by rw[List.length_cons] at hf;omega) (by rw[List.append_assoc];exact hn) (dr_one h0),List.append_assoc,List.length_cons];rw[show a+1+K.length=a+(K.length+1) by omega];rfl
theorem rTgs_told(K:List ByteArray):∀(T:List ByteArray) {f a:Nat}{T0:List ByteArray},T.length+K.length<f→((T0++T).map bs9).Nodup→(K.map bs9).Nodup→L.drop a=(T.map fun x=>(6,bs9 x)).map tk++(K.map fun x=>(7,bs9 x)).map tk→rTgs L f T0 [] a=((T0++T,K),a+T.length+K.length)
 | [],f,a,T0,hf,hn,hk,h=>by
  rw[rTgs_links (L:=L) K (T0:=T0) (K0:=[]) (by have:([]:List ByteArray).length=0:=rfl;omega) hk h,List.append_nil];rfl
 | x::T,f,a,T0,hf,hn,hk,h=>by
  obtain⟨f,rfl⟩:∃g,f=g+1:=⟨f-1,by rw[List.length_cons] at hf;omega⟩;have h0:L.drop a=tk (6,bs9 x)::((T.map fun x=>(6,bs9 x)).map tk++(K.map fun x=>(7,bs9 x)).map tk):=h;have hx:bs9 x∉T0.map bs9:=by
   rw[List.map_append,List.nodup_append] at hn;intro e;exact hn.2.2 _ e (bs9 x) List.mem_cons_self rfl
  have e:adds T0 (tk (6,bs9 x)).2=T0++[x]:=by
   show adds T0 (st9 (bs9 x))=_;rw[st9_bs9,adds_new hx]
  rw[rTgs,dr_get h0];dsimp only
  rw[if_pos (show(tk (6,bs9 x)).1=6 from rfl),e,rTgs_told K T (by rw[List.length_cons] at hf;omega) (by rw[List.append_assoc];exact hn) hk (dr_one h0),List.append_assoc,List.length_cons];rw[show a+1+T.length+K.length=a+(T.length+1)+K.length by omega];rfl
theorem mth_back{m:Nat}(h:m≤4):mth (mthT m)=some m∧∀c∈mthT m,c<256:=by
 obtain rfl|rfl|rfl|rfl|rfl:m=0∨m=1∨m=2∨m=3∨m=4:=by omega
 all_goals decide
theorem hd_day{d:Int×Int×Int}{kw:Nat}{w:List Nat}(hk:kw=8∨kw=10)(h0:L.drop 0=tk (1,dayT d)::(tk (kw,w)::Q))(hd8:Dat.ok8 d.1 d.2.1 d.2.2=true)(hw:∀c∈w,c<256):hd L=fin15 L (rest15 L d w 2):=by
 obtain⟨h1,h2,h3,-⟩:=day_told hd8;have hp:Dat.prOk (st9 (dayT d))=true:=by
  rw[← d12_is,bs9_st9 (l:=dayT d) (by unfold dayT;exact bs9_lt _)];exact h1
 unfold hd;rw[dr_get h0];dsimp only
 rw[if_neg (fun q=>tk_ne (k:=1) (x:=dayT d) (m:=8) (by decide) q.1),if_pos (show(tk (1,dayT d)).1=1 from rfl),if_pos (show Dat.prOk (tk (1,dayT d)).2=true from hp),dr_get (dr_one h0)];dsimp only
 rw[if_pos (show(tk (kw,w)).1=8∨(tk (kw,w)).1=10 by rcases hk with rfl|rfl;exact .inl rfl;exact .inr rfl),show pday (tk (1,dayT d)).2=d from h3,show bs9 (tk (kw,w)).2=w from bs9_st9 hw]
theorem fin_told{r:RH Dr}{d:Dr}(h:r=.inr (d,L.length)):fin15 L r=.inr (d,L.length):=by
 unfold fin15;rw[thn_go h,if_neg (Nat.lt_irrefl _)]
theorem bsst(s:ByteArray):st9 (bs9 s)=s:=st9_bs9 s
end
section
variable {L:List Tok}
theorem r_open(d:Int×Int×Int)(a:Nat):rest15 L d wOpen a=rOpen L d a:=by unfold rest15;rw[if_pos rfl]
theorem r_close(d:Int×Int×Int)(a:Nat):rest15 L d wClose a=thn (tkw L a 2) fun ac a=>.inr (.cls d ac,a):=by unfold rest15;rw[if_neg (by decide),if_pos rfl]
theorem r_com(d:Int×Int×Int)(a:Nat):rest15 L d wCommodity a=thn (tkw L a 3) fun c a=>.inr (.com d c,a):=by unfold rest15;rw[if_neg (by decide),if_neg (by decide),if_pos rfl]
theorem r_price(d:Int×Int×Int)(a:Nat):rest15 L d wPrice a=thn (tkw L a 3) fun c a=>thn (amr L a) fun n a=>.inr (.prc d c n.1 n.2.1 n.2.2,a):=by unfold rest15;rw[if_neg (by decide),if_neg (by decide),if_neg (by decide),if_pos rfl]
theorem r_pad(d:Int×Int×Int)(a:Nat):rest15 L d wPad a=thn (tkw L a 2) fun x a=>thn (tkw L a 2) fun y a=>.inr (.pad d x y,a):=by unfold rest15;rw[if_neg (by decide),if_neg (by decide),if_neg (by decide),if_neg (by decide),if_pos rfl]
theorem r_bal(d:Int×Int×Int)(a:Nat):rest15 L d wBalance a=rBal L d a:=by unfold rest15;rw[if_neg (by decide),if_neg (by decide),if_neg (by decide),if_neg (by decide),if_neg (by decide),if_pos rfl]
theorem r_note(d:Int×Int×Int)(a:Nat):rest15 L d wNote a=thn (tkw L a 2) fun x a=>thn (tkw L a 5) fun y a=>.inr (.nte d x y,a):=by unfold rest15;rw[if_neg (by decide),if_neg (by decide),if_neg (by decide),if_neg (by decide),if_neg (by decide),if_neg (by decide),if_pos rfl]
theorem r_star(d:Int×Int×Int)(a:Nat):rest15 L d [42] a=rTxn L d false a:=by unfold rest15;rw[if_neg (by decide),if_neg (by decide),if_neg (by decide),if_neg (by decide),if_neg (by decide),if_neg (by decide),if_neg (by decide),if_pos (.inr rfl)]
theorem r_bang(d:Int×Int×Int)(a:Nat):rest15 L d [33] a=rTxn L d true a:=by unfold rest15;rw[if_neg (by decide),if_neg (by decide),if_neg (by decide),if_neg (by decide),if_neg (by decide),if_neg (by decide),if_neg (by decide),if_neg (by decide),if_pos rfl]
theorem bytes_lit:(∀c∈wOpen,c<256)∧(∀c∈wClose,c<256)∧(∀c∈wCommodity,c<256)∧(∀c∈wPrice,c<256)∧(∀c∈wPad,c<256)∧(∀c∈wBalance,c<256)∧(∀c∈wNote,c<256)∧(∀c∈wOption,c<256):=by decide
end
theorem noc_nil:NoC []:=fun t h=>by cases h
theorem noc_text(y:List Nat)(Q:List Tok):NoC (tk (5,y)::Q):=fun t h=>by
 obtain rfl:=Option.some.inj h;exact⟨tk_ne (by decide),tk_ne (by decide)⟩
theorem len0{L M:List Tok}(h:L.drop 0=M):L.length=M.length:=by rw[← h,List.drop_zero]
theorem op_cur{L Q:List Tok}{b:Nat}{x:List Nat}(h:L.drop b=tk (3,x)::Q):∀cc,cc=43∨cc=45∨cc=42∨cc=47→isAt L b cc=false:=fun cc _=>by rw[dr_is h];exact cur_end cc
theorem op_til{L Q:List Tok}{b:Nat}(h:L.drop b=tk (10,[126])::Q):∀cc,cc=43∨cc=45∨cc=42∨cc=47→isAt L b cc=false:=fun cc hc=>by
 rw[dr_is h,isg_tk 126 cc (by decide)];exact decide_eq_false (by omega)
theorem hd_told{d:Dr}(h:d.ok){L:List Tok}(hL:L=(drW d).map tk):hd L=.inr (d,L.length):=by
 obtain⟨b1,b2,b3,b4,b5,b6,b7,b8⟩:=bytes_lit;have hz:L.drop 0=(drW d).map tk:=hL;clear hL;cases d with
 | opn d a cs b=>
  obtain⟨h1,-,-,hb⟩:=h;have h0:L.drop 0=tk (1,dayT d)::(tk (8,wOpen)::(tk (2,bs9 a)::(((curP cs).flatMap (·.w)).map tk++((if b=0 then [] else [pW 5 (mthT b)]).flatMap (·.w)).map tk))):=by
   rw[hz];show(drW (.opn d a cs b)).map tk=_;unfold drW pcs;rw[List.flatMap_cons,List.flatMap_cons,List.flatMap_cons,List.flatMap_append];simp only[pD,pW,List.map_append,List.map_cons,List.map_nil]
   rfl
  have g2:=dr_one (dr_one h0);have g3:=dr_one g2;have ll:=len0 h0;rw[hd_day (.inl rfl) h0 h1 b1,r_open];refine fin_told ?_;unfold rOpen;rw[thn_go (tkw_told (m:=2) g2 rfl),bsst];by_cases hb0:b=0
  ·rw[if_pos hb0,List.flatMap_nil,List.map_nil] at g3
   rw[thn_go (curs_told noc_nil g3)];have ge:=dr_app g3 (by rw[List.length_map]);rw[if_neg (by rw[knd_end ge];decide),hb0];rw[hb0,if_pos rfl] at ll;rw[ll];simp only[List.length_cons,List.length_append,List.length_map,List.flatMap_nil,List.map_nil,List.length_nil]
   congr 2;omega
  ·have e:([pW 5 (mthT b)].flatMap (·.w)).map tk=[tk (5,mthT b)]:=rfl
   rw[if_neg hb0,e] at g3;rw[thn_go (curs_told (noc_text _ _) g3)];have ge:=dr_app g3 (by rw[List.length_map]);have hm:mthO L (2+1+((curP cs).flatMap (·.w)).length)=some b:=by
    unfold mthO;rw[dr_get ge];show mth (bs9 (st9 (mthT b)))=some b;rw[bs9_st9 (mth_back hb).2,(mth_back hb).1]
   rw[if_pos (by rw[knd_told ge];rfl),hm];dsimp only
   rw[if_neg hb0,e] at ll;rw[ll];simp only[List.length_cons,List.length_append,List.length_map,List.length_nil]
   congr 2;omega
 | cls d a=>
  obtain⟨h1,-⟩:=h;have h0:L.drop 0=tk (1,dayT d)::(tk (8,wClose)::(tk (2,bs9 a)::[])):=hz;have g2:=dr_one (dr_one h0);rw[hd_day (.inl rfl) h0 h1 b2,r_close];refine fin_told ?_;rw[thn_go (tkw_told (m:=2) g2 rfl),bsst,len0 h0];rfl
 | com d c=>
  obtain⟨h1,-⟩:=h;have h0:L.drop 0=tk (1,dayT d)::(tk (8,wCommodity)::(tk (3,bs9 c)::[])):=hz;have g2:=dr_one (dr_one h0);rw[hd_day (.inl rfl) h0 h1 b3,r_com];refine fin_told ?_;rw[thn_go (tkw_told (m:=3) g2 rfl),bsst,len0 h0];rfl
 | prc d c i k x=>
  obtain⟨h1,-⟩:=h;have h0:L.drop 0=tk (1,dayT d)::(tk (8,wPrice)::(tk (3,bs9 c)::((tT i k).map tk++(tk (3,bs9 x)::[])))):=by
   rw[hz];show(drW (.prc d c i k x)).map tk=_;unfold drW pcs;simp only[List.flatMap_cons,List.flatMap_nil,pD,pW,pN,List.map_append,List.map_cons,List.map_nil,List.append_nil]
   rfl
  have g2:=dr_one (dr_one h0);have g3:=dr_one g2;rw[hd_day (.inl rfl) h0 h1 b4,r_price];refine fin_told ?_;rw[thn_go (tkw_told (m:=3) g2 rfl),thn_go (amr_told g3),bsst,bsst,len0 h0];simp only[List.length_cons,List.length_append,List.length_map,List.length_nil]
  congr 2;omega
 | pad d a o=>
  obtain⟨h1,-⟩:=h;have h0:L.drop 0=tk (1,dayT d)::(tk (8,wPad)::(tk (2,bs9 a)::(tk (2,bs9 o)::[]))):=hz;have g2:=dr_one (dr_one h0);rw[hd_day (.inl rfl) h0 h1 b5,r_pad];refine fin_told ?_;rw[thn_go (tkw_told (m:=2) g2 rfl),thn_go (tkw_told (m:=2) (dr_one g2) rfl),bsst,bsst,len0 h0];rfl
 | bal d a i k t x=>
  obtain⟨h1,-,ht,-⟩:=h;cases t with
  | none=>
   have h0:L.drop 0=tk (1,dayT d)::(tk (8,wBalance)::(tk (2,bs9 a)::((tT i k).map tk++(tk (3,bs9 x)::[])))):=by
    rw[hz];show(drW (.bal d a i k none x)).map tk=_;unfold drW pcs;simp only[List.flatMap_cons,List.flatMap_nil,pD,pW,pN,List.map_append,List.map_cons,List.map_nil,List.append_nil,List.nil_append]
    rfl
   have g2:=dr_one (dr_one h0);have g3:=dr_one g2;have g4:=dr_app g3 (by rw[List.length_map]);rw[hd_day (.inl rfl) h0 h1 b6,r_bal];refine fin_told ?_;unfold rBal;rw[thn_go (tkw_told (m:=2) g2 rfl),thn_go (nmr_told g3 (op_cur g4))];unfold rTol;rw[if_neg (by rw[isW_kind g4 (by decide)];decide)];show thn (tkw L _ 3) _=_;rw[thn_go (tkw_told (m:=3) g4 rfl),bsst,bsst,len0 h0];simp only[List.length_cons,List.length_append,List.length_map,List.length_nil]
   congr 2;omega
  | some n=>
   obtain⟨j,s⟩:=n;have hj:0≤j:=ht (j,s) rfl;have h0:L.drop 0=tk (1,dayT d)::(tk (8,wBalance)::(tk (2,bs9 a)::((tT i k).map tk++(tk (10,[126])::((tT j s).map tk++(tk (3,bs9 x)::[])))))):=by
    rw[hz];show(drW (.bal d a i k (some (j,s)) x)).map tk=_;unfold drW pcs;simp only[List.flatMap_cons,List.flatMap_nil,List.flatMap_append,pD,pW,pN,List.map_append,List.map_cons,List.map_nil,List.append_nil]
    simp only[List.append_assoc,List.cons_append,List.nil_append]
   have g2:=dr_one (dr_one h0);have g3:=dr_one g2;have g4:=dr_app g3 (by rw[List.length_map]);have g5:=dr_one g4;have g6:=dr_app g5 (by rw[List.length_map]);rw[hd_day (.inl rfl) h0 h1 b6,r_bal];refine fin_told ?_;unfold rBal;rw[thn_go (tkw_told (m:=2) g2 rfl),thn_go (nmr_told g3 (op_til g4))];unfold rTol;rw[if_pos (by rw[isW_tk g4 (by decide)];rfl),thn_go (nmr_told g5 (op_cur g6)),if_neg (by show ¬j<0;omega)];show thn (tkw L _ 3) _=_;rw[thn_go (tkw_told (m:=3) g6 rfl),bsst,bsst,len0 h0];simp only[List.length_cons,List.length_append,List.length_map,List.length_nil]
   congr 2;omega
 | txn d f p n T K=>
  obtain⟨h1,-,-,hT,hK⟩:=h;have h0:L.drop 0=tk (1,dayT d)::(tk (10,if f=true then [33] else [42])::(((if bs9 p=[] then [] else [pW 5 (bs9 p)]).flatMap (·.w)).map tk++(tk (5,bs9 n)::((T.map fun x=>(6,bs9 x)).map tk++(K.map fun x=>(7,bs9 x)).map tk)))):=by
   rw[hz];show(drW (.txn d f p n T K)).map tk=_;unfold drW pcs;have e6:∀l:List ByteArray,(l.map fun x=>pW 6 (bs9 x)).flatMap (·.w)=l.map fun x=>(6,bs9 x):=fun l=>by induction l with|nil=>rfl|cons x l ih=>rw[List.map_cons,List.flatMap_cons,ih];rfl
   have e7:∀l:List ByteArray,(l.map fun x=>pW 7 (bs9 x)).flatMap (·.w)=l.map fun x=>(7,bs9 x):=fun l=>by induction l with|nil=>rfl|cons x l ih=>rw[List.map_cons,List.flatMap_cons,ih];rfl
   rw[List.flatMap_cons,List.flatMap_cons,List.flatMap_append,List.flatMap_cons,List.flatMap_append,e6,e7];simp only[pD,pW,List.map_append,List.map_cons,List.map_nil]
   rfl
  have hw:∀c∈(if f=true then [33] else [42]),c<256:=by cases f<;>decide
  have er:rest15 L d (if f=true then [33] else [42]) 2=rTxn L d f 2:=by
   cases f
   ·exact r_star d 2
   ·exact r_bang d 2
  rw[hd_day (.inr rfl) h0 h1 hw,er];refine fin_told ?_;have ll:=len0 h0;have g2:=dr_one (dr_one h0);have key:∀b,L.drop b=tk (5,bs9 n)::((T.map fun x=>(6,bs9 x)).map tk++(K.map fun x=>(7,bs9 x)).map tk)→rTgs L (L.length+1) [] [] (b+1)=((T,K),L.length):=fun b hb=>by
   have hl:b+1+T.length+K.length=L.length:=by
    have h9:=congrArg List.length hb;rw[List.length_drop,List.length_cons,List.length_append,List.length_map,List.length_map,List.length_map,List.length_map] at h9;omega
   rw[rTgs_told K T (T0:=[]) (by omega) hT hK (dr_one hb),List.nil_append,hl]
  have nx5:∀b,L.drop b=(T.map fun x=>(6,bs9 x)).map tk++(K.map fun x=>(7,bs9 x)).map tk→∀u,L[b]?=some u→u.1≠5:=fun b hb u hu=>by
   cases T with
   | cons y T=>rw[dr_get hb] at hu;cases hu;exact tk_ne (by decide)
   | nil=>
    cases K with
    | cons y K=>rw[dr_get hb] at hu;cases hu;exact tk_ne (by decide)
    | nil=>rw[List.getElem?_eq_none (List.drop_eq_nil_iff.1 hb)] at hu;cases hu
  by_cases hp:bs9 p=[]
  ·rw[if_pos hp,List.flatMap_nil,List.map_nil,List.nil_append] at g2
   have hx:rTxt L 2=((p,n),2+1):=by
    unfold rTxt;rw[dr_get g2];dsimp only
    rw[if_pos (show(tk (5,bs9 n)).1=5 from rfl)];have e:((⟨#[]⟩,(tk (5,bs9 n)).2):ByteArray×ByteArray)=(p,n):=by
     show((⟨#[]⟩:ByteArray),st9 (bs9 n))=_;rw[st9_bs9,← bs9_nil hp]
    split
    ·rw[e]
    ·rename_i u hu
     rw[if_neg (nx5 _ (dr_one g2) u hu),e]
   unfold rTxn;rw[hx];dsimp only
   rw[key 2 g2]
  ·have g2':L.drop 2=tk (5,bs9 p)::(tk (5,bs9 n)::((T.map fun x=>(6,bs9 x)).map tk++(K.map fun x=>(7,bs9 x)).map tk)):=by rw[if_neg hp] at g2;exact g2
   have g3:=dr_one g2';have hx:rTxt L 2=((p,n),2+2):=by
    unfold rTxt;rw[dr_get g2'];dsimp only
    rw[if_pos (show(tk (5,bs9 p)).1=5 from rfl),dr_get g3];dsimp only
    rw[if_pos (show(tk (5,bs9 n)).1=5 from rfl)];show((st9 (bs9 p),st9 (bs9 n)),2+2)=_;rw[st9_bs9,st9_bs9]
   unfold rTxn;rw[hx];dsimp only
   rw[show 2+2=2+1+1 from rfl,key (2+1) g3]
 | nte d a x=>
  obtain⟨h1,-⟩:=h;have h0:L.drop 0=tk (1,dayT d)::(tk (8,wNote)::(tk (2,bs9 a)::(tk (5,bs9 x)::[]))):=hz;have g2:=dr_one (dr_one h0);rw[hd_day (.inl rfl) h0 h1 b7,r_note];refine fin_told ?_;rw[thn_go (tkw_told (m:=2) g2 rfl),thn_go (tkw_told (m:=5) (dr_one g2) rfl),bsst,bsst,len0 h0];rfl
 | opt n x=>
  have h0:L.drop 0=tk (8,wOption)::(tk (5,bs9 n)::(tk (5,bs9 x)::[])):=hz;have g1:=dr_one h0;unfold hd;rw[dr_get h0];dsimp only
  rw[if_pos ⟨rfl,show bs9 (tk (8,wOption)).2=wOption from bs9_st9 b8⟩];refine fin_told ?_;rw[thn_go (tkw_told (m:=5) g1 rfl),thn_go (tkw_told (m:=5) (dr_one g1) rfl),bsst,bsst,len0 h0];rfl
namespace Byt
def bw(L:List Tok)(n:Nat):Nat:=((L.take n).map fun t=>max t.2.size 1).sum
theorem bw_step{L:List Tok}{n:Nat}{t:Tok}(h:L[n]?=some t):bw L (n+1)=bw L n+max t.2.size 1:=by
 unfold bw;rw[List.take_add_one,h,List.map_append,List.sum_append];show _+(max t.2.size 1+0)=_;omega
theorem bw_le {L : List Tok} {n m : Nat} (h : n ≤ m) : bw L n ≤ bw L m := by
  induction m with
  | zero => obtain rfl : n = 0 := by omega
            exact Nat.le_refl _
  | succ m ih =>
    rcases Nat.eq_or_lt_of_le h with rfl | h
    · exact Nat.le_refl _
    · refine Nat.le_trans (ih (by omega)) ?_
      unfold bw
      rw [List.take_add_one, List.map_append, List.sum_append]
      exact Nat.le_add_right _ _
theorem bw_lt{L:List Tok}{n m:Nat}(h:n<m)(hm:m≤L.length):bw L n+1≤bw L m:=by
 have h1:=bw_step (L:=L) (n:=n) (List.getElem?_eq_getElem (by omega));have h2:=bw_le (L:=L) (show n+1≤m from h);omega
def Grt(L:List Tok)(a b:Nat)(i:Int)(k:Nat):Prop:=a<b∧b≤L.length∧Sz i k (6*(bw L b-bw L a)-5)∧k≤6*(bw L b-bw L a)-5
theorem grt_all(L:List Tok):∀f:Nat,
  (∀{d a i k b},facF L f d a=.inr (i,k,b)→Grt L a b i k)∧(∀{d a i k b},proF L f d a=.inr (i,k,b)→Grt L a b i k)∧
  (∀{d j t a0 a i k b},proL L f d j t a=.inr (i,k,b)→Grt L a0 a j t→Grt L a0 b i k)∧(∀{d a i k b},sumF L f d a=.inr (i,k,b)→Grt L a b i k)∧
  (∀{d j t a0 a i k b},sumL L f d j t a=.inr (i,k,b)→Grt L a0 a j t→Grt L a0 b i k):=by
 intro f;induction f with
 | zero=>
  refine⟨fun h=>?_,fun h=>?_,fun h=>?_,fun h=>?_,fun h=>?_⟩
  ·rw[facF] at h;cases h
  ·rw[proF] at h;cases h
  ·rw[proL] at h;cases h
  ·rw[sumF] at h;cases h
  ·rw[sumL] at h;cases h
 | succ f ih=>
  obtain⟨ih1,ih2,ih3,ih4,ih5⟩:=ih;refine⟨fun {d a i k b} h=>?_,fun {d a i k b} h=>?_,fun {d j t a0 a i k b} h hg=>?_,fun {d a i k b} h=>?_,fun {d j t a0 a i k b} h hg=>?_⟩
  ·rw[facF] at h
   cases hl:L[a]? with
   | none=>rw[hl] at h;cases h
   | some t=>
    have ha:a<L.length:=(List.getElem?_eq_some_iff.1 hl).1;rw[hl] at h;dsimp only at h
    split at h
    ·split at h
     ·cases h
     ·rename_i hv
      obtain⟨h1,h2⟩:=Wgh.numV_size hv (Nat.le_refl _);cases h
      have w1:=bw_step hl;exact⟨by omega,by omega,h1.mono (by omega),by omega⟩
    ·split at h
     ·cases h
     ·split at h
      ·cases h
      ·split at h
       ·cases hr:sumF L f (d+1) (a+1) with
        | inl e=>rw[hr] at h;cases h
        | inr p=>
         obtain⟨x,y,z⟩:=p;rw[hr] at h;unfold Rs.shut at h;dsimp only at h
         obtain⟨g1,g2,g3,g4⟩:=ih4 hr;split at h
         ·rename_i hc
          cases h
          have:=isAt_lt hc;have w1:=bw_le (L:=L) (show a≤a+1 by omega);have w2:=bw_le (L:=L) (show z≤z+1 by omega);exact⟨by omega,by omega,g3.mono (by omega),by omega⟩
         ·cases h
       ·cases hr:facF L f (d+1) (a+1) with
        | inl e=>rw[hr] at h;cases h
        | inr p=>
         obtain⟨x,y,z⟩:=p;rw[hr] at h;obtain⟨g1,g2,g3,g4⟩:=ih1 hr;cases h
         have w1:=bw_le (L:=L) (show a≤a+1 by omega);refine⟨by omega,by omega,?_,by omega⟩;split
         ·exact g3.neg.mono (by omega)
         ·exact g3.mono (by omega)
  ·rw[proF] at h
   cases hr:facF L f d a with
   | inl e=>rw[hr] at h;cases h
   | inr p=>
    obtain⟨x,y,z⟩:=p;rw[hr] at h;exact ih3 h (ih1 hr)
  ·rw[proL] at h
   obtain⟨q1,q2,q3,q4⟩:=hg;split at h
   ·cases hr:facF L f d (a+1) with
    | inl e=>rw[hr] at h;cases h
    | inr p=>
     obtain⟨x,y,z⟩:=p;rw[hr] at h;obtain⟨g1,g2,g3,g4⟩:=ih1 hr;have w1:=bw_lt (L:=L) (show a<a+1 by omega) (by omega);have w2:=bw_le (L:=L) (show a0≤a by omega);have w3:=bw_le (L:=L) (show a+1≤z by omega);have w4:=bw_lt (L:=L) g1 (by omega);have w5:=bw_lt (L:=L) q1 (by omega);exact ih3 h ⟨by omega,by omega,(q3.mul g3).mono (by omega),by omega⟩
   ·split at h
    ·cases hr:facF L f d (a+1) with
     | inl e=>rw[hr] at h;cases h
     | inr p=>
      obtain⟨x,y,z⟩:=p;rw[hr] at h;dsimp only at h
      obtain⟨g1,g2,g3,g4⟩:=ih1 hr;split at h
      ·cases h
      ·rename_i hx
       obtain⟨r1,r2⟩:=quo_size (t:=y) q3 hx;have w1:=bw_lt (L:=L) (show a<a+1 by omega) (by omega);have w2:=bw_le (L:=L) (show a0≤a by omega);have w3:=bw_le (L:=L) (show a+1≤z by omega);have w4:=bw_lt (L:=L) g1 (by omega);have w5:=bw_lt (L:=L) q1 (by omega);exact ih3 h ⟨by omega,by omega,r1.mono (by omega),by omega⟩
    ·cases h;exact⟨q1,q2,q3,q4⟩
  ·rw[sumF] at h
   cases hr:proF L f d a with
   | inl e=>rw[hr] at h;cases h
   | inr p=>
    obtain⟨x,y,z⟩:=p;rw[hr] at h;exact ih5 h (ih2 hr)
  ·rw[sumL] at h
   obtain⟨q1,q2,q3,q4⟩:=hg;split at h
   ·cases hr:proF L f d (a+1) with
    | inl e=>rw[hr] at h;cases h
    | inr p=>
     obtain⟨x,y,z⟩:=p;rw[hr] at h;obtain⟨g1,g2,g3,g4⟩:=ih2 hr;have w1:=bw_lt (L:=L) (show a<a+1 by omega) (by omega);have w2:=bw_le (L:=L) (show a0≤a by omega);have w3:=bw_le (L:=L) (show a+1≤z by omega);have w4:=bw_lt (L:=L) g1 (by omega);have w5:=bw_lt (L:=L) q1 (by omega);exact ih5 h ⟨by omega,by omega,(q3.add g3).mono (by omega),by omega⟩
   ·split at h
    ·cases hr:proF L f d (a+1) with
     | inl e=>rw[hr] at h;cases h
     | inr p=>
      obtain⟨x,y,z⟩:=p;rw[hr] at h;obtain⟨g1,g2,g3,g4⟩:=ih2 hr;have w1:=bw_lt (L:=L) (show a<a+1 by omega) (by omega);have w2:=bw_le (L:=L) (show a0≤a by omega);have w3:=bw_le (L:=L) (show a+1≤z by omega);have w4:=bw_lt (L:=L) g1 (by omega);have w5:=bw_lt (L:=L) q1 (by omega);exact ih5 h ⟨by omega,by omega,(q3.sub g3).mono (by omega),by omega⟩
    ·cases h;exact⟨q1,q2,q3,q4⟩
section
variable {L:List Tok}{d a b a0 t:Nat}{i j:Int}{k:Nat}
theorem SUM_grt(h:SUM L d a=.inr (i,k,b)):Grt L a b i k:=(grt_all L _).2.2.2.1 h
end
end Byt
open Byt
def wgP(p:Pc):Nat:=(p.w.map fun u=>u.2.length+11).sum
def PC(p:Pc):Nat:=max (wgP p) (p.t.length+1)
def TC(P:List Pc):Nat:=(P.map PC).sum
theorem TC_app(P Q:List Pc):TC (P++Q)=TC P+TC Q:=by unfold TC;rw[List.map_append,List.sum_append]
theorem TC_cons(p:Pc)(P:List Pc):TC (p::P)=PC p+TC P:=rfl
theorem TC_nil:TC []=0:=rfl
theorem wg_pcs:∀P:List Pc,((P.flatMap (·.w)).map fun u=>u.2.length+11).sum≤TC P
 | []=>Nat.le_refl _
 | p::P=>by
  have:=wg_pcs P;rw[List.flatMap_cons,List.map_append,List.sum_append,TC_cons];have h2:wgP p≤PC p:=Nat.le_max_left _ _;unfold wgP at h2;omega
theorem len_pcs:∀P:List Pc,(jnB (P.map (·.t))).length≤TC P
 | []=>Nat.le_refl _
 | [p]=>by
  have h2:p.t.length+1≤PC p:=Nat.le_max_right _ _;show p.t.length≤PC p+0;omega
 | p::q::P=>by
  have:=len_pcs (q::P);have h2:p.t.length+1≤PC p:=Nat.le_max_right _ _;show(p.t++32::jnB ((q::P).map (·.t))).length≤PC p+TC (q::P);rw[List.length_append,List.length_cons];omega
theorem txt_lenk(k:Nat)(y:List Nat):(YthpmaoimceojgaaGreatDoor.txt k y).length≤2*y.length+2:=by
 unfold YthpmaoimceojgaaGreatDoor.txt;split
 ·exact qt_len y
 split
 ·rw[List.length_cons];omega
 split
 ·rw[List.length_cons];omega
 split
 ·rw[List.length_append,List.length_singleton];omega
 ·omega
theorem PC_word(k:Nat)(y:List Nat):PC (pW k y)≤12*max y.length 1:=by
 have:=txt_lenk k y;have h2:wgP (pW k y)=y.length+11:=by show y.length+11+0=_;omega
 unfold PC;rw[h2];show max _ ((YthpmaoimceojgaaGreatDoor.txt k y).length+1)≤_;omega
theorem PC_cur(y:List Nat):PC (pC y)≤12*max y.length 1+12:=by
 have h2:wgP (pC y)=y.length+23:=by show y.length+11+(1+11+0)=_;omega
 unfold PC;rw[h2];show max _ ((y++[44]).length+1)≤_;rw[List.length_append,List.length_singleton];omega
theorem bod_tT(i:Int)(k:Nat):wgP (pN i k)≤(Num.txtD i k).length+22:=by
 show((tT i k).map fun u=>u.2.length+11).sum≤_;rw[txtD_bod,List.length_append];unfold tT Num.sgT;split
 ·show 1+11+((bod i.natAbs k).length+11+0)≤_
  simp only[List.length_cons,List.length_nil]
  omega
 ·show(bod i.natAbs k).length+11+0≤_
  omega
theorem PC_num{i:Int}{k m:Nat}(h:Sz i k m)(hk:k≤m):PC (pN i k)≤2*m+25:=by
 have h1:=txtD_len h;have h2:=bod_tT i k;unfold PC;show max _ ((Num.txtD i k).length+1)≤_;omega
theorem PC_day(d:Int×Int×Int):PC (pD d)≤21:=by
 have h1:=dayT_len d;have h2:wgP (pD d)=(dayT d).length+11:=by show(dayT d).length+11+0=_;omega
 unfold PC;rw[h2];show max _ ((dayT d).length+1)≤_;omega
section
variable {L:List Tok}{a b:Nat}{k:Int}{x:ByteArray}
theorem tkw_cost(q:Nat)(h:tkw L a k=.inr (x,b)):PC (pW q (bs9 x))+12*bw L a≤12*bw L b:=by
 obtain⟨t,ht,-,rfl,rfl⟩:=tkw_ok h;have h1:=PC_word q (bs9 t.2);have h2:=bw_step ht;rw[bs9_len] at h1;omega
theorem nmr_cost{n:Int×Nat}(h:nmr L a=.inr (n,b)):PC (pN n.1 n.2)+12*bw L a≤12*bw L b+15∧Sz n.1 n.2 (6*(bw L b-bw L a)-5)∧n.2≤6*(bw L b-bw L a)-5∧a<b∧b≤L.length:=by
 unfold nmr at h;split at h
 ·cases h
 ·rename_i hs
  cases h
  obtain⟨q1,q2,q3,q4⟩:=Byt.SUM_grt hs;have h1:=PC_num q3 q4;have h2:=bw_lt q1 q2;exact⟨by dsimp only;omega,q3,q4,q1,q2⟩
theorem amr_cost{n:Int×Nat×ByteArray}(h:amr L a=.inr (n,b)):PC (pN n.1 n.2.1)+PC (pW 3 (bs9 n.2.2))+12*bw L a≤12*bw L b+15∧∃m,Sz n.1 n.2.1 m∧n.2.1≤m∧m+5≤6*bw L L.length:=by
 unfold amr at h;split at h
 ·cases h
 ·rename_i ha
  cases h
  unfold amt at ha;split at ha
  ·cases ha
  ·rename_i hs
   split at ha
   ·cases ha
   ·rename_i t ht
    split at ha
    ·cases ha
     obtain⟨q1,q2,q3,q4⟩:=Byt.SUM_grt hs;have h1:=PC_num q3 q4;have h2:=bw_lt q1 q2;have h3:=PC_word 3 (bs9 t.2);have h4:=bw_step ht;have h5:=bw_le (L:=L) q2;rw[bs9_len] at h3;refine⟨by dsimp only;omega,_,q3,q4,by omega⟩
    ·cases ha
theorem curP_cost(x:ByteArray)(r:List ByteArray):TC (curP (x::r))≤12*max (bs9 x).length 1+(r.map fun y=>12*max (bs9 y).length 1+12).sum:=by
 induction r generalizing x with
 | nil=>exact PC_word 3 (bs9 x)
 | cons y r ih=>
  have h1:=ih y;have h2:=PC_cur (bs9 x);show PC (pC (bs9 x))+TC (curP (y::r))≤_;rw[List.map_cons,List.sum_cons];omega
theorem isW_one{L:List Tok}{a:Nat}{y:List Nat}(h:isW L a y=true):∃t,L[a]?=some t∧bs9 t.2=y:=by
 unfold isW at h;cases ht:L[a]? with
 | none=>rw[ht] at h;cases h
 | some t=>
  rw[ht] at h;have h2:(decide (t.1=10)&&decide (bs9 t.2=y))=true:=h;rw[Bool.and_eq_true] at h2;exact⟨t,rfl,of_decide_eq_true h2.2⟩
theorem curL_cost:∀(f:Nat) {a b:Nat}{cs:List ByteArray},curL L f a=.inr (cs,b)→(cs.map fun y=>12*max (bs9 y).length 1+12).sum+12*bw L a≤12*bw L b
 | 0,a,b,cs,h=>by rw[curL] at h;cases h;exact Nat.le_of_eq (Nat.zero_add _)
 | f+1,a,b,cs,h=>by
  rw[curL] at h;split at h
  ·rename_i hw
   obtain⟨t,ht,-⟩:=isW_one hw;obtain⟨x,a1,h1,h⟩:=thn_ok h;obtain⟨xs,a2,h2,h⟩:=thn_ok h;cases h
   have g2:=curL_cost f h2;obtain⟨u,hu,-,rfl,rfl⟩:=tkw_ok h1;have s1:=bw_step ht;have s2:=bw_step hu;rw[List.map_cons,List.sum_cons,bs9_len];omega
  ·cases h;exact Nat.le_of_eq (Nat.zero_add _)
theorem curs_cost{cs:List ByteArray}(h:curs L a=.inr (cs,b)):TC (curP cs)+12*bw L a≤12*bw L b:=by
 unfold curs at h;split at h
 ·obtain⟨x,a1,h1,h⟩:=thn_ok h
  obtain⟨xs,a2,h2,h⟩:=thn_ok h;cases h
  have g1:=curP_cost x xs;have g2:=curL_cost _ h2;obtain⟨u,hu,-,rfl,rfl⟩:=tkw_ok h1;have s2:=bw_step hu;rw[bs9_len] at g1;omega
 ·cases h;exact Nat.le_of_eq (Nat.zero_add _)
theorem adds_cost(q:Nat)(l:List ByteArray)(s:ByteArray):TC ((adds l s).map fun x=>pW q (bs9 x))≤TC (l.map fun x=>pW q (bs9 x))+PC (pW q (bs9 s)):=by
 unfold adds;split
 ·omega
 ·rw[List.map_append,TC_app];exact Nat.le_refl _
theorem rTgs_cost:∀(f:Nat) {T K:List ByteArray}{a:Nat},TC ((rTgs L f T K a).1.1.map fun x=>pW 6 (bs9 x))+TC ((rTgs L f T K a).1.2.map fun x=>pW 7 (bs9 x))+12*bw L a≤TC (T.map fun x=>pW 6 (bs9 x))+TC (K.map fun x=>pW 7 (bs9 x))+12*bw L (rTgs L f T K a).2
 | 0,T,K,a=>Nat.le_refl _
 | f+1,T,K,a=>by
  rw[rTgs];split
  ·exact Nat.le_refl _
  ·rename_i t ht
   have s1:=bw_step ht;split
   ·have g:=rTgs_cost f (T:=adds T t.2) (K:=K) (a:=a+1)
    have g2:=adds_cost 6 T t.2;have g3:=PC_word 6 (bs9 t.2);rw[bs9_len] at g3;omega
   ·split
    ·have g:=rTgs_cost f (T:=T) (K:=adds K t.2) (a:=a+1)
     have g2:=adds_cost 7 K t.2;have g3:=PC_word 7 (bs9 t.2);rw[bs9_len] at g3;omega
    ·exact Nat.le_refl _
theorem PC_none:PC (pW 5 [])≤12:=PC_word 5 []
theorem rTxt_cases:(rTxt L a=((⟨#[]⟩,⟨#[]⟩),a))∨(∃t,L[a]?=some t∧rTxt L a=((⟨#[]⟩,t.2),a+1))∨(∃t u,L[a]?=some t∧L[a+1]?=some u∧rTxt L a=((t.2,u.2),a+2)):=by
 cases ht:L[a]? with
 | none=>exact .inl (by unfold rTxt;rw[ht])
 | some t=>
  by_cases h5:t.1=5
  ·cases hu:L[a+1]? with
   | none=>exact .inr (.inl ⟨t,rfl,by unfold rTxt;rw[ht];dsimp only;rw[if_pos h5,hu]⟩)
   | some u=>
    by_cases h5':u.1=5
    ·exact .inr (.inr ⟨t,u,rfl,rfl,by unfold rTxt;rw[ht];dsimp only;rw[if_pos h5,hu];dsimp only;rw[if_pos h5']⟩)
    ·exact .inr (.inl ⟨t,rfl,by unfold rTxt;rw[ht];dsimp only;rw[if_pos h5,hu];dsimp only;rw[if_neg h5']⟩)
  ·exact .inl (by unfold rTxt;rw[ht];dsimp only;rw[if_neg h5])
theorem tc_one(p:Pc):TC [p]=PC p:=by show PC p+0=_;omega
theorem tc_text(p n:ByteArray):TC ((if bs9 p=[] then [] else [pW 5 (bs9 p)])++[pW 5 (bs9 n)])≤PC (pW 5 (bs9 p))+PC (pW 5 (bs9 n)):=by
 rw[TC_app,tc_one];split
 ·rw[TC_nil];omega
 ·rw[tc_one];omega
theorem rTxt_cost:TC ((if bs9 (rTxt L a).1.1=[] then [] else [pW 5 (bs9 (rTxt L a).1.1)])++[pW 5 (bs9 (rTxt L a).1.2)])+12*bw L a≤12*bw L (rTxt L a).2+24:=by
 have g0:=PC_none;rcases rTxt_cases (L:=L) (a:=a) with h|⟨t,ht,h⟩|⟨t,u,ht,hu,h⟩
 ·rw[h]
  have:=tc_text ⟨#[]⟩ ⟨#[]⟩;rw[show PC (pW 5 (bs9 ⟨#[]⟩))=PC (pW 5 []) from rfl] at this;dsimp only
  omega
 ·rw[h]
  have:=tc_text ⟨#[]⟩ t.2;have s1:=bw_step ht;have g1:=PC_word 5 (bs9 t.2);rw[bs9_len] at g1;rw[show PC (pW 5 (bs9 ⟨#[]⟩))=PC (pW 5 []) from rfl] at this;dsimp only
  omega
 ·rw[h]
  have:=tc_text t.2 u.2;have s1:=bw_step ht;have s2:=bw_step hu;have g1:=PC_word 5 (bs9 t.2);have g2:=PC_word 5 (bs9 u.2);rw[bs9_len] at g1 g2;dsimp only
  rw[show a+2=a+1+1 from rfl];omega
theorem tkw_le(h:tkw L a k=.inr (x,b)):b≤L.length:=by
 obtain⟨t,ht,-,-,rfl⟩:=tkw_ok h;exact(List.getElem?_eq_some_iff.1 ht).1
theorem curL_le:∀(f:Nat) {a b:Nat}{cs:List ByteArray},a≤L.length→curL L f a=.inr (cs,b)→b≤L.length
 | 0,a,b,cs,ha,h=>by rw[curL] at h;cases h;exact ha
 | f+1,a,b,cs,ha,h=>by
  rw[curL] at h;split at h
  ·obtain⟨x,a1,h1,h⟩:=thn_ok h
   obtain⟨xs,a2,h2,h⟩:=thn_ok h;cases h
   exact curL_le f (tkw_le h1) h2
  ·cases h;exact ha
theorem curs_le{cs:List ByteArray}(ha:a≤L.length)(h:curs L a=.inr (cs,b)):b≤L.length:=by
 unfold curs at h;split at h
 ·obtain⟨x,a1,h1,h⟩:=thn_ok h
  obtain⟨xs,a2,h2,h⟩:=thn_ok h;cases h
  exact curL_le _ (tkw_le h1) h2
 ·cases h;exact ha
theorem rTxt_le(ha:a≤L.length):(rTxt L a).2≤L.length:=by
 rcases rTxt_cases (L:=L) (a:=a) with h|⟨t,ht,h⟩|⟨t,u,ht,hu,h⟩
 ·rw[h];exact ha
 ·rw[h];exact(List.getElem?_eq_some_iff.1 ht).1
 ·rw[h];exact(List.getElem?_eq_some_iff.1 hu).1
theorem rTgs_le:∀(f:Nat) {T K:List ByteArray}{a:Nat},a≤L.length→(rTgs L f T K a).2≤L.length
 | 0,T,K,a,ha=>ha
 | f+1,T,K,a,ha=>by
  rw[rTgs];split
  ·exact ha
  ·rename_i t ht
   have h1:a+1≤L.length:=(List.getElem?_eq_some_iff.1 ht).1;split
   ·exact rTgs_le f h1
   ·split
    ·exact rTgs_le f h1
    ·exact ha
theorem rest_le{d:Int×Int×Int}{w:List Nat}{r:Dr}(ha:a≤L.length)(h:rest15 L d w a=.inr (r,b)):b≤L.length:=by
 unfold rest15 at h;split at h
 ·unfold rOpen at h
  obtain⟨x,a1,h1,h⟩:=thn_ok h;obtain⟨cs,a2,h2,h⟩:=thn_ok h;have g:=curs_le (tkw_le h1) h2;split at h
  ·rename_i hk
   split at h
   ·cases h
   ·cases h
    unfold knd at hk;cases ht:L[a2]? with
    | none=>rw[ht] at hk;cases hk
    | some t=>exact(List.getElem?_eq_some_iff.1 ht).1
  ·cases h;exact g
 split at h
 ·obtain⟨x,a1,h1,h⟩:=thn_ok h
  cases h;exact tkw_le h1
 split at h
 ·obtain⟨x,a1,h1,h⟩:=thn_ok h
  cases h;exact tkw_le h1
 split at h
 ·obtain⟨x,a1,h1,h⟩:=thn_ok h
  obtain⟨n,a2,h2,h⟩:=thn_ok h;cases h
  unfold amr at h2;split at h2
  ·cases h2
  ·rename_i hq
   cases h2
   unfold amt at hq;split at hq
   ·cases hq
   ·split at hq
    ·cases hq
    ·rename_i t ht
     split at hq
     ·cases hq;exact(List.getElem?_eq_some_iff.1 ht).1
     ·cases hq
 split at h
 ·obtain⟨x,a1,h1,h⟩:=thn_ok h
  obtain⟨y,a2,h2,h⟩:=thn_ok h;cases h;exact tkw_le h2
 split at h
 ·unfold rBal at h
  obtain⟨x,a1,h1,h⟩:=thn_ok h;obtain⟨n,a2,h2,h⟩:=thn_ok h;obtain⟨t,a3,h3,h⟩:=thn_ok h;obtain⟨c,a4,h4,h⟩:=thn_ok h;cases h;exact tkw_le h4
 split at h
 ·obtain⟨x,a1,h1,h⟩:=thn_ok h
  obtain⟨y,a2,h2,h⟩:=thn_ok h;cases h;exact tkw_le h2
 split at h
 ·unfold rTxn at h
  cases h;exact rTgs_le _ (rTxt_le ha)
 split at h
 ·unfold rTxn at h
  cases h;exact rTgs_le _ (rTxt_le ha)
 ·cases h
theorem mth_pc{m:Nat}(h:m≤4):PC (pW 5 (mthT m))≤84:=by
 have h1:=PC_word 5 (mthT m);have h2:(mthT m).length≤7:=by
  obtain rfl|rfl|rfl|rfl|rfl:m=0∨m=1∨m=2∨m=3∨m=4:=by omega
  all_goals decide
 omega
theorem lit_pc:PC (pW 8 wOption)≤20∧PC (pW 8 wOpen)≤20∧PC (pW 8 wClose)≤20∧PC (pW 8 wCommodity)≤20∧PC (pW 8 wPrice)≤20∧PC (pW 8 wPad)≤20∧PC (pW 8 wBalance)≤20∧PC (pW 8 wNote)≤20∧PC (pW 10 [42])≤20∧PC (pW 10 [33])≤20∧PC (pW 10 [126])≤12:=by decide
def tolP:Option (Int×Nat)→List Pc
 | none=>[]
 | some n=>[pW 10 [126],pN n.1 n.2]
theorem pcs_bal(d:Int×Int×Int)(y:ByteArray)(i:Int)(k:Nat)(t:Option (Int×Nat))(z:ByteArray):pcs (.bal d y i k t z)=pD d::pW 8 wBalance::pW 2 (bs9 y)::pN i k::(tolP t++[pW 3 (bs9 z)]):=by cases t<;>rfl
theorem rTol_cost{t:Option (Int×Nat)}(h:rTol L a=.inr (t,b)):TC (tolP t)+12*bw L a≤12*bw L b+30:=by
 have l10:=lit_pc.2.2.2.2.2.2.2.2.2.2;unfold rTol at h;split at h
 ·obtain⟨m,a5,h5,h⟩:=thn_ok h
  split at h
  ·cases h
  ·cases h
   have c5:=(nmr_cost h5).1;have hl:bw L a≤bw L (a+1):=bw_le (by omega);show PC (pW 10 [126])+(PC (pN m.1 m.2)+0)+_≤_;omega
 ·cases h
  show 0+_≤_;omega
theorem rest_cost{d:Int×Int×Int}{w:List Nat}{r:Dr}(h:rest15 L d w a=.inr (r,b)):TC (pcs r)+12*bw L a≤12*bw L b+200:=by
 obtain⟨l0,l1,l2,l3,l4,l5,l6,l7,l8,l9,l10⟩:=lit_pc;have l0:=PC_day d;unfold rest15 at h;split at h
 ·unfold rOpen at h
  obtain⟨x,a1,h1,h⟩:=thn_ok h;obtain⟨cs,a2,h2,h⟩:=thn_ok h;have c1:=tkw_cost 2 h1;have c2:=curs_cost h2;have key:∀m,TC (pcs (.opn d x cs m))=PC (pD d)+(PC (pW 8 wOpen)+(PC (pW 2 (bs9 x))+(TC (curP cs)+TC (if m=0 then [] else [pW 5 (mthT m)])))):=fun m=>by
   unfold pcs;rw[TC_cons,TC_cons,TC_cons,TC_app]
  have km:∀m,m≤4→TC (if m=0 then [] else [pW 5 (mthT m)])≤84:=fun m hm=>by
   split
   ·exact Nat.zero_le _
   ·rw[tc_one];exact mth_pc hm
  split at h
  ·split at h
   ·cases h
   ·rename_i m hm
    cases h
    have:=km m (mthO_le hm);have hl:bw L a2≤bw L (a2+1):=bw_le (by omega);rw[key];omega
  ·cases h
   have:=km 0 (by omega);rw[key];omega
 split at h
 ·obtain⟨x,a1,h1,h⟩:=thn_ok h
  cases h
  have c1:=tkw_cost 2 h1;show PC (pD d)+(PC (pW 8 wClose)+(PC (pW 2 (bs9 x))+0))+_≤_;omega
 split at h
 ·obtain⟨x,a1,h1,h⟩:=thn_ok h
  cases h
  have c1:=tkw_cost 3 h1;show PC (pD d)+(PC (pW 8 wCommodity)+(PC (pW 3 (bs9 x))+0))+_≤_;omega
 split at h
 ·obtain⟨x,a1,h1,h⟩:=thn_ok h
  obtain⟨n,a2,h2,h⟩:=thn_ok h;cases h
  have c1:=tkw_cost 3 h1;have c2:=(amr_cost h2).1;show PC (pD d)+(PC (pW 8 wPrice)+(PC (pW 3 (bs9 x))+(PC (pN n.1 n.2.1)+(PC (pW 3 (bs9 n.2.2))+0))))+_≤_;omega
 split at h
 ·obtain⟨x,a1,h1,h⟩:=thn_ok h
  obtain⟨y,a2,h2,h⟩:=thn_ok h;cases h
  have c1:=tkw_cost 2 h1;have c2:=tkw_cost 2 h2;show PC (pD d)+(PC (pW 8 wPad)+(PC (pW 2 (bs9 x))+(PC (pW 2 (bs9 y))+0)))+_≤_;omega
 split at h
 ·unfold rBal at h
  obtain⟨x,a1,h1,h⟩:=thn_ok h;obtain⟨n,a2,h2,h⟩:=thn_ok h;obtain⟨t,a3,h3,h⟩:=thn_ok h;obtain⟨c,a4,h4,h⟩:=thn_ok h;cases h
  have c1:=tkw_cost 2 h1;have c2:=(nmr_cost h2).1;have c4:=tkw_cost 3 h4;have c3:=rTol_cost h3;rw[pcs_bal,TC_cons,TC_cons,TC_cons,TC_cons,TC_app,tc_one];omega
 split at h
 ·obtain⟨x,a1,h1,h⟩:=thn_ok h
  obtain⟨y,a2,h2,h⟩:=thn_ok h;cases h
  have c1:=tkw_cost 2 h1;have c2:=tkw_cost 5 h2;show PC (pD d)+(PC (pW 8 wNote)+(PC (pW 2 (bs9 x))+(PC (pW 5 (bs9 y))+0)))+_≤_;omega
 have kt:∀f,TC (pcs (.txn d f (rTxt L a).1.1 (rTxt L a).1.2 (rTgs L (L.length+1) [] [] (rTxt L a).2).1.1 (rTgs L (L.length+1) [] [] (rTxt L a).2).1.2))+12*bw L a≤12*bw L (rTgs L (L.length+1) [] [] (rTxt L a).2).2+200:=fun f=>by
  have c1:=rTxt_cost (L:=L) (a:=a);have c2:=rTgs_cost (L:=L) (L.length+1) (T:=[]) (K:=[]) (a:=(rTxt L a).2);rw[List.map_nil,List.map_nil,TC_nil] at c2;have cf:PC (pW 10 (if f=true then [33] else [42]))≤20:=by cases f;exact l8;exact l9
  rw[TC_app,tc_one] at c1;unfold pcs;rw[TC_cons,TC_cons,TC_app,TC_cons,TC_app];omega
 split at h
 ·unfold rTxn at h
  cases h;exact kt false
 split at h
 ·unfold rTxn at h
  cases h;exact kt true
 ·cases h
theorem hd_cost{d:Dr}(h:hd L=.inr (d,a)):TC (pcs d)≤12*bw L L.length+200∧a=L.length:=by
 have top:∀{n:Nat},bw L n≤bw L L.length:=fun {n}=>by
  rcases Nat.le_total n L.length with h|h
  ·exact bw_le h
  ·unfold bw;rw[List.take_of_length_le h,List.take_length];exact Nat.le_refl _
 have le1:∀{k:Int}{a b:Nat}{x:ByteArray},tkw L a k=.inr (x,b)→b≤L.length:=fun h=>by
  obtain⟨t,ht,-,-,rfl⟩:=tkw_ok h;exact(List.getElem?_eq_some_iff.1 ht).1
 unfold hd at h;split at h
 ·cases h
 rename_i t ht
 split at h
 ·obtain⟨h,ha⟩:=fin_ok h
  obtain⟨x,a1,h1,h⟩:=thn_ok h;obtain⟨y,a2,h2,h⟩:=thn_ok h;cases h
  have c1:=tkw_cost 5 h1;have c2:=tkw_cost 5 h2;have l0:=lit_pc.1;have h3:=top (n:=a);refine⟨?_,Nat.le_antisymm (le1 h2) ha⟩;show PC (pW 8 wOption)+(PC (pW 5 (bs9 x))+(PC (pW 5 (bs9 y))+0))≤_;omega
 split at h
 ·split at h
  ·split at h
   ·cases h
   split at h
   ·obtain⟨h,ha⟩:=fin_ok h
    have c1:=rest_cost h;have h3:=top (n:=a);refine⟨by omega,?_⟩;rename_i u hu _ _
    exact Nat.le_antisymm (rest_le (List.getElem?_eq_some_iff.1 hu).1 h) ha
   ·cases h
  ·cases h
 ·cases h
end
end Go.Proofs.YthpmaoimceojgaaGreatDoor.Num
namespace Go.Proofs.YthpmaoimceojgaaGreatDoor.Num
open Go.RowKit
def wdsOf(l:List Nat):List Wd:=match WD D12 N12 0 l with
 | .inl _=>[]
 | .inr ts=>ts
theorem rdK_nil(w:World)(B:Nat):RdK w B none 0 0 []:=⟨rfl,Nat.le_refl _,Nat.zero_le _,.inl rfl⟩
def RetL(w:World)(ts:List Wd)(e:Ending)(w':World):Prop:=∃A n c,e=.returned (.slice A n c)∧RdK w' w'.heap.size A n c (tks 1 ts)∧Below w.heap.size w w'
end Go.Proofs.YthpmaoimceojgaaGreatDoor.Num
namespace Go.Proofs.YthpmaoimceojgaaGreatDoor.Num
open Go.RowKit
open Byt
theorem byt_any:∀(f:Nat) {l:List Nat}{a:Nat}{ts:List Wd},l.length≤f→WD D12 N12 a l=.inr ts→(ts.map fun t=>max t.2.1.length 1).sum≤l.length:=by
 intro f;induction f with
 | zero=>
  intro l a ts hf h;obtain rfl:l=[]:=List.eq_nil_of_length_eq_zero (by omega);rw[WD_stop (.inl rfl)] at h;cases h;exact Nat.le_refl _
 | succ f ih=>
  intro l a ts hf h;by_cases hs:Stop12 (l.drop (indl l))
  ·rw[WD_stop hs] at h
   cases h;exact Nat.zero_le _
  cases hn:nxt D12 N12 (l.drop (indl l)) with
  | inl e=>rw[WD_err hs hn] at h;cases h
  | inr p=>
   obtain⟨k,x,n⟩:=p;obtain⟨q1,q2,-,-⟩:=nxt_back dayok12 hn;have q3:=nxt_len hn;rw[WD_ok dayok12 hs hn] at h;rw[List.length_drop] at q2;cases hw:WD D12 N12 (a+indl l+n) ((l.drop (indl l)).drop n) with
   | inl e=>rw[hw] at h;cases h
   | inr us=>
    rw[hw] at h;cases h
    have:=ih (by rw[List.length_drop,List.length_drop];omega) hw;rw[List.length_drop,List.length_drop] at this;show max x.length 1+(us.map fun t=>max t.2.1.length 1).sum≤_;omega
theorem bw_tks(no:Int)(ts:List Wd)(hb:∀t∈ts,∀c∈t.2.1,c<256):bw ((tks no ts).map tok) ((tks no ts).map tok).length=(ts.map fun t=>max t.2.1.length 1).sum:=by
 unfold bw;rw[List.take_length,List.map_map];unfold tks;rw[List.map_map];congr 1
 refine List.map_congr_left fun t ht=>?_
 show max (st9 t.2.1).size 1=_;rw[← bs9_len,bs9_st9 (hb t ht)]
theorem wd_bytes{s:ByteArray}{ts:List Wd}(h:WD D12 N12 0 (bs9 s)=.inr ts):∀t∈ts,∀c∈t.2.1,c<256:=fun t ht=>((WD_all dayok12 _ (Nat.le_refl _) h (bs9_lt s)).2.2 t ht).1
theorem line_few{s:ByteArray}{ts:List Wd}(hs:s.size≤300)(h:WD D12 N12 0 (bs9 s)=.inr ts):bw ((tks 1 ts).map tok) ((tks 1 ts).map tok).length≤300∧Wgh.ws ((tks 1 ts).map tok) ((tks 1 ts).map tok).length≤4010∧ts.length≤300:=by
 have h1:=byt_any _ (Nat.le_refl _) h;have h2:=wgt_any _ (Nat.le_refl (bs9 s).length) 0 ts h;rw[bs9_len] at h1 h2;have hn:ts.length≤(ts.map fun t=>max t.2.1.length 1).sum:=by
  clear h h1 h2;induction ts with
  | nil=>exact Nat.le_refl _
  | cons t r ih=>rw[List.map_cons,List.sum_cons,List.length_cons];omega
 refine⟨by rw[bw_tks 1 ts (wd_bytes h)];omega,by rw[ws_tks 1 ts (wd_bytes h)];omega,by omega⟩
theorem line_prp{s:ByteArray}{ts:List Wd}(h:WD D12 N12 0 (bs9 s)=.inr ts):PrpL ((tks 1 ts).map tok):=by
 intro t ht;obtain⟨q,hq,rfl⟩:=List.mem_map.1 ht;unfold tks at hq;obtain⟨u,hu,rfl⟩:=List.mem_map.1 hq;have:=WD_prp _ (Nat.le_refl _) h u hu;show Prp ((u.1:Int)).toNat (bs9 (st9 u.2.1));rw[bs9_st9 (wd_bytes h u hu)];exact this
theorem dr_line{s T:ByteArray}{ts:List Wd}{d:Dr}{a:Nat}(hs:s.size≤300)(h:WD D12 N12 0 (bs9 s)=.inr ts)(hd1:hd ((tks 1 ts).map tok)=.inr (d,a))(hT:drT d=bs9 T) :
  d.ok∧a=ts.length∧T.size≤4000∧(∃us,WD D12 N12 0 (bs9 T)=.inr us∧wdsOf (bs9 T)=us∧us.length≤400∧Wgh.ws ((tks 1 us).map tok) ((tks 1 us).map tok).length≤4010∧hd ((tks 1 us).map tok)=.inr (d,us.length)):=by
 obtain⟨h1,h2,h3⟩:=line_few hs h;obtain⟨g1,-⟩:=hd_ok (line_prp h) hd1;obtain⟨g2,g3⟩:=hd_cost hd1;have hl:∀us:List Wd,((tks 1 us).map tok).length=us.length:=fun us=>by unfold tks;rw[List.length_map,List.length_map]
 have t1:=len_pcs (pcs d);have t2:=wg_pcs (pcs d);obtain⟨us,e1,e2⟩:=wds_dr g1 0;rw[hT] at e1;have e3:(tks 1 us).map tok=(drW d).map tk:=tks_tk 1 e2;have e4:wgt us=((drW d).map fun u=>u.2.length+11).sum:=by
  unfold wgt;rw[← e2,List.map_map];rfl
 have e5:us.length=(drW d).length:=by rw[← e2,List.length_map]
 have hw:wgt us≤TC (pcs d):=by rw[e4];exact t2
 have hn:11*us.length≤wgt us:=by
  unfold wgt;clear e1 e2 e3 e4 e5 hw;induction us with
  | nil=>exact Nat.le_refl _
  | cons t r ih=>rw[List.map_cons,List.sum_cons,List.length_cons];omega
 refine⟨g1,by rw[g3,hl],?_,us,e1,?_,by omega,?_,?_⟩
 ·rw[← bs9_len,← hT]
  unfold drT;omega
 ·unfold wdsOf;rw[e1]
 ·rw[ws_tks 1 us (wd_bytes e1)];omega
 ·rw[hd_told g1 e3,hl]
def Dr.fit:Dr→Prop
 | .prc _ _ i k _=>(dg i.natAbs).length≤900∧k≤4010
 | .bal _ _ i k t _=>((dg i.natAbs).length≤900∧k≤4010)∧∀n,t=some n→(dg n.1.natAbs).length≤900∧n.2≤4010
 | _=>True
theorem sz_fit{i:Int}{k m:Nat}(h:Sz i k m)(hk:k≤m)(hm:m≤1800):(dg i.natAbs).length≤900∧k≤4010:=by
 have:=h.nine;omega
theorem rest_fit{L:List Tok}{a b:Nat}{d:Int×Int×Int}{w:List Nat}{r:Dr}(hb:bw L L.length≤300)(h:rest15 L d w a=.inr (r,b)):r.fit:=by
 have num:∀{a b:Nat}{n:Int×Nat},nmr L a=.inr (n,b)→(dg n.1.natAbs).length≤900∧n.2≤4010:=fun {a b n} h=>by
  obtain⟨-,q1,q2,-,q3⟩:=nmr_cost h;have:=bw_le (L:=L) q3;exact sz_fit q1 q2 (by omega)
 unfold rest15 at h;split at h
 ·unfold rOpen at h
  obtain⟨x,a1,h1,h⟩:=thn_ok h;obtain⟨cs,a2,h2,h⟩:=thn_ok h;split at h
  ·split at h
   ·cases h
   ·cases h;exact trivial
  ·cases h;exact trivial
 split at h
 ·obtain⟨x,a1,h1,h⟩:=thn_ok h
  cases h;exact trivial
 split at h
 ·obtain⟨x,a1,h1,h⟩:=thn_ok h
  cases h;exact trivial
 split at h
 ·obtain⟨x,a1,h1,h⟩:=thn_ok h
  obtain⟨n,a2,h2,h⟩:=thn_ok h;cases h
  obtain⟨-,m,q1,q2,q3⟩:=amr_cost h2;exact sz_fit q1 q2 (by omega)
 split at h
 ·obtain⟨x,a1,h1,h⟩:=thn_ok h
  obtain⟨y,a2,h2,h⟩:=thn_ok h;cases h;exact trivial
 split at h
 ·unfold rBal at h
  obtain⟨x,a1,h1,h⟩:=thn_ok h;obtain⟨n,a2,h2,h⟩:=thn_ok h;obtain⟨t,a3,h3,h⟩:=thn_ok h;obtain⟨c,a4,h4,h⟩:=thn_ok h;cases h
  refine⟨num h2,fun m hm=>?_⟩;unfold rTol at h3;split at h3
  ·obtain⟨m',a5,h5,h3⟩:=thn_ok h3
   split at h3
   ·cases h3
   ·cases h3;cases hm;exact num h5
  ·cases h3;cases hm
 split at h
 ·obtain⟨x,a1,h1,h⟩:=thn_ok h
  obtain⟨y,a2,h2,h⟩:=thn_ok h;cases h;exact trivial
 split at h
 ·unfold rTxn at h
  cases h;exact trivial
 split at h
 ·unfold rTxn at h
  cases h;exact trivial
 ·cases h
theorem hd_fit{L:List Tok}{a:Nat}{d:Dr}(hb:bw L L.length≤300)(h:hd L=.inr (d,a)):d.fit:=by
 unfold hd at h;split at h
 ·cases h
 split at h
 ·obtain⟨h,-⟩:=fin_ok h
  obtain⟨x,a1,h1,h⟩:=thn_ok h;obtain⟨y,a2,h2,h⟩:=thn_ok h;cases h;exact trivial
 split at h
 ·split at h
  ·split at h
   ·cases h
   split at h
   ·obtain⟨h,-⟩:=fin_ok h
    exact rest_fit hb h
   ·cases h
  ·cases h
 ·cases h
end Go.Proofs.YthpmaoimceojgaaGreatDoor.Num
namespace Go.Proofs.YthpmaoimceojgaaGreatDoor.Num
open Go.RowKit
structure FD where
 kind:Nat
 y:Int
 m:Int
 d:Int
 acc:ByteArray
 oth:ByteArray
 curs:List ByteArray
 book:Nat
 i:Int
 k:Nat
 cur:ByteArray
 hasTol:Bool
 ti:Int
 tk:Nat
 flag:ByteArray
 pay:ByteArray
 nar:ByteArray
 tags:List ByteArray
 links:List ByteArray
 name:ByteArray
 text:ByteArray
def FD.zero:FD:=⟨0,0,0,0,⟨#[]⟩,⟨#[]⟩,[],0,0,0,⟨#[]⟩,false,0,0,⟨#[]⟩,⟨#[]⟩,⟨#[]⟩,[],[],⟨#[]⟩,⟨#[]⟩⟩
def FD.at_(n:Nat)(x:Int×Int×Int):FD:={ FD.zero with kind:=n,y:=x.1,m:=x.2.1,d:=x.2.2 }
def fdOf:Option Dr→FD
 | none=>FD.zero
 | some (.opn x a cs b)=>{ FD.at_ 1 x with acc:=a,curs:=cs,book:=b }
 | some (.cls x a)=>{ FD.at_ 2 x with acc:=a }
 | some (.com x c)=>{ FD.at_ 3 x with curs:=[c] }
 | some (.prc x c i k u)=>{ FD.at_ 4 x with curs:=[c],i:=i,k:=k,cur:=u }
 | some (.pad x a b)=>{ FD.at_ 5 x with acc:=a,oth:=b }
 | some (.bal x a i k none u)=>{ FD.at_ 6 x with acc:=a,i:=i,k:=k,cur:=u }
 | some (.bal x a i k (some n) u)=>{ FD.at_ 6 x with acc:=a,i:=i,k:=k,cur:=u,hasTol:=true,ti:=n.1,tk:=n.2 }
 | some (.txn x f p n t l)=>{ FD.at_ 7 x with flag:=if f=true then ⟨#[33]⟩ else ⟨#[42]⟩,pay:=p,nar:=n,tags:=t,links:=l }
 | some (.nte x a u)=>{ FD.at_ 8 x with acc:=a,text:=u }
 | some (.opt n u)=>{ FD.zero with kind:=9,name:=n,text:=u }
structure DM where
 A:Option Addr
 n:Nat
 c:Nat
 At:Option Addr
 nt:Nat
 ct:Nat
 Ac:Option Addr
 nc:Nat
 cc:Nat
 Ag:Option Addr
 ng:Nat
 cg:Nat
 Al:Option Addr
 nl:Nat
 cl:Nat
 p:Int
 q:Int
def DM.zero:DM:=⟨none,0,0,none,0,0,none,0,0,none,0,0,none,0,0,0,0⟩
def cD(f:FD)(m:DM):Array Value:=#[.int .i64 (f.kind:Int),.int .i64 f.y,.int .i64 f.m,.int .i64 f.d,.string f.acc,.string f.oth,.slice m.Ac m.nc m.cc,.int .i64 (f.book:Int),.bool (ngB f.i),.slice m.A m.n m.c,.int .i64 (f.k:Int),.string f.cur,.bool f.hasTol,.bool (ngB f.ti),.slice m.At m.nt m.ct,.int .i64 (f.tk:Int),.string f.flag,.string f.pay,.string f.nar,.slice m.Ag m.ng m.cg,.slice m.Al m.nl m.cl,.slice none 0 0,.slice none 0 0,.string f.name,.string f.text,.int .i64 m.p,.int .i64 m.q]
structure MD (w:World) (f:FD) (m:DM):Prop where
 num:Num w w.heap.size m.A m.n m.c f.i.natAbs
 tol:Num w w.heap.size m.At m.nt m.ct f.ti.natAbs
 cur:RdP w m.Ac m.nc m.cc (f.curs.map bs9)
 tag:RdP w m.Ag m.ng m.cg (f.tags.map bs9)
 lnk:RdP w m.Al m.nl m.cl (f.links.map bs9)
theorem MD.on{w w':World}{f:FD}{m:DM}(h:MD w f m)(hb:Below w.heap.size w w'):MD w' f m:=⟨h.num.on hb,h.tol.on hb,h.cur.on hb,h.tag.on hb,h.lnk.on hb⟩
structure Far (lo:Nat) (m:DM):Prop where
 cur:∀a,m.Ac=some a→lo≤a.block
 tag:∀a,m.Ag=some a→lo≤a.block
 lnk:∀a,m.Al=some a→lo≤a.block
theorem RdP.row15{w:World}{A:Option Addr}{n c g:Nat}{cs:Array Value}{l:List (List Nat)}(h:RdP w A n c l)(hf:∀a,A=some a→a.block≠g):RdP (w.setRow g cs) A n c l:=by
 obtain⟨h1,h2,h3,h|⟨b,o,rfl,h5,h6⟩⟩:=h
 ·exact⟨h1,h2,h3,.inl h⟩
 ·have hne:b≠g:=hf ⟨b,o,none⟩ rfl
  exact⟨h1,h2,h3,.inr ⟨b,o,rfl,by simpa using h5,fun k u hu=>(cell_setRow_other w g cs ⟨b,o+k,none⟩ hne).trans (h6 k u hu)⟩⟩
theorem Lim.row15{w:World}{B n c g:Nat}{A:Option Addr}{ys:List Nat}{xs cs:Array Value}{t:TypeId}(h:Lim w B A n c ys)(hb:w.heap[g]?=some (.cells xs t (0,0)))(hc:∀x∈xs.toList,NoLimb x):Lim (w.setRow g cs) B A n c ys:=by
 refine⟨h.len,h.cap,h.room,h.fit,?_,h.addr⟩;rcases h.row with h' | ⟨b,o,rfl,hB,hr⟩
 ·exact .inl h'
 ·refine .inr ⟨b,o,rfl,hB,fun k u hu=>?_⟩
  have hj:=hr k u hu;by_cases hbg:b=g
  ·exfalso
   have hm:=List.mem_of_getElem? hu;unfold vals at hm;obtain⟨x,_,rfl⟩:=List.mem_map.1 hm;subst hbg;rw[cell_of_row w b (o+k) _ _ _ hb,← Array.getElem?_toList] at hj;exact hc _ (List.mem_of_getElem? hj) x rfl
  ·exact(cell_setRow_other w g cs ⟨b,o+k,none⟩ hbg).trans hj
theorem MD.row15{w:World}{f:FD}{m:DM}{g lo:Nat}{xs cs:Array Value}{t:TypeId}(h:MD w f m)(hf:Far lo m)(hg:g<lo)(hb:w.heap[g]?=some (.cells xs t (0,0)))(hc:∀x∈xs.toList,NoLimb x):MD (w.setRow g cs) f m:=
 ⟨(Lim.row15 h.num hb hc).more (by simp),(Lim.row15 h.tol hb hc).more (by simp),RdP.row15 h.cur fun a e=>by have:=hf.cur a e;omega,RdP.row15 h.tag fun a e=>by have:=hf.tag a e;omega,RdP.row15 h.lnk fun a e=>by have:=hf.lnk a e;omega⟩
theorem cD_zero_limb:∀x∈(cD FD.zero DM.zero).toList,NoLimb x:=by
 intro x hx;simp only[cD,List.mem_cons,List.not_mem_nil,or_false] at hx
 rcases hx with rfl|rfl|rfl|rfl|rfl|rfl|rfl|rfl|rfl|rfl|rfl|rfl|rfl|rfl|rfl|rfl|rfl|rfl|rfl|rfl|rfl|rfl|rfl|rfl|rfl|rfl|rfl<;>exact fun k h=>by cases h
theorem rdP_nil(w:World):RdP w none 0 0 []:=⟨rfl,Nat.le_refl _,Nat.zero_le _,.inl rfl⟩
theorem MD.nil(w:World):MD w FD.zero DM.zero:=⟨num_zero _ _,num_zero _ _,rdP_nil w,rdP_nil w,rdP_nil w⟩
def Mtds(w:World):Prop:=w.cell? ⟨0,0,none⟩=some (.string ⟨#[83,84,82,73,67,84]⟩)∧w.cell? ⟨0,1,none⟩=some (.string ⟨#[70,73,70,79]⟩)∧w.cell? ⟨0,2,none⟩=some (.string ⟨#[76,73,70,79]⟩)∧w.cell? ⟨0,3,none⟩=some (.string ⟨#[65,86,69,82,65,71,69]⟩)∧w.cell? ⟨0,4,none⟩=some (.string ⟨#[78,79,78,69]⟩)
theorem Mtds.on{w w':World}(h:Mtds w)(hb:Below w.heap.size w w'):Mtds w':=
 ⟨cell_on11 h.1 hb,cell_on11 h.2.1 hb,cell_on11 h.2.2.1 hb,cell_on11 h.2.2.2.1 hb,cell_on11 h.2.2.2.2 hb⟩
def Ok15(w:World):Prop:=Ok12 w∧Mtds w
theorem okw15:Okw Ok15:=fun h hb=>⟨okw12 h.1 hb,h.2.on hb⟩
def resH:RH Dr→Option Dr×Nat×Nat
 | .inl (e,p)=>(none,p,e)
 | .inr (d,p)=>(some d,p,0)
def RvH(w:World)(o:Option Dr)(p e:Nat)(en:Ending)(w':World):Prop:=∃m:DM,en=.returned (.tuple #[.agg (cD (fdOf o) m),.int .i64 (p:Int),.int .i64 (e:Int)])∧MD w' (fdOf o) m∧Far w.heap.size m∧Below w.heap.size w w'
def READH:Prop:=∀{w:World}{B n c:Nat}{A:Option Addr}{L:List Tk4}{G:Nat→Nat→Int→Nat→Prop}{o:Option Dr}{p e:Nat},RdK w B A n c L→B≤w.heap.size→n≤400→Siz (L.map tok) G→Ok15 w→resH (hd (L.map tok))=(o,p,e)→Calls Tryz.prog 7 #[.slice A n c] w (RvH w o p e)
def TEXTH:Prop:=∀{w:World}{m:DM}{d:Dr}{T:ByteArray},MD w (fdOf (some d)) m→d.fit→T.size≤4000→Ok15 w→drT d=bs9 T→Calls Tryz.prog 10 #[.agg (cD (fdOf (some d)) m)] w (Ret9 w (.string T))
def SAMEH:Prop:=∀{w:World}{m m':DM}{o o':Option Dr}{x:Bool},MD w (fdOf o) m→MD w (fdOf o') m'→Ok15 w→(x=true↔o=o')→Calls Tryz.prog 8 #[.agg (cD (fdOf o) m),.agg (cD (fdOf o') m')] w (Ret9 w (.bool x))
def mthI(s:ByteArray):Int:=match mth (bs9 s) with|none => -1|some m=>(m:Int)
def METH:Prop:=∀{w:World}{s:ByteArray}{x:Int},Ok15 w→mthI s=x→Calls Tryz.prog 11 #[.string s] w (Ret9 w (.int .i64 x))
def mthW(n:Int):List Nat:=if 0≤n∧n≤4 then mthT n.toNat else []
def MWORD:Prop:=∀{w:World}{n:Int}{s:ByteArray},Ok15 w→mthW n=bs9 s→Calls Tryz.prog 12 #[.int .i64 n] w (Ret9 w (.string s))
def AWK15:Prop:=∀w:World,Ok15 w→Calls Tryz.prog 5 #[] w (Ret9 w (.bool true))
structure S15 (w0 w:World) (ms:List (FD×DM)) (bs:List (Nat×Array Value×TypeId)):Prop where
 bel:Below w0.heap.size w0 w
 md:∀q∈ms,MD w q.1 q.2
 blk:∀q∈bs,w.heap[q.1]?=some (.cells q.2.1 q.2.2 (0,0))
section
variable {w0 w w':World}{ms:List (FD×DM)}{bs:List (Nat×Array Value×TypeId)}
theorem blk_lt{w:World}{g:Nat}{xs:Array Value}{t:TypeId}(h:w.heap[g]?=some (.cells xs t (0,0))):g<w.heap.size:=by
 rcases Nat.lt_or_ge g w.heap.size with h1|h1
 ·exact h1
 ·rw[Array.getElem?_eq_none h1] at h;cases h
theorem S15.start(w:World):S15 w w [] []:=⟨Below.refl _ _,fun q hq=>(by cases hq),fun q hq=>(by cases hq)⟩
theorem S15.step(h:S15 w0 w ms bs)(hb:Below w.heap.size w w'):S15 w0 w' ms bs:=⟨h.bel.trans (hb.mono h.bel.size),fun q hq=>(h.md q hq).on hb,fun q hq=>(hb.block _ (blk_lt (h.blk q hq))).trans (h.blk q hq)⟩
theorem S15.push(h:S15 w0 w ms bs)(hb:Below w.heap.size w w'){f:FD}{m:DM}(hm:MD w' f m):S15 w0 w' ((f,m)::ms) bs:=by
 have h2:=h.step hb;refine⟨h2.bel,fun q hq=>?_,h2.blk⟩;rcases List.mem_cons.1 hq with rfl|hq
 ·exact hm
 ·exact h2.md q hq
theorem S15.lay(h:S15 w0 w ms bs)(xs:Array Value)(t:TypeId){g:Nat}(hg:g=w.heap.size):S15 w0 (w.alloc (.cells xs t)) ms ((g,xs,t)::bs):=by
 have h2:=h.step ((Below.refl _ _).alloc (Nat.le_refl _) (.cells xs t));refine⟨h2.bel,h2.md,fun q hq=>?_⟩;rcases List.mem_cons.1 hq with rfl|hq
 ·subst hg;exact heap_alloc_new w _
 ·exact h2.blk q hq
theorem S15.at_{g:Nat}{xs:Array Value}{t:TypeId}(h:Hid (S15 w0 w ms bs))(hm:(g,xs,t)∈bs)(j:Nat):w.cell? ⟨g,j,none⟩=xs[j]?:=cell_of_row w g j _ _ _ (h.out.blk _ hm)
theorem S15.got{f:FD}{m:DM}(h:Hid (S15 w0 w ms bs))(hm:(f,m)∈ms):MD w f m:=h.out.md _ hm
end
theorem words15{w:World}{s:ByteArray}(hok:Ok15 w)(hs:s.size≤6000):Calls Tryz.prog 13 #[.string s] w (RetL w (wdsOf (bs9 s))):=by
 have HW:=Jh (lexwords_is okw12 dayok12 (fun _ h hs=>lexunquote_is h hs _) o08 o07 o11 1 s hs w hok.1);clear hok;unfold wdsOf;cases h:WD D12 N12 0 (bs9 s) with
 | inl p=>
  obtain⟨c0,x0⟩:=p;rw[h] at HW;go_enter Tryz.func13,Tryz.ntmps13;go_wp2_with fail;refine HW.out.mono ?_;rintro e v ⟨rfl,hb⟩;have E:=Jh hb;clear hb;go_wp2_with fail;go_ret;exact⟨_,_,_,rfl,rdK_nil _ _,E.out.alloc E.out.size _⟩
 | inr ts=>
  rw[h] at HW;go_enter Tryz.func13,Tryz.ntmps13;go_wp2_with fail;refine HW.out.mono ?_;rintro e v ⟨⟨A,c,rfl,hr⟩,hb⟩;have R1:=Jh hr;have E:=Jh hb;clear hr hb;go_wp2_with fail;go_ret;have hb2:=(Below.refl v.heap.size v).alloc (Nat.le_refl _) (.cells #[.int .i64 0,.int .i64 0,.int .i64 0] 28);exact⟨_,_,_,rfl,rdK_of (R1.out.on hb2),E.out.alloc E.out.size _⟩
def nxr{α:Type}(e a:Nat)(m:Nat→RH α):RH α:=if e=0 then m a else .inl (e,a)
def Aft{α:Type}(r:RH α)(a e:Nat)(P:α→Prop):Prop:=match r with
 | .inl (z,p)=>a=p∧e=z∧z≠0
 | .inr (x,b)=>a=b∧e=0∧P x
section
variable {α β:Type}{r:RH α}{f:α→Nat→RH β}{a e a' e':Nat}{v:α}{P Q:α→Prop}{R:β→Prop}{m:Nat→RH α}
theorem Aft.mono(h:Aft r a e P)(hq:∀x,P x→Q x):Aft r a e Q:=by
 rcases r with⟨z,p⟩|⟨x,b⟩
 ·exact h
 ·exact⟨h.1,h.2.1,hq _ h.2.2⟩
theorem Aft.thn(h:Aft r a e (· = v))(h2:Aft (nxr e a (f v)) a' e' R):Aft (thn r f) a' e' R:=by
 rcases r with⟨z,p⟩|⟨x,b⟩
 ·obtain⟨rfl,rfl,h3⟩:=h
  unfold nxr at h2;rw[if_neg h3] at h2;exact h2
 ·obtain⟨rfl,rfl,h3⟩:=h
  obtain rfl:x=v:=h3;unfold nxr at h2;rw[if_pos rfl] at h2;exact h2
theorem nxr_thn(e a:Nat)(m:Nat→RH α)(f:α→Nat→RH β):nxr e a (fun b=>Go.Proofs.YthpmaoimceojgaaGreatDoor.Num.thn (m b) f)=Go.Proofs.YthpmaoimceojgaaGreatDoor.Num.thn (nxr e a m) f:=by
 unfold nxr;by_cases h:e=0
 ·rw[if_pos h,if_pos h]
 ·rw[if_neg h,if_neg h];rfl
theorem Aft.go(h:Aft (nxr e a m) a' e' (· = v)){a2 e2:Nat}(h2:Aft (nxr e' a' (f v)) a2 e2 R):Aft (nxr e a (fun b=>Go.Proofs.YthpmaoimceojgaaGreatDoor.Num.thn (m b) f)) a2 e2 R:=by
 rw[nxr_thn];exact h.thn h2
theorem Aft.ret{x:β}(h:R x):Aft (nxr e a (fun b=>.inr (x,b))) a e R:=by
 unfold nxr;by_cases he:e=0
 ·rw[if_pos he];exact⟨rfl,he,h⟩
 ·rw[if_neg he];exact⟨rfl,rfl,he⟩
theorem Aft.ok(h:Aft r a 0 P):∃x,r=.inr (x,a)∧P x:=by
 rcases r with⟨z,p⟩|⟨x,b⟩
 ·exact absurd h.2.1.symm h.2.2
 ·obtain⟨rfl,-,h3⟩:=h;exact⟨x,rfl,h3⟩
theorem Aft.stay(he:e≠0):Aft (nxr e a m) a e P:=by
 unfold nxr;rw[if_neg he];exact⟨rfl,rfl,he⟩
theorem nxr_go(m:Nat→RH α)(a:Nat):nxr 0 a m=m a:=if_pos rfl
end
def tkwK(L:List Tok)(K:List Int)(a:Nat):RH ByteArray:=match L[a]? with
 | none=>.inl (2,a)
 | some t=>if K.any (fun k=>decide (t.1=k))=true then .inr (t.2,a+1) else .inl (3,a)
theorem tkwK_one(L:List Tok)(k:Int):tkwK L [k]=fun a=>tkw L a k:=by
 funext a
 unfold tkwK tkw;cases L[a]? with
 | none=>rfl
 | some t=>
  show(if (decide (t.1=k)||false)=true then _ else _)=if t.1=k then _ else _
  by_cases h:t.1=k
  ·rw[if_pos h,decide_eq_true h];rfl
  ·rw[if_neg h,decide_eq_false h];rfl
def psW(L:List Tok)(e a:Nat)(k:Int)(x:List Nat):Bool:=decide (e=0)&&(knd L a k&&(L[a]?).any fun t=>decide (bs9 t.2=x))
def isWd(L:List Tok)(e a:Nat)(k:Int):Bool:=decide (e=0)&&knd L a k
theorem psW_sign(L:List Tok)(a:Nat)(x:List Nat):psW L 0 a 10 x=isW L a x:=by
 unfold psW isW knd;cases L[a]? with
 | none=>rfl
 | some t=>rfl
def Dr.day(x:Int×Int×Int):Dr→Dr
 | .opn _ a c b=>.opn x a c b
 | .cls _ a=>.cls x a
 | .com _ c=>.com x c
 | .prc _ c i k u=>.prc x c i k u
 | .pad _ a b=>.pad x a b
 | .bal _ a i k t u=>.bal x a i k t u
 | .txn _ f p n t l=>.txn x f p n t l
 | .nte _ a u=>.nte x a u
 | .opt n u=>.opt n u
def mapR{α β:Type}(g:α→β):RH α→RH β
 | .inl e=>.inl e
 | .inr (x,b)=>.inr (g x,b)
theorem mapR_thn{α β γ:Type}(g:β→γ)(r:RH α)(f:α→Nat→RH β):mapR g (thn r f)=thn r fun x b=>mapR g (f x b):=by
 rcases r with e|⟨x,b⟩<;>rfl
theorem rest_day(L:List Tok)(d:Int×Int×Int)(w:List Nat)(a:Nat):rest15 L d w a=mapR (Dr.day d) (rest15 L (0,0,0) w a):=by
 unfold rest15;by_cases h1:w=wOpen
 ·rw[if_pos h1,if_pos h1]
  unfold rOpen;rw[mapR_thn];congr 1;funext ac b;rw[mapR_thn];congr 1;funext cs b;split
  ·split<;>rfl
  ·rfl
 rw[if_neg h1,if_neg h1];by_cases h2:w=wClose
 ·rw[if_pos h2,if_pos h2,mapR_thn];rfl
 rw[if_neg h2,if_neg h2];by_cases h3:w=wCommodity
 ·rw[if_pos h3,if_pos h3,mapR_thn];rfl
 rw[if_neg h3,if_neg h3];by_cases h4:w=wPrice
 ·rw[if_pos h4,if_pos h4,mapR_thn];congr 1;funext c b
  rw[mapR_thn];rfl
 rw[if_neg h4,if_neg h4];by_cases h5:w=wPad
 ·rw[if_pos h5,if_pos h5,mapR_thn];congr 1;funext c b
  rw[mapR_thn];rfl
 rw[if_neg h5,if_neg h5];by_cases h6:w=wBalance
 ·rw[if_pos h6,if_pos h6]
  unfold rBal;rw[mapR_thn];congr 1;funext c b;rw[mapR_thn];congr 1;funext c b;rw[mapR_thn];congr 1;funext c b;rw[mapR_thn];rfl
 rw[if_neg h6,if_neg h6];by_cases h7:w=wNote
 ·rw[if_pos h7,if_pos h7,mapR_thn];congr 1;funext c b
  rw[mapR_thn];rfl
 rw[if_neg h7,if_neg h7];by_cases h8:w=wTxn∨w=[42]
 ·rw[if_pos h8,if_pos h8];rfl
 rw[if_neg h8,if_neg h8];by_cases h9:w=[33]
 ·rw[if_pos h9,if_pos h9];rfl
 ·rw[if_neg h9,if_neg h9];rfl
def onceL(l:List ByteArray):List ByteArray:=l.foldl adds []
theorem onceL_push(l:List ByteArray)(s:ByteArray):onceL (l++[s])=adds (onceL l) s:=by unfold onceL;rw[List.foldl_append];rfl
def rTgP(L:List Tok):Nat→List ByteArray→List ByteArray→Nat→(List ByteArray×List ByteArray)×Nat
 | 0,T,K,a=>((T,K),a)
 | f+1,T,K,a=>match L[a]? with
  | none=>((T,K),a)
  | some t=>if t.1=6 then rTgP L f (T++[t.2]) K (a+1) else if t.1=7 then rTgP L f T (K++[t.2]) (a+1) else ((T,K),a)
theorem rTg_once(L:List Tok):∀(f:Nat) (T K:List ByteArray) (a:Nat),rTgs L f (onceL T) (onceL K) a=((onceL (rTgP L f T K a).1.1,onceL (rTgP L f T K a).1.2),(rTgP L f T K a).2)
 | 0,T,K,a=>rfl
 | f+1,T,K,a=>by
  unfold rTgs rTgP;cases L[a]? with
  | none=>rfl
  | some t=>
   dsimp only
   by_cases h6:t.1=6
   ·rw[if_pos h6,if_pos h6,← onceL_push];exact rTg_once L f _ _ _
   ·rw[if_neg h6,if_neg h6]
    by_cases h7:t.1=7
    ·rw[if_pos h7,if_pos h7,← onceL_push];exact rTg_once L f _ _ _
    ·rw[if_neg h7,if_neg h7]
def kt(t:Tk4):Int×List Nat:=(t.1,bs9 t.2.1)
def Bk(w:World)(g:Nat)(xs:Array Value)(t:TypeId):Prop:=w.heap[g]?=some (.cells xs t (0,0))
theorem Bk.lt{w:World}{g:Nat}{xs:Array Value}{t:TypeId}(h:Bk w g xs t):g<w.heap.size:=by
 rcases Nat.lt_or_ge g w.heap.size with h1|h1
 ·exact h1
 ·unfold Bk at h;rw[Array.getElem?_eq_none h1] at h;cases h
theorem Bk.on{w w':World}{g:Nat}{xs:Array Value}{t:TypeId}(h:Bk w g xs t)(hb:Below w.heap.size w w'):Bk w' g xs t:=(hb.block g h.lt).trans h
theorem Bk.cell{w:World}{g:Nat}{xs:Array Value}{t:TypeId}(h:Bk w g xs t)(j:Nat):w.cell? ⟨g,j,none⟩=xs[j]?:=cell_of_row w g j _ _ _ h
theorem Bk.new(v:World)(xs:Array Value)(t:TypeId){g:Nat}(h:g=v.heap.size):Bk (v.alloc (.cells xs t)) g xs t:=by subst h;exact heap_alloc_new v _
structure VU where
 b:Bool
 i:Int
 k:Nat
 s:ByteArray
structure VP where
 h:Bool
 t:Bool
 b:Bool
 i:Int
 k:Nat
 s:ByteArray
structure VC where
 h:Bool
 t:Bool
 b:Bool
 i:Int
 k:Nat
 s:ByteArray
 y:Int
 m:Int
 d:Int
 l:ByteArray
structure VA where
 i:Int
 k:Nat
 s:ByteArray
def resA:RA→VA×Nat×Nat
 | .inl (e,p)=>(⟨0,0,⟨#[]⟩⟩,p,e)
 | .inr (i,k,c,p)=>(⟨i,k,c⟩,p,0)
def RvA(w:World)(v:VA)(p e:Nat)(en:Ending)(w':World):Prop:=∃(A:Option Addr) (n c:Nat),en=.returned (.tuple #[.agg #[.bool (ngB v.i),.slice A n c,.int .i64 (v.k:Int),.string v.s],.int .i64 (p:Int),.int .i64 (e:Int)])∧Num w' w'.heap.size A n c v.i.natAbs∧Below w.heap.size w w'
structure S14 (w0 w:World) (l:List (Option Addr×Nat×Nat×Nat)) (bs:List (Nat×Array Value×TypeId)):Prop where
 bel:Below w0.heap.size w0 w
 num:∀q∈l,Num w w.heap.size q.1 q.2.1 q.2.2.1 q.2.2.2
 blk:∀q∈bs,Bk w q.1 q.2.1 q.2.2
section
variable {w0 w w':World}{l:List (Option Addr×Nat×Nat×Nat)}{bs:List (Nat×Array Value×TypeId)}
theorem S14.start(w:World):S14 w w [] []:=⟨Below.refl _ _,fun q hq=>(by cases hq),fun q hq=>(by cases hq)⟩
theorem S14.step(h:S14 w0 w l bs)(hb:Below w.heap.size w w'):S14 w0 w' l bs:=⟨h.bel.trans (hb.mono h.bel.size),fun q hq=>(h.num q hq).on hb,fun q hq=>(h.blk q hq).on hb⟩
theorem S14.push(h:S14 w0 w l bs)(hb:Below w.heap.size w w'){A:Option Addr}{n c a:Nat}(hn:Num w' w'.heap.size A n c a):S14 w0 w' ((A,n,c,a)::l) bs:=by
 have h2:=h.step hb;refine⟨h2.bel,fun q hq=>?_,h2.blk⟩;rcases List.mem_cons.1 hq with rfl|hq
 ·exact hn
 ·exact h2.num q hq
theorem S14.lay(h:S14 w0 w l bs)(xs:Array Value)(t:TypeId){g:Nat}(hg:g=w.heap.size):S14 w0 (w.alloc (.cells xs t)) l ((g,xs,t)::bs):=by
 have h2:=h.step ((Below.refl _ _).alloc (Nat.le_refl _) (.cells xs t));refine⟨h2.bel,h2.num,fun q hq=>?_⟩;rcases List.mem_cons.1 hq with rfl|hq
 ·exact Bk.new w xs t hg
 ·exact h2.blk q hq
theorem S14.got{A:Option Addr}{n c a:Nat}(h:Hid (S14 w0 w l bs))(hm:(A,n,c,a)∈l):Num w w.heap.size A n c a:=h.out.num _ hm
theorem S14.at_{g:Nat}{xs:Array Value}{t:TypeId}(h:Hid (S14 w0 w l bs))(hm:(g,xs,t)∈bs)(j:Nat):w.cell? ⟨g,j,none⟩=xs[j]?:=(h.out.blk _ hm).cell j
theorem S14.c4{g:Nat}{t:TypeId}{x0 x1 x2 x3:Value}(h:Hid (S14 w0 w l bs))(hm:(g,#[x0,x1,x2,x3],t)∈bs):w.cell? ⟨g,0,none⟩=some x0∧w.cell? ⟨g,1,none⟩=some x1∧w.cell? ⟨g,2,none⟩=some x2∧w.cell? ⟨g,3,none⟩=some x3:=⟨S14.at_ h hm 0,S14.at_ h hm 1,S14.at_ h hm 2,S14.at_ h hm 3⟩
theorem S14.c5{g:Nat}{t:TypeId}{x0 x1 x2 x3 x4:Value}(h:Hid (S14 w0 w l bs))(hm:(g,#[x0,x1,x2,x3,x4],t)∈bs):w.cell? ⟨g,0,none⟩=some x0∧w.cell? ⟨g,1,none⟩=some x1∧w.cell? ⟨g,2,none⟩=some x2∧w.cell? ⟨g,3,none⟩=some x3∧w.cell? ⟨g,4,none⟩=some x4:=⟨S14.at_ h hm 0,S14.at_ h hm 1,S14.at_ h hm 2,S14.at_ h hm 3,S14.at_ h hm 4⟩
theorem S14.c7{g:Nat}{t:TypeId}{x0 x1 x2 x3 x4 x5 x6:Value}(h:Hid (S14 w0 w l bs))(hm:(g,#[x0,x1,x2,x3,x4,x5,x6],t)∈bs):w.cell? ⟨g,0,none⟩=some x0∧w.cell? ⟨g,1,none⟩=some x1∧w.cell? ⟨g,2,none⟩=some x2∧w.cell? ⟨g,3,none⟩=some x3∧w.cell? ⟨g,4,none⟩=some x4∧w.cell? ⟨g,5,none⟩=some x5∧w.cell? ⟨g,6,none⟩=some x6:=⟨S14.at_ h hm 0,S14.at_ h hm 1,S14.at_ h hm 2,S14.at_ h hm 3,S14.at_ h hm 4,S14.at_ h hm 5,S14.at_ h hm 6⟩
theorem S14.c11{g:Nat}{t:TypeId}{x0 x1 x2 x3 x4 x5 x6 x7 x8 x9 x10:Value}(h:Hid (S14 w0 w l bs))(hm:(g,#[x0,x1,x2,x3,x4,x5,x6,x7,x8,x9,x10],t)∈bs):w.cell? ⟨g,0,none⟩=some x0∧w.cell? ⟨g,1,none⟩=some x1∧w.cell? ⟨g,2,none⟩=some x2∧w.cell? ⟨g,3,none⟩=some x3∧w.cell? ⟨g,4,none⟩=some x4∧w.cell? ⟨g,5,none⟩=some x5∧w.cell? ⟨g,6,none⟩=some x6∧w.cell? ⟨g,7,none⟩=some x7∧w.cell? ⟨g,8,none⟩=some x8∧w.cell? ⟨g,9,none⟩=some x9∧w.cell? ⟨g,10,none⟩=some x10:=⟨S14.at_ h hm 0,S14.at_ h hm 1,S14.at_ h hm 2,S14.at_ h hm 3,S14.at_ h hm 4,S14.at_ h hm 5,S14.at_ h hm 6,S14.at_ h hm 7,S14.at_ h hm 8,S14.at_ h hm 9,S14.at_ h hm 10⟩
end
def dayR(L:List Tok)(a:Nat):RH (Int×Int×Int):=thn (tkw L a 1) fun s b=>if Dat.prOk s=true then .inr (pday s,b) else .inl (3,b-1)
def curR(L:List Tok)(a:Nat):RH (List ByteArray):=thn (tkw L a 3) fun x b=>thn (curL L L.length b) fun xs c=>.inr (x::xs,c)
def mthR(L:List Tok)(a:Nat):RH Nat:=thn (tkw L a 5) fun s b=>match mth (bs9 s) with|none=>.inl (3,b-1)|some m=>.inr (m,b)
def tolR(L:List Tok)(a:Nat):RH (Int×Nat):=thn (nmr L a) fun n b=>if n.1<0 then .inl (3,b-1) else .inr (n,b)
theorem knd_some{L:List Tok}{a:Nat}{k:Int}(h:knd L a k=true):∃t,L[a]?=some t∧t.1=k:=by
 unfold knd at h;cases ht:L[a]? with
 | none=>rw[ht] at h;cases h
 | some t=>rw[ht] at h;exact⟨t,rfl,of_decide_eq_true h⟩
theorem tkw_some{L:List Tok}{a:Nat}{k:Int}{t:Tok}(h:L[a]?=some t)(hk:t.1=k):tkw L a k=.inr (t.2,a+1):=by unfold tkw;rw[h];exact if_pos hk
def opnR(L:List Tok)(a:Nat):RH Dr:=thn (tkw L a 2) fun ac a=>thn (if knd L a 3=true then curR L a else .inr ([],a)) fun cs a=>thn (if knd L a 5=true then mthR L a else .inr (0,a)) fun m a=>.inr (.opn (0,0,0) ac cs m,a)
theorem rOpen_eq(L:List Tok)(a:Nat):rOpen L (0,0,0) a=opnR L a:=by
 unfold rOpen opnR;congr 1;funext ac a
 show thn (curs L a) _=thn (curs L a) _;congr 1;funext cs a
 by_cases h:knd L a 5=true
 ·rw[if_pos h,if_pos h]
  obtain⟨t,ht,h5⟩:=knd_some h;unfold mthR mthO;rw[tkw_some ht h5,ht];show(match mth (bs9 t.2) with|none=>Sum.inl (3,a)|some m=>Sum.inr (Dr.opn (0,0,0) ac cs m,a+1))=thn (match mth (bs9 t.2) with|none=>Sum.inl (3,a+1-1)|some m=>Sum.inr (m,a+1)) _;cases mth (bs9 t.2)<;>rfl
 ·rw[if_neg h,if_neg h];rfl
def balR(L:List Tok)(a:Nat):RH Dr:=thn (tkw L a 2) fun ac a=>thn (nmr L a) fun n a=>thn (if isW L a [126]=true then thn (tolR L (a+1)) fun t b=>.inr (some t,b) else .inr (none,a)) fun t a=>thn (tkw L a 3) fun x a=>.inr (.bal (0,0,0) ac n.1 n.2 t x,a)
theorem rBal_eq(L:List Tok)(a:Nat):rBal L (0,0,0) a=balR L a:=by
 unfold rBal balR rTol;congr 1;funext ac a
 congr 1;funext n a
 congr 1
 by_cases h:isW L a [126]=true
 ·rw[if_pos h,if_pos h]
  unfold tolR;cases nmr L (a+1) with
  | inl e=>rfl
  | inr r=>
   obtain⟨n,b⟩:=r;show(if n.1<0 then _ else _)=thn (if n.1<0 then _ else _) _;by_cases h0:n.1<0
   ·rw[if_pos h0,if_pos h0];rfl
   ·rw[if_neg h0,if_neg h0];rfl
 ·rw[if_neg h,if_neg h]
def dirR(L:List Tok):RH Dr:=if psW L 0 0 8 wOption=true then thn (tkw L 1 5) fun n a=>thn (tkw L a 5) fun x a=>.inr (.opt n x,a) else thn (dayR L 0) fun d a=>thn (tkwK L [8,10] a) fun w a=>mapR (Dr.day d) (rest15 L (0,0,0) (bs9 w) a)
theorem hd_eq(L:List Tok):hd L=fin15 L (dirR L):=by
 unfold hd dirR;cases h0:L[0]? with
 | none=>
  have h1:psW L 0 0 8 wOption=false:=by unfold psW knd;rw[h0];rfl
  have h2:dayR L 0=.inl (2,0):=by unfold dayR tkw;rw[h0];rfl
  rw[h1,if_neg (by decide),h2];rfl
 | some t=>
  have h1:psW L 0 0 8 wOption=(decide (t.1=8)&&decide (bs9 t.2=wOption)):=by unfold psW knd;rw[h0];rfl
  dsimp only
  by_cases h8:t.1=8∧bs9 t.2=wOption
  ·rw[if_pos h8,if_pos (by rw[h1,decide_eq_true h8.1,decide_eq_true h8.2];rfl)]
  ·have hz:¬(psW L 0 0 8 wOption=true):=by rw[h1];intro q;rw[Bool.and_eq_true,decide_eq_true_iff,decide_eq_true_iff] at q;exact h8 q
   rw[if_neg h8,if_neg hz];by_cases h3:t.1=1
   ·rw[if_pos h3]
    by_cases hp:Dat.prOk t.2=true
    ·rw[if_pos hp]
     have h2:dayR L 0=.inr (pday t.2,1):=by unfold dayR;rw[tkw_some h0 h3];exact if_pos hp
     rw[h2];show _=fin15 L (thn (tkwK L [8,10] 1) fun w a=>mapR (Dr.day (pday t.2)) (rest15 L (0,0,0) (bs9 w) a));unfold tkwK;cases hu:L[1]? with
     | none=>rfl
     | some u=>
      have e:([8,10]:List Int).any (fun k=>decide (u.1=k))=(decide (u.1=8)||(decide (u.1=10)||false)):=rfl;dsimp only
      by_cases hk:u.1=8∨u.1=10
      ·rw[if_pos hk,if_pos (by rw[e];rcases hk with hk|hk<;>rw[hk]<;>rfl),rest_day];rfl
      ·rw[if_neg hk,if_neg (by rw[e,decide_eq_false (fun q=>hk (.inl q)),decide_eq_false (fun q=>hk (.inr q))];decide)];rfl
    ·rw[if_neg hp]
     have h2:dayR L 0=.inl (3,0):=by unfold dayR;rw[tkw_some h0 h3];exact if_neg hp
     rw[h2];rfl
   ·rw[if_neg h3]
    have h2:dayR L 0=.inl (3,0):=by unfold dayR tkw;rw[h0];show thn (if t.1=1 then _ else _) _=_;rw[if_neg h3];rfl
    rw[h2];rfl
theorem rTxt_none{L:List Tok}{a:Nat}(h:knd L a 5=false):rTxt L a=((⟨#[]⟩,⟨#[]⟩),a):=by
 unfold rTxt;unfold knd at h;cases ht:L[a]? with
 | none=>rfl
 | some t=>rw[ht] at h;dsimp only;exact if_neg (of_decide_eq_false h)
theorem rTxt_one{L:List Tok}{a:Nat}{t:Tok}(ht:L[a]?=some t)(h5:t.1=5)(h:knd L (a+1) 5=false):rTxt L a=((⟨#[]⟩,t.2),a+1):=by
 unfold rTxt;unfold knd at h;rw[ht];dsimp only;rw[if_pos h5];cases hu:L[a+1]? with
 | none=>rfl
 | some u=>rw[hu] at h;dsimp only;exact if_neg (of_decide_eq_false h)
theorem rTxt_two{L:List Tok}{a:Nat}{t u:Tok}(ht:L[a]?=some t)(h5:t.1=5)(hu:L[a+1]?=some u)(h6:u.1=5):rTxt L a=((t.2,u.2),a+2):=by
 unfold rTxt;rw[ht];dsimp only;rw[if_pos h5,hu];dsimp only;rw[if_pos h6]
theorem curL_stop{L:List Tok}{f a:Nat}(h:isW L a [44]=false):curL L f a=.inr ([],a):=by
 cases f with
 | zero=>rfl
 | succ f=>unfold curL;rw[if_neg (by rw[h];decide)]
theorem curL_go{L:List Tok}{f a:Nat}(h:isW L a [44]=true):curL L (f+1) a=thn (tkw L (a+1) 3) fun x b=>thn (curL L f b) fun xs c=>.inr (x::xs,c):=by
 rw[curL,if_pos h]
theorem thn_thn{α β γ:Type}(r:RH α)(f:α→Nat→RH β)(g:β→Nat→RH γ):thn (thn r f) g=thn r fun x b=>thn (f x b) g:=by
 rcases r with e|⟨x,b⟩<;>rfl
def curAcc(L:List Tok)(f:Nat)(acc:List ByteArray)(a:Nat):RH (List ByteArray):=thn (curL L f a) fun xs c=>.inr (acc++xs,c)
theorem curAcc_stop{L:List Tok}{f a:Nat}{acc:List ByteArray}(h:isW L a [44]=false):curAcc L f acc a=.inr (acc,a):=by
 unfold curAcc;rw[curL_stop h];show Sum.inr (acc++[],a)=_;rw[List.append_nil]
theorem curAcc_go{L:List Tok}{f a:Nat}{acc:List ByteArray}(h:isW L a [44]=true):curAcc L (f+1) acc a=thn (tkw L (a+1) 3) fun x b=>curAcc L f (acc++[x]) b:=by
 unfold curAcc;rw[curL_go h,thn_thn];congr 1;funext x b
 rw[thn_thn];congr 1;funext xs c
 show Sum.inr (acc++x::xs,c)=_;rw[List.append_assoc];rfl
theorem curR_acc(L:List Tok)(a:Nat):curR L a=thn (tkw L a 3) fun x b=>curAcc L L.length [x] b:=rfl
end Go.Proofs.YthpmaoimceojgaaGreatDoor.Num
