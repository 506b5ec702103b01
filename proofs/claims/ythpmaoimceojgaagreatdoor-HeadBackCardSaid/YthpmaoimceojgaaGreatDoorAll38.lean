/- Lemmas of the proof: ExpN, ExpV, AmoMath, AmoMathB, AmoMathC, HeaMath, AmoMathD, AmoMathE, HeaMathB, HeaMathC, HeaMathD, HeaMathE, AmoA, AmoB, HeaMathF, HeaD, HeaA, HeaMathG, AmoC, AmoD, AmoE, ExpO, ExpT, ExpU, ExpW, ExpX, ExpY, ExpZ, HeaMathH. -/
import Derived.Test.YthpmaoimceojgaaGreatDoorAll36
import Derived.Test.YthpmaoimceojgaaGreatDoorAll37
import Derived.Test.YthpmaoimceojgaaGreatDoorAll24
import Derived.Test.YthpmaoimceojgaaGreatDoorAll33
import Derived.Test.YthpmaoimceojgaaGreatDoorAll22
import Derived.Test.YthpmaoimceojgaaGreatDoorAll16
import Derived.Deep.Cut
set_option linter.unusedVariables false
set_option linter.unusedSimpArgs false
set_option maxRecDepth 100000
set_option maxHeartbeats 32000000
open Go.Lib renaming hid→Jh
namespace Go.Proofs.YthpmaoimceojgaaGreatDoor.Num
open Go.RowKit
def tks (no:Int) (ts:List Wd):List Tk4:=ts.map fun t=>((t.1:Int),st9 t.2.1,no,(t.2.2:Int))
theorem rowK_tks (no:Int):∀ts:List Wd,rowK (tks no ts)=rowT no ts
 | []=>rfl
 | t::ts=>by
  show rowK (((t.1:Int),st9 t.2.1,no,(t.2.2:Int))::tks no ts)=_;rw[rowK,rowK_tks no ts,rowT]
theorem rdK_of {w:World}{A:Option Addr}{n c:Nat}{no:Int}{ts:List Wd}(h:RdT w A n c no ts):RdK w w.heap.size A n c (tks no ts):=by
 obtain⟨h1,h2,h3,h4⟩:=h;refine⟨by rw[h1];unfold tks;rw[List.length_map],h2,h3,?_⟩;rcases h4 with rfl|⟨b,o,h4,h5,h6⟩
 ·exact .inl rfl
 ·exact .inr ⟨b,o,h4,h5,by rw[rowK_tks];exact h6⟩
def tk (u:Nat×List Nat):Tok:=((u.1:Int),st9 u.2)
theorem tks_tk (no:Int) {ts:List Wd}{us:List (Nat×List Nat)}(h:ts.map (fun t=>(t.1,t.2.1))=us):(tks no ts).map tok=us.map tk:=by
 rw[← h];unfold tks;rw[List.map_map,List.map_map];rfl
section
variable {L X Y Q:List Tok}{x:Tok}{a b d c:Nat}
theorem dr_one (h:L.drop a=x::Y):L.drop (a+1)=Y:=by rw[← List.drop_drop,h];rfl
theorem dr_app (h:L.drop a=X++Y) (hb:X.length=b):L.drop (a+b)=Y:=by rw[← List.drop_drop,h,← hb,List.drop_left]
theorem dr_get (h:L.drop a=x::Y):L[a]?=some x:=by
 have:=congrArg (fun l=>l[0]?) h;rw[List.getElem?_drop] at this;simpa using this
theorem dr_is (h:L.drop a=x::Y):isAt L a c=isg x c:=by unfold isAt;rw[dr_get h];rfl
end
theorem isg_tk (x c:Nat) (hx:x<256):isg (tk (10,[x])) c=decide (x=c):=by
 unfold isg tk;have:bs9 (st9 [x])=[x]:=bs9_st9 (by intro y hy;rw[List.mem_singleton] at hy;omega);rw[this];by_cases h:x=c
 ·subst h;simp
 ·rw[decide_eq_false h]
  show(decide _&&decide ([x]=[c]))=false;rw[decide_eq_false (p:=[x]=[c]) (by intro e;exact h (List.cons.inj e).1),Bool.and_false]
theorem bod_lt (a s:Nat):∀c∈bod a s,c<256:=fun c hc=>app_lt (txt_bytes _) (beh_lt _ _) c hc
theorem numV_bod (a s:Nat):numV (st9 (bod a s))=some ((a:Int),s):=by
 obtain⟨h1,h2,h3,h4,h5⟩:=told (i:=(a:Int)) (s:=s) (x:=txt (a / 10 ^ s)) (.inl rfl);have e0:sgT (a:Int)=[]:=by unfold sgT;rw[if_neg (by omega)]
 have ec:codes (st9 (bod a s))=bod a s:=bs9_st9 (bod_lt a s);rw[e0,List.nil_append,Int.natAbs_natCast] at h1 h2 h4;rw[Int.natAbs_natCast] at h3 h5;unfold numV;rw[ec];have e1:rst (bod a s)=bod a s:=h1;rw[if_pos ⟨h2,by rw[e1];exact h3⟩,e1];exact congrArg some (Prod.ext h4 h5)
theorem tT_len (i:Int) (s:Nat):((tT i s).map tk).length=if i<0 then 2 else 1:=by
 unfold tT;split<;>rfl
section
variable {L Q:List Tok}{a d:Nat}
theorem fac_val {i:Int}{s:Nat}(h:L.drop a=(tT i s).map tk++Q) (hd:d<64):FAC L d a=.inr (i,s,a+((tT i s).map tk).length):=by
 rw[tT_len];unfold tT at h;by_cases hi:i<0
 ·rw[if_pos hi] at h ⊢
  have h0:L.drop a=tk (10,[45])::(tk (4,bod i.natAbs s)::Q):=h;have h1:L.drop (a+1)=tk (4,bod i.natAbs s)::Q:=dr_one h0;have hst:sta (tk (10,[45]))=true:=by
   unfold sta;rw[isg_tk 45 45 (by decide)];simp
  rw[FAC_sign (dr_get h0) (by decide) hst hd (by rw[isg_tk 45 40 (by decide)];rfl),FAC_num (dr_get h1) rfl];have e:numV (tk (4,bod i.natAbs s)).2=some ((i.natAbs:Int),s):=numV_bod _ _;rw[e,isg_tk 45 45 (by decide)];show(Sum.inr (if decide (45=45)=true then -(i.natAbs:Int) else (i.natAbs:Int),s,a+1+1):Rs)=_;rw[if_pos (by decide)];have : -(i.natAbs:Int)=i:=by omega
  rw[this]
 ·rw[if_neg hi] at h ⊢
  have h0:L.drop a=tk (4,bod i.natAbs s)::Q:=h;rw[FAC_num (dr_get h0) rfl];have e:numV (tk (4,bod i.natAbs s)).2=some ((i.natAbs:Int),s):=numV_bod _ _;rw[e];have:(i.natAbs:Int)=i:=by omega
  dsimp only
  rw[this]
end
section
variable {L:List Tok}{k:Nat}
end
def isW (L:List Tok) (a:Nat) (x:List Nat):Bool:=(L[a]?).any fun t=>decide (t.1=10)&&decide (bs9 t.2=x)
abbrev RA:=(Nat×Nat) ⊕ (Int×Nat×ByteArray×Nat)
def amt (L:List Tok) (a:Nat):RA:=match SUM L 0 a with
 | .inl e=>.inl e
 | .inr (i,k,b)=>match L[b]? with
  | none=>.inl (2,b)
  | some t=>if t.1=3 then .inr (i,k,t.2,b+1) else .inl (3,b)
structure Un where
 has:Bool
 i:Int
 k:Nat
 cur:ByteArray
def Un.zero:Un:=⟨false,0,0,⟨#[]⟩⟩
def unt (L:List Tok) (a:Nat):(Nat×Nat) ⊕ (Un×Nat):=match L[a]? with
 | none=>.inr (Un.zero,a)
 | some t=>if t.1=3 then .inr (⟨false,0,0,t.2⟩,a+1) else if sta t=false then .inr (Un.zero,a) else match amt L a with
  | .inl e=>.inl e
  | .inr (i,k,c,b)=>.inr (⟨true,i,k,c⟩,b)
structure Co where
 tot:Bool
 un:Un
 day:Int×Int×Int
 lab:ByteArray
def pday (s:ByteArray):Int×Int×Int:=if Dat.prOk s=true then (Dat.prY s,Dat.prM s,Dat.prD s) else (0,0,0)
def prc (L:List Tok) (a:Nat):(Nat×Nat) ⊕ (Option (Bool×Un)×Nat):=
 if isW L a [64,64]=true∨isW L a [64]=true then (match unt L (a+1) with
  | .inl e=>.inl e
  | .inr (u,b)=>.inr (some (isW L a [64,64],u),b))
 else .inr (none,a)
def amtT (i:Int) (k:Nat) (c:List Nat):List Nat:=txtD i k++32::c
def untT (u:Un):List Nat:=if u.has=true then amtT u.i u.k (bs9 u.cur) else bs9 u.cur
def dayT (d:Int×Int×Int):List Nat:=bs9 (Dat.text8 d.1 d.2.1 d.2.2)
def jnT:List (List Nat)→List Nat
 | []=>[]
 | [x]=>x
 | x::y::r=>x++44::32::jnT (y::r)
def PrpL (L:List Tok):Prop:=∀t∈L,Prp t.1.toNat (bs9 t.2)
section
variable {L:List Tok}(hL:PrpL L) {a b k:Nat}{i:Int}{x:ByteArray}{u:Un}{c c':Co}{m:Bool}
include hL
end
theorem bs9_nil {s:ByteArray}(h:bs9 s=[]):s=⟨#[]⟩:=by rw[← st9_bs9 s,h];rfl
def untW (u:Un):List (Nat×List Nat):=(if u.has=true then tT u.i u.k else [])++[(3,bs9 u.cur)]
theorem dig_head:∀n,n<10→YthpmaoimceojgaaGreatDoor.dgB (Dat.dg8 n).toNat=true:=by decide
theorem day_told {d:Int×Int×Int}(h:Dat.ok8 d.1 d.2.1 d.2.2=true):D12 (dayT d)=true∧(∃c u,dayT d=c::u∧YthpmaoimceojgaaGreatDoor.dgB c=true)∧pday (st9 (dayT d))=d∧dayT d≠[]:=by
 obtain⟨h1,h2,h3,h4,h5⟩:=Dat.told_day h;have hp:Dat.prOk (Dat.text8 d.1 d.2.1 d.2.2)=true:=by unfold Dat.prOk;rw[h2,h3,h4,h5,h];rfl
 have hl:(dayT d).length=10:=by unfold dayT;rw[bs9_len];exact h1
 refine⟨by unfold dayT;rw[d12_is];exact hp,?_,?_,by intro e;rw[e] at hl;cases hl⟩
 ·unfold dayT
  rw[Dat.text8_ok h];exact⟨_,_,rfl,dig_head _ (Nat.mod_lt _ (by decide))⟩
 ·unfold dayT pday
  rw[st9_bs9,if_pos hp,h3,h4,h5]
theorem tk_ne {k:Nat}{x:List Nat}{m:Int}(h:(k:Int)≠m):(tk (k,x)).1≠m:=h
section
variable {L:List Tok}{a b:Nat}{Q:List Tok}{u:Un}{c:Co}
theorem cur_end {x:List Nat}:∀cc,isg (tk (3,x)) cc=false:=fun cc=>by
 unfold isg;rw[decide_eq_false (tk_ne (by decide))];rfl
theorem amt_told {i:Int}{k:Nat}{x:List Nat}(h:L.drop a=(tT i k).map tk++(tk (3,x)::Q)):amt L a=.inr (i,k,st9 x,a+(tT i k).length+1):=by
 have f0:=fac_val (d:=0) h (by decide);have h1:=dr_app h rfl;rw[List.length_map] at f0 h1;have i1:∀cc,isAt L (a+(tT i k).length) cc=false:=fun cc=>by rw[dr_is h1];exact cur_end cc
 have P0:PRO L 0 a=.inr (i,k,a+(tT i k).length):=by rw[PRO_go f0,PROL_end (i1 _) (i1 _)]
 have S0:SUM L 0 a=.inr (i,k,a+(tT i k).length):=by rw[SUM_go P0,SUML_end (i1 _) (i1 _)]
 unfold amt;rw[S0];dsimp only
 rw[dr_get h1];rfl
end
structure Pt where
 t:List Nat
 w:List (Nat×List Nat)
 f:Co→Co
theorem isW_tk {L Q:List Tok}{a:Nat}{x:List Nat}(h:L.drop a=tk (10,x)::Q) (hx:∀c∈x,c<256) (y:List Nat):isW L a y=decide (x=y):=by
 unfold isW;rw[dr_get h];have:bs9 (tk (10,x)).2=x:=bs9_st9 hx;show(decide ((tk (10,x)).1=10)&&decide (bs9 (tk (10,x)).2=y))=_;rw[this,decide_eq_true (show(tk (10,x)).1=10 from rfl),Bool.true_and]
theorem isW_end {L:List Tok}{a:Nat}(h:L.drop a=[]) (y:List Nat):isW L a y=false:=by
 unfold isW;rw[List.getElem?_eq_none (List.drop_eq_nil_iff.1 h)];rfl
theorem isW_kind {L Q:List Tok}{a k:Nat}{x:List Nat}(h:L.drop a=tk (k,x)::Q) (hk:(k:Int)≠10) (y:List Nat):isW L a y=false:=by
 unfold isW;rw[dr_get h];show(decide ((tk (k,x)).1=10)&&_)=_;rw[decide_eq_false (tk_ne hk)];rfl
def parts (c:Co):List Pt:=(if c.un.has=true∨bs9 c.un.cur≠[] then [⟨untT c.un,untW c.un,fun e=>⟨e.tot,c.un,e.day,e.lab⟩⟩] else [])++
 ((if dayT c.day≠[] then [⟨dayT c.day,[(1,dayT c.day)],fun e=>⟨e.tot,e.un,c.day,e.lab⟩⟩] else [])++
 (if bs9 c.lab≠[] then [⟨qt (bs9 c.lab),[(5,bs9 c.lab)],fun e=>⟨e.tot,e.un,e.day,c.lab⟩⟩] else []))
section
variable {c:Co}(hc:c.ok)
include hc
omit hc in
omit hc in
end
abbrev RH (α:Type):=(Nat×Nat) ⊕ (α×Nat)
def thn {α β:Type}:RH α→(α→Nat→RH β)→RH β
 | .inl e,_=>.inl e
 | .inr (x,b),f=>f x b
theorem thn_ok {α β:Type}{r:RH α}{f:α→Nat→RH β}{y:β}{c:Nat}(h:thn r f=.inr (y,c)):∃x b,r=.inr (x,b)∧f x b=.inr (y,c):=by
 rcases r with e|⟨x,b⟩
 ·cases h
 ·exact⟨x,b,rfl,h⟩
theorem thn_go {α β:Type}{r:RH α}{f:α→Nat→RH β}{x:α}{b:Nat}(h:r=.inr (x,b)):thn r f=f x b:=by rw[h];rfl
theorem thn_bad {α β:Type}{r:RH α}{f:α→Nat→RH β}{e p:Nat}(h:thn r f=.inl (e,p)) (h1:∀{e p},r=.inl (e,p)→e≠0) (h2:∀{x b e p},f x b=.inl (e,p)→e≠0):e≠0:=by
 rcases r with q|⟨x,b⟩
 ·cases h;exact h1 rfl
 ·exact h2 h
def tkw (L:List Tok) (a:Nat) (k:Int):RH ByteArray:=match L[a]? with
 | none=>.inl (2,a)
 | some t=>if t.1=k then .inr (t.2,a+1) else .inl (3,a)
def knd (L:List Tok) (a:Nat) (k:Int):Bool:=(L[a]?).any fun t=>decide (t.1=k)
def nmr (L:List Tok) (a:Nat):RH (Int×Nat):=match SUM L 0 a with
 | .inl e=>.inl e
 | .inr (i,k,b)=>.inr ((i,k),b)
def amr (L:List Tok) (a:Nat):RH (Int×Nat×ByteArray):=match amt L a with
 | .inl e=>.inl e
 | .inr (i,k,x,b)=>.inr ((i,k,x),b)
def curL (L:List Tok):Nat→Nat→RH (List ByteArray)
 | 0,a=>.inr ([],a)
 | f+1,a=>if isW L a [44]=true then thn (tkw L (a+1) 3) fun x b=>thn (curL L f b) fun xs c=>.inr (x::xs,c) else .inr ([],a)
def curs (L:List Tok) (a:Nat):RH (List ByteArray):=if knd L a 3=true then thn (tkw L a 3) fun x b=>thn (curL L L.length b) fun xs c=>.inr (x::xs,c) else .inr ([],a)
def wStrict:List Nat:=[83,84,82,73,67,84]
def wFifo:List Nat:=[70,73,70,79]
def wLifo:List Nat:=[76,73,70,79]
def wAverage:List Nat:=[65,86,69,82,65,71,69]
def wNone:List Nat:=[78,79,78,69]
def mthT:Nat→List Nat
 | 0=>wStrict
 | 1=>wFifo
 | 2=>wLifo
 | 3=>wAverage
 | 4=>wNone
 | _=>[]
def mth (x:List Nat):Option Nat:=if x=wStrict then some 0 else if x=wFifo then some 1 else if x=wLifo then some 2 else if x=wAverage then some 3 else if x=wNone then some 4 else none
def wOption:List Nat:=[111,112,116,105,111,110]
def wOpen:List Nat:=[111,112,101,110]
def wClose:List Nat:=[99,108,111,115,101]
def wCommodity:List Nat:=[99,111,109,109,111,100,105,116,121]
def wPrice:List Nat:=[112,114,105,99,101]
def wPad:List Nat:=[112,97,100]
def wBalance:List Nat:=[98,97,108,97,110,99,101]
def wNote:List Nat:=[110,111,116,101]
def wTxn:List Nat:=[116,120,110]
inductive Dr
 | opn (day:Int×Int×Int) (acc:ByteArray) (cs:List ByteArray) (book:Nat)
 | cls (day:Int×Int×Int) (acc:ByteArray)
 | com (day:Int×Int×Int) (cur:ByteArray)
 | prc (day:Int×Int×Int) (cur:ByteArray) (i:Int) (k:Nat) (x:ByteArray)
 | pad (day:Int×Int×Int) (acc oth:ByteArray)
 | bal (day:Int×Int×Int) (acc:ByteArray) (i:Int) (k:Nat) (tol:Option (Int×Nat)) (x:ByteArray)
 | txn (day:Int×Int×Int) (flag:Bool) (pay nar:ByteArray) (tags links:List ByteArray)
 | nte (day:Int×Int×Int) (acc text:ByteArray)
 | opt (name text:ByteArray)
def mthO (L:List Tok) (a:Nat):Option Nat:=(L[a]?).bind fun t=>mth (bs9 t.2)
def rOpen (L:List Tok) (d:Int×Int×Int) (a:Nat):RH Dr:=thn (tkw L a 2) fun ac a=>thn (curs L a) fun cs a=>
 if knd L a 5=true then (match mthO L a with|none=>.inl (3,a)|some m=>.inr (.opn d ac cs m,a+1)) else .inr (.opn d ac cs 0,a)
def rTol (L:List Tok) (a:Nat):RH (Option (Int×Nat)):=if isW L a [126]=true then thn (nmr L (a+1)) fun n a=>if n.1<0 then .inl (3,a - 1) else .inr (some n,a) else .inr (none,a)
def rBal (L:List Tok) (d:Int×Int×Int) (a:Nat):RH Dr:=thn (tkw L a 2) fun ac a=>thn (nmr L a) fun n a=>thn (rTol L a) fun t a=>thn (tkw L a 3) fun x a=>.inr (.bal d ac n.1 n.2 t x,a)
def rTxt (L:List Tok) (a:Nat):(ByteArray×ByteArray)×Nat:=match L[a]? with
 | none=>((⟨#[]⟩,⟨#[]⟩),a)
 | some t=>if t.1=5 then (match L[a+1]? with
  | none=>((⟨#[]⟩,t.2),a+1)
  | some u=>if u.1=5 then ((t.2,u.2),a+2) else ((⟨#[]⟩,t.2),a+1)) else ((⟨#[]⟩,⟨#[]⟩),a)
def adds (l:List ByteArray) (s:ByteArray):List ByteArray:=if l.any (fun x=>decide (bs9 x=bs9 s))=true then l else l++[s]
def rTgs (L:List Tok):Nat→List ByteArray→List ByteArray→Nat→(List ByteArray×List ByteArray)×Nat
 | 0,T,K,a=>((T,K),a)
 | f+1,T,K,a=>match L[a]? with
  | none=>((T,K),a)
  | some t=>if t.1=6 then rTgs L f (adds T t.2) K (a+1) else if t.1=7 then rTgs L f T (adds K t.2) (a+1) else ((T,K),a)
def rTxn (L:List Tok) (d:Int×Int×Int) (flag:Bool) (a:Nat):RH Dr:=
 .inr (.txn d flag (rTxt L a).1.1 (rTxt L a).1.2 (rTgs L (L.length+1) [] [] (rTxt L a).2).1.1 (rTgs L (L.length+1) [] [] (rTxt L a).2).1.2,(rTgs L (L.length+1) [] [] (rTxt L a).2).2)
def rest15 (L:List Tok) (d:Int×Int×Int) (w:List Nat) (a:Nat):RH Dr:=
 if w=wOpen then rOpen L d a
 else if w=wClose then thn (tkw L a 2) fun ac a=>.inr (.cls d ac,a)
 else if w=wCommodity then thn (tkw L a 3) fun c a=>.inr (.com d c,a)
 else if w=wPrice then thn (tkw L a 3) fun c a=>thn (amr L a) fun n a=>.inr (.prc d c n.1 n.2.1 n.2.2,a)
 else if w=wPad then thn (tkw L a 2) fun x a=>thn (tkw L a 2) fun y a=>.inr (.pad d x y,a)
 else if w=wBalance then rBal L d a
 else if w=wNote then thn (tkw L a 2) fun x a=>thn (tkw L a 5) fun y a=>.inr (.nte d x y,a)
 else if w=wTxn∨w=[42] then rTxn L d false a
 else if w=[33] then rTxn L d true a
 else .inl (3,a - 1)
def fin15 (L:List Tok) (r:RH Dr):RH Dr:=thn r fun d a=>if a<L.length then .inl (3,a) else .inr (d,a)
def hd (L:List Tok):RH Dr:=match L[0]? with
 | none=>.inl (2,0)
 | some t=>if t.1=8∧bs9 t.2=wOption then fin15 L (thn (tkw L 1 5) fun n a=>thn (tkw L a 5) fun x a=>.inr (.opt n x,a))
  else if t.1=1 then (if Dat.prOk t.2=true then (match L[1]? with
   | none=>.inl (2,1)
   | some u=>if u.1=8∨u.1=10 then fin15 L (rest15 L (pday t.2) (bs9 u.2) 2) else .inl (3,1)) else .inl (3,0))
  else .inl (3,0)
structure Pc where
 t:List Nat
 w:List (Nat×List Nat)
def Pc.told (p:Pc):Prop:=∀{r:List Nat}{us:List (Nat×List Nat)},Nx r→Wds r us→Wds (p.t++r) (p.w++us)
def jnB:List (List Nat)→List Nat
 | []=>[]
 | [x]=>x
 | x::y::r=>x++32::jnB (y::r)
theorem wds_pcs:∀(P:List Pc),(∀p∈P,p.told)→Wds (jnB (P.map (·.t))) (P.flatMap (·.w))
 | [],_=>wds_nil
 | [p],h=>by
  have:=h p List.mem_cons_self (.inl rfl) wds_nil;rw[List.append_nil] at this;exact this
 | p::q::r,h=>by
  have:=h p List.mem_cons_self (r:=32::jnB ((q::r).map (·.t))) (.inr ⟨_,rfl⟩) (wds_blank (wds_pcs (q::r) fun x hx=>h x (List.mem_cons_of_mem _ hx)));exact this
def pW (k:Nat) (y:List Nat):Pc:=⟨YthpmaoimceojgaaGreatDoor.txt k y,[(k,y)]⟩
def pC (y:List Nat):Pc:=⟨y++[44],[(3,y),(10,[44])]⟩
def pN (i:Int) (k:Nat):Pc:=⟨Num.txtD i k,tT i k⟩
def pD (d:Int×Int×Int):Pc:=⟨dayT d,[(1,dayT d)]⟩
theorem pW_told {k:Nat}{y:List Nat}(h:Prp k y):(pW k y).told:=fun {r us} hr hw=>by
 obtain⟨l,n,h⟩:=h;obtain⟨-,-,⟨c,u,e,h1,h2,h3⟩,hb⟩:=nxt_back dayok12 h;have hn:=hb r hr;show Wds (YthpmaoimceojgaaGreatDoor.txt k y++r) ((k,y)::us);refine wds_of (n:=(YthpmaoimceojgaaGreatDoor.txt k y).length) ?_ ?_ hn List.drop_left hw
 ·rw[e,List.cons_append,indl,if_neg (by omega)]
 ·rw[e]
  rintro(q|q)
  ·cases q
  ·exact h3 (Option.some.inj q)
theorem nx_fol {r:List Nat}(h:Nx r):Fol r:=by
 rcases h with rfl|⟨u,rfl⟩
 ·exact fol_nil
 ·exact fol_blank _
theorem pC_told {y:List Nat}(h:CurW y):(pC y).told:=fun {r us} hr hw=>by
 show Wds ((y++[44])++r) ((3,y)::(10,[44])::us);rw[List.append_assoc];refine wds_cur h (fun c hc=>by obtain rfl:=Option.some.inj hc;rfl) (wds_one (.inl rfl) ?_ hw);rcases hr with rfl|⟨u,rfl⟩
 ·intro e;cases e
 ·intro e;have:=Option.some.inj e;omega
theorem pN_told (i:Int) (k:Nat):(pN i k).told:=fun {r us} hr hw=>wds_dec i k (nx_fol hr) hw
theorem pD_told {d:Int×Int×Int}(h:Dat.ok8 d.1 d.2.1 d.2.2=true):(pD d).told:=fun {r us} hr hw=>by
 obtain⟨h1,h2,-,-⟩:=day_told h;refine wds_day h1 h2 (fun c hc=>?_) hw;rcases hr with rfl|⟨u,rfl⟩
 ·cases hc
 ·obtain rfl:=Option.some.inj hc;rfl
theorem pT_told (y:List Nat):(pW 5 y).told:=fun {r us} _ hw=>wds_text y hw
def curP:List ByteArray→List Pc
 | []=>[]
 | [x]=>[pW 3 (bs9 x)]
 | x::y::r=>pC (bs9 x)::curP (y::r)
def pcs:Dr→List Pc
 | .opn d a cs b=>pD d::pW 8 wOpen::pW 2 (bs9 a)::(curP cs++if b=0 then [] else [pW 5 (mthT b)])
 | .cls d a=>[pD d,pW 8 wClose,pW 2 (bs9 a)]
 | .com d c=>[pD d,pW 8 wCommodity,pW 3 (bs9 c)]
 | .prc d c i k x=>[pD d,pW 8 wPrice,pW 3 (bs9 c),pN i k,pW 3 (bs9 x)]
 | .pad d a o=>[pD d,pW 8 wPad,pW 2 (bs9 a),pW 2 (bs9 o)]
 | .bal d a i k t x=>pD d::pW 8 wBalance::pW 2 (bs9 a)::pN i k::((match t with|none=>[]|some n=>[pW 10 [126],pN n.1 n.2])++[pW 3 (bs9 x)])
 | .txn d f p n T K=>pD d::pW 10 (if f=true then [33] else [42])::((if bs9 p=[] then [] else [pW 5 (bs9 p)])++(pW 5 (bs9 n)::(T.map (fun x=>pW 6 (bs9 x))++K.map (fun x=>pW 7 (bs9 x)))))
 | .nte d a x=>[pD d,pW 8 wNote,pW 2 (bs9 a),pW 5 (bs9 x)]
 | .opt n x=>[pW 8 wOption,pW 5 (bs9 n),pW 5 (bs9 x)]
def drT (d:Dr):List Nat:=jnB ((pcs d).map (·.t))
def drW (d:Dr):List (Nat×List Nat):=(pcs d).flatMap (·.w)
def Dr.ok:Dr→Prop
 | .opn d a cs b=>Dat.ok8 d.1 d.2.1 d.2.2=true∧Prp 2 (bs9 a)∧(∀c∈cs,Prp 3 (bs9 c))∧b≤4
 | .cls d a=>Dat.ok8 d.1 d.2.1 d.2.2=true∧Prp 2 (bs9 a)
 | .com d c=>Dat.ok8 d.1 d.2.1 d.2.2=true∧Prp 3 (bs9 c)
 | .prc d c _ _ x=>Dat.ok8 d.1 d.2.1 d.2.2=true∧Prp 3 (bs9 c)∧Prp 3 (bs9 x)
 | .pad d a o=>Dat.ok8 d.1 d.2.1 d.2.2=true∧Prp 2 (bs9 a)∧Prp 2 (bs9 o)
 | .bal d a _ _ t x=>Dat.ok8 d.1 d.2.1 d.2.2=true∧Prp 2 (bs9 a)∧(∀n,t=some n→0≤n.1)∧Prp 3 (bs9 x)
 | .txn d _ _ _ T K=>Dat.ok8 d.1 d.2.1 d.2.2=true∧(∀x∈T,Prp 6 (bs9 x))∧(∀x∈K,Prp 7 (bs9 x))∧(T.map bs9).Nodup∧(K.map bs9).Nodup
 | .nte d a _=>Dat.ok8 d.1 d.2.1 d.2.2=true∧Prp 2 (bs9 a)
 | .opt _ _=>True
theorem prp_lit8:Prp 8 wOption∧Prp 8 wOpen∧Prp 8 wClose∧Prp 8 wCommodity∧Prp 8 wPrice∧Prp 8 wPad∧Prp 8 wBalance∧Prp 8 wNote:=
 ⟨⟨wOption,6,by kernel_rfl⟩,⟨wOpen,4,by kernel_rfl⟩,⟨wClose,5,by kernel_rfl⟩,⟨wCommodity,9,by kernel_rfl⟩,⟨wPrice,5,by kernel_rfl⟩,⟨wPad,3,by kernel_rfl⟩,⟨wBalance,7,by kernel_rfl⟩,⟨wNote,4,by kernel_rfl⟩⟩
theorem prp_lit10:Prp 10 [42]∧Prp 10 [33]∧Prp 10 [126]:=⟨⟨[42],1,by kernel_rfl⟩,⟨[33],1,by kernel_rfl⟩,⟨[126],1,by kernel_rfl⟩⟩
theorem curP_told:∀(cs:List ByteArray),(∀c∈cs,Prp 3 (bs9 c))→∀p∈curP cs,p.told
 | [],_,p,hp=>by cases hp
 | [x],h,p,hp=>by rw[List.mem_singleton.1 hp];exact pW_told (h x List.mem_cons_self)
 | x::y::r,h,p,hp=>by
  rcases List.mem_cons.1 hp with rfl|hp
  ·exact pC_told (h x List.mem_cons_self).cur
  ·exact curP_told (y::r) (fun c hc=>h c (List.mem_cons_of_mem _ hc)) p hp
theorem pcs_told {d:Dr}(h:d.ok):∀p∈pcs d,p.told:=by
 obtain⟨w1,w2,w3,w4,w5,w6,w7,w8⟩:=prp_lit8;obtain⟨s1,s2,s3⟩:=prp_lit10;intro p hp;cases d with
 | opn d a cs b=>
  obtain⟨h1,h2,h3,-⟩:=h;rcases List.mem_cons.1 hp with rfl|hp
  ·exact pD_told h1
  rcases List.mem_cons.1 hp with rfl|hp
  ·exact pW_told w2
  rcases List.mem_cons.1 hp with rfl|hp
  ·exact pW_told h2
  rcases List.mem_append.1 hp with hp|hp
  ·exact curP_told cs h3 p hp
  ·split at hp
   ·cases hp
   ·rw[List.mem_singleton.1 hp];exact pT_told _
 | cls d a=>
  obtain⟨h1,h2⟩:=h;simp only[pcs,List.mem_cons,List.not_mem_nil,or_false] at hp
  rcases hp with rfl|rfl|rfl
  ·exact pD_told h1
  ·exact pW_told w3
  ·exact pW_told h2
 | com d c=>
  obtain⟨h1,h2⟩:=h;simp only[pcs,List.mem_cons,List.not_mem_nil,or_false] at hp
  rcases hp with rfl|rfl|rfl
  ·exact pD_told h1
  ·exact pW_told w4
  ·exact pW_told h2
 | prc d c i k x=>
  obtain⟨h1,h2,h3⟩:=h;simp only[pcs,List.mem_cons,List.not_mem_nil,or_false] at hp
  rcases hp with rfl|rfl|rfl|rfl|rfl
  ·exact pD_told h1
  ·exact pW_told w5
  ·exact pW_told h2
  ·exact pN_told i k
  ·exact pW_told h3
 | pad d a o=>
  obtain⟨h1,h2,h3⟩:=h;simp only[pcs,List.mem_cons,List.not_mem_nil,or_false] at hp
  rcases hp with rfl|rfl|rfl|rfl
  ·exact pD_told h1
  ·exact pW_told w6
  ·exact pW_told h2
  ·exact pW_told h3
 | bal d a i k t x=>
  obtain⟨h1,h2,-,h3⟩:=h;rcases List.mem_cons.1 hp with rfl|hp
  ·exact pD_told h1
  rcases List.mem_cons.1 hp with rfl|hp
  ·exact pW_told w7
  rcases List.mem_cons.1 hp with rfl|hp
  ·exact pW_told h2
  rcases List.mem_cons.1 hp with rfl|hp
  ·exact pN_told i k
  rcases List.mem_append.1 hp with hp|hp
  ·cases t with
   | none=>cases hp
   | some n=>
    rcases List.mem_cons.1 hp with rfl|hp
    ·exact pW_told s3
    ·rw[List.mem_singleton.1 hp];exact pN_told n.1 n.2
  ·rw[List.mem_singleton.1 hp];exact pW_told h3
 | txn d f q n T K=>
  obtain⟨h1,h2,h3,-,-⟩:=h;rcases List.mem_cons.1 hp with rfl|hp
  ·exact pD_told h1
  rcases List.mem_cons.1 hp with rfl|hp
  ·cases f with
   | true=>exact pW_told s2
   | false=>exact pW_told s1
  rcases List.mem_append.1 hp with hp|hp
  ·split at hp
   ·cases hp
   ·rw[List.mem_singleton.1 hp];exact pT_told _
  rcases List.mem_cons.1 hp with rfl|hp
  ·exact pT_told _
  rcases List.mem_append.1 hp with hp|hp
  ·obtain⟨x,hx,rfl⟩:=List.mem_map.1 hp
   exact pW_told (h2 x hx)
  ·obtain⟨x,hx,rfl⟩:=List.mem_map.1 hp
   exact pW_told (h3 x hx)
 | nte d a x=>
  obtain⟨h1,h2⟩:=h;simp only[pcs,List.mem_cons,List.not_mem_nil,or_false] at hp
  rcases hp with rfl|rfl|rfl|rfl
  ·exact pD_told h1
  ·exact pW_told w8
  ·exact pW_told h2
  ·exact pT_told _
 | opt n x=>
  simp only[pcs,List.mem_cons,List.not_mem_nil,or_false] at hp
  rcases hp with rfl|rfl|rfl
  ·exact pW_told w1
  ·exact pT_told _
  ·exact pT_told _
theorem wds_dr {d:Dr}(h:d.ok):Wds (drT d) (drW d):=wds_pcs (pcs d) (pcs_told h)
theorem txtD_len {i:Int}{k K:Nat}(h:Sz i k K):(txtD i k).length≤K+k+3:=by
 have h1:nd (i.natAbs / 10 ^ k)≤K+1:=by
  refine nd_le_of_lt K ?_;unfold Sz at h;rw[Nat.pow_add] at h;refine Nat.lt_of_lt_of_le ((Nat.div_lt_iff_lt_mul (Nat.pow_pos (by omega))).2 h) (Nat.pow_le_pow_right (by omega) (by omega))
 have h2:(beh k i.natAbs).length≤k+1:=by
  unfold beh;split
  ·exact Nat.zero_le _
  ·rw[List.length_cons,pad_len];exact Nat.le_refl _
 have h3:(sgT i).length≤1:=by unfold sgT;split<;>decide
 have h4:(txt (i.natAbs / 10 ^ k)).length=nd (i.natAbs / 10 ^ k):=rfl;rw[txtD_bod,List.length_append];unfold bod;rw[List.length_append];omega
theorem sz_zero (k:Nat):Sz 0 0 k:=Nat.pow_pos (by omega)
section
variable {L:List Tok}(hL:FewL L) {a b k:Nat}{i:Int}{x:ByteArray}{u:Un}{c c':Co}{m:Bool}
include hL
end
theorem dayT_len (d:Int×Int×Int):(dayT d).length≤10:=by
 cases h:Dat.ok8 d.1 d.2.1 d.2.2 with
 | true=>unfold dayT;rw[bs9_len,(Dat.told_day h).1];exact Nat.le_refl _
 | false=>unfold dayT;rw[Dat.text8_not h];exact Nat.zero_le _
theorem ws_tks (no:Int) (ts:List Wd) (hb:∀t∈ts,∀c∈t.2.1,c<256):Wgh.ws ((tks no ts).map tok) ((tks no ts).map tok).length=wgt ts:=by
 unfold Wgh.ws wgt;rw[List.take_length];induction ts with
 | nil=>rfl
 | cons t r ih=>
  have h1:=ih fun t ht=>hb t (List.mem_cons_of_mem _ ht)
  show(st9 t.2.1).size+11+_=t.2.1.length+11+_;rw[← bs9_len,bs9_st9 (hb t List.mem_cons_self)];exact congrArg (fun z=>t.2.1.length+11+z) h1
theorem err_all (L:List Tok):∀f:Nat,
  (∀{d a e p},facF L f d a=.inl (e,p)→e≠0)∧(∀{d a e p},proF L f d a=.inl (e,p)→e≠0)∧(∀{d i k a e p},proL L f d i k a=.inl (e,p)→e≠0)∧
  (∀{d a e p},sumF L f d a=.inl (e,p)→e≠0)∧(∀{d i k a e p},sumL L f d i k a=.inl (e,p)→e≠0):=by
 intro f;induction f with
 | zero=>
  refine⟨fun h=>?_,fun h=>?_,fun h=>?_,fun h=>?_,fun h=>?_⟩
  ·rw[facF] at h;cases h;decide
  ·rw[proF] at h;cases h;decide
  ·rw[proL] at h;cases h;decide
  ·rw[sumF] at h;cases h;decide
  ·rw[sumL] at h;cases h;decide
 | succ f ih=>
  obtain⟨ih1,ih2,ih3,ih4,ih5⟩:=ih;refine⟨fun {d a e p} h=>?_,fun {d a e p} h=>?_,fun {d i k a e p} h=>?_,fun {d a e p} h=>?_,fun {d i k a e p} h=>?_⟩
  ·rw[facF] at h
   split at h
   ·cases h;decide
   ·split at h
    ·split at h
     ·cases h;decide
     ·cases h
    ·split at h
     ·cases h;decide
     ·split at h
      ·cases h;decide
      ·split at h
       ·cases hr:sumF L f (d+1) (a+1) with
        | inl q=>
         rw[hr] at h;obtain⟨x,y⟩:=q;cases h
         exact ih4 hr
        | inr q=>
         obtain⟨x,y,z⟩:=q;rw[hr] at h;unfold Rs.shut at h;dsimp only at h
         split at h
         ·cases h
         ·cases h
          split<;>decide
       ·cases hr:facF L f (d+1) (a+1) with
        | inl q=>
         rw[hr] at h;obtain⟨x,y⟩:=q;cases h
         exact ih1 hr
        | inr q=>
         obtain⟨x,y,z⟩:=q;rw[hr] at h;cases h
  ·rw[proF] at h
   split at h
   ·rename_i hr
    cases h
    exact ih1 hr
   ·exact ih3 h
  ·rw[proL] at h
   split at h
   ·split at h
    ·rename_i hr
     cases h
     exact ih1 hr
    ·exact ih3 h
   ·split at h
    ·split at h
     ·rename_i hr
      cases h
      exact ih1 hr
     ·split at h
      ·cases h;decide
      ·exact ih3 h
    ·cases h
  ·rw[sumF] at h
   split at h
   ·rename_i hr
    cases h
    exact ih2 hr
   ·exact ih5 h
  ·rw[sumL] at h
   split at h
   ·split at h
    ·rename_i hr
     cases h
     exact ih2 hr
    ·exact ih5 h
   ·split at h
    ·split at h
     ·rename_i hr
      cases h
      exact ih2 hr
     ·exact ih5 h
    ·cases h
theorem SUM_bad {L:List Tok}{d a e p:Nat}(h:SUM L d a=.inl (e,p)):e≠0:=(err_all L _).2.2.2.1 h
section
variable {L:List Tok}{a e p b:Nat}
theorem amt_bad (h:amt L a=.inl (e,p)):e≠0:=by
 unfold amt at h;split at h
 ·rename_i hs
  cases h
  exact SUM_bad hs
 ·split at h
  ·cases h;decide
  ·split at h
   ·cases h
   ·cases h;decide
end
theorem dg_none:(dg (0:Int).natAbs).length≤900:=Nat.le_trans (sz_zero 0).nine (by decide)
section
variable {L:List Tok}(hL:Wgh.ws L L.length≤4010) {a b k:Nat}{i:Int}{x:ByteArray}{u:Un}{c c':Co}{m:Bool}
include hL
end
section
variable {L:List Tok}{a b:Nat}{k:Int}{x:ByteArray}
theorem tkw_ok (h:tkw L a k=.inr (x,b)):∃t,L[a]?=some t∧t.1=k∧x=t.2∧b=a+1:=by
 unfold tkw at h;split at h
 ·cases h
 ·rename_i t ht
  split at h
  ·rename_i hk;cases h;exact⟨t,ht,hk,rfl,rfl⟩
  ·cases h
theorem tkw_bad {e p:Nat}(h:tkw L a k=.inl (e,p)):e≠0:=by
 unfold tkw at h;split at h
 ·cases h;decide
 ·split at h
  ·cases h
  ·cases h;decide
theorem tkw_prp (hL:PrpL L) (h:tkw L a k=.inr (x,b)):Prp k.toNat (bs9 x):=by
 obtain⟨t,ht,hk,rfl,-⟩:=tkw_ok h;rw[← hk];exact hL t (List.mem_of_getElem? ht)
theorem nmr_bad {e p:Nat}(h:nmr L a=.inl (e,p)):e≠0:=by
 unfold nmr at h;split at h
 ·rename_i hs;cases h;exact SUM_bad hs
 ·cases h
theorem amr_bad {e p:Nat}(h:amr L a=.inl (e,p)):e≠0:=by
 unfold amr at h;split at h
 ·rename_i hs;cases h;exact amt_bad hs
 ·cases h
theorem amr_cur (hL:PrpL L) {n:Int×Nat×ByteArray}(h:amr L a=.inr (n,b)):Prp 3 (bs9 n.2.2):=by
 unfold amr at h;split at h
 ·cases h
 ·rename_i ha
  cases h
  unfold amt at ha;split at ha
  ·cases ha
  ·split at ha
   ·cases ha
   ·rename_i t ht
    split at ha
    ·rename_i h3
     cases ha
     have:=hL t (List.mem_of_getElem? ht);rw[h3] at this;exact this
    ·cases ha
theorem curL_ok (hL:PrpL L):∀(f:Nat) {a b:Nat}{cs:List ByteArray},curL L f a=.inr (cs,b)→∀c∈cs,Prp 3 (bs9 c)
 | 0,a,b,cs,h,c,hc=>by rw[curL] at h;cases h;cases hc
 | f+1,a,b,cs,h,c,hc=>by
  rw[curL] at h;split at h
  ·obtain⟨x,a1,h1,h⟩:=thn_ok h
   obtain⟨xs,a2,h2,h⟩:=thn_ok h;cases h
   rcases List.mem_cons.1 hc with rfl|hc
   ·exact tkw_prp hL h1
   ·exact curL_ok hL f h2 c hc
  ·cases h;cases hc
theorem curL_bad:∀(f:Nat) {a e p:Nat},curL L f a=.inl (e,p)→e≠0
 | 0,a,e,p,h=>by rw[curL] at h;cases h
 | f+1,a,e,p,h=>by
  rw[curL] at h;split at h
  ·exact thn_bad h tkw_bad fun h=>thn_bad h (curL_bad f) fun h=>by cases h
  ·cases h
theorem curs_ok (hL:PrpL L) {cs:List ByteArray}(h:curs L a=.inr (cs,b)):∀c∈cs,Prp 3 (bs9 c):=by
 unfold curs at h;split at h
 ·obtain⟨x,a1,h1,h⟩:=thn_ok h
  obtain⟨xs,a2,h2,h⟩:=thn_ok h;cases h
  intro c hc;rcases List.mem_cons.1 hc with rfl|hc
  ·exact tkw_prp hL h1
  ·exact curL_ok hL _ h2 c hc
 ·cases h;intro c hc;cases hc
theorem curs_bad {e p:Nat}(h:curs L a=.inl (e,p)):e≠0:=by
 unfold curs at h;split at h
 ·exact thn_bad h tkw_bad fun h=>thn_bad h (curL_bad _) fun h=>by cases h
 ·cases h
theorem mth_le {y:List Nat}{m:Nat}(h:mth y=some m):m≤4∧y=mthT m:=by
 unfold mth at h;split at h
 ·rename_i e;cases h;exact⟨by decide,e⟩
 split at h
 ·rename_i e;cases h;exact⟨by decide,e⟩
 split at h
 ·rename_i e;cases h;exact⟨by decide,e⟩
 split at h
 ·rename_i e;cases h;exact⟨by decide,e⟩
 split at h
 ·rename_i e;cases h;exact⟨by decide,e⟩
 ·cases h
theorem mthO_le {m:Nat}(h:mthO L a=some m):m≤4:=by
 unfold mthO at h;cases ht:L[a]? with
 | none=>rw[ht] at h;cases h
 | some t=>rw[ht] at h;exact(mth_le h).1
theorem adds_mem {l:List ByteArray}{s y:ByteArray}(h:y∈adds l s):y∈l∨y=s:=by
 unfold adds at h;split at h
 ·exact .inl h
 ·rcases List.mem_append.1 h with h|h
  ·exact .inl h
  ·exact .inr (List.mem_singleton.1 h)
theorem adds_nodup {l:List ByteArray}{s:ByteArray}(h:(l.map bs9).Nodup):((adds l s).map bs9).Nodup:=by
 unfold adds;split
 ·exact h
 ·rename_i hn
  rw[List.map_append,List.nodup_append];refine⟨h,List.nodup_cons.2 ⟨List.not_mem_nil,List.nodup_nil⟩,fun y hy z hz=>?_⟩;intro e;subst e;obtain⟨u,hu,rfl⟩:=List.mem_map.1 hy;have:bs9 u=bs9 s:=List.mem_singleton.1 hz;exact hn (List.any_eq_true.2 ⟨u,hu,decide_eq_true this⟩)
theorem rTgs_ok (hL:PrpL L):∀(f:Nat) {T K:List ByteArray}{a:Nat},(∀y∈T,Prp 6 (bs9 y))→(∀y∈K,Prp 7 (bs9 y))→(T.map bs9).Nodup→(K.map bs9).Nodup→
  (∀y∈(rTgs L f T K a).1.1,Prp 6 (bs9 y))∧(∀y∈(rTgs L f T K a).1.2,Prp 7 (bs9 y))∧((rTgs L f T K a).1.1.map bs9).Nodup∧((rTgs L f T K a).1.2.map bs9).Nodup
 | 0,T,K,a,h1,h2,h3,h4=>⟨h1,h2,h3,h4⟩
 | f+1,T,K,a,h1,h2,h3,h4=>by
  rw[rTgs];split
  ·exact⟨h1,h2,h3,h4⟩
  ·rename_i t ht
   have hp:=hL t (List.mem_of_getElem? ht);split
   ·rename_i h6
    rw[h6] at hp;refine rTgs_ok hL f (fun y hy=>?_) h2 (adds_nodup h3) h4;rcases adds_mem hy with h|rfl
    ·exact h1 y h
    ·exact hp
   ·split
    ·rename_i h7
     rw[h7] at hp;refine rTgs_ok hL f h1 (fun y hy=>?_) h3 (adds_nodup h4);rcases adds_mem hy with h|rfl
     ·exact h2 y h
     ·exact hp
    ·exact⟨h1,h2,h3,h4⟩
theorem rTol_ok {t:Option (Int×Nat)}(h:rTol L a=.inr (t,b)):∀n,t=some n→0≤n.1:=by
 unfold rTol at h;split at h
 ·obtain⟨n,a1,-,h⟩:=thn_ok h
  split at h
  ·cases h
  ·rename_i hn;cases h;intro m e;cases e;omega
 ·cases h;intro m e;cases e
theorem rTol_bad {e p:Nat}(h:rTol L a=.inl (e,p)):e≠0:=by
 unfold rTol at h;split at h
 ·exact thn_bad h nmr_bad fun h=>by
  split at h
  ·cases h;decide
  ·cases h
 ·cases h
theorem rst_bad {d:Int×Int×Int}{w:List Nat}{e p:Nat}(h:rest15 L d w a=.inl (e,p)):e≠0:=by
 unfold rest15 at h;split at h
 ·unfold rOpen at h
  exact thn_bad h tkw_bad fun h=>thn_bad h curs_bad fun h=>by
   split at h
   ·split at h
    ·cases h;decide
    ·cases h
   ·cases h
 split at h
 ·exact thn_bad h tkw_bad fun h=>by cases h
 split at h
 ·exact thn_bad h tkw_bad fun h=>by cases h
 split at h
 ·exact thn_bad h tkw_bad fun h=>thn_bad h amr_bad fun h=>by cases h
 split at h
 ·exact thn_bad h tkw_bad fun h=>thn_bad h tkw_bad fun h=>by cases h
 split at h
 ·unfold rBal at h
  exact thn_bad h tkw_bad fun h=>thn_bad h nmr_bad fun h=>thn_bad h rTol_bad fun h=>thn_bad h tkw_bad fun h=>by cases h
 split at h
 ·exact thn_bad h tkw_bad fun h=>thn_bad h tkw_bad fun h=>by cases h
 split at h
 ·cases h
 split at h
 ·cases h
 ·cases h;decide
theorem fin_bad {r:RH Dr}{e p:Nat}(h:fin15 L r=.inl (e,p)) (hr:∀{e p},r=.inl (e,p)→e≠0):e≠0:=
 thn_bad h hr fun h=>by
  split at h
  ·cases h;decide
  ·cases h
theorem hd_bad {e p:Nat}(h:hd L=.inl (e,p)):e≠0:=by
 unfold hd at h;split at h
 ·cases h;decide
 split at h
 ·exact fin_bad h fun h=>thn_bad h tkw_bad fun h=>thn_bad h tkw_bad fun h=>by cases h
 split at h
 ·split at h
  ·split at h
   ·cases h;decide
   split at h
   ·exact fin_bad h rst_bad
   ·cases h;decide
  ·cases h;decide
 ·cases h;decide
theorem fin_ok {r:RH Dr}{d:Dr}(h:fin15 L r=.inr (d,a)):r=.inr (d,a)∧L.length≤a:=by
 obtain⟨x,b,h1,h⟩:=thn_ok h;split at h
 ·cases h
 ·cases h;exact⟨h1,by omega⟩
theorem rst_ok (hL:PrpL L) {d:Int×Int×Int}(hd:Dat.ok8 d.1 d.2.1 d.2.2=true) {w:List Nat}{r:Dr}(h:rest15 L d w a=.inr (r,b)):r.ok:=by
 unfold rest15 at h;split at h
 ·unfold rOpen at h
  obtain⟨x,a1,h1,h⟩:=thn_ok h;obtain⟨cs,a2,h2,h⟩:=thn_ok h;split at h
  ·split at h
   ·cases h
   ·rename_i hm
    cases h
    exact⟨hd,tkw_prp hL h1,curs_ok hL h2,mthO_le hm⟩
  ·cases h
   exact⟨hd,tkw_prp hL h1,curs_ok hL h2,Nat.zero_le _⟩
 split at h
 ·obtain⟨x,a1,h1,h⟩:=thn_ok h
  cases h;exact⟨hd,tkw_prp hL h1⟩
 split at h
 ·obtain⟨x,a1,h1,h⟩:=thn_ok h
  cases h;exact⟨hd,tkw_prp hL h1⟩
 split at h
 ·obtain⟨x,a1,h1,h⟩:=thn_ok h
  obtain⟨n,a2,h2,h⟩:=thn_ok h;cases h;exact⟨hd,tkw_prp hL h1,amr_cur hL h2⟩
 split at h
 ·obtain⟨x,a1,h1,h⟩:=thn_ok h
  obtain⟨y,a2,h2,h⟩:=thn_ok h;cases h;exact⟨hd,tkw_prp hL h1,tkw_prp hL h2⟩
 split at h
 ·unfold rBal at h
  obtain⟨x,a1,h1,h⟩:=thn_ok h;obtain⟨n,a2,h2,h⟩:=thn_ok h;obtain⟨t,a3,h3,h⟩:=thn_ok h;obtain⟨c,a4,h4,h⟩:=thn_ok h;cases h;exact⟨hd,tkw_prp hL h1,rTol_ok h3,tkw_prp hL h4⟩
 split at h
 ·obtain⟨x,a1,h1,h⟩:=thn_ok h
  obtain⟨y,a2,h2,h⟩:=thn_ok h;cases h;exact⟨hd,tkw_prp hL h1⟩
 have tg:=fun a=>rTgs_ok hL (L.length+1) (T:=[]) (K:=[]) (a:=a) (fun y h=>by cases h) (fun y h=>by cases h) List.nodup_nil List.nodup_nil
 split at h
 ·unfold rTxn at h
  cases h;exact⟨hd,(tg _).1,(tg _).2.1,(tg _).2.2.1,(tg _).2.2.2⟩
 split at h
 ·unfold rTxn at h
  cases h;exact⟨hd,(tg _).1,(tg _).2.1,(tg _).2.2.1,(tg _).2.2.2⟩
 ·cases h
theorem hd_ok (hL:PrpL L) {d:Dr}(h:hd L=.inr (d,a)):d.ok∧L.length≤a:=by
 unfold hd at h;split at h
 ·cases h
 rename_i t ht
 split at h
 ·obtain⟨h,ha⟩:=fin_ok h
  obtain⟨x,a1,h1,h⟩:=thn_ok h;obtain⟨y,a2,h2,h⟩:=thn_ok h;cases h;exact⟨trivial,ha⟩
 split at h
 ·split at h
  ·rename_i hp
   have hday:Dat.ok8 (pday t.2).1 (pday t.2).2.1 (pday t.2).2.2=true:=by
    unfold pday;rw[if_pos hp];unfold Dat.prOk at hp;rw[Bool.and_eq_true] at hp;exact hp.2
   split at h
   ·cases h
   split at h
   ·obtain⟨h,ha⟩:=fin_ok h
    exact⟨rst_ok hL hday h,ha⟩
   ·cases h
  ·cases h
 ·cases h
end
section
variable {L Q:List Tok}{a b:Nat}
theorem tkw_told {k:Nat}{x:List Nat}{m:Int}(h:L.drop a=tk (k,x)::Q) (hk:(k:Int)=m):tkw L a m=.inr (st9 x,a+1):=by
 unfold tkw;rw[dr_get h];dsimp only;rw[if_pos (show(tk (k,x)).1=m from hk)];rfl
theorem knd_told {k:Nat}{x:List Nat}(h:L.drop a=tk (k,x)::Q) (m:Int):knd L a m=decide ((k:Int)=m):=by
 unfold knd;rw[dr_get h];rfl
theorem knd_end (h:L.drop a=[]) (m:Int):knd L a m=false:=by
 unfold knd;rw[List.getElem?_eq_none (List.drop_eq_nil_iff.1 h)];rfl
theorem nmr_told {i:Int}{k:Nat}(h:L.drop a=(tT i k).map tk++Q) (hq:∀cc,cc=43∨cc=45∨cc=42∨cc=47→isAt L (a+(tT i k).length) cc=false):nmr L a=.inr ((i,k),a+(tT i k).length):=by
 have f0:=fac_val (d:=0) h (by decide);rw[List.length_map] at f0;have P0:PRO L 0 a=.inr (i,k,a+(tT i k).length):=by rw[PRO_go f0,PROL_end (hq 42 (by decide)) (hq 47 (by decide))]
 have S0:SUM L 0 a=.inr (i,k,a+(tT i k).length):=by rw[SUM_go P0,SUML_end (hq 43 (by decide)) (hq 45 (by decide))]
 unfold nmr;rw[S0]
theorem amr_told {i:Int}{k:Nat}{x:List Nat}(h:L.drop a=(tT i k).map tk++(tk (3,x)::Q)):amr L a=.inr ((i,k,st9 x),a+(tT i k).length+1):=by
 unfold amr;rw[amt_told h]
def moreW:List ByteArray→List (Nat×List Nat)
 | []=>[]
 | y::r=>(10,[44])::(3,bs9 y)::moreW r
theorem curW_eq:∀(x:ByteArray) (r:List ByteArray),(curP (x::r)).flatMap (·.w)=(3,bs9 x)::moreW r
 | x,[]=>rfl
 | x,y::r=>by
  show [(3,bs9 x),(10,[44])]++(curP (y::r)).flatMap (·.w)=_;rw[curW_eq y r];rfl
theorem moreW_len:∀r:List ByteArray,(moreW r).length=2 * r.length
 | []=>rfl
 | y::r=>by show(moreW r).length+1+1=_;rw[moreW_len r,List.length_cons];omega
def NoC (Q:List Tok):Prop:=∀t,Q.head?=some t→t.1≠10∧t.1≠3
theorem noc_is (h:L.drop a=Q) (hq:NoC Q):isW L a [44]=false∧knd L a 3=false:=by
 cases Q with
 | nil=>exact⟨isW_end h _,knd_end h 3⟩
 | cons t Q=>
  obtain⟨h1,h2⟩:=hq t rfl;refine⟨?_,?_⟩
  ·unfold isW;rw[dr_get h]
   show(decide (t.1=10)&&_)=false;rw[decide_eq_false h1];rfl
  ·unfold knd;rw[dr_get h]
   exact decide_eq_false h2
theorem curL_told (hq:NoC Q):∀(r:List ByteArray) {f a:Nat},r.length≤f→L.drop a=(moreW r).map tk++Q→curL L f a=.inr (r,a+2 * r.length)
 | [],f,a,hf,h=>by
  have hw:=(noc_is h hq).1;cases f with
  | zero=>rfl
  | succ f=>rw[curL,if_neg (by rw[hw];decide)];rfl
 | y::r,0,a,hf,h=>absurd hf (by rw[List.length_cons];omega)
 | y::r,f+1,a,hf,h=>by
  have h0:L.drop a=tk (10,[44])::(tk (3,bs9 y)::((moreW r).map tk++Q)):=h;have h1:=dr_one h0;have h2:=dr_one h1;rw[curL,if_pos (by rw[isW_tk h0 (by decide)];rfl),thn_go (tkw_told (m:=3) h1 rfl),thn_go (curL_told hq r (by rw[List.length_cons] at hf;omega) h2),st9_bs9,List.length_cons];rw[show a+1+1+2 * r.length=a+2 * (r.length+1) by omega]
theorem curs_told (hq:NoC Q) {cs:List ByteArray}(h:L.drop a=((curP cs).flatMap (·.w)).map tk++Q):curs L a=.inr (cs,a+((curP cs).flatMap (·.w)).length):=by
 unfold curs;cases cs with
 | nil=>
  rw[if_neg (by rw[(noc_is h hq).2];decide)];rfl
 | cons x r=>
  rw[curW_eq] at h ⊢;have h0:L.drop a=tk (3,bs9 x)::((moreW r).map tk++Q):=h;have hl:r.length≤L.length:=by
   have h9:=congrArg List.length h0;rw[List.length_drop,List.length_cons,List.length_append,List.length_map,moreW_len] at h9;omega
  rw[if_pos (by rw[knd_told h0];rfl),thn_go (tkw_told (m:=3) h0 rfl),thn_go (curL_told hq r hl (dr_one h0)),st9_bs9,List.length_cons,moreW_len];rw[show a+1+2 * r.length=a+(2 * r.length+1) by omega]
theorem adds_new {l:List ByteArray}{s:ByteArray}(h:bs9 s∉l.map bs9):adds l s=l++[s]:=by
 unfold adds;rw[if_neg];intro e;obtain⟨u,hu,hd⟩:=List.any_eq_true.1 e;exact h (List.mem_map.2 ⟨u,hu,of_decide_eq_true hd⟩)
theorem rTgs_links:∀(K:List ByteArray) {f a:Nat}{T0 K0:List ByteArray},K.length<f→((K0++K).map bs9).Nodup→L.drop a=(K.map fun x=>(7,bs9 x)).map tk→rTgs L f T0 K0 a=((T0,K0++K),a+K.length)
 | [],f,a,T0,K0,hf,hn,h=>by
  obtain⟨f,rfl⟩:∃g,f=g+1:=⟨f - 1,by have:([]:List ByteArray).length=0:=rfl;omega⟩;rw[rTgs,List.getElem?_eq_none (List.drop_eq_nil_iff.1 h),List.append_nil];rfl
 | x::K,f,a,T0,K0,hf,hn,h=>by
  obtain⟨f,rfl⟩:∃g,f=g+1:=⟨f - 1,by rw[List.length_cons] at hf;omega⟩;have h0:L.drop a=tk (7,bs9 x)::(K.map fun x=>(7,bs9 x)).map tk:=h;have hx:bs9 x∉K0.map bs9:=by
   rw[List.map_append,List.nodup_append] at hn;intro e;exact hn.2.2 _ e (bs9 x) List.mem_cons_self rfl
  have e:adds K0 (tk (7,bs9 x)).2=K0++[x]:=by
   show adds K0 (st9 (bs9 x))=_;rw[st9_bs9,adds_new hx]
  rw[rTgs,dr_get h0];dsimp only
  rw[if_neg (tk_ne (by decide)),if_pos (show(tk (7,bs9 x)).1=7 from rfl),e,rTgs_links K (by rw[List.length_cons] at hf;omega) (by rw[List.append_assoc];exact hn) (dr_one h0),List.append_assoc,List.length_cons];rw[show a+1+K.length=a+(K.length+1) by omega];rfl
theorem rTgs_told (K:List ByteArray):∀(T:List ByteArray) {f a:Nat}{T0:List ByteArray},T.length+K.length<f→((T0++T).map bs9).Nodup→(K.map bs9).Nodup→L.drop a=(T.map fun x=>(6,bs9 x)).map tk++(K.map fun x=>(7,bs9 x)).map tk→rTgs L f T0 [] a=((T0++T,K),a+T.length+K.length)
 | [],f,a,T0,hf,hn,hk,h=>by
  rw[rTgs_links (L:=L) K (T0:=T0) (K0:=[]) (by have:([]:List ByteArray).length=0:=rfl;omega) hk h,List.append_nil];rfl
 | x::T,f,a,T0,hf,hn,hk,h=>by
  obtain⟨f,rfl⟩:∃g,f=g+1:=⟨f - 1,by rw[List.length_cons] at hf;omega⟩;have h0:L.drop a=tk (6,bs9 x)::((T.map fun x=>(6,bs9 x)).map tk++(K.map fun x=>(7,bs9 x)).map tk):=h;have hx:bs9 x∉T0.map bs9:=by
   rw[List.map_append,List.nodup_append] at hn;intro e;exact hn.2.2 _ e (bs9 x) List.mem_cons_self rfl
  have e:adds T0 (tk (6,bs9 x)).2=T0++[x]:=by
   show adds T0 (st9 (bs9 x))=_;rw[st9_bs9,adds_new hx]
  rw[rTgs,dr_get h0];dsimp only
  rw[if_pos (show(tk (6,bs9 x)).1=6 from rfl),e,rTgs_told K T (by rw[List.length_cons] at hf;omega) (by rw[List.append_assoc];exact hn) hk (dr_one h0),List.append_assoc,List.length_cons];rw[show a+1+T.length+K.length=a+(T.length+1)+K.length by omega];rfl
theorem mth_back {m:Nat}(h:m≤4):mth (mthT m)=some m∧∀c∈mthT m,c<256:=by
 obtain rfl|rfl|rfl|rfl|rfl:m=0∨m=1∨m=2∨m=3∨m=4:=by omega
 all_goals decide
theorem hd_day {d:Int×Int×Int}{kw:Nat}{w:List Nat}(hk:kw=8∨kw=10) (h0:L.drop 0=tk (1,dayT d)::(tk (kw,w)::Q)) (hd8:Dat.ok8 d.1 d.2.1 d.2.2=true) (hw:∀c∈w,c<256):hd L=fin15 L (rest15 L d w 2):=by
 obtain⟨h1,h2,h3,-⟩:=day_told hd8;have hp:Dat.prOk (st9 (dayT d))=true:=by
  rw[← d12_is,bs9_st9 (l:=dayT d) (by unfold dayT;exact bs9_lt _)];exact h1
 unfold hd;rw[dr_get h0];dsimp only
 rw[if_neg (fun q=>tk_ne (k:=1) (x:=dayT d) (m:=8) (by decide) q.1),if_pos (show(tk (1,dayT d)).1=1 from rfl),if_pos (show Dat.prOk (tk (1,dayT d)).2=true from hp),dr_get (dr_one h0)];dsimp only
 rw[if_pos (show(tk (kw,w)).1=8∨(tk (kw,w)).1=10 by rcases hk with rfl|rfl;exact .inl rfl;exact .inr rfl),show pday (tk (1,dayT d)).2=d from h3,show bs9 (tk (kw,w)).2=w from bs9_st9 hw]
theorem fin_told {r:RH Dr}{d:Dr}(h:r=.inr (d,L.length)):fin15 L r=.inr (d,L.length):=by
 unfold fin15;rw[thn_go h,if_neg (Nat.lt_irrefl _)]
theorem bsst (s:ByteArray):st9 (bs9 s)=s:=st9_bs9 s
end
section
variable {L:List Tok}
theorem r_open (d:Int×Int×Int) (a:Nat):rest15 L d wOpen a=rOpen L d a:=by unfold rest15;rw[if_pos rfl]
theorem r_close (d:Int×Int×Int) (a:Nat):rest15 L d wClose a=thn (tkw L a 2) fun ac a=>.inr (.cls d ac,a):=by unfold rest15;rw[if_neg (by decide),if_pos rfl]
theorem r_com (d:Int×Int×Int) (a:Nat):rest15 L d wCommodity a=thn (tkw L a 3) fun c a=>.inr (.com d c,a):=by unfold rest15;rw[if_neg (by decide),if_neg (by decide),if_pos rfl]
theorem r_price (d:Int×Int×Int) (a:Nat):rest15 L d wPrice a=thn (tkw L a 3) fun c a=>thn (amr L a) fun n a=>.inr (.prc d c n.1 n.2.1 n.2.2,a):=by unfold rest15;rw[if_neg (by decide),if_neg (by decide),if_neg (by decide),if_pos rfl]
theorem r_pad (d:Int×Int×Int) (a:Nat):rest15 L d wPad a=thn (tkw L a 2) fun x a=>thn (tkw L a 2) fun y a=>.inr (.pad d x y,a):=by unfold rest15;rw[if_neg (by decide),if_neg (by decide),if_neg (by decide),if_neg (by decide),if_pos rfl]
theorem r_bal (d:Int×Int×Int) (a:Nat):rest15 L d wBalance a=rBal L d a:=by unfold rest15;rw[if_neg (by decide),if_neg (by decide),if_neg (by decide),if_neg (by decide),if_neg (by decide),if_pos rfl]
theorem r_note (d:Int×Int×Int) (a:Nat):rest15 L d wNote a=thn (tkw L a 2) fun x a=>thn (tkw L a 5) fun y a=>.inr (.nte d x y,a):=by unfold rest15;rw[if_neg (by decide),if_neg (by decide),if_neg (by decide),if_neg (by decide),if_neg (by decide),if_neg (by decide),if_pos rfl]
theorem r_star (d:Int×Int×Int) (a:Nat):rest15 L d [42] a=rTxn L d false a:=by unfold rest15;rw[if_neg (by decide),if_neg (by decide),if_neg (by decide),if_neg (by decide),if_neg (by decide),if_neg (by decide),if_neg (by decide),if_pos (.inr rfl)]
theorem r_bang (d:Int×Int×Int) (a:Nat):rest15 L d [33] a=rTxn L d true a:=by unfold rest15;rw[if_neg (by decide),if_neg (by decide),if_neg (by decide),if_neg (by decide),if_neg (by decide),if_neg (by decide),if_neg (by decide),if_neg (by decide),if_pos rfl]
theorem bytes_lit:(∀c∈wOpen,c<256)∧(∀c∈wClose,c<256)∧(∀c∈wCommodity,c<256)∧(∀c∈wPrice,c<256)∧(∀c∈wPad,c<256)∧(∀c∈wBalance,c<256)∧(∀c∈wNote,c<256)∧(∀c∈wOption,c<256):=by decide
end
theorem noc_nil:NoC []:=fun t h=>by cases h
theorem noc_text (y:List Nat) (Q:List Tok):NoC (tk (5,y)::Q):=fun t h=>by
 obtain rfl:=Option.some.inj h;exact⟨tk_ne (by decide),tk_ne (by decide)⟩
theorem len0 {L M:List Tok}(h:L.drop 0=M):L.length=M.length:=by rw[← h,List.drop_zero]
theorem op_cur {L Q:List Tok}{b:Nat}{x:List Nat}(h:L.drop b=tk (3,x)::Q):∀cc,cc=43∨cc=45∨cc=42∨cc=47→isAt L b cc=false:=fun cc _=>by rw[dr_is h];exact cur_end cc
theorem op_til {L Q:List Tok}{b:Nat}(h:L.drop b=tk (10,[126])::Q):∀cc,cc=43∨cc=45∨cc=42∨cc=47→isAt L b cc=false:=fun cc hc=>by
 rw[dr_is h,isg_tk 126 cc (by decide)];exact decide_eq_false (by omega)
theorem hd_told {d:Dr}(h:d.ok) {L:List Tok}(hL:L=(drW d).map tk):hd L=.inr (d,L.length):=by
 obtain⟨b1,b2,b3,b4,b5,b6,b7,b8⟩:=bytes_lit;have hz:L.drop 0=(drW d).map tk:=hL;clear hL;cases d with
 | opn d a cs b=>
  obtain⟨h1,-,-,hb⟩:=h;have h0:L.drop 0=tk (1,dayT d)::(tk (8,wOpen)::(tk (2,bs9 a)::(((curP cs).flatMap (·.w)).map tk++((if b=0 then [] else [pW 5 (mthT b)]).flatMap (·.w)).map tk))):=by
   rw[hz];show(drW (.opn d a cs b)).map tk=_;unfold drW pcs;rw[List.flatMap_cons,List.flatMap_cons,List.flatMap_cons,List.flatMap_append];simp only[pD,pW,List.map_append,List.map_cons,List.map_nil]
   rfl
  have g2:=dr_one (dr_one h0);have g3:=dr_one g2;have ll:=len0 h0;rw[hd_day (.inl rfl) h0 h1 b1,r_open];refine fin_told ?_;unfold rOpen;rw[thn_go (tkw_told (m:=2) g2 rfl),bsst];by_cases hb0:b=0
  ·rw[if_pos hb0,List.flatMap_nil,List.map_nil] at g3
   rw[thn_go (curs_told noc_nil g3)];have ge:=dr_app g3 (by rw[List.length_map]);rw[if_neg (by rw[knd_end ge];decide),hb0];rw[hb0,if_pos rfl] at ll;rw[ll];simp only[List.length_cons,List.length_append,List.length_map,List.flatMap_nil,List.map_nil,List.length_nil]
   congr 2;omega
  ·have e:([pW 5 (mthT b)].flatMap (·.w)).map tk=[tk (5,mthT b)]:=rfl
   rw[if_neg hb0,e] at g3;rw[thn_go (curs_told (noc_text _ _) g3)];have ge:=dr_app g3 (by rw[List.length_map]);have hm:mthO L (2+1+((curP cs).flatMap (·.w)).length)=some b:=by
    unfold mthO;rw[dr_get ge];show mth (bs9 (st9 (mthT b)))=some b;rw[bs9_st9 (mth_back hb).2,(mth_back hb).1]
   rw[if_pos (by rw[knd_told ge];rfl),hm];dsimp only
   rw[if_neg hb0,e] at ll;rw[ll];simp only[List.length_cons,List.length_append,List.length_map,List.length_nil]
   congr 2;omega
 | cls d a=>
  obtain⟨h1,-⟩:=h;have h0:L.drop 0=tk (1,dayT d)::(tk (8,wClose)::(tk (2,bs9 a)::[])):=hz;have g2:=dr_one (dr_one h0);rw[hd_day (.inl rfl) h0 h1 b2,r_close];refine fin_told ?_;rw[thn_go (tkw_told (m:=2) g2 rfl),bsst,len0 h0];rfl
 | com d c=>
  obtain⟨h1,-⟩:=h;have h0:L.drop 0=tk (1,dayT d)::(tk (8,wCommodity)::(tk (3,bs9 c)::[])):=hz;have g2:=dr_one (dr_one h0);rw[hd_day (.inl rfl) h0 h1 b3,r_com];refine fin_told ?_;rw[thn_go (tkw_told (m:=3) g2 rfl),bsst,len0 h0];rfl
 | prc d c i k x=>
  obtain⟨h1,-⟩:=h;have h0:L.drop 0=tk (1,dayT d)::(tk (8,wPrice)::(tk (3,bs9 c)::((tT i k).map tk++(tk (3,bs9 x)::[])))):=by
   rw[hz];show(drW (.prc d c i k x)).map tk=_;unfold drW pcs;simp only[List.flatMap_cons,List.flatMap_nil,pD,pW,pN,List.map_append,List.map_cons,List.map_nil,List.append_nil]
   rfl
  have g2:=dr_one (dr_one h0);have g3:=dr_one g2;rw[hd_day (.inl rfl) h0 h1 b4,r_price];refine fin_told ?_;rw[thn_go (tkw_told (m:=3) g2 rfl),thn_go (amr_told g3),bsst,bsst,len0 h0];simp only[List.length_cons,List.length_append,List.length_map,List.length_nil]
  congr 2;omega
 | pad d a o=>
  obtain⟨h1,-⟩:=h;have h0:L.drop 0=tk (1,dayT d)::(tk (8,wPad)::(tk (2,bs9 a)::(tk (2,bs9 o)::[]))):=hz;have g2:=dr_one (dr_one h0);rw[hd_day (.inl rfl) h0 h1 b5,r_pad];refine fin_told ?_;rw[thn_go (tkw_told (m:=2) g2 rfl),thn_go (tkw_told (m:=2) (dr_one g2) rfl),bsst,bsst,len0 h0];rfl
 | bal d a i k t x=>
  obtain⟨h1,-,ht,-⟩:=h;cases t with
  | none=>
   have h0:L.drop 0=tk (1,dayT d)::(tk (8,wBalance)::(tk (2,bs9 a)::((tT i k).map tk++(tk (3,bs9 x)::[])))):=by
    rw[hz];show(drW (.bal d a i k none x)).map tk=_;unfold drW pcs;simp only[List.flatMap_cons,List.flatMap_nil,pD,pW,pN,List.map_append,List.map_cons,List.map_nil,List.append_nil,List.nil_append]
    rfl
   have g2:=dr_one (dr_one h0);have g3:=dr_one g2;have g4:=dr_app g3 (by rw[List.length_map]);rw[hd_day (.inl rfl) h0 h1 b6,r_bal];refine fin_told ?_;unfold rBal;rw[thn_go (tkw_told (m:=2) g2 rfl),thn_go (nmr_told g3 (op_cur g4))];unfold rTol;rw[if_neg (by rw[isW_kind g4 (by decide)];decide)];show thn (tkw L _ 3) _=_;rw[thn_go (tkw_told (m:=3) g4 rfl),bsst,bsst,len0 h0];simp only[List.length_cons,List.length_append,List.length_map,List.length_nil]
   congr 2;omega
  | some n=>
   obtain⟨j,s⟩:=n;have hj:0≤j:=ht (j,s) rfl;have h0:L.drop 0=tk (1,dayT d)::(tk (8,wBalance)::(tk (2,bs9 a)::((tT i k).map tk++(tk (10,[126])::((tT j s).map tk++(tk (3,bs9 x)::[])))))):=by
    rw[hz];show(drW (.bal d a i k (some (j,s)) x)).map tk=_;unfold drW pcs;simp only[List.flatMap_cons,List.flatMap_nil,List.flatMap_append,pD,pW,pN,List.map_append,List.map_cons,List.map_nil,List.append_nil]
    simp only[List.append_assoc,List.cons_append,List.nil_append]
   have g2:=dr_one (dr_one h0);have g3:=dr_one g2;have g4:=dr_app g3 (by rw[List.length_map]);have g5:=dr_one g4;have g6:=dr_app g5 (by rw[List.length_map]);rw[hd_day (.inl rfl) h0 h1 b6,r_bal];refine fin_told ?_;unfold rBal;rw[thn_go (tkw_told (m:=2) g2 rfl),thn_go (nmr_told g3 (op_til g4))];unfold rTol;rw[if_pos (by rw[isW_tk g4 (by decide)];rfl),thn_go (nmr_told g5 (op_cur g6)),if_neg (by show ¬j<0;omega)];show thn (tkw L _ 3) _=_;rw[thn_go (tkw_told (m:=3) g6 rfl),bsst,bsst,len0 h0];simp only[List.length_cons,List.length_append,List.length_map,List.length_nil]
   congr 2;omega
 | txn d f p n T K=>
  obtain⟨h1,-,-,hT,hK⟩:=h;have h0:L.drop 0=tk (1,dayT d)::(tk (10,if f=true then [33] else [42])::(((if bs9 p=[] then [] else [pW 5 (bs9 p)]).flatMap (·.w)).map tk++(tk (5,bs9 n)::((T.map fun x=>(6,bs9 x)).map tk++(K.map fun x=>(7,bs9 x)).map tk)))):=by
   rw[hz];show(drW (.txn d f p n T K)).map tk=_;unfold drW pcs;have e6:∀l:List ByteArray,(l.map fun x=>pW 6 (bs9 x)).flatMap (·.w)=l.map fun x=>(6,bs9 x):=fun l=>by induction l with|nil=>rfl|cons x l ih=>rw[List.map_cons,List.flatMap_cons,ih];rfl
   have e7:∀l:List ByteArray,(l.map fun x=>pW 7 (bs9 x)).flatMap (·.w)=l.map fun x=>(7,bs9 x):=fun l=>by induction l with|nil=>rfl|cons x l ih=>rw[List.map_cons,List.flatMap_cons,ih];rfl
   rw[List.flatMap_cons,List.flatMap_cons,List.flatMap_append,List.flatMap_cons,List.flatMap_append,e6,e7];simp only[pD,pW,List.map_append,List.map_cons,List.map_nil]
   rfl
  have hw:∀c∈(if f=true then [33] else [42]),c<256:=by cases f<;>decide
  have er:rest15 L d (if f=true then [33] else [42]) 2=rTxn L d f 2:=by
   cases f
   ·exact r_star d 2
   ·exact r_bang d 2
  rw[hd_day (.inr rfl) h0 h1 hw,er];refine fin_told ?_;have ll:=len0 h0;have g2:=dr_one (dr_one h0);have key:∀b,L.drop b=tk (5,bs9 n)::((T.map fun x=>(6,bs9 x)).map tk++(K.map fun x=>(7,bs9 x)).map tk)→rTgs L (L.length+1) [] [] (b+1)=((T,K),L.length):=fun b hb=>by
   have hl:b+1+T.length+K.length=L.length:=by
    have h9:=congrArg List.length hb;rw[List.length_drop,List.length_cons,List.length_append,List.length_map,List.length_map,List.length_map,List.length_map] at h9;omega
   rw[rTgs_told K T (T0:=[]) (by omega) hT hK (dr_one hb),List.nil_append,hl]
  have nx5:∀b,L.drop b=(T.map fun x=>(6,bs9 x)).map tk++(K.map fun x=>(7,bs9 x)).map tk→∀u,L[b]?=some u→u.1≠5:=fun b hb u hu=>by
   cases T with
   | cons y T=>rw[dr_get hb] at hu;cases hu;exact tk_ne (by decide)
   | nil=>
    cases K with
    | cons y K=>rw[dr_get hb] at hu;cases hu;exact tk_ne (by decide)
    | nil=>rw[List.getElem?_eq_none (List.drop_eq_nil_iff.1 hb)] at hu;cases hu
  by_cases hp:bs9 p=[]
  ·rw[if_pos hp,List.flatMap_nil,List.map_nil,List.nil_append] at g2
   have hx:rTxt L 2=((p,n),2+1):=by
    unfold rTxt;rw[dr_get g2];dsimp only
    rw[if_pos (show(tk (5,bs9 n)).1=5 from rfl)];have e:((⟨#[]⟩,(tk (5,bs9 n)).2):ByteArray×ByteArray)=(p,n):=by
     show((⟨#[]⟩:ByteArray),st9 (bs9 n))=_;rw[st9_bs9,← bs9_nil hp]
    split
    ·rw[e]
    ·rename_i u hu
     rw[if_neg (nx5 _ (dr_one g2) u hu),e]
   unfold rTxn;rw[hx];dsimp only
   rw[key 2 g2]
  ·have g2':L.drop 2=tk (5,bs9 p)::(tk (5,bs9 n)::((T.map fun x=>(6,bs9 x)).map tk++(K.map fun x=>(7,bs9 x)).map tk)):=by rw[if_neg hp] at g2;exact g2
   have g3:=dr_one g2';have hx:rTxt L 2=((p,n),2+2):=by
    unfold rTxt;rw[dr_get g2'];dsimp only
    rw[if_pos (show(tk (5,bs9 p)).1=5 from rfl),dr_get g3];dsimp only
    rw[if_pos (show(tk (5,bs9 n)).1=5 from rfl)];show((st9 (bs9 p),st9 (bs9 n)),2+2)=_;rw[st9_bs9,st9_bs9]
   unfold rTxn;rw[hx];dsimp only
   rw[show 2+2=2+1+1 from rfl,key (2+1) g3]
 | nte d a x=>
  obtain⟨h1,-⟩:=h;have h0:L.drop 0=tk (1,dayT d)::(tk (8,wNote)::(tk (2,bs9 a)::(tk (5,bs9 x)::[]))):=hz;have g2:=dr_one (dr_one h0);rw[hd_day (.inl rfl) h0 h1 b7,r_note];refine fin_told ?_;rw[thn_go (tkw_told (m:=2) g2 rfl),thn_go (tkw_told (m:=5) (dr_one g2) rfl),bsst,bsst,len0 h0];rfl
 | opt n x=>
  have h0:L.drop 0=tk (8,wOption)::(tk (5,bs9 n)::(tk (5,bs9 x)::[])):=hz;have g1:=dr_one h0;unfold hd;rw[dr_get h0];dsimp only
  rw[if_pos ⟨rfl,show bs9 (tk (8,wOption)).2=wOption from bs9_st9 b8⟩];refine fin_told ?_;rw[thn_go (tkw_told (m:=5) g1 rfl),thn_go (tkw_told (m:=5) (dr_one g1) rfl),bsst,bsst,len0 h0];rfl
namespace Byt
def bw (L:List Tok) (n:Nat):Nat:=((L.take n).map fun t=>max t.2.size 1).sum
theorem bw_step {L:List Tok}{n:Nat}{t:Tok}(h:L[n]?=some t):bw L (n+1)=bw L n+max t.2.size 1:=by
 unfold bw;rw[List.take_add_one,h,List.map_append,List.sum_append];show _+(max t.2.size 1+0)=_;omega
theorem bw_le {L : List Tok} {n m : Nat} (h : n ≤ m) : bw L n ≤ bw L m := by
  induction m with
  | zero => obtain rfl : n = 0 := by omega
            exact Nat.le_refl _
  | succ m ih =>
    rcases Nat.eq_or_lt_of_le h with rfl | h
    · exact Nat.le_refl _
    · refine Nat.le_trans (ih (by omega)) ?_
      unfold bw
      rw [List.take_add_one, List.map_append, List.sum_append]
      exact Nat.le_add_right _ _
theorem bw_lt {L:List Tok}{n m:Nat}(h:n<m) (hm:m≤L.length):bw L n+1≤bw L m:=by
 have h1:=bw_step (L:=L) (n:=n) (List.getElem?_eq_getElem (by omega));have h2:=bw_le (L:=L) (show n+1≤m from h);omega
def Grt (L:List Tok) (a b:Nat) (i:Int) (k:Nat):Prop:=a<b∧b≤L.length∧Sz i k (6 * (bw L b - bw L a) - 5)∧k≤6 * (bw L b - bw L a) - 5
section
variable {L:List Tok}{d a b a0 t:Nat}{i j:Int}{k:Nat}
end
end Byt
open Byt
def wgP (p:Pc):Nat:=(p.w.map fun u=>u.2.length+11).sum
def PC (p:Pc):Nat:=max (wgP p) (p.t.length+1)
def TC (P:List Pc):Nat:=(P.map PC).sum
theorem TC_app (P Q:List Pc):TC (P++Q)=TC P+TC Q:=by unfold TC;rw[List.map_append,List.sum_append]
theorem TC_cons (p:Pc) (P:List Pc):TC (p::P)=PC p+TC P:=rfl
theorem TC_nil:TC []=0:=rfl
theorem wg_pcs:∀P:List Pc,((P.flatMap (·.w)).map fun u=>u.2.length+11).sum≤TC P
 | []=>Nat.le_refl _
 | p::P=>by
  have:=wg_pcs P;rw[List.flatMap_cons,List.map_append,List.sum_append,TC_cons];have h2:wgP p≤PC p:=Nat.le_max_left _ _;unfold wgP at h2;omega
theorem len_pcs:∀P:List Pc,(jnB (P.map (·.t))).length≤TC P
 | []=>Nat.le_refl _
 | [p]=>by
  have h2:p.t.length+1≤PC p:=Nat.le_max_right _ _;show p.t.length≤PC p+0;omega
 | p::q::P=>by
  have:=len_pcs (q::P);have h2:p.t.length+1≤PC p:=Nat.le_max_right _ _;show(p.t++32::jnB ((q::P).map (·.t))).length≤PC p+TC (q::P);rw[List.length_append,List.length_cons];omega
theorem txt_lenk (k:Nat) (y:List Nat):(YthpmaoimceojgaaGreatDoor.txt k y).length≤2 * y.length+2:=by
 unfold YthpmaoimceojgaaGreatDoor.txt;split
 ·exact qt_len y
 split
 ·rw[List.length_cons];omega
 split
 ·rw[List.length_cons];omega
 split
 ·rw[List.length_append,List.length_singleton];omega
 ·omega
theorem PC_word (k:Nat) (y:List Nat):PC (pW k y)≤12 * max y.length 1:=by
 have:=txt_lenk k y;have h2:wgP (pW k y)=y.length+11:=by show y.length+11+0=_;omega
 unfold PC;rw[h2];show max _ ((YthpmaoimceojgaaGreatDoor.txt k y).length+1)≤_;omega
theorem PC_cur (y:List Nat):PC (pC y)≤12 * max y.length 1+12:=by
 have h2:wgP (pC y)=y.length+23:=by show y.length+11+(1+11+0)=_;omega
 unfold PC;rw[h2];show max _ ((y++[44]).length+1)≤_;rw[List.length_append,List.length_singleton];omega
theorem bod_tT (i:Int) (k:Nat):wgP (pN i k)≤(Num.txtD i k).length+22:=by
 show((tT i k).map fun u=>u.2.length+11).sum≤_;rw[txtD_bod,List.length_append];unfold tT Num.sgT;split
 ·show 1+11+((bod i.natAbs k).length+11+0)≤_
  simp only[List.length_cons,List.length_nil]
  omega
 ·show(bod i.natAbs k).length+11+0≤_
  omega
theorem PC_num {i:Int}{k m:Nat}(h:Sz i k m) (hk:k≤m):PC (pN i k)≤2 * m+25:=by
 have h1:=txtD_len h;have h2:=bod_tT i k;unfold PC;show max _ ((Num.txtD i k).length+1)≤_;omega
theorem PC_day (d:Int×Int×Int):PC (pD d)≤21:=by
 have h1:=dayT_len d;have h2:wgP (pD d)=(dayT d).length+11:=by show(dayT d).length+11+0=_;omega
 unfold PC;rw[h2];show max _ ((dayT d).length+1)≤_;omega
section
variable {L:List Tok}{a b:Nat}{k:Int}{x:ByteArray}
theorem tkw_cost (q:Nat) (h:tkw L a k=.inr (x,b)):PC (pW q (bs9 x))+12 * bw L a≤12 * bw L b:=by
 obtain⟨t,ht,-,rfl,rfl⟩:=tkw_ok h;have h1:=PC_word q (bs9 t.2);have h2:=bw_step ht;rw[bs9_len] at h1;omega
theorem nmr_cost {n:Int×Nat}(h:nmr L a=.inr (n,b)):PC (pN n.1 n.2)+12 * bw L a≤12 * bw L b+15∧Sz n.1 n.2 (6 * (bw L b - bw L a) - 5)∧n.2≤6 * (bw L b - bw L a) - 5∧a<b∧b≤L.length:=by
 unfold nmr at h;split at h
 ·cases h
 ·rename_i hs
  cases h
  obtain⟨q1,q2,q3,q4⟩:=Byt.SUM_grt hs;have h1:=PC_num q3 q4;have h2:=bw_lt q1 q2;exact⟨by dsimp only;omega,q3,q4,q1,q2⟩
theorem amr_cost {n:Int×Nat×ByteArray}(h:amr L a=.inr (n,b)):PC (pN n.1 n.2.1)+PC (pW 3 (bs9 n.2.2))+12 * bw L a≤12 * bw L b+15∧∃m,Sz n.1 n.2.1 m∧n.2.1≤m∧m+5≤6 * bw L L.length:=by
 unfold amr at h;split at h
 ·cases h
 ·rename_i ha
  cases h
  unfold amt at ha;split at ha
  ·cases ha
  ·rename_i hs
   split at ha
   ·cases ha
   ·rename_i t ht
    split at ha
    ·cases ha
     obtain⟨q1,q2,q3,q4⟩:=Byt.SUM_grt hs;have h1:=PC_num q3 q4;have h2:=bw_lt q1 q2;have h3:=PC_word 3 (bs9 t.2);have h4:=bw_step ht;have h5:=bw_le (L:=L) q2;rw[bs9_len] at h3;refine⟨by dsimp only;omega,_,q3,q4,by omega⟩
    ·cases ha
theorem curP_cost (x:ByteArray) (r:List ByteArray):TC (curP (x::r))≤12 * max (bs9 x).length 1+(r.map fun y=>12 * max (bs9 y).length 1+12).sum:=by
 induction r generalizing x with
 | nil=>exact PC_word 3 (bs9 x)
 | cons y r ih=>
  have h1:=ih y;have h2:=PC_cur (bs9 x);show PC (pC (bs9 x))+TC (curP (y::r))≤_;rw[List.map_cons,List.sum_cons];omega
theorem isW_one {L:List Tok}{a:Nat}{y:List Nat}(h:isW L a y=true):∃t,L[a]?=some t∧bs9 t.2=y:=by
 unfold isW at h;cases ht:L[a]? with
 | none=>rw[ht] at h;cases h
 | some t=>
  rw[ht] at h;have h2:(decide (t.1=10)&&decide (bs9 t.2=y))=true:=h;rw[Bool.and_eq_true] at h2;exact⟨t,rfl,of_decide_eq_true h2.2⟩
theorem curL_cost:∀(f:Nat) {a b:Nat}{cs:List ByteArray},curL L f a=.inr (cs,b)→(cs.map fun y=>12 * max (bs9 y).length 1+12).sum+12 * bw L a≤12 * bw L b
 | 0,a,b,cs,h=>by rw[curL] at h;cases h;exact Nat.le_of_eq (Nat.zero_add _)
 | f+1,a,b,cs,h=>by
  rw[curL] at h;split at h
  ·rename_i hw
   obtain⟨t,ht,-⟩:=isW_one hw;obtain⟨x,a1,h1,h⟩:=thn_ok h;obtain⟨xs,a2,h2,h⟩:=thn_ok h;cases h
   have g2:=curL_cost f h2;obtain⟨u,hu,-,rfl,rfl⟩:=tkw_ok h1;have s1:=bw_step ht;have s2:=bw_step hu;rw[List.map_cons,List.sum_cons,bs9_len];omega
  ·cases h;exact Nat.le_of_eq (Nat.zero_add _)
theorem curs_cost {cs:List ByteArray}(h:curs L a=.inr (cs,b)):TC (curP cs)+12 * bw L a≤12 * bw L b:=by
 unfold curs at h;split at h
 ·obtain⟨x,a1,h1,h⟩:=thn_ok h
  obtain⟨xs,a2,h2,h⟩:=thn_ok h;cases h
  have g1:=curP_cost x xs;have g2:=curL_cost _ h2;obtain⟨u,hu,-,rfl,rfl⟩:=tkw_ok h1;have s2:=bw_step hu;rw[bs9_len] at g1;omega
 ·cases h;exact Nat.le_of_eq (Nat.zero_add _)
theorem adds_cost (q:Nat) (l:List ByteArray) (s:ByteArray):TC ((adds l s).map fun x=>pW q (bs9 x))≤TC (l.map fun x=>pW q (bs9 x))+PC (pW q (bs9 s)):=by
 unfold adds;split
 ·omega
 ·rw[List.map_append,TC_app];exact Nat.le_refl _
theorem rTgs_cost:∀(f:Nat) {T K:List ByteArray}{a:Nat},TC ((rTgs L f T K a).1.1.map fun x=>pW 6 (bs9 x))+TC ((rTgs L f T K a).1.2.map fun x=>pW 7 (bs9 x))+12 * bw L a≤TC (T.map fun x=>pW 6 (bs9 x))+TC (K.map fun x=>pW 7 (bs9 x))+12 * bw L (rTgs L f T K a).2
 | 0,T,K,a=>Nat.le_refl _
 | f+1,T,K,a=>by
  rw[rTgs];split
  ·exact Nat.le_refl _
  ·rename_i t ht
   have s1:=bw_step ht;split
   ·have g:=rTgs_cost f (T:=adds T t.2) (K:=K) (a:=a+1)
    have g2:=adds_cost 6 T t.2;have g3:=PC_word 6 (bs9 t.2);rw[bs9_len] at g3;omega
   ·split
    ·have g:=rTgs_cost f (T:=T) (K:=adds K t.2) (a:=a+1)
     have g2:=adds_cost 7 K t.2;have g3:=PC_word 7 (bs9 t.2);rw[bs9_len] at g3;omega
    ·exact Nat.le_refl _
theorem PC_none:PC (pW 5 [])≤12:=PC_word 5 []
theorem rTxt_cases:(rTxt L a=((⟨#[]⟩,⟨#[]⟩),a))∨(∃t,L[a]?=some t∧rTxt L a=((⟨#[]⟩,t.2),a+1))∨(∃t u,L[a]?=some t∧L[a+1]?=some u∧rTxt L a=((t.2,u.2),a+2)):=by
 cases ht:L[a]? with
 | none=>exact .inl (by unfold rTxt;rw[ht])
 | some t=>
  by_cases h5:t.1=5
  ·cases hu:L[a+1]? with
   | none=>exact .inr (.inl ⟨t,rfl,by unfold rTxt;rw[ht];dsimp only;rw[if_pos h5,hu]⟩)
   | some u=>
    by_cases h5':u.1=5
    ·exact .inr (.inr ⟨t,u,rfl,rfl,by unfold rTxt;rw[ht];dsimp only;rw[if_pos h5,hu];dsimp only;rw[if_pos h5']⟩)
    ·exact .inr (.inl ⟨t,rfl,by unfold rTxt;rw[ht];dsimp only;rw[if_pos h5,hu];dsimp only;rw[if_neg h5']⟩)
  ·exact .inl (by unfold rTxt;rw[ht];dsimp only;rw[if_neg h5])
theorem tc_one (p:Pc):TC [p]=PC p:=by show PC p+0=_;omega
theorem tc_text (p n:ByteArray):TC ((if bs9 p=[] then [] else [pW 5 (bs9 p)])++[pW 5 (bs9 n)])≤PC (pW 5 (bs9 p))+PC (pW 5 (bs9 n)):=by
 rw[TC_app,tc_one];split
 ·rw[TC_nil];omega
 ·rw[tc_one];omega
theorem rTxt_cost:TC ((if bs9 (rTxt L a).1.1=[] then [] else [pW 5 (bs9 (rTxt L a).1.1)])++[pW 5 (bs9 (rTxt L a).1.2)])+12 * bw L a≤12 * bw L (rTxt L a).2+24:=by
 have g0:=PC_none;rcases rTxt_cases (L:=L) (a:=a) with h|⟨t,ht,h⟩|⟨t,u,ht,hu,h⟩
 ·rw[h]
  have:=tc_text ⟨#[]⟩ ⟨#[]⟩;rw[show PC (pW 5 (bs9 ⟨#[]⟩))=PC (pW 5 []) from rfl] at this;dsimp only
  omega
 ·rw[h]
  have:=tc_text ⟨#[]⟩ t.2;have s1:=bw_step ht;have g1:=PC_word 5 (bs9 t.2);rw[bs9_len] at g1;rw[show PC (pW 5 (bs9 ⟨#[]⟩))=PC (pW 5 []) from rfl] at this;dsimp only
  omega
 ·rw[h]
  have:=tc_text t.2 u.2;have s1:=bw_step ht;have s2:=bw_step hu;have g1:=PC_word 5 (bs9 t.2);have g2:=PC_word 5 (bs9 u.2);rw[bs9_len] at g1 g2;dsimp only
  rw[show a+2=a+1+1 from rfl];omega
theorem tkw_le (h:tkw L a k=.inr (x,b)):b≤L.length:=by
 obtain⟨t,ht,-,-,rfl⟩:=tkw_ok h;exact(List.getElem?_eq_some_iff.1 ht).1
theorem curL_le:∀(f:Nat) {a b:Nat}{cs:List ByteArray},a≤L.length→curL L f a=.inr (cs,b)→b≤L.length
 | 0,a,b,cs,ha,h=>by rw[curL] at h;cases h;exact ha
 | f+1,a,b,cs,ha,h=>by
  rw[curL] at h;split at h
  ·obtain⟨x,a1,h1,h⟩:=thn_ok h
   obtain⟨xs,a2,h2,h⟩:=thn_ok h;cases h
   exact curL_le f (tkw_le h1) h2
  ·cases h;exact ha
theorem curs_le {cs:List ByteArray}(ha:a≤L.length) (h:curs L a=.inr (cs,b)):b≤L.length:=by
 unfold curs at h;split at h
 ·obtain⟨x,a1,h1,h⟩:=thn_ok h
  obtain⟨xs,a2,h2,h⟩:=thn_ok h;cases h
  exact curL_le _ (tkw_le h1) h2
 ·cases h;exact ha
theorem rTxt_le (ha:a≤L.length):(rTxt L a).2≤L.length:=by
 rcases rTxt_cases (L:=L) (a:=a) with h|⟨t,ht,h⟩|⟨t,u,ht,hu,h⟩
 ·rw[h];exact ha
 ·rw[h];exact(List.getElem?_eq_some_iff.1 ht).1
 ·rw[h];exact(List.getElem?_eq_some_iff.1 hu).1
theorem rTgs_le:∀(f:Nat) {T K:List ByteArray}{a:Nat},a≤L.length→(rTgs L f T K a).2≤L.length
 | 0,T,K,a,ha=>ha
 | f+1,T,K,a,ha=>by
  rw[rTgs];split
  ·exact ha
  ·rename_i t ht
   have h1:a+1≤L.length:=(List.getElem?_eq_some_iff.1 ht).1;split
   ·exact rTgs_le f h1
   ·split
    ·exact rTgs_le f h1
    ·exact ha
theorem rest_le {d:Int×Int×Int}{w:List Nat}{r:Dr}(ha:a≤L.length) (h:rest15 L d w a=.inr (r,b)):b≤L.length:=by
 unfold rest15 at h;split at h
 ·unfold rOpen at h
  obtain⟨x,a1,h1,h⟩:=thn_ok h;obtain⟨cs,a2,h2,h⟩:=thn_ok h;have g:=curs_le (tkw_le h1) h2;split at h
  ·rename_i hk
   split at h
   ·cases h
   ·cases h
    unfold knd at hk;cases ht:L[a2]? with
    | none=>rw[ht] at hk;cases hk
    | some t=>exact(List.getElem?_eq_some_iff.1 ht).1
  ·cases h;exact g
 split at h
 ·obtain⟨x,a1,h1,h⟩:=thn_ok h
  cases h;exact tkw_le h1
 split at h
 ·obtain⟨x,a1,h1,h⟩:=thn_ok h
  cases h;exact tkw_le h1
 split at h
 ·obtain⟨x,a1,h1,h⟩:=thn_ok h
  obtain⟨n,a2,h2,h⟩:=thn_ok h;cases h
  unfold amr at h2;split at h2
  ·cases h2
  ·rename_i hq
   cases h2
   unfold amt at hq;split at hq
   ·cases hq
   ·split at hq
    ·cases hq
    ·rename_i t ht
     split at hq
     ·cases hq;exact(List.getElem?_eq_some_iff.1 ht).1
     ·cases hq
 split at h
 ·obtain⟨x,a1,h1,h⟩:=thn_ok h
  obtain⟨y,a2,h2,h⟩:=thn_ok h;cases h;exact tkw_le h2
 split at h
 ·unfold rBal at h
  obtain⟨x,a1,h1,h⟩:=thn_ok h;obtain⟨n,a2,h2,h⟩:=thn_ok h;obtain⟨t,a3,h3,h⟩:=thn_ok h;obtain⟨c,a4,h4,h⟩:=thn_ok h;cases h;exact tkw_le h4
 split at h
 ·obtain⟨x,a1,h1,h⟩:=thn_ok h
  obtain⟨y,a2,h2,h⟩:=thn_ok h;cases h;exact tkw_le h2
 split at h
 ·unfold rTxn at h
  cases h;exact rTgs_le _ (rTxt_le ha)
 split at h
 ·unfold rTxn at h
  cases h;exact rTgs_le _ (rTxt_le ha)
 ·cases h
theorem mth_pc {m:Nat}(h:m≤4):PC (pW 5 (mthT m))≤84:=by
 have h1:=PC_word 5 (mthT m);have h2:(mthT m).length≤7:=by
  obtain rfl|rfl|rfl|rfl|rfl:m=0∨m=1∨m=2∨m=3∨m=4:=by omega
  all_goals decide
 omega
theorem lit_pc:PC (pW 8 wOption)≤20∧PC (pW 8 wOpen)≤20∧PC (pW 8 wClose)≤20∧PC (pW 8 wCommodity)≤20∧PC (pW 8 wPrice)≤20∧PC (pW 8 wPad)≤20∧PC (pW 8 wBalance)≤20∧PC (pW 8 wNote)≤20∧PC (pW 10 [42])≤20∧PC (pW 10 [33])≤20∧PC (pW 10 [126])≤12:=by decide
def tolP:Option (Int×Nat)→List Pc
 | none=>[]
 | some n=>[pW 10 [126],pN n.1 n.2]
theorem pcs_bal (d:Int×Int×Int) (y:ByteArray) (i:Int) (k:Nat) (t:Option (Int×Nat)) (z:ByteArray):pcs (.bal d y i k t z)=pD d::pW 8 wBalance::pW 2 (bs9 y)::pN i k::(tolP t++[pW 3 (bs9 z)]):=by cases t<;>rfl
theorem rTol_cost {t:Option (Int×Nat)}(h:rTol L a=.inr (t,b)):TC (tolP t)+12 * bw L a≤12 * bw L b+30:=by
 have l10:=lit_pc.2.2.2.2.2.2.2.2.2.2;unfold rTol at h;split at h
 ·obtain⟨m,a5,h5,h⟩:=thn_ok h
  split at h
  ·cases h
  ·cases h
   have c5:=(nmr_cost h5).1;have hl:bw L a≤bw L (a+1):=bw_le (by omega);show PC (pW 10 [126])+(PC (pN m.1 m.2)+0)+_≤_;omega
 ·cases h
  show 0+_≤_;omega
theorem rest_cost {d:Int×Int×Int}{w:List Nat}{r:Dr}(h:rest15 L d w a=.inr (r,b)):TC (pcs r)+12 * bw L a≤12 * bw L b+200:=by
 obtain⟨l0,l1,l2,l3,l4,l5,l6,l7,l8,l9,l10⟩:=lit_pc;have l0:=PC_day d;unfold rest15 at h;split at h
 ·unfold rOpen at h
  obtain⟨x,a1,h1,h⟩:=thn_ok h;obtain⟨cs,a2,h2,h⟩:=thn_ok h;have c1:=tkw_cost 2 h1;have c2:=curs_cost h2;have key:∀m,TC (pcs (.opn d x cs m))=PC (pD d)+(PC (pW 8 wOpen)+(PC (pW 2 (bs9 x))+(TC (curP cs)+TC (if m=0 then [] else [pW 5 (mthT m)])))):=fun m=>by
   unfold pcs;rw[TC_cons,TC_cons,TC_cons,TC_app]
  have km:∀m,m≤4→TC (if m=0 then [] else [pW 5 (mthT m)])≤84:=fun m hm=>by
   split
   ·exact Nat.zero_le _
   ·rw[tc_one];exact mth_pc hm
  split at h
  ·split at h
   ·cases h
   ·rename_i m hm
    cases h
    have:=km m (mthO_le hm);have hl:bw L a2≤bw L (a2+1):=bw_le (by omega);rw[key];omega
  ·cases h
   have:=km 0 (by omega);rw[key];omega
 split at h
 ·obtain⟨x,a1,h1,h⟩:=thn_ok h
  cases h
  have c1:=tkw_cost 2 h1;show PC (pD d)+(PC (pW 8 wClose)+(PC (pW 2 (bs9 x))+0))+_≤_;omega
 split at h
 ·obtain⟨x,a1,h1,h⟩:=thn_ok h
  cases h
  have c1:=tkw_cost 3 h1;show PC (pD d)+(PC (pW 8 wCommodity)+(PC (pW 3 (bs9 x))+0))+_≤_;omega
 split at h
 ·obtain⟨x,a1,h1,h⟩:=thn_ok h
  obtain⟨n,a2,h2,h⟩:=thn_ok h;cases h
  have c1:=tkw_cost 3 h1;have c2:=(amr_cost h2).1;show PC (pD d)+(PC (pW 8 wPrice)+(PC (pW 3 (bs9 x))+(PC (pN n.1 n.2.1)+(PC (pW 3 (bs9 n.2.2))+0))))+_≤_;omega
 split at h
 ·obtain⟨x,a1,h1,h⟩:=thn_ok h
  obtain⟨y,a2,h2,h⟩:=thn_ok h;cases h
  have c1:=tkw_cost 2 h1;have c2:=tkw_cost 2 h2;show PC (pD d)+(PC (pW 8 wPad)+(PC (pW 2 (bs9 x))+(PC (pW 2 (bs9 y))+0)))+_≤_;omega
 split at h
 ·unfold rBal at h
  obtain⟨x,a1,h1,h⟩:=thn_ok h;obtain⟨n,a2,h2,h⟩:=thn_ok h;obtain⟨t,a3,h3,h⟩:=thn_ok h;obtain⟨c,a4,h4,h⟩:=thn_ok h;cases h
  have c1:=tkw_cost 2 h1;have c2:=(nmr_cost h2).1;have c4:=tkw_cost 3 h4;have c3:=rTol_cost h3;rw[pcs_bal,TC_cons,TC_cons,TC_cons,TC_cons,TC_app,tc_one];omega
 split at h
 ·obtain⟨x,a1,h1,h⟩:=thn_ok h
  obtain⟨y,a2,h2,h⟩:=thn_ok h;cases h
  have c1:=tkw_cost 2 h1;have c2:=tkw_cost 5 h2;show PC (pD d)+(PC (pW 8 wNote)+(PC (pW 2 (bs9 x))+(PC (pW 5 (bs9 y))+0)))+_≤_;omega
 have kt:∀f,TC (pcs (.txn d f (rTxt L a).1.1 (rTxt L a).1.2 (rTgs L (L.length+1) [] [] (rTxt L a).2).1.1 (rTgs L (L.length+1) [] [] (rTxt L a).2).1.2))+12 * bw L a≤12 * bw L (rTgs L (L.length+1) [] [] (rTxt L a).2).2+200:=fun f=>by
  have c1:=rTxt_cost (L:=L) (a:=a);have c2:=rTgs_cost (L:=L) (L.length+1) (T:=[]) (K:=[]) (a:=(rTxt L a).2);rw[List.map_nil,List.map_nil,TC_nil] at c2;have cf:PC (pW 10 (if f=true then [33] else [42]))≤20:=by cases f;exact l8;exact l9
  rw[TC_app,tc_one] at c1;unfold pcs;rw[TC_cons,TC_cons,TC_app,TC_cons,TC_app];omega
 split at h
 ·unfold rTxn at h
  cases h;exact kt false
 split at h
 ·unfold rTxn at h
  cases h;exact kt true
 ·cases h
theorem hd_cost {d:Dr}(h:hd L=.inr (d,a)):TC (pcs d)≤12 * bw L L.length+200∧a=L.length:=by
 have top:∀{n:Nat},bw L n≤bw L L.length:=fun {n}=>by
  rcases Nat.le_total n L.length with h|h
  ·exact bw_le h
  ·unfold bw;rw[List.take_of_length_le h,List.take_length];exact Nat.le_refl _
 have le1:∀{k:Int}{a b:Nat}{x:ByteArray},tkw L a k=.inr (x,b)→b≤L.length:=fun h=>by
  obtain⟨t,ht,-,-,rfl⟩:=tkw_ok h;exact(List.getElem?_eq_some_iff.1 ht).1
 unfold hd at h;split at h
 ·cases h
 rename_i t ht
 split at h
 ·obtain⟨h,ha⟩:=fin_ok h
  obtain⟨x,a1,h1,h⟩:=thn_ok h;obtain⟨y,a2,h2,h⟩:=thn_ok h;cases h
  have c1:=tkw_cost 5 h1;have c2:=tkw_cost 5 h2;have l0:=lit_pc.1;have h3:=top (n:=a);refine⟨?_,Nat.le_antisymm (le1 h2) ha⟩;show PC (pW 8 wOption)+(PC (pW 5 (bs9 x))+(PC (pW 5 (bs9 y))+0))≤_;omega
 split at h
 ·split at h
  ·split at h
   ·cases h
   split at h
   ·obtain⟨h,ha⟩:=fin_ok h
    have c1:=rest_cost h;have h3:=top (n:=a);refine⟨by omega,?_⟩;rename_i u hu _ _
    exact Nat.le_antisymm (rest_le (List.getElem?_eq_some_iff.1 hu).1 h) ha
   ·cases h
  ·cases h
 ·cases h
end
end Go.Proofs.YthpmaoimceojgaaGreatDoor.Num
namespace Go.Proofs.YthpmaoimceojgaaGreatDoor.Num
open Go.RowKit
def wdsOf (l:List Nat):List Wd:=match WD D12 N12 0 l with
 | .inl _=>[]
 | .inr ts=>ts
theorem rdK_nil (w:World) (B:Nat):RdK w B none 0 0 []:=⟨rfl,Nat.le_refl _,Nat.zero_le _,.inl rfl⟩
def RetL (w:World) (ts:List Wd) (e:Ending) (w':World):Prop:=∃A n c,e=.returned (.slice A n c)∧RdK w' w'.heap.size A n c (tks 1 ts)∧Below w.heap.size w w'
end Go.Proofs.YthpmaoimceojgaaGreatDoor.Num
namespace Go.Proofs.YthpmaoimceojgaaGreatDoor.Num
open Go.RowKit
open Byt
theorem byt_any:∀(f:Nat) {l:List Nat}{a:Nat}{ts:List Wd},l.length≤f→WD D12 N12 a l=.inr ts→(ts.map fun t=>max t.2.1.length 1).sum≤l.length:=by
 intro f;induction f with
 | zero=>
  intro l a ts hf h;obtain rfl:l=[]:=List.eq_nil_of_length_eq_zero (by omega);rw[WD_stop (.inl rfl)] at h;cases h;exact Nat.le_refl _
 | succ f ih=>
  intro l a ts hf h;by_cases hs:Stop12 (l.drop (indl l))
  ·rw[WD_stop hs] at h
   cases h;exact Nat.zero_le _
  cases hn:nxt D12 N12 (l.drop (indl l)) with
  | inl e=>rw[WD_err hs hn] at h;cases h
  | inr p=>
   obtain⟨k,x,n⟩:=p;obtain⟨q1,q2,-,-⟩:=nxt_back dayok12 hn;have q3:=nxt_len hn;rw[WD_ok dayok12 hs hn] at h;rw[List.length_drop] at q2;cases hw:WD D12 N12 (a+indl l+n) ((l.drop (indl l)).drop n) with
   | inl e=>rw[hw] at h;cases h
   | inr us=>
    rw[hw] at h;cases h
    have:=ih (by rw[List.length_drop,List.length_drop];omega) hw;rw[List.length_drop,List.length_drop] at this;show max x.length 1+(us.map fun t=>max t.2.1.length 1).sum≤_;omega
theorem bw_tks (no:Int) (ts:List Wd) (hb:∀t∈ts,∀c∈t.2.1,c<256):bw ((tks no ts).map tok) ((tks no ts).map tok).length=(ts.map fun t=>max t.2.1.length 1).sum:=by
 unfold bw;rw[List.take_length,List.map_map];unfold tks;rw[List.map_map];congr 1
 refine List.map_congr_left fun t ht=>?_
 show max (st9 t.2.1).size 1=_;rw[← bs9_len,bs9_st9 (hb t ht)]
theorem wd_bytes {s:ByteArray}{ts:List Wd}(h:WD D12 N12 0 (bs9 s)=.inr ts):∀t∈ts,∀c∈t.2.1,c<256:=fun t ht=>((WD_all dayok12 _ (Nat.le_refl _) h (bs9_lt s)).2.2 t ht).1
theorem line_few {s:ByteArray}{ts:List Wd}(hs:s.size≤300) (h:WD D12 N12 0 (bs9 s)=.inr ts):bw ((tks 1 ts).map tok) ((tks 1 ts).map tok).length≤300∧Wgh.ws ((tks 1 ts).map tok) ((tks 1 ts).map tok).length≤4010∧ts.length≤300:=by
 have h1:=byt_any _ (Nat.le_refl _) h;have h2:=wgt_any _ (Nat.le_refl (bs9 s).length) 0 ts h;rw[bs9_len] at h1 h2;have hn:ts.length≤(ts.map fun t=>max t.2.1.length 1).sum:=by
  clear h h1 h2;induction ts with
  | nil=>exact Nat.le_refl _
  | cons t r ih=>rw[List.map_cons,List.sum_cons,List.length_cons];omega
 refine⟨by rw[bw_tks 1 ts (wd_bytes h)];omega,by rw[ws_tks 1 ts (wd_bytes h)];omega,by omega⟩
theorem line_prp {s:ByteArray}{ts:List Wd}(h:WD D12 N12 0 (bs9 s)=.inr ts):PrpL ((tks 1 ts).map tok):=by
 intro t ht;obtain⟨q,hq,rfl⟩:=List.mem_map.1 ht;unfold tks at hq;obtain⟨u,hu,rfl⟩:=List.mem_map.1 hq;have:=WD_prp _ (Nat.le_refl _) h u hu;show Prp ((u.1:Int)).toNat (bs9 (st9 u.2.1));rw[bs9_st9 (wd_bytes h u hu)];exact this
theorem dr_line {s T:ByteArray}{ts:List Wd}{d:Dr}{a:Nat}(hs:s.size≤300) (h:WD D12 N12 0 (bs9 s)=.inr ts) (hd1:hd ((tks 1 ts).map tok)=.inr (d,a)) (hT:drT d=bs9 T) :
  d.ok∧a=ts.length∧T.size≤4000∧(∃us,WD D12 N12 0 (bs9 T)=.inr us∧wdsOf (bs9 T)=us∧us.length≤400∧Wgh.ws ((tks 1 us).map tok) ((tks 1 us).map tok).length≤4010∧hd ((tks 1 us).map tok)=.inr (d,us.length)):=by
 obtain⟨h1,h2,h3⟩:=line_few hs h;obtain⟨g1,-⟩:=hd_ok (line_prp h) hd1;obtain⟨g2,g3⟩:=hd_cost hd1;have hl:∀us:List Wd,((tks 1 us).map tok).length=us.length:=fun us=>by unfold tks;rw[List.length_map,List.length_map]
 have t1:=len_pcs (pcs d);have t2:=wg_pcs (pcs d);obtain⟨us,e1,e2⟩:=wds_dr g1 0;rw[hT] at e1;have e3:(tks 1 us).map tok=(drW d).map tk:=tks_tk 1 e2;have e4:wgt us=((drW d).map fun u=>u.2.length+11).sum:=by
  unfold wgt;rw[← e2,List.map_map];rfl
 have e5:us.length=(drW d).length:=by rw[← e2,List.length_map]
 have hw:wgt us≤TC (pcs d):=by rw[e4];exact t2
 have hn:11 * us.length≤wgt us:=by
  unfold wgt;clear e1 e2 e3 e4 e5 hw;induction us with
  | nil=>exact Nat.le_refl _
  | cons t r ih=>rw[List.map_cons,List.sum_cons,List.length_cons];omega
 refine⟨g1,by rw[g3,hl],?_,us,e1,?_,by omega,?_,?_⟩
 ·rw[← bs9_len,← hT]
  unfold drT;omega
 ·unfold wdsOf;rw[e1]
 ·rw[ws_tks 1 us (wd_bytes e1)];omega
 ·rw[hd_told g1 e3,hl]
def Dr.fit:Dr→Prop
 | .prc _ _ i k _=>(dg i.natAbs).length≤900∧k≤4010
 | .bal _ _ i k t _=>((dg i.natAbs).length≤900∧k≤4010)∧∀n,t=some n→(dg n.1.natAbs).length≤900∧n.2≤4010
 | _=>True
theorem sz_fit {i:Int}{k m:Nat}(h:Sz i k m) (hk:k≤m) (hm:m≤1800):(dg i.natAbs).length≤900∧k≤4010:=by
 have:=h.nine;omega
theorem rest_fit {L:List Tok}{a b:Nat}{d:Int×Int×Int}{w:List Nat}{r:Dr}(hb:bw L L.length≤300) (h:rest15 L d w a=.inr (r,b)):r.fit:=by
 have num:∀{a b:Nat}{n:Int×Nat},nmr L a=.inr (n,b)→(dg n.1.natAbs).length≤900∧n.2≤4010:=fun {a b n} h=>by
  obtain⟨-,q1,q2,-,q3⟩:=nmr_cost h;have:=bw_le (L:=L) q3;exact sz_fit q1 q2 (by omega)
 unfold rest15 at h;split at h
 ·unfold rOpen at h
  obtain⟨x,a1,h1,h⟩:=thn_ok h;obtain⟨cs,a2,h2,h⟩:=thn_ok h;split at h
  ·split at h
   ·cases h
   ·cases h;exact trivial
  ·cases h;exact trivial
 split at h
 ·obtain⟨x,a1,h1,h⟩:=thn_ok h
  cases h;exact trivial
 split at h
 ·obtain⟨x,a1,h1,h⟩:=thn_ok h
  cases h;exact trivial
 split at h
 ·obtain⟨x,a1,h1,h⟩:=thn_ok h
  obtain⟨n,a2,h2,h⟩:=thn_ok h;cases h
  obtain⟨-,m,q1,q2,q3⟩:=amr_cost h2;exact sz_fit q1 q2 (by omega)
 split at h
 ·obtain⟨x,a1,h1,h⟩:=thn_ok h
  obtain⟨y,a2,h2,h⟩:=thn_ok h;cases h;exact trivial
 split at h
 ·unfold rBal at h
  obtain⟨x,a1,h1,h⟩:=thn_ok h;obtain⟨n,a2,h2,h⟩:=thn_ok h;obtain⟨t,a3,h3,h⟩:=thn_ok h;obtain⟨c,a4,h4,h⟩:=thn_ok h;cases h
  refine⟨num h2,fun m hm=>?_⟩;unfold rTol at h3;split at h3
  ·obtain⟨m',a5,h5,h3⟩:=thn_ok h3
   split at h3
   ·cases h3
   ·cases h3;cases hm;exact num h5
  ·cases h3;cases hm
 split at h
 ·obtain⟨x,a1,h1,h⟩:=thn_ok h
  obtain⟨y,a2,h2,h⟩:=thn_ok h;cases h;exact trivial
 split at h
 ·unfold rTxn at h
  cases h;exact trivial
 split at h
 ·unfold rTxn at h
  cases h;exact trivial
 ·cases h
theorem hd_fit {L:List Tok}{a:Nat}{d:Dr}(hb:bw L L.length≤300) (h:hd L=.inr (d,a)):d.fit:=by
 unfold hd at h;split at h
 ·cases h
 split at h
 ·obtain⟨h,-⟩:=fin_ok h
  obtain⟨x,a1,h1,h⟩:=thn_ok h;obtain⟨y,a2,h2,h⟩:=thn_ok h;cases h;exact trivial
 split at h
 ·split at h
  ·split at h
   ·cases h
   split at h
   ·obtain⟨h,-⟩:=fin_ok h
    exact rest_fit hb h
   ·cases h
  ·cases h
 ·cases h
end Go.Proofs.YthpmaoimceojgaaGreatDoor.Num
namespace Go.Proofs.YthpmaoimceojgaaGreatDoor.Num
open Go.RowKit
structure FD where
 kind:Nat
 y:Int
 m:Int
 d:Int
 acc:ByteArray
 oth:ByteArray
 curs:List ByteArray
 book:Nat
 i:Int
 k:Nat
 cur:ByteArray
 hasTol:Bool
 ti:Int
 tk:Nat
 flag:ByteArray
 pay:ByteArray
 nar:ByteArray
 tags:List ByteArray
 links:List ByteArray
 name:ByteArray
 text:ByteArray
def FD.zero:FD:=⟨0,0,0,0,⟨#[]⟩,⟨#[]⟩,[],0,0,0,⟨#[]⟩,false,0,0,⟨#[]⟩,⟨#[]⟩,⟨#[]⟩,[],[],⟨#[]⟩,⟨#[]⟩⟩
def FD.at_ (n:Nat) (x:Int×Int×Int):FD:={ FD.zero with kind:=n,y:=x.1,m:=x.2.1,d:=x.2.2 }
def fdOf:Option Dr→FD
 | none=>FD.zero
 | some (.opn x a cs b)=>{ FD.at_ 1 x with acc:=a,curs:=cs,book:=b }
 | some (.cls x a)=>{ FD.at_ 2 x with acc:=a }
 | some (.com x c)=>{ FD.at_ 3 x with curs:=[c] }
 | some (.prc x c i k u)=>{ FD.at_ 4 x with curs:=[c],i:=i,k:=k,cur:=u }
 | some (.pad x a b)=>{ FD.at_ 5 x with acc:=a,oth:=b }
 | some (.bal x a i k none u)=>{ FD.at_ 6 x with acc:=a,i:=i,k:=k,cur:=u }
 | some (.bal x a i k (some n) u)=>{ FD.at_ 6 x with acc:=a,i:=i,k:=k,cur:=u,hasTol:=true,ti:=n.1,tk:=n.2 }
 | some (.txn x f p n t l)=>{ FD.at_ 7 x with flag:=if f=true then ⟨#[33]⟩ else ⟨#[42]⟩,pay:=p,nar:=n,tags:=t,links:=l }
 | some (.nte x a u)=>{ FD.at_ 8 x with acc:=a,text:=u }
 | some (.opt n u)=>{ FD.zero with kind:=9,name:=n,text:=u }
structure DM where
 A:Option Addr
 n:Nat
 c:Nat
 At:Option Addr
 nt:Nat
 ct:Nat
 Ac:Option Addr
 nc:Nat
 cc:Nat
 Ag:Option Addr
 ng:Nat
 cg:Nat
 Al:Option Addr
 nl:Nat
 cl:Nat
 p:Int
 q:Int
def DM.zero:DM:=⟨none,0,0,none,0,0,none,0,0,none,0,0,none,0,0,0,0⟩
def cD (f:FD) (m:DM):Array Value:=#[.int .i64 (f.kind:Int),.int .i64 f.y,.int .i64 f.m,.int .i64 f.d,.string f.acc,.string f.oth,.slice m.Ac m.nc m.cc,.int .i64 (f.book:Int),.bool (ngB f.i),.slice m.A m.n m.c,.int .i64 (f.k:Int),.string f.cur,.bool f.hasTol,.bool (ngB f.ti),.slice m.At m.nt m.ct,.int .i64 (f.tk:Int),.string f.flag,.string f.pay,.string f.nar,.slice m.Ag m.ng m.cg,.slice m.Al m.nl m.cl,.slice none 0 0,.slice none 0 0,.string f.name,.string f.text,.int .i64 m.p,.int .i64 m.q]
structure MD (w:World) (f:FD) (m:DM):Prop where
 num:Num w w.heap.size m.A m.n m.c f.i.natAbs
 tol:Num w w.heap.size m.At m.nt m.ct f.ti.natAbs
 cur:RdP w m.Ac m.nc m.cc (f.curs.map bs9)
 tag:RdP w m.Ag m.ng m.cg (f.tags.map bs9)
 lnk:RdP w m.Al m.nl m.cl (f.links.map bs9)
theorem MD.on {w w':World}{f:FD}{m:DM}(h:MD w f m) (hb:Below w.heap.size w w'):MD w' f m:=⟨h.num.on hb,h.tol.on hb,h.cur.on hb,h.tag.on hb,h.lnk.on hb⟩
structure Far (lo:Nat) (m:DM):Prop where
 cur:∀a,m.Ac=some a→lo≤a.block
 tag:∀a,m.Ag=some a→lo≤a.block
 lnk:∀a,m.Al=some a→lo≤a.block
theorem RdP.row15 {w:World}{A:Option Addr}{n c g:Nat}{cs:Array Value}{l:List (List Nat)}(h:RdP w A n c l) (hf:∀a,A=some a→a.block≠g):RdP (w.setRow g cs) A n c l:=by
 obtain⟨h1,h2,h3,h|⟨b,o,rfl,h5,h6⟩⟩:=h
 ·exact⟨h1,h2,h3,.inl h⟩
 ·have hne:b≠g:=hf ⟨b,o,none⟩ rfl
  exact⟨h1,h2,h3,.inr ⟨b,o,rfl,by simpa using h5,fun k u hu=>(cell_setRow_other w g cs ⟨b,o+k,none⟩ hne).trans (h6 k u hu)⟩⟩
theorem Lim.row15 {w:World}{B n c g:Nat}{A:Option Addr}{ys:List Nat}{xs cs:Array Value}{t:TypeId}(h:Lim w B A n c ys) (hb:w.heap[g]?=some (.cells xs t (0,0))) (hc:∀x∈xs.toList,NoLimb x):Lim (w.setRow g cs) B A n c ys:=by
 refine⟨h.len,h.cap,h.room,h.fit,?_,h.addr⟩;rcases h.row with h' | ⟨b,o,rfl,hB,hr⟩
 ·exact .inl h'
 ·refine .inr ⟨b,o,rfl,hB,fun k u hu=>?_⟩
  have hj:=hr k u hu;by_cases hbg:b=g
  ·exfalso
   have hm:=List.mem_of_getElem? hu;unfold vals at hm;obtain⟨x,_,rfl⟩:=List.mem_map.1 hm;subst hbg;rw[cell_of_row w b (o+k) _ _ _ hb,← Array.getElem?_toList] at hj;exact hc _ (List.mem_of_getElem? hj) x rfl
  ·exact(cell_setRow_other w g cs ⟨b,o+k,none⟩ hbg).trans hj
theorem MD.row15 {w:World}{f:FD}{m:DM}{g lo:Nat}{xs cs:Array Value}{t:TypeId}(h:MD w f m) (hf:Far lo m) (hg:g<lo) (hb:w.heap[g]?=some (.cells xs t (0,0))) (hc:∀x∈xs.toList,NoLimb x):MD (w.setRow g cs) f m:=
 ⟨(Lim.row15 h.num hb hc).more (by simp),(Lim.row15 h.tol hb hc).more (by simp),RdP.row15 h.cur fun a e=>by have:=hf.cur a e;omega,RdP.row15 h.tag fun a e=>by have:=hf.tag a e;omega,RdP.row15 h.lnk fun a e=>by have:=hf.lnk a e;omega⟩
theorem cD_zero_limb:∀x∈(cD FD.zero DM.zero).toList,NoLimb x:=by
 intro x hx;simp only[cD,List.mem_cons,List.not_mem_nil,or_false] at hx
 rcases hx with rfl|rfl|rfl|rfl|rfl|rfl|rfl|rfl|rfl|rfl|rfl|rfl|rfl|rfl|rfl|rfl|rfl|rfl|rfl|rfl|rfl|rfl|rfl|rfl|rfl|rfl|rfl<;>exact fun k h=>by cases h
theorem rdP_nil (w:World):RdP w none 0 0 []:=⟨rfl,Nat.le_refl _,Nat.zero_le _,.inl rfl⟩
theorem MD.nil (w:World):MD w FD.zero DM.zero:=⟨num_zero _ _,num_zero _ _,rdP_nil w,rdP_nil w,rdP_nil w⟩
def Mtds (w:World):Prop:=w.cell? ⟨0,0,none⟩=some (.string ⟨#[83,84,82,73,67,84]⟩)∧w.cell? ⟨0,1,none⟩=some (.string ⟨#[70,73,70,79]⟩)∧w.cell? ⟨0,2,none⟩=some (.string ⟨#[76,73,70,79]⟩)∧w.cell? ⟨0,3,none⟩=some (.string ⟨#[65,86,69,82,65,71,69]⟩)∧w.cell? ⟨0,4,none⟩=some (.string ⟨#[78,79,78,69]⟩)
theorem Mtds.on {w w':World}(h:Mtds w) (hb:Below w.heap.size w w'):Mtds w':=
 ⟨cell_on11 h.1 hb,cell_on11 h.2.1 hb,cell_on11 h.2.2.1 hb,cell_on11 h.2.2.2.1 hb,cell_on11 h.2.2.2.2 hb⟩
def Ok15 (w:World):Prop:=Ok12 w∧Mtds w
theorem okw15:Okw Ok15:=fun h hb=>⟨okw12 h.1 hb,h.2.on hb⟩
def resH:RH Dr→Option Dr×Nat×Nat
 | .inl (e,p)=>(none,p,e)
 | .inr (d,p)=>(some d,p,0)
def RvH (w:World) (o:Option Dr) (p e:Nat) (en:Ending) (w':World):Prop:=∃m:DM,en=.returned (.tuple #[.agg (cD (fdOf o) m),.int .i64 (p:Int),.int .i64 (e:Int)])∧MD w' (fdOf o) m∧Far w.heap.size m∧Below w.heap.size w w'
def READH:Prop:=∀{w:World}{B n c:Nat}{A:Option Addr}{L:List Tk4}{G:Nat→Nat→Int→Nat→Prop}{o:Option Dr}{p e:Nat},RdK w B A n c L→B≤w.heap.size→n≤400→Siz (L.map tok) G→Ok15 w→resH (hd (L.map tok))=(o,p,e)→Calls Tryz.prog 7 #[.slice A n c] w (RvH w o p e)
def TEXTH:Prop:=∀{w:World}{m:DM}{d:Dr}{T:ByteArray},MD w (fdOf (some d)) m→d.fit→T.size≤4000→Ok15 w→drT d=bs9 T→Calls Tryz.prog 10 #[.agg (cD (fdOf (some d)) m)] w (Ret9 w (.string T))
def SAMEH:Prop:=∀{w:World}{m m':DM}{o o':Option Dr}{x:Bool},MD w (fdOf o) m→MD w (fdOf o') m'→Ok15 w→(x=true↔o=o')→Calls Tryz.prog 8 #[.agg (cD (fdOf o) m),.agg (cD (fdOf o') m')] w (Ret9 w (.bool x))
def mthI (s:ByteArray):Int:=match mth (bs9 s) with|none => -1|some m=>(m:Int)
def METH:Prop:=∀{w:World}{s:ByteArray}{x:Int},Ok15 w→mthI s=x→Calls Tryz.prog 11 #[.string s] w (Ret9 w (.int .i64 x))
def mthW (n:Int):List Nat:=if 0≤n∧n≤4 then mthT n.toNat else []
def MWORD:Prop:=∀{w:World}{n:Int}{s:ByteArray},Ok15 w→mthW n=bs9 s→Calls Tryz.prog 12 #[.int .i64 n] w (Ret9 w (.string s))
def AWK15:Prop:=∀w:World,Ok15 w→Calls Tryz.prog 5 #[] w (Ret9 w (.bool true))
structure S15 (w0 w:World) (ms:List (FD×DM)) (bs:List (Nat×Array Value×TypeId)):Prop where
 bel:Below w0.heap.size w0 w
 md:∀q∈ms,MD w q.1 q.2
 blk:∀q∈bs,w.heap[q.1]?=some (.cells q.2.1 q.2.2 (0,0))
section
variable {w0 w w':World}{ms:List (FD×DM)}{bs:List (Nat×Array Value×TypeId)}
theorem blk_lt {w:World}{g:Nat}{xs:Array Value}{t:TypeId}(h:w.heap[g]?=some (.cells xs t (0,0))):g<w.heap.size:=by
 rcases Nat.lt_or_ge g w.heap.size with h1|h1
 ·exact h1
 ·rw[Array.getElem?_eq_none h1] at h;cases h
theorem S15.start (w:World):S15 w w [] []:=⟨Below.refl _ _,fun q hq=>(by cases hq),fun q hq=>(by cases hq)⟩
theorem S15.step (h:S15 w0 w ms bs) (hb:Below w.heap.size w w'):S15 w0 w' ms bs:=⟨h.bel.trans (hb.mono h.bel.size),fun q hq=>(h.md q hq).on hb,fun q hq=>(hb.block _ (blk_lt (h.blk q hq))).trans (h.blk q hq)⟩
theorem S15.push (h:S15 w0 w ms bs) (hb:Below w.heap.size w w') {f:FD}{m:DM}(hm:MD w' f m):S15 w0 w' ((f,m)::ms) bs:=by
 have h2:=h.step hb;refine⟨h2.bel,fun q hq=>?_,h2.blk⟩;rcases List.mem_cons.1 hq with rfl|hq
 ·exact hm
 ·exact h2.md q hq
theorem S15.lay (h:S15 w0 w ms bs) (xs:Array Value) (t:TypeId) {g:Nat}(hg:g=w.heap.size):S15 w0 (w.alloc (.cells xs t)) ms ((g,xs,t)::bs):=by
 have h2:=h.step ((Below.refl _ _).alloc (Nat.le_refl _) (.cells xs t));refine⟨h2.bel,h2.md,fun q hq=>?_⟩;rcases List.mem_cons.1 hq with rfl|hq
 ·subst hg;exact heap_alloc_new w _
 ·exact h2.blk q hq
theorem S15.at_ {g:Nat}{xs:Array Value}{t:TypeId}(h:Hid (S15 w0 w ms bs)) (hm:(g,xs,t)∈bs) (j:Nat):w.cell? ⟨g,j,none⟩=xs[j]?:=cell_of_row w g j _ _ _ (h.out.blk _ hm)
theorem S15.got {f:FD}{m:DM}(h:Hid (S15 w0 w ms bs)) (hm:(f,m)∈ms):MD w f m:=h.out.md _ hm
end
theorem words15 {w:World}{s:ByteArray}(hok:Ok15 w) (hs:s.size≤6000):Calls Tryz.prog 13 #[.string s] w (RetL w (wdsOf (bs9 s))):=by
 have HW:=Jh (lexwords_is okw12 dayok12 (fun _ h hs=>lexunquote_is h hs _) o08 o07 o11 1 s hs w hok.1);clear hok;unfold wdsOf;cases h:WD D12 N12 0 (bs9 s) with
 | inl p=>
  obtain⟨c0,x0⟩:=p;rw[h] at HW;go_enter Tryz.func13,Tryz.ntmps13;go_wp2_with fail;refine HW.out.mono ?_;rintro e v ⟨rfl,hb⟩;have E:=Jh hb;clear hb;go_wp2_with fail;go_ret;exact⟨_,_,_,rfl,rdK_nil _ _,E.out.alloc E.out.size _⟩
 | inr ts=>
  rw[h] at HW;go_enter Tryz.func13,Tryz.ntmps13;go_wp2_with fail;refine HW.out.mono ?_;rintro e v ⟨⟨A,c,rfl,hr⟩,hb⟩;have R1:=Jh hr;have E:=Jh hb;clear hr hb;go_wp2_with fail;go_ret;have hb2:=(Below.refl v.heap.size v).alloc (Nat.le_refl _) (.cells #[.int .i64 0,.int .i64 0,.int .i64 0] 28);exact⟨_,_,_,rfl,rdK_of (R1.out.on hb2),E.out.alloc E.out.size _⟩
def nxr {α:Type}(e a:Nat) (m:Nat→RH α):RH α:=if e=0 then m a else .inl (e,a)
def Aft {α:Type}(r:RH α) (a e:Nat) (P:α→Prop):Prop:=match r with
 | .inl (z,p)=>a=p∧e=z∧z≠0
 | .inr (x,b)=>a=b∧e=0∧P x
section
variable {α β:Type}{r:RH α}{f:α→Nat→RH β}{a e a' e':Nat}{v:α}{P Q:α→Prop}{R:β→Prop}{m:Nat→RH α}
theorem Aft.mono (h:Aft r a e P) (hq:∀x,P x→Q x):Aft r a e Q:=by
 rcases r with⟨z,p⟩|⟨x,b⟩
 ·exact h
 ·exact⟨h.1,h.2.1,hq _ h.2.2⟩
theorem Aft.thn (h:Aft r a e (· = v)) (h2:Aft (nxr e a (f v)) a' e' R):Aft (thn r f) a' e' R:=by
 rcases r with⟨z,p⟩|⟨x,b⟩
 ·obtain⟨rfl,rfl,h3⟩:=h
  unfold nxr at h2;rw[if_neg h3] at h2;exact h2
 ·obtain⟨rfl,rfl,h3⟩:=h
  obtain rfl:x=v:=h3;unfold nxr at h2;rw[if_pos rfl] at h2;exact h2
theorem nxr_thn (e a:Nat) (m:Nat→RH α) (f:α→Nat→RH β):nxr e a (fun b=>Go.Proofs.YthpmaoimceojgaaGreatDoor.Num.thn (m b) f)=Go.Proofs.YthpmaoimceojgaaGreatDoor.Num.thn (nxr e a m) f:=by
 unfold nxr;by_cases h:e=0
 ·rw[if_pos h,if_pos h]
 ·rw[if_neg h,if_neg h];rfl
theorem Aft.go (h:Aft (nxr e a m) a' e' (· = v)) {a2 e2:Nat}(h2:Aft (nxr e' a' (f v)) a2 e2 R):Aft (nxr e a (fun b=>Go.Proofs.YthpmaoimceojgaaGreatDoor.Num.thn (m b) f)) a2 e2 R:=by
 rw[nxr_thn];exact h.thn h2
theorem Aft.ret {x:β}(h:R x):Aft (nxr e a (fun b=>.inr (x,b))) a e R:=by
 unfold nxr;by_cases he:e=0
 ·rw[if_pos he];exact⟨rfl,he,h⟩
 ·rw[if_neg he];exact⟨rfl,rfl,he⟩
theorem Aft.ok (h:Aft r a 0 P):∃x,r=.inr (x,a)∧P x:=by
 rcases r with⟨z,p⟩|⟨x,b⟩
 ·exact absurd h.2.1.symm h.2.2
 ·obtain⟨rfl,-,h3⟩:=h;exact⟨x,rfl,h3⟩
theorem Aft.stay (he:e≠0):Aft (nxr e a m) a e P:=by
 unfold nxr;rw[if_neg he];exact⟨rfl,rfl,he⟩
theorem nxr_go (m:Nat→RH α) (a:Nat):nxr 0 a m=m a:=if_pos rfl
end
def tkwK (L:List Tok) (K:List Int) (a:Nat):RH ByteArray:=match L[a]? with
 | none=>.inl (2,a)
 | some t=>if K.any (fun k=>decide (t.1=k))=true then .inr (t.2,a+1) else .inl (3,a)
theorem tkwK_one (L:List Tok) (k:Int):tkwK L [k]=fun a=>tkw L a k:=by
 funext a
 unfold tkwK tkw;cases L[a]? with
 | none=>rfl
 | some t=>
  show(if (decide (t.1=k) || false)=true then _ else _)=if t.1=k then _ else _
  by_cases h:t.1=k
  ·rw[if_pos h,decide_eq_true h];rfl
  ·rw[if_neg h,decide_eq_false h];rfl
def psW (L:List Tok) (e a:Nat) (k:Int) (x:List Nat):Bool:=decide (e=0)&&(knd L a k&&(L[a]?).any fun t=>decide (bs9 t.2=x))
def isWd (L:List Tok) (e a:Nat) (k:Int):Bool:=decide (e=0)&&knd L a k
theorem psW_sign (L:List Tok) (a:Nat) (x:List Nat):psW L 0 a 10 x=isW L a x:=by
 unfold psW isW knd;cases L[a]? with
 | none=>rfl
 | some t=>rfl
def Dr.day (x:Int×Int×Int):Dr→Dr
 | .opn _ a c b=>.opn x a c b
 | .cls _ a=>.cls x a
 | .com _ c=>.com x c
 | .prc _ c i k u=>.prc x c i k u
 | .pad _ a b=>.pad x a b
 | .bal _ a i k t u=>.bal x a i k t u
 | .txn _ f p n t l=>.txn x f p n t l
 | .nte _ a u=>.nte x a u
 | .opt n u=>.opt n u
def mapR {α β:Type}(g:α→β):RH α→RH β
 | .inl e=>.inl e
 | .inr (x,b)=>.inr (g x,b)
theorem mapR_thn {α β γ:Type}(g:β→γ) (r:RH α) (f:α→Nat→RH β):mapR g (thn r f)=thn r fun x b=>mapR g (f x b):=by
 rcases r with e|⟨x,b⟩<;>rfl
theorem rest_day (L:List Tok) (d:Int×Int×Int) (w:List Nat) (a:Nat):rest15 L d w a=mapR (Dr.day d) (rest15 L (0,0,0) w a):=by
 unfold rest15;by_cases h1:w=wOpen
 ·rw[if_pos h1,if_pos h1]
  unfold rOpen;rw[mapR_thn];congr 1;funext ac b;rw[mapR_thn];congr 1;funext cs b;split
  ·split<;>rfl
  ·rfl
 rw[if_neg h1,if_neg h1];by_cases h2:w=wClose
 ·rw[if_pos h2,if_pos h2,mapR_thn];rfl
 rw[if_neg h2,if_neg h2];by_cases h3:w=wCommodity
 ·rw[if_pos h3,if_pos h3,mapR_thn];rfl
 rw[if_neg h3,if_neg h3];by_cases h4:w=wPrice
 ·rw[if_pos h4,if_pos h4,mapR_thn];congr 1;funext c b
  rw[mapR_thn];rfl
 rw[if_neg h4,if_neg h4];by_cases h5:w=wPad
 ·rw[if_pos h5,if_pos h5,mapR_thn];congr 1;funext c b
  rw[mapR_thn];rfl
 rw[if_neg h5,if_neg h5];by_cases h6:w=wBalance
 ·rw[if_pos h6,if_pos h6]
  unfold rBal;rw[mapR_thn];congr 1;funext c b;rw[mapR_thn];congr 1;funext c b;rw[mapR_thn];congr 1;funext c b;rw[mapR_thn];rfl
 rw[if_neg h6,if_neg h6];by_cases h7:w=wNote
 ·rw[if_pos h7,if_pos h7,mapR_thn];congr 1;funext c b
  rw[mapR_thn];rfl
 rw[if_neg h7,if_neg h7];by_cases h8:w=wTxn∨w=[42]
 ·rw[if_pos h8,if_pos h8];rfl
 rw[if_neg h8,if_neg h8];by_cases h9:w=[33]
 ·rw[if_pos h9,if_pos h9];rfl
 ·rw[if_neg h9,if_neg h9];rfl
def onceL (l:List ByteArray):List ByteArray:=l.foldl adds []
theorem onceL_push (l:List ByteArray) (s:ByteArray):onceL (l++[s])=adds (onceL l) s:=by unfold onceL;rw[List.foldl_append];rfl
def rTgP (L:List Tok):Nat→List ByteArray→List ByteArray→Nat→(List ByteArray×List ByteArray)×Nat
 | 0,T,K,a=>((T,K),a)
 | f+1,T,K,a=>match L[a]? with
  | none=>((T,K),a)
  | some t=>if t.1=6 then rTgP L f (T++[t.2]) K (a+1) else if t.1=7 then rTgP L f T (K++[t.2]) (a+1) else ((T,K),a)
theorem rTg_once (L:List Tok):∀(f:Nat) (T K:List ByteArray) (a:Nat),rTgs L f (onceL T) (onceL K) a=((onceL (rTgP L f T K a).1.1,onceL (rTgP L f T K a).1.2),(rTgP L f T K a).2)
 | 0,T,K,a=>rfl
 | f+1,T,K,a=>by
  unfold rTgs rTgP;cases L[a]? with
  | none=>rfl
  | some t=>
   dsimp only
   by_cases h6:t.1=6
   ·rw[if_pos h6,if_pos h6,← onceL_push];exact rTg_once L f _ _ _
   ·rw[if_neg h6,if_neg h6]
    by_cases h7:t.1=7
    ·rw[if_pos h7,if_pos h7,← onceL_push];exact rTg_once L f _ _ _
    ·rw[if_neg h7,if_neg h7]
def kt (t:Tk4):Int×List Nat:=(t.1,bs9 t.2.1)
def Bk (w:World) (g:Nat) (xs:Array Value) (t:TypeId):Prop:=w.heap[g]?=some (.cells xs t (0,0))
theorem Bk.lt {w:World}{g:Nat}{xs:Array Value}{t:TypeId}(h:Bk w g xs t):g<w.heap.size:=by
 rcases Nat.lt_or_ge g w.heap.size with h1|h1
 ·exact h1
 ·unfold Bk at h;rw[Array.getElem?_eq_none h1] at h;cases h
theorem Bk.on {w w':World}{g:Nat}{xs:Array Value}{t:TypeId}(h:Bk w g xs t) (hb:Below w.heap.size w w'):Bk w' g xs t:=(hb.block g h.lt).trans h
theorem Bk.cell {w:World}{g:Nat}{xs:Array Value}{t:TypeId}(h:Bk w g xs t) (j:Nat):w.cell? ⟨g,j,none⟩=xs[j]?:=cell_of_row w g j _ _ _ h
theorem Bk.new (v:World) (xs:Array Value) (t:TypeId) {g:Nat}(h:g=v.heap.size):Bk (v.alloc (.cells xs t)) g xs t:=by subst h;exact heap_alloc_new v _
structure VU where
 b:Bool
 i:Int
 k:Nat
 s:ByteArray
structure VP where
 h:Bool
 t:Bool
 b:Bool
 i:Int
 k:Nat
 s:ByteArray
structure VC where
 h:Bool
 t:Bool
 b:Bool
 i:Int
 k:Nat
 s:ByteArray
 y:Int
 m:Int
 d:Int
 l:ByteArray
structure VA where
 i:Int
 k:Nat
 s:ByteArray
def resA:RA→VA×Nat×Nat
 | .inl (e,p)=>(⟨0,0,⟨#[]⟩⟩,p,e)
 | .inr (i,k,c,p)=>(⟨i,k,c⟩,p,0)
def RvA (w:World) (v:VA) (p e:Nat) (en:Ending) (w':World):Prop:=∃(A:Option Addr) (n c:Nat),en=.returned (.tuple #[.agg #[.bool (ngB v.i),.slice A n c,.int .i64 (v.k:Int),.string v.s],.int .i64 (p:Int),.int .i64 (e:Int)])∧Num w' w'.heap.size A n c v.i.natAbs∧Below w.heap.size w w'
structure S14 (w0 w:World) (l:List (Option Addr×Nat×Nat×Nat)) (bs:List (Nat×Array Value×TypeId)):Prop where
 bel:Below w0.heap.size w0 w
 num:∀q∈l,Num w w.heap.size q.1 q.2.1 q.2.2.1 q.2.2.2
 blk:∀q∈bs,Bk w q.1 q.2.1 q.2.2
section
variable {w0 w w':World}{l:List (Option Addr×Nat×Nat×Nat)}{bs:List (Nat×Array Value×TypeId)}
theorem S14.start (w:World):S14 w w [] []:=⟨Below.refl _ _,fun q hq=>(by cases hq),fun q hq=>(by cases hq)⟩
theorem S14.step (h:S14 w0 w l bs) (hb:Below w.heap.size w w'):S14 w0 w' l bs:=⟨h.bel.trans (hb.mono h.bel.size),fun q hq=>(h.num q hq).on hb,fun q hq=>(h.blk q hq).on hb⟩
theorem S14.push (h:S14 w0 w l bs) (hb:Below w.heap.size w w') {A:Option Addr}{n c a:Nat}(hn:Num w' w'.heap.size A n c a):S14 w0 w' ((A,n,c,a)::l) bs:=by
 have h2:=h.step hb;refine⟨h2.bel,fun q hq=>?_,h2.blk⟩;rcases List.mem_cons.1 hq with rfl|hq
 ·exact hn
 ·exact h2.num q hq
theorem S14.lay (h:S14 w0 w l bs) (xs:Array Value) (t:TypeId) {g:Nat}(hg:g=w.heap.size):S14 w0 (w.alloc (.cells xs t)) l ((g,xs,t)::bs):=by
 have h2:=h.step ((Below.refl _ _).alloc (Nat.le_refl _) (.cells xs t));refine⟨h2.bel,h2.num,fun q hq=>?_⟩;rcases List.mem_cons.1 hq with rfl|hq
 ·exact Bk.new w xs t hg
 ·exact h2.blk q hq
theorem S14.got {A:Option Addr}{n c a:Nat}(h:Hid (S14 w0 w l bs)) (hm:(A,n,c,a)∈l):Num w w.heap.size A n c a:=h.out.num _ hm
theorem S14.at_ {g:Nat}{xs:Array Value}{t:TypeId}(h:Hid (S14 w0 w l bs)) (hm:(g,xs,t)∈bs) (j:Nat):w.cell? ⟨g,j,none⟩=xs[j]?:=(h.out.blk _ hm).cell j
theorem S14.c4 {g:Nat}{t:TypeId}{x0 x1 x2 x3:Value}(h:Hid (S14 w0 w l bs)) (hm:(g,#[x0,x1,x2,x3],t)∈bs):w.cell? ⟨g,0,none⟩=some x0∧w.cell? ⟨g,1,none⟩=some x1∧w.cell? ⟨g,2,none⟩=some x2∧w.cell? ⟨g,3,none⟩=some x3:=⟨S14.at_ h hm 0,S14.at_ h hm 1,S14.at_ h hm 2,S14.at_ h hm 3⟩
theorem S14.c5 {g:Nat}{t:TypeId}{x0 x1 x2 x3 x4:Value}(h:Hid (S14 w0 w l bs)) (hm:(g,#[x0,x1,x2,x3,x4],t)∈bs):w.cell? ⟨g,0,none⟩=some x0∧w.cell? ⟨g,1,none⟩=some x1∧w.cell? ⟨g,2,none⟩=some x2∧w.cell? ⟨g,3,none⟩=some x3∧w.cell? ⟨g,4,none⟩=some x4:=⟨S14.at_ h hm 0,S14.at_ h hm 1,S14.at_ h hm 2,S14.at_ h hm 3,S14.at_ h hm 4⟩
theorem S14.c7 {g:Nat}{t:TypeId}{x0 x1 x2 x3 x4 x5 x6:Value}(h:Hid (S14 w0 w l bs)) (hm:(g,#[x0,x1,x2,x3,x4,x5,x6],t)∈bs):w.cell? ⟨g,0,none⟩=some x0∧w.cell? ⟨g,1,none⟩=some x1∧w.cell? ⟨g,2,none⟩=some x2∧w.cell? ⟨g,3,none⟩=some x3∧w.cell? ⟨g,4,none⟩=some x4∧w.cell? ⟨g,5,none⟩=some x5∧w.cell? ⟨g,6,none⟩=some x6:=⟨S14.at_ h hm 0,S14.at_ h hm 1,S14.at_ h hm 2,S14.at_ h hm 3,S14.at_ h hm 4,S14.at_ h hm 5,S14.at_ h hm 6⟩
theorem S14.c11 {g:Nat}{t:TypeId}{x0 x1 x2 x3 x4 x5 x6 x7 x8 x9 x10:Value}(h:Hid (S14 w0 w l bs)) (hm:(g,#[x0,x1,x2,x3,x4,x5,x6,x7,x8,x9,x10],t)∈bs):w.cell? ⟨g,0,none⟩=some x0∧w.cell? ⟨g,1,none⟩=some x1∧w.cell? ⟨g,2,none⟩=some x2∧w.cell? ⟨g,3,none⟩=some x3∧w.cell? ⟨g,4,none⟩=some x4∧w.cell? ⟨g,5,none⟩=some x5∧w.cell? ⟨g,6,none⟩=some x6∧w.cell? ⟨g,7,none⟩=some x7∧w.cell? ⟨g,8,none⟩=some x8∧w.cell? ⟨g,9,none⟩=some x9∧w.cell? ⟨g,10,none⟩=some x10:=⟨S14.at_ h hm 0,S14.at_ h hm 1,S14.at_ h hm 2,S14.at_ h hm 3,S14.at_ h hm 4,S14.at_ h hm 5,S14.at_ h hm 6,S14.at_ h hm 7,S14.at_ h hm 8,S14.at_ h hm 9,S14.at_ h hm 10⟩
end
def quv (i:Int) (s:Nat) (j:Int) (t:Nat):Int×Nat×Nat:=if j=0 then (0,0,4) else (quoI i s j t,quoK i s j t,0)
def RetQ (w:World) (r:Int×Nat×Nat) (e:Ending) (w':World):Prop:=
 ∃(A:Option Addr) (n c:Nat),e=.returned (.tuple #[.agg #[.bool (ngB r.1),.slice A n c,.int .i64 (r.2.1:Int)],.int .i64 (r.2.2:Int)])∧Num w' w'.heap.size A n c r.1.natAbs∧Below w.heap.size w w'
def StP (w:World) (g:Nat) (A:Option Addr) (n c:Nat) (a d:Nat):Prop:=w.heap[g]?=some (.cells #[.slice A n c,.int .i64 (a:Int),.int .i64 (d:Int)] 154 (0,0))
section
variable {w w':World}{g n c a d:Nat}{A:Option Addr}
theorem StP.lt (h:StP w g A n c a d):g<w.heap.size:=by
 rcases Nat.lt_or_ge g w.heap.size with h1|h1
 ·exact h1
 ·unfold StP at h;rw[Array.getElem?_eq_none h1] at h;cases h
theorem StP.bx (h:StP w g A n c a d):Box w g (.slice A n c) (.int .i64 (a:Int)) (.int .i64 (d:Int)):=by
 have hc:=fun j=>cell_of_row w g j _ _ _ h
 have hf:∀j,w.frozen? ⟨g,j,none⟩=false:=fun j=>by
  have h2:w.heap[g]?=some (.cells #[.slice A n c,.int .i64 (a:Int),.int .i64 (d:Int)] 154 (0,0)):=h;simp[World.frozen?,h2]
 exact⟨hc 0,hc 1,hc 2,hf 0,hf 1,hf 2,h.lt⟩
theorem StP.set1 (h:StP w g A n c a d) (x:Nat):StP (w.setCell ⟨g,1,none⟩ (.int .i64 (x:Int))) g A n c x d:=heap_setCell_same w g 1 _ _ _ h
theorem StP.set2 (h:StP w g A n c a d) (x:Nat):StP (w.setCell ⟨g,2,none⟩ (.int .i64 (x:Int))) g A n c a x:=heap_setCell_same w g 2 _ _ _ h
theorem StP.on (h:StP w g A n c a d) (hb:Below w.heap.size w w'):StP w' g A n c a d:=(hb.block g h.lt).trans h
theorem StP.noLimb (h:StP w g A n c a d) {j:Nat}{x:Nat}(hx:w.cell? ⟨g,j,none⟩=some (.int .u32 (x:Int))):False:=by
 rw[cell_of_row w g j _ _ _ h] at hx;rcases j with _|_|_|j
 ·cases hx
 ·cases hx
 ·cases hx
 ·simp at hx
theorem Lim.kpP {B m k:Nat}{A':Option Addr}{xs:List Nat}(h:Lim w B A' m k xs) (hs:StP w g A n c a d) (hB:B≤w.heap.size) (hk:Kp g none w w'):Lim w' B A' m k xs:=by
 refine⟨h.len,h.cap,h.room,h.fit,?_,h.addr⟩;rcases h.row with h' | ⟨b,o,rfl,hb,hc⟩
 ·exact .inl h'
 ·refine .inr ⟨b,o,rfl,hb,fun j u hu=>?_⟩
  have hj:=hc j u hu;by_cases hbg:b=g
  ·exfalso
   have:=List.mem_of_getElem? hu;unfold vals at this;obtain⟨x,_,rfl⟩:=List.mem_map.1 this;subst hbg;exact hs.noLimb hj
  ·exact(World.cell?_of_block (hk.block b (by omega) hbg (by simp))).trans hj
theorem MaxLen.kpP (h:MaxLen w) (hs:StP w g A n c a d) (hk:Kp g none w w'):MaxLen w':=by
 obtain⟨m,hm⟩:=h;have hlt:2<w.heap.size:=World.block_lt_of_cell? w _ hm;have hne:2≠g:=by
  rintro rfl;have h0:=hs.bx.c0;rw[hm] at h0;cases h0
 exact⟨m,(World.cell?_of_block (hk.block _ hlt hne (by simp))).trans hm⟩
end
structure Sgn (w:World) (q n c:Nat) (S:List ByteArray):Prop where
 len:n=S.length
 cap:n≤c
 room:c≤maxLen
 lt:q<w.heap.size
 row:∀(j:Nat) (s:ByteArray),S[j]?=some s→w.cell? ⟨q,j,none⟩=some (.string s)
section
variable {w w':World}{q n c g m k a d:Nat}{A:Option Addr}{S:List ByteArray}
theorem Sgn.on (h:Sgn w q n c S) (hb:Below w.heap.size w w'):Sgn w' q n c S:=
 ⟨h.len,h.cap,h.room,Nat.lt_of_lt_of_le h.lt hb.size,fun j s hs=>(hb.cell (p:=⟨q,j,none⟩) h.lt).trans (h.row j s hs)⟩
theorem Sgn.kp (h:Sgn w q n c S) (hk:Kp g none w w') (hg:q≠g):Sgn w' q n c S:=
 ⟨h.len,h.cap,h.room,Nat.lt_of_lt_of_le h.lt hk.size,fun j s hs=>(World.cell?_of_block (hk.block q h.lt hg (by simp))).trans (h.row j s hs)⟩
end
abbrev TBx (w:World) (g:Nat) (t:Tk4):Prop:=Bx4 w g (.int .i64 t.1) (.string t.2.1) (.int .i64 t.2.2.1) (.int .i64 t.2.2.2)
structure SY (w0 w:World) (g B:Nat) (A:Option Addr) (n c:Nat) (L:List Tk4) (a d:Nat) (l:List (Option Addr×Nat×Nat×Nat)) (bs:List (Nat×Value×Value×Value)) (ts:List (Nat×Tk4)):Prop where
 kp:Kp g none w0 w
 st:StP w g A n c a d
 rd:RdK w B A n c L
 mx:MaxLen w
 pl:B≤g∧g<w0.heap.size
 num:∀q∈l,Num w w.heap.size q.1 q.2.1 q.2.2.1 q.2.2.2
 box:∀q∈bs,Box w q.1 q.2.1 q.2.2.1 q.2.2.2∧w0.heap.size≤q.1
 tbx:∀q∈ts,TBx w q.1 q.2∧w0.heap.size≤q.1
section
variable {w0 w w':World}{g B n c a d a' d':Nat}{A:Option Addr}{L:List Tk4}{l:List (Option Addr×Nat×Nat×Nat)}{bs:List (Nat×Value×Value×Value)}{ts:List (Nat×Tk4)}
theorem SY.start (hs:StP w g A n c a d) (hr:RdK w B A n c L) (hm:MaxLen w) (hp:B≤g):SY w w g B A n c L a d [] [] []:=
 ⟨Kp.refl _ _ _,hs,hr,hm,⟨hp,hs.lt⟩,(fun q hq=>by cases hq),(fun q hq=>by cases hq),(fun q hq=>by cases hq)⟩
theorem SY.step (h:SY w0 w g B A n c L a d l bs ts) (hb:Below w.heap.size w w'):SY w0 w' g B A n c L a d l bs ts:=
 ⟨kp_trans h.kp (kp_of hb (Nat.le_refl _)),h.st.on hb,h.rd.on (by have:=h.pl;have:=h.st.lt;omega) hb,h.mx.on hb,h.pl,fun q hq=>(h.num q hq).on hb,fun q hq=>⟨(h.box q hq).1.on hb,(h.box q hq).2⟩,fun q hq=>⟨(h.tbx q hq).1.on hb,(h.tbx q hq).2⟩⟩
theorem SY.call (h:SY w0 w g B A n c L a d l bs ts) (hk:Kp g none w w') (hs:StP w' g A n c a' d'):SY w0 w' g B A n c L a' d' l bs ts:=
 ⟨kp_trans h.kp hk,hs,h.rd.kp h.pl.1 (by have:=h.pl;have:=h.st.lt;omega) hk,h.mx.kpP h.st hk,h.pl,fun q hq=>(Lim.kpP (h.num q hq) h.st (Nat.le_refl _) hk).more hk.size,fun q hq=>⟨(h.box q hq).1.kp hk (by have:=h.pl;have:=(h.box q hq).2;omega),(h.box q hq).2⟩,fun q hq=>⟨(h.tbx q hq).1.kp hk (by have:=h.pl;have:=(h.tbx q hq).2;omega) (by simp),(h.tbx q hq).2⟩⟩
theorem SY.set1 (h:SY w0 w g B A n c L a d l bs ts) (x:Nat):SY w0 (w.setCell ⟨g,1,none⟩ (.int .i64 (x:Int))) g B A n c L x d l bs ts:=h.call (kp_set _ _ _ _) (h.st.set1 x)
theorem SY.set2 (h:SY w0 w g B A n c L a d l bs ts) (x:Nat):SY w0 (w.setCell ⟨g,2,none⟩ (.int .i64 (x:Int))) g B A n c L a x l bs ts:=h.call (kp_set _ _ _ _) (h.st.set2 x)
theorem SY.push (h:SY w0 w g B A n c L a d l bs ts) {A1:Option Addr}{n1 c1 x:Nat}(hn:Num w w.heap.size A1 n1 c1 x):SY w0 w g B A n c L a d ((A1,n1,c1,x)::l) bs ts:=
 ⟨h.kp,h.st,h.rd,h.mx,h.pl,fun q hq=>by
  rcases List.mem_cons.1 hq with rfl|hq
  ·exact hn
  ·exact h.num q hq,h.box,h.tbx⟩
theorem SY.alloc (h:SY w0 w g B A n c L a d l bs ts) (o:Obj):SY w0 (w.alloc o) g B A n c L a d l bs ts:=h.step ((Below.refl _ _).alloc (Nat.le_refl _) o)
theorem SY.lay {x0 x1 x2:Value}{t:TypeId}{g1:Nat}(h:SY w0 w g B A n c L a d l bs ts) (hg:g1=w.heap.size):SY w0 (w.alloc (.cells #[x0,x1,x2] t)) g B A n c L a d l ((g1,x0,x1,x2)::bs) ts:=by
 have h2:=h.alloc (.cells #[x0,x1,x2] t);refine⟨h2.kp,h2.st,h2.rd,h2.mx,h2.pl,h2.num,fun q hq=>?_,h2.tbx⟩;rcases List.mem_cons.1 hq with rfl|hq
 ·exact⟨Box.newAt w x0 x1 x2 t hg,by have:=h.kp.size;show _≤g1;omega⟩
 ·exact h2.box q hq
theorem SY.word {t:TypeId}{g1:Nat}(h:SY w0 w g B A n c L a d l bs ts) (k:Int) (T:ByteArray) (p q:Int) (hg:g1=w.heap.size):SY w0 (w.alloc (.cells #[.int .i64 k,.string T,.int .i64 p,.int .i64 q] t)) g B A n c L a d l bs ((g1,k,T,p,q)::ts):=by
 have h2:=h.alloc (.cells #[.int .i64 k,.string T,.int .i64 p,.int .i64 q] t);refine⟨h2.kp,h2.st,h2.rd,h2.mx,h2.pl,h2.num,h2.box,fun r hr=>?_⟩;rcases List.mem_cons.1 hr with rfl|hr
 ·exact⟨Bx4.newAt w _ _ _ _ t hg,by have:=h.kp.size;show _≤g1;omega⟩
 ·exact h2.tbx r hr
theorem SY.got {A1:Option Addr}{n1 c1 x:Nat}(h:Hid (SY w0 w g B A n c L a d l bs ts)) (hm:(A1,n1,c1,x)∈l):Num w w.heap.size A1 n1 c1 x:=h.out.num _ hm
theorem SY.at_ {x0 x1 x2:Value}{g1:Nat}(h:Hid (SY w0 w g B A n c L a d l bs ts)) (hm:(g1,x0,x1,x2)∈bs):Box w g1 x0 x1 x2:=(h.out.box _ hm).1
theorem SY.wat {k p q:Int}{T:ByteArray}{g1:Nat}(h:Hid (SY w0 w g B A n c L a d l bs ts)) (hm:(g1,k,T,p,q)∈ts):Bx4 w g1 (.int .i64 k) (.string T) (.int .i64 p) (.int .i64 q):=(h.out.tbx _ hm).1
theorem SY.facts (h:Hid (SY w0 w g B A n c L a d l bs ts)):Box w g (.slice A n c) (.int .i64 (a:Int)) (.int .i64 (d:Int)):=h.out.st.bx
theorem SY.put {g1:Nat}{b:Bool}{A1:Option Addr}{n1 c1:Nat}{k1:Int}(h:SY w0 w g B A n c L a d l bs ts) (hm:(g1,.bool b,.slice A1 n1 c1,.int .i64 k1)∈bs) (bs':List (Nat×Value×Value×Value)) (hs:∀q∈bs',q∈bs∧g1≠q.1) (y0 y1 y2:Value) :
  SY w0 (put3 w g1 y0 y1 y2) g B A n c L a d l ((g1,y0,y1,y2)::bs') ts:=by
 have X:=h.box _ hm;have hg:g≠g1:=by have:=h.pl;have:=X.2;dsimp only at this;omega
 have hblk:∀k,k≠g1→(put3 w g1 y0 y1 y2).heap[k]?=w.heap[k]?:=fun k hk=>by
  unfold put3;rw[heap_setCell_other _ ⟨g1,2,none⟩ k _ hk,heap_setCell_other _ ⟨g1,1,none⟩ k _ hk,heap_setCell_other _ ⟨g1,0,none⟩ k _ hk]
 have hsz:(put3 w g1 y0 y1 y2).heap.size=w.heap.size:=by simp
 have hmx:MaxLen (put3 w g1 y0 y1 y2):=by
  obtain⟨m,hmx⟩:=h.mx;refine⟨m,(World.cell?_of_block (hblk _ ?_)).trans hmx⟩;rintro rfl;have h0:=X.1.c0;rw[hmx] at h0;cases h0
 refine⟨⟨h.kp.os,h.kp.tape,h.kp.output,by rw[hsz];exact h.kp.size,fun k hk hc hr=>?_⟩,(hblk g hg).trans h.st,⟨h.rd.len,h.rd.cap,h.rd.room,h.rd.row.keep fun p hp=>World.cell?_of_block (hblk p.block (by have:=h.pl;have:=X.2;dsimp only at this;omega))⟩,hmx,h.pl,fun q hq=>?_,fun q hq=>?_,fun q hq=>?_⟩
 ·rw[hblk k (by have:=X.2;dsimp only at this;omega)];exact h.kp.block k hk hc hr
 ·have:=(h.num q hq).put3 X.1 (noLimb_bool _) (noLimb_slice _ _ _) (noLimb_int _) y0 y1 y2
  rw[hsz];exact this
 ·rcases List.mem_cons.1 hq with rfl|hq
  ·exact⟨X.1.put y0 y1 y2,X.2⟩
  ·exact⟨(h.box q (hs q hq).1).1.apart y0 y1 y2 (hs q hq).2,(h.box q (hs q hq).1).2⟩
 ·have T:=h.tbx q hq
  have hne:q.1≠g1:=fun e=>by
   have h0:=X.1.c0;have h1:=T.1.c0;rw[e] at h1;dsimp only at h0
   rw[h0] at h1;cases h1
  obtain⟨c0,c1,c2,c3,f0,f1,f2,f3,lt⟩:=T.1;have hb:=hblk q.1 hne;have hcell:∀j,(put3 w g1 y0 y1 y2).cell? ⟨q.1,j,none⟩=w.cell? ⟨q.1,j,none⟩:=fun j=>World.cell?_of_block hb
  have hfr:∀j,(put3 w g1 y0 y1 y2).frozen? ⟨q.1,j,none⟩=w.frozen? ⟨q.1,j,none⟩:=fun j=>World.frozen?_of_block hb
  exact⟨⟨(hcell 0).trans c0,(hcell 1).trans c1,(hcell 2).trans c2,(hcell 3).trans c3,(hfr 0).trans f0,(hfr 1).trans f1,(hfr 2).trans f2,(hfr 3).trans f3,by rw[hsz];exact lt⟩,T.2⟩
theorem SY.sub {l':List (Option Addr×Nat×Nat×Nat)}{bs':List (Nat×Value×Value×Value)}{ts':List (Nat×Tk4)}(h:SY w0 w g B A n c L a d l bs ts) (hl:∀q∈l',q∈l) (hs:∀q∈bs',q∈bs) (ht:∀q∈ts',q∈ts):SY w0 w g B A n c L a d l' bs' ts':=
 ⟨h.kp,h.st,h.rd,h.mx,h.pl,fun q hq=>h.num q (hl q hq),fun q hq=>h.box q (hs q hq),fun q hq=>h.tbx q (ht q hq)⟩
theorem SY.az {g1:Nat}(h:Hid (SY w0 w g B A n c L a d l bs ts)) (hm:(g1,.bool false,.slice none 0 0,.int .i64 0)∈bs):Box w g1 (.bool false) (.slice none 0 0) (.int .i64 0):=SY.at_ h hm
theorem SY.ad {g1:Nat}(x:Int) (A1:Option Addr) (n1 c1:Nat) (k:Int) (h:Hid (SY w0 w g B A n c L a d l bs ts)) (hm:(g1,.bool (ngB x),.slice A1 n1 c1,.int .i64 k)∈bs):Box w g1 (.bool (ngB x)) (.slice A1 n1 c1) (.int .i64 k):=SY.at_ h hm
theorem SY.pz {g1:Nat}(h:SY w0 w g B A n c L a d l bs ts) (hm:(g1,.bool false,.slice none 0 0,.int .i64 0)∈bs) (y0 y1 y2:Value):SY w0 (put3 w g1 y0 y1 y2) g B A n c L a d l [(g1,y0,y1,y2)] ts:=SY.put h hm [] (fun q hq=>by cases hq) y0 y1 y2
end
theorem tok_put {w W:World}{x0 x1 x2 x3:Value}(h:Below w.heap.size w W) (X:Bx4 W w.heap.size x0 x1 x2 x3) (y0 y1 y2 y3:Value) :
  Rbx w ((((W.setCell ⟨w.heap.size,0,none⟩ y0).setCell ⟨w.heap.size,1,none⟩ y1).setCell ⟨w.heap.size,2,none⟩ y2).setCell ⟨w.heap.size,3,none⟩ y3) y0 y1 y2 y3:=
 ⟨(((h.setCell (Nat.le_refl _) y0).setCell (Nat.le_refl _) y1).setCell (Nat.le_refl _) y2).setCell (Nat.le_refl _) y3,(((X.set0 y0).set1 y1).set2 y2).set3 y3⟩
theorem pnext_end {w:World}{g n c i d:Nat}{A:Option Addr}(hs:StP w g A n c i d) (hi:i=n):Calls Tryz.prog 138 #[.pointer (some ⟨g,0,none⟩)] w (Ret9 w (.tuple #[.agg #[.int .i64 0,.string ⟨#[]⟩,.int .i64 0,.int .i64 0],.bool false])):=by
 have X:Hid (Bx4 (w.alloc (.cells #[.int .i64 0,.string ⟨#[]⟩,.int .i64 0,.int .i64 0] 60)) w.heap.size (.int .i64 0) (.string ⟨#[]⟩) (.int .i64 0) (.int .i64 0)):=Bx4.newAt _ _ _ _ _ _ rfl;have hb:Below w.heap.size w (w.alloc (.cells #[.int .i64 0,.string ⟨#[]⟩,.int .i64 0,.int .i64 0] 60)):=(Below.refl _ _).alloc (Nat.le_refl _) _;have E:=Jh hb;have HS:=Jh (hs.on hb);have hg:=hs.lt;have d1:((i:Int) == (n:Int))=true:=by rw[beq_iff_eq];omega
 clear hs hb;go_enter Tryz.func138,Tryz.ntmps138;go_wp2_with fail;generalize hW:World.alloc w _=W1 at E HS X ⊢;clear hW;obtain⟨p0,p1,p2,pf0,pf1,pf2,plt⟩:=HS.out.bx;go_quiet (fail)
 have hb:=below_drewN (Below.refl W1.heap.size W1) nq;replace X:=Jh (X.out.on hb);replace E:=Jh (E.out.trans (hb.mono E.out.size));replace HS:=Jh (HS.out.on hb);clear hb p0 p1 p2 pf0 pf1 pf2 plt;generalize hW:World.drewN W1 _=W2 at E HS X ⊢;clear hW;have Y:Hid (Bx4 (W2.alloc (.cells #[.int .i64 0,.string ⟨#[]⟩,.int .i64 0,.int .i64 0] 60)) W2.heap.size (.int .i64 0) (.string ⟨#[]⟩) (.int .i64 0) (.int .i64 0)):=Bx4.newAt _ _ _ _ _ _ rfl;replace X:=Jh (X.out.on ((Below.refl _ _).alloc (Nat.le_refl _) (.cells #[.int .i64 0,.string ⟨#[]⟩,.int .i64 0,.int .i64 0] 60)));obtain⟨q0,q1,q2,q3,qf0,qf1,qf2,qf3,qlt⟩:=X.out;go_wp2_with fail;have R:=tok_put (E.out.alloc E.out.size (.cells #[.int .i64 0,.string ⟨#[]⟩,.int .i64 0,.int .i64 0] 60)) X.out (.int .i64 0) (.string ⟨#[]⟩) (.int .i64 0) (.int .i64 0);clear q0 q1 q2 q3 qf0 qf1 qf2 qf3 qlt;obtain⟨q0,q1,q2,q3,_,_,_,_,_⟩:=R.2;exact bodyPost_ret (v:=.tuple #[.agg #[.int .i64 0,.string ⟨#[]⟩,.int .i64 0,.int .i64 0],.bool false]) (by simp[results,Tryz.results138,go_sem,q0,q1,q2,q3]) rfl ⟨rfl,R.1⟩
theorem some_map_str {S:List ByteArray}{j:Nat}{s:ByteArray}(h:S[j]?=some s):(S.map Value.string)[j]?=some (.string s):=by rw[List.getElem?_map,h];rfl
theorem sgn_of {v:World}{q n:Nat}{S:List ByteArray}{vs:Array Value}{t:TypeId}(hq:v.heap[q]?=some (.cells vs t (0,0))) (hv:vs.toList=S.map Value.string) (hn:n=S.length) (hm:n≤1000):Sgn v q n n S:=by
 refine⟨hn,Nat.le_refl _,by unfold maxLen;omega,?_,fun j s hs=>?_⟩
 ·rcases Nat.lt_or_ge q v.heap.size with h1|h1
  ·exact h1
  ·rw[Array.getElem?_eq_none h1] at hq;cases hq
 ·rw[cell_of_row v q j _ _ _ hq]
  have:=some_map_str hs;rw[← hv,Array.getElem?_toList] at this;exact this
theorem sgn_one (v:World) (s1:ByteArray) (t:TypeId) {q:Nat}(hq:q=v.heap.size):Sgn (v.alloc (.cells #[.string s1] t)) q 1 1 [s1]:=by subst hq;exact sgn_of (heap_alloc_new v _) rfl rfl (by omega)
theorem sgn_two (v:World) (s1 s2:ByteArray) (t:TypeId) {q:Nat}(hq:q=v.heap.size):Sgn (v.alloc (.cells #[.string s1,.string s2] t)) q 2 2 [s1,s2]:=by subst hq;exact sgn_of (heap_alloc_new v _) rfl rfl (by omega)
theorem sgn_three (v:World) (s1 s2 s3:ByteArray) (t:TypeId) {q:Nat}(hq:q=v.heap.size):Sgn (v.alloc (.cells #[.string s1,.string s2,.string s3] t)) q 3 3 [s1,s2,s3]:=by subst hq;exact sgn_of (heap_alloc_new v _) rfl rfl (by omega)
theorem pnext_some {w:World}{g B n c i d:Nat}{A:Option Addr}{L:List Tk4}(hs:StP w g A n c i d) (hr:RdK w B A n c L) (hB:B≤w.heap.size) (hn:n≤1000) {t:Tk4}(ht:L[i]?=some t):Calls Tryz.prog 138 #[.pointer (some ⟨g,0,none⟩)] w (Ret9 w (.tuple #[tk4 t,.bool true])):=by
 obtain⟨q,u0,rfl,h1,h2,h3,h4,-⟩:=hr.at_ ht;obtain⟨k,T,l,m⟩:=t;have X:Hid (Bx4 (w.alloc (.cells #[.int .i64 0,.string ⟨#[]⟩,.int .i64 0,.int .i64 0] 60)) w.heap.size (.int .i64 0) (.string ⟨#[]⟩) (.int .i64 0) (.int .i64 0)):=Bx4.newAt _ _ _ _ _ _ rfl;have hb:Below w.heap.size w (w.alloc (.cells #[.int .i64 0,.string ⟨#[]⟩,.int .i64 0,.int .i64 0] 60)):=(Below.refl _ _).alloc (Nat.le_refl _) _;have E:=Jh hb;have HS:=Jh (hs.on hb);have HR:=Jh (hr.on hB hb);have hg:=hs.lt;have d1:((i:Int) == (n:Int))=false:=by rw[beq_eq_false_iff_ne];omega
 have d2:decide (n≤i)=false:=decide_eq_false (by omega);have d3:decide (i<n)=true:=decide_eq_true (by omega);have d4:(0:Int)≤(i:Int):=by omega
 have d5:(i:Int)<(n:Int):=by omega
 clear hs hr hb;go_enter Tryz.func138,Tryz.ntmps138;go_wp2_with fail;generalize hW:World.alloc w _=W1 at E HS HR X ⊢;clear hW;obtain⟨p0,p1,p2,pf0,pf1,pf2,plt⟩:=HS.out.bx;go_quiet (fail)
 have hb:=below_drewN (Below.refl W1.heap.size W1) nq;replace X:=Jh (X.out.on hb);replace HR:=Jh (HR.out.on (by have:=E.out.size;omega) hb);replace E:=Jh (E.out.trans (hb.mono E.out.size));replace HS:=Jh (HS.out.on hb);clear hb p0 p1 p2 pf0 pf1 pf2 plt;generalize hW:World.drewN W1 _=W2 at E HS HR X ⊢;clear hW;obtain⟨p0,p1,p2,pf0,pf1,pf2,plt⟩:=HS.out.bx;obtain⟨q0,q1,q2,q3,qf0,qf1,qf2,qf3,qlt⟩:=X.out;obtain⟨a0,a1,a2,a3⟩:=tok_cells HR.out ht;go_wp2_with fail;go_region
 have R:=(tok_put E.out X.out (.int .i64 k) (.string T) (.int .i64 l) (.int .i64 m)).on (Below.refl _ _).drew;clear q0 q1 q2 q3 qf0 qf1 qf2 qf3 qlt;obtain⟨q0,q1,q2,q3,_,_,_,_,_⟩:=R.2;go_wp2_with fail;exact bodyPost_ret (v:=.tuple #[.agg #[.int .i64 k,.string T,.int .i64 l,.int .i64 m],.bool true]) (by simp[results,Tryz.results138,go_sem,q0,q1,q2,q3]) rfl ⟨rfl,R.1⟩
theorem ppass {w:World}{g n c i d:Nat}{A:Option Addr}(hs:StP w g A n c i d) (hi:i≤1000000) (i1:Nat) (h1:i+1=i1):Calls Tryz.prog 140 #[.pointer (some ⟨g,0,none⟩)] w (fun e w'=>e=.returned (.tuple #[])∧w'=w.setCell ⟨g,1,none⟩ (.int .i64 (i1:Int))):=by
 obtain⟨p0,p1,p2,pf0,pf1,pf2,plt⟩:=hs.bx;have ei:(i:Int)+1=(i1:Int):=by omega
 clear hs h1;go_enter Tryz.func140,Tryz.ntmps140;go_wp2_with fail;go_end0
 exact⟨rfl,rfl⟩
def isOne (T:ByteArray) (S:List ByteArray):Bool:=S.any fun s=>decide (bs9 T=bs9 s)
theorem pindex {w:World}{q n c:Nat}{S:List ByteArray}(h:Sgn w q n c S) (T:ByteArray) :
  Calls Tryz.prog 168 #[.slice (some ⟨q,0,none⟩) n c,.string T] w fun e w'=>(∃r:Int,e=.returned (.int .i64 r)∧decide (0≤r)=isOne T S)∧w=w':=by
 have hm:=h.room;have hn:=h.cap;unfold maxLen at hm;go_enter Tryz.func168,Tryz.ntmps168;go_wp2;go_loop [8] (fun i=>∃k:Nat,k≤n∧i=.int .i64 k∧isOne T (S.take k)=false) (fun i=>n - (intOf i).toNat)
 case atStart=>exact⟨0,Nat.zero_le _,rfl,rfl⟩
 case round=>
  obtain⟨k,hk,rfl,hall⟩:=hrel;have HALL:=Jh hall;clear hall;by_cases hkn:k<n
  ·obtain⟨s,hs⟩:∃s,S[k]?=some s:=⟨_,List.getElem?_eq_getElem (by have:=h.len;omega)⟩
   have hc:=h.row k s hs;have H:=Jh h;have HS:=Jh hs;clear h hs;cases hb:decide (bs9 T=bs9 s) with
   | true=>
    have ht:(T.toList == s.toList)=true:=by rw[txt_eq];exact hb
    have E:Hid (isOne T S=true):=by
     show _=_;unfold isOne;rw[List.any_eq_true];exact⟨s,List.mem_of_getElem? HS.out,hb⟩
    clear hb;go_wp2_with fail;go_ret;exact⟨⟨_,rfl,by rw[E.out];simp⟩,rfl⟩
   | false=>
    have ht:(T.toList == s.toList)=false:=by rw[txt_eq];exact hb
    have E:Hid (isOne T (S.take (k+1))=false):=by
     show _=_;have h2:=HALL.out;unfold isOne at h2 ⊢;rw[List.take_add_one,List.any_append,h2,HS.out];show(false || (decide (bs9 T=bs9 s) || false))=false;rw[hb];rfl
    clear hb;go_wp2_with fail;go_round
    case rel=>exact⟨k+1,by omega,by go_num,E.out⟩
    case measure=>simp[intOf];omega
  ·obtain rfl:k=n:=by omega
   have E:Hid (isOne T S=false):=by
    show _=_;have h2:=HALL.out;rw[List.take_of_length_le (by rw[h.len];exact Nat.le_refl _)] at h2;exact h2
   clear h;go_wp2;go_ret;exact⟨⟨_,rfl,by rw[E.out];simp⟩,rfl⟩
theorem pcontains {w:World}{q n c:Nat}{S:List ByteArray}(h:Sgn w q n c S) (T:ByteArray) {b:Bool}(hb:isOne T S=b) :
  Calls Tryz.prog 154 #[.slice (some ⟨q,0,none⟩) n c,.string T] w fun e w'=>e=.returned (.bool b)∧w=w':=by
 have H:=Jh h;have HB:=Jh hb;clear h hb;go_enter Tryz.func154,Tryz.ntmps154;go_wp2_with fail;refine(pindex H.out T).mono ?_;rintro e w1 ⟨⟨r,rfl,hr⟩,rfl⟩;have HR:Hid (decide (0≤r)=b):=hr.trans HB.out;clear hr;go_wp2_with fail;go_ret;exact⟨ret_bool HR.out,rfl⟩
def isgs (t:Tok) (S:List ByteArray):Bool:=decide (t.1=10)&&isOne t.2 S
theorem pissign {w:World}{q n c:Nat}{S:List ByteArray}(h:Sgn w q n c S) {k:Int}{T:ByteArray}{b:Bool}(hb:isgs (k,T) S=b) (l m:Int) :
  Calls Tryz.prog 139 #[.agg #[.int .i64 k,.string T,.int .i64 l,.int .i64 m],.slice (some ⟨q,0,none⟩) n c] w (Ret9 w (.bool b)):=by
 have HB:Hid (Below w.heap.size w (w.alloc (.cells #[.int .i64 k,.string T,.int .i64 l,.int .i64 m] 60))):=(Below.refl _ _).alloc (Nat.le_refl _) _;have H:=Jh (h.on HB.out);by_cases hk:k=10
 ·have d:(k == 10)=true:=by rw[hk];rfl
  have E:Hid (isOne T S=b):=by show _=_;rw[← hb];unfold isgs;rw[decide_eq_true hk,Bool.true_and]
  clear h hb hk;go_enter Tryz.func139,Tryz.ntmps139;go_wp2_with fail;refine(pcontains H.out T E.out).mono ?_;rintro e w1 ⟨rfl,rfl⟩;go_wp2_with fail;go_ret;exact⟨rfl,HB.out⟩
 ·have d:(k == 10)=false:=by rw[beq_eq_false_iff_ne];exact hk
  have E:Hid (false=b):=by show _=_;rw[← hb];unfold isgs;rw[decide_eq_false hk,Bool.false_and]
  clear h hb hk;go_enter Tryz.func139,Tryz.ntmps139;go_wp2_with fail;go_ret;exact⟨rb9 E.out,HB.out⟩
theorem isgs_two (t:Tok) {s1 s2:ByteArray}{x y:Nat}(h1:bs9 s1=[x]) (h2:bs9 s2=[y]):isgs t [s1,s2]=(isg t x || isg t y):=by
 unfold isgs isOne isg;rw[List.any_cons,List.any_cons,List.any_nil,h1,h2,Bool.or_false,Bool.and_or_distrib_left]
theorem isgs_one (t:Tok) {s1:ByteArray}{x:Nat}(h1:bs9 s1=[x]):isgs t [s1]=isg t x:=by
 unfold isgs isOne isg;rw[List.any_cons,List.any_nil,h1,Bool.or_false]
theorem isgs_starts (t:Tok) (h:t.1≠4):isgs t [⟨#[43]⟩,⟨#[45]⟩,⟨#[40]⟩]=sta t:=by
 unfold isgs isOne sta isg;rw[decide_eq_false h,Bool.false_or,List.any_cons,List.any_cons,List.any_cons,List.any_nil,Bool.or_false];show(_&&(decide (bs9 t.2=[43]) || (decide (bs9 t.2=[45]) || decide (bs9 t.2=[40]))))=_;cases decide (t.1=10)<;>cases decide (bs9 t.2=[43])<;>cases decide (bs9 t.2=[45])<;>cases decide (bs9 t.2=[40])<;>rfl
theorem pstarts {w:World}{k:Int}{T:ByteArray}{b:Bool}(hb:sta (k,T)=b) (l m:Int) :
  Calls Tryz.prog 159 #[.agg #[.int .i64 k,.string T,.int .i64 l,.int .i64 m]] w (Ret9 w (.bool b)):=by
 have HB:Hid (Below w.heap.size w (w.alloc (.cells #[.int .i64 k,.string T,.int .i64 l,.int .i64 m] 60))):=(Below.refl _ _).alloc (Nat.le_refl _) _;have X:Hid (Bx4 (w.alloc (.cells #[.int .i64 k,.string T,.int .i64 l,.int .i64 m] 60)) w.heap.size (.int .i64 k) (.string T) (.int .i64 l) (.int .i64 m)):=Bx4.newAt _ _ _ _ _ _ rfl;by_cases hk:k=4
 ·have d:(k == 4)=true:=by rw[hk];rfl
  have E:Hid (true=b):=by show _=_;rw[← hb];unfold sta;rw[decide_eq_true hk];rfl
  clear hb hk;go_enter Tryz.func159,Tryz.ntmps159;go_wp2_with fail;go_ret;exact⟨rb9 E.out,HB.out⟩
 ·have d:(k == 4)=false:=by rw[beq_eq_false_iff_ne];exact hk
  have E:Hid (isgs (k,T) [⟨#[43]⟩,⟨#[45]⟩,⟨#[40]⟩]=b):=by show _=_;rw[isgs_starts _ hk];exact hb
  clear hb hk;go_enter Tryz.func159,Tryz.ntmps159;go_wp2_with fail;have hb2:=HB.out.alloc HB.out.size (.cells #[.string ⟨#[43]⟩,.string ⟨#[45]⟩,.string ⟨#[40]⟩] 9);refine(pissign (sgn_three _ ⟨#[43]⟩ ⟨#[45]⟩ ⟨#[40]⟩ 9 (by simp)) E.out l m).mono ?_;rintro e w1 ⟨rfl,hb⟩;replace HB:=Jh (hb2.trans (hb.mono hb2.size));clear hb hb2;go_wp2_with fail;go_ret;exact⟨rfl,HB.out⟩
theorem pquo_yes {A A':Option Addr}{n c n' c' s t:Nat}{i j:Int}{w:World}(h:Num w w.heap.size A n c i.natAbs) (h':Num w w.heap.size A' n' c' j.natAbs) (hn:n≤1000) (hn':n'≤1000) (hs:s≤4010) (ht:t≤4010) (hj:j≠0) (hl:(dg (quoQ i s j t).natAbs).length≤1000) :
  Calls Tryz.prog 158 #[.agg #[.bool (ngB i),.slice A n c,.int .i64 (s:Int)],.agg #[.bool (ngB j),.slice A' n' c',.int .i64 (t:Int)]] w (RetDecE w (quoI i s j t) (quoK i s j t)):=by
 obtain⟨M,hM⟩:∃M,max s t=M:=⟨_,rfl⟩;obtain⟨S,hS⟩:∃S,M+10=S:=⟨_,rfl⟩;have em:max (s:Int) (t:Int)=(M:Int):=by omega
 have eS:(M:Int)+10=(S:Int):=by omega
 have hM4:M≤4010:=by omega
 have hmn:=min_gen (P:=Tryz.prog) (x:=(M:Int)) (y:=9223372036854775797) (z:=(M:Int)) (by omega);have HM:=Jh hM;have HS:=Jh hS;have HJ:=Jh hj;have HL:=Jh hl;clear hM hS hj hl;go_enter Tryz.func158,Tryz.ntmps158;go_wp2_with fail;have E:=Jh ((((St.start w (l:=[(A,n,c,i.natAbs),(A',n',c',j.natAbs)]) (by intro q hq;simp at hq;rcases hq with rfl|rfl;exact h;exact h')).alloc (.cells #[.bool (ngB i),.slice A n c,.int .i64 (s:Int)] 39)).alloc (.cells #[.bool (ngB j),.slice A' n' c',.int .i64 (t:Int)] 39)).lay (g:=w.heap.size+1+1) (x0:=.bool false) (x1:=.slice none 0 0) (x2:=.int .i64 0) (t:=39) (by simp));generalize hW:World.alloc (World.alloc (World.alloc w _) _) _=W0 at E ⊢;clear hW;refine(rdiv_is (i:=i) (j:=j) (s:=s) (t:=t) (S:=S) (St.got (A:=A) (n:=n) (c:=c) E (by simp)) (St.got (A:=A') (n:=n') (c:=c') E (by simp)) hn hn' (by omega) (by omega) (by omega) (by omega) HJ.out (z:=quoQ i s j t) (by unfold quoQ;rw[HM.out,HS.out])).mono ?_;rintro e w1 ⟨A2,n2,c2,rfl,hnum2,hb2⟩;have hn2:n2≤1000:=by have:=hnum2.len;have:=HL.out;omega
 replace E:=Jh (St.push E.out hb2 hnum2);clear hnum2 hb2;have hlt:=(St.az (g:=w.heap.size+1+1) E (by simp)).lt;go_wp2_with fail;replace E:=Jh (St.lay (g:=w1.heap.size) (x0:=.bool (ngB (quoQ i s j t))) (x1:=.slice A2 n2 c2) (x2:=.int .i64 (S:Int)) (t:=39) E.out rfl);refine(strip_is5 (i:=quoQ i s j t) (s:=S) (L:=M) (v:=(M:Int)) (St.got (A:=A2) (n:=n2) (c:=c2) E (by simp)) hn2 (by omega) (by omega) (by omega) (M:=quoK i s j t) (by unfold quoK;rw[HM.out,HS.out]) (x:=quoI i s j t) (by unfold quoI;rw[HM.out,HS.out])).mono ?_;rintro e w2 ⟨A3,n3,c3,rfl,hnum3,hb3⟩;replace E:=Jh (St.push E.out hb3 hnum3);clear hnum3 hb3;obtain⟨r0,r1,r2,rf0,rf1,rf2,rlt⟩:=St.az (g:=w.heap.size+1+1) E (by simp);go_wp2_with fail;clear r0 r1 r2 rf0 rf1 rf2 rlt;have EF:=Jh (St.sz E.out (g:=(w.heap.size+1+1)) (by simp) (.bool (ngB (quoI i s j t))) (.slice A3 n3 c3) (.int .i64 (quoK i s j t:Int)));obtain⟨r0,r1,r2,_,_,_,_⟩:=St.ad (quoI i s j t) A3 n3 c3 (quoK i s j t) (g:=w.heap.size+1+1) EF (by simp);exact bodyPost_ret (v:=.tuple #[.agg #[.bool (ngB (quoI i s j t)),.slice A3 n3 c3,.int .i64 (quoK i s j t:Int)],.int .i64 0]) (by simp[results,Tryz.results158,go_sem,r0,r1,r2]) rfl ⟨A3,n3,c3,rfl,St.got EF (by simp),EF.out.bel⟩
theorem pquo_no {A A':Option Addr}{n c n' c' s t:Nat}{i j:Int}{w:World}(h:Num w w.heap.size A n c i.natAbs) (h':Num w w.heap.size A' n' c' j.natAbs) (hn:n≤1000) (hn':n'≤1000) (hs:s≤4010) (ht:t≤4010) (hj:j=0) :
  Calls Tryz.prog 158 #[.agg #[.bool (ngB i),.slice A n c,.int .i64 (s:Int)],.agg #[.bool (ngB j),.slice A' n' c',.int .i64 (t:Int)]] w (RetVal w (.tuple #[.agg #[.bool false,.slice none 0 0,.int .i64 0],.int .i64 4])):=by
 obtain⟨M,hM⟩:∃M,max s t=M:=⟨_,rfl⟩;obtain⟨S,hS⟩:∃S,M+10=S:=⟨_,rfl⟩;have em:max (s:Int) (t:Int)=(M:Int):=by omega
 have eS:(M:Int)+10=(S:Int):=by omega
 have hM4:M≤4010:=by omega
 have hmn:=min_gen (P:=Tryz.prog) (x:=(M:Int)) (y:=9223372036854775797) (z:=(M:Int)) (by omega);have HM:=Jh hM;have HS:=Jh hS;have HJ:=Jh hj;clear hM hS hj;go_enter Tryz.func158,Tryz.ntmps158;go_wp2_with fail;have E:=Jh ((((St.start w (l:=[(A,n,c,i.natAbs),(A',n',c',j.natAbs)]) (by intro q hq;simp at hq;rcases hq with rfl|rfl;exact h;exact h')).alloc (.cells #[.bool (ngB i),.slice A n c,.int .i64 (s:Int)] 39)).alloc (.cells #[.bool (ngB j),.slice A' n' c',.int .i64 (t:Int)] 39)).lay (g:=w.heap.size+1+1) (x0:=.bool false) (x1:=.slice none 0 0) (x2:=.int .i64 0) (t:=39) (by simp));generalize hW:World.alloc (World.alloc (World.alloc w _) _) _=W0 at E ⊢;clear hW;refine(rdiv_zero (i:=i) (j:=j) (s:=s) (t:=t) (S:=S) (St.got (A:=A) (n:=n) (c:=c) E (by simp)) (St.got (A:=A') (n:=n') (c:=c') E (by simp)) hn hn' (by omega) (by omega) (by omega) (by omega) HJ.out).mono ?_;rintro e w1 ⟨rfl,hb2⟩;replace E:=Jh (St.step E.out hb2);clear hb2;have hlt:=(St.az (g:=w.heap.size+1+1) E (by simp)).lt;obtain⟨r0,r1,r2,rf0,rf1,rf2,rlt⟩:=St.az (g:=w.heap.size+1+1) E (by simp);go_wp2_with fail;clear r0 r1 r2 rf0 rf1 rf2 rlt;have EF:=Jh (St.sz E.out (g:=(w.heap.size+1+1)) (by simp) (.bool false) (.slice none 0 0) (.int .i64 0));replace EF:=Jh (EF.out.alloc (.cells #[.bool false,.slice none 0 0,.int .i64 0] 39));obtain⟨r0,r1,r2,_,_,_,_⟩:=St.az (g:=w.heap.size+1+1) EF (by simp);exact bodyPost_ret (v:=.tuple #[.agg #[.bool false,.slice none 0 0,.int .i64 0],.int .i64 4]) (by simp[results,Tryz.results158,go_sem,r0,r1,r2]) rfl ⟨rfl,EF.out.bel⟩
def jnd (c:Nat) (i:Int) (s:Nat) (j:Int) (t:Nat):Int×Nat×Nat:=
 if c=43 then (addZ i s j t,max s t,0) else if c=45 then (subZ i s j t,max s t,0) else if c=42 then (i * j,s+t,0) else quv i s j t
theorem pquo {A A':Option Addr}{n c n' c' s t:Nat}{i j:Int}{w:World}(h:Num w w.heap.size A n c i.natAbs) (h':Num w w.heap.size A' n' c' j.natAbs) (hn:n≤1000) (hn':n'≤1000) (hs:s≤4010) (ht:t≤4010) (hl:j≠0→(dg (quoQ i s j t).natAbs).length≤1000) :
  Calls Tryz.prog 158 #[.agg #[.bool (ngB i),.slice A n c,.int .i64 (s:Int)],.agg #[.bool (ngB j),.slice A' n' c',.int .i64 (t:Int)]] w (RetQ w (quv i s j t)):=by
 unfold quv;by_cases hj:j=0
 ·rw[if_pos hj]
  exact(pquo_no h h' hn hn' hs ht hj).mono fun e w' q=>⟨none,0,0,q.1,num_zero _ _,q.2⟩
 ·rw[if_neg hj]
  exact(pquo_yes h h' hn hn' hs ht hj (hl hj)).mono fun e w' q=>q
theorem pjoin_add {A A':Option Addr}{n c n' c' s t:Nat}{i j:Int}{w:World}{T:ByteArray}(h:Num w w.heap.size A n c i.natAbs) (h':Num w w.heap.size A' n' c' j.natAbs) (hn:n≤1000) (hn':n'≤1000) (hs:s≤4010) (ht:t≤4010) (hT:bs9 T=[43]) :
  Calls Tryz.prog 141 #[.agg #[.bool (ngB i),.slice A n c,.int .i64 (s:Int)],.string T,.agg #[.bool (ngB j),.slice A' n' c',.int .i64 (t:Int)]] w (RetQ w (jnd 43 i s j t)):=by
 show Calls _ _ _ _ (RetQ w ((addZ i s j t,max s t,0)));have l43:(T.toList == [43])=true:=lit_yes (l:=[43]) hT;obtain⟨x,hx⟩:∃x,addZ i s j t=x:=⟨_,rfl⟩;obtain⟨M,hM⟩:∃M,max s t=M:=⟨_,rfl⟩;have HX:=Jh hx;have HM:=Jh hM;rw[hx,hM];clear hx hM;clear hT;go_enter Tryz.func141,Tryz.ntmps141;go_wp2_with fail;have E:=Jh ((((St.start w (l:=[(A,n,c,i.natAbs),(A',n',c',j.natAbs)]) (by intro q hq;simp at hq;rcases hq with rfl|rfl;exact h;exact h')).alloc (.cells #[.bool (ngB i),.slice A n c,.int .i64 (s:Int)] 39)).alloc (.cells #[.bool (ngB j),.slice A' n' c',.int .i64 (t:Int)] 39)).lay (g:=w.heap.size+1+1) (x0:=.bool false) (x1:=.slice none 0 0) (x2:=.int .i64 0) (t:=39) (by simp));generalize hW:World.alloc (World.alloc (World.alloc w _) _) _=W0 at E ⊢;clear hW;refine(add_is5 (i:=i) (j:=j) (s:=s) (t:=t) (St.got (A:=A) (n:=n) (c:=c) E (by simp)) (St.got (A:=A') (n:=n') (c:=c') E (by simp)) (by omega) (by omega) (by omega) (by omega) HM.out HX.out).mono ?_;rintro e w1 ⟨A2,n2,c2,rfl,hnum2,hb2⟩;replace E:=Jh (St.push E.out hb2 hnum2);clear hnum2 hb2;obtain⟨r0,r1,r2,rf0,rf1,rf2,rlt⟩:=St.az (g:=w.heap.size+1+1) E (by simp);go_wp2_with fail;clear r0 r1 r2 rf0 rf1 rf2 rlt;have EF:=Jh (St.sz E.out (g:=(w.heap.size+1+1)) (by simp) (.bool (ngB (x))) (.slice A2 n2 c2) (.int .i64 (M:Int)));obtain⟨r0,r1,r2,_,_,_,_⟩:=St.ad (x) A2 n2 c2 M (g:=w.heap.size+1+1) EF (by simp);exact bodyPost_ret (v:=.tuple #[.agg #[.bool (ngB (x)),.slice A2 n2 c2,.int .i64 (M:Int)],.int .i64 0]) (by simp[results,Tryz.results141,go_sem,r0,r1,r2]) rfl ⟨A2,n2,c2,rfl,St.got EF (by simp),EF.out.bel⟩
theorem pjoin_sub {A A':Option Addr}{n c n' c' s t:Nat}{i j:Int}{w:World}{T:ByteArray}(h:Num w w.heap.size A n c i.natAbs) (h':Num w w.heap.size A' n' c' j.natAbs) (hn:n≤1000) (hn':n'≤1000) (hs:s≤4010) (ht:t≤4010) (hT:bs9 T=[45]) :
  Calls Tryz.prog 141 #[.agg #[.bool (ngB i),.slice A n c,.int .i64 (s:Int)],.string T,.agg #[.bool (ngB j),.slice A' n' c',.int .i64 (t:Int)]] w (RetQ w (jnd 45 i s j t)):=by
 show Calls _ _ _ _ (RetQ w ((subZ i s j t,max s t,0)));have l43:(T.toList == [43])=false:=lit_not (l:=[43]) (by rw[hT];decide);have l45:(T.toList == [45])=true:=lit_yes (l:=[45]) hT;obtain⟨x,hx⟩:∃x,subZ i s j t=x:=⟨_,rfl⟩;obtain⟨M,hM⟩:∃M,max s t=M:=⟨_,rfl⟩;have HX:=Jh hx;have HM:=Jh hM;rw[hx,hM];clear hx hM;clear hT;go_enter Tryz.func141,Tryz.ntmps141;go_wp2_with fail;have E:=Jh ((((St.start w (l:=[(A,n,c,i.natAbs),(A',n',c',j.natAbs)]) (by intro q hq;simp at hq;rcases hq with rfl|rfl;exact h;exact h')).alloc (.cells #[.bool (ngB i),.slice A n c,.int .i64 (s:Int)] 39)).alloc (.cells #[.bool (ngB j),.slice A' n' c',.int .i64 (t:Int)] 39)).lay (g:=w.heap.size+1+1) (x0:=.bool false) (x1:=.slice none 0 0) (x2:=.int .i64 0) (t:=39) (by simp));generalize hW:World.alloc (World.alloc (World.alloc w _) _) _=W0 at E ⊢;clear hW;refine(sub_is5 (i:=i) (j:=j) (s:=s) (t:=t) (St.got (A:=A) (n:=n) (c:=c) E (by simp)) (St.got (A:=A') (n:=n') (c:=c') E (by simp)) (by omega) (by omega) (by omega) (by omega) HM.out HX.out).mono ?_;rintro e w1 ⟨A2,n2,c2,rfl,hnum2,hb2⟩;replace E:=Jh (St.push E.out hb2 hnum2);clear hnum2 hb2;obtain⟨r0,r1,r2,rf0,rf1,rf2,rlt⟩:=St.az (g:=w.heap.size+1+1) E (by simp);go_wp2_with fail;clear r0 r1 r2 rf0 rf1 rf2 rlt;have EF:=Jh (St.sz E.out (g:=(w.heap.size+1+1)) (by simp) (.bool (ngB (x))) (.slice A2 n2 c2) (.int .i64 (M:Int)));obtain⟨r0,r1,r2,_,_,_,_⟩:=St.ad (x) A2 n2 c2 M (g:=w.heap.size+1+1) EF (by simp);exact bodyPost_ret (v:=.tuple #[.agg #[.bool (ngB (x)),.slice A2 n2 c2,.int .i64 (M:Int)],.int .i64 0]) (by simp[results,Tryz.results141,go_sem,r0,r1,r2]) rfl ⟨A2,n2,c2,rfl,St.got EF (by simp),EF.out.bel⟩
theorem pjoin_mul {A A':Option Addr}{n c n' c' s t:Nat}{i j:Int}{w:World}{T:ByteArray}(h:Num w w.heap.size A n c i.natAbs) (h':Num w w.heap.size A' n' c' j.natAbs) (hn:n≤1000) (hn':n'≤1000) (hs:s≤4010) (ht:t≤4010) (hT:bs9 T=[42]) :
  Calls Tryz.prog 141 #[.agg #[.bool (ngB i),.slice A n c,.int .i64 (s:Int)],.string T,.agg #[.bool (ngB j),.slice A' n' c',.int .i64 (t:Int)]] w (RetQ w (jnd 42 i s j t)):=by
 show Calls _ _ _ _ (RetQ w ((i * j,s+t,0)));have l43:(T.toList == [43])=false:=lit_not (l:=[43]) (by rw[hT];decide);have l45:(T.toList == [45])=false:=lit_not (l:=[45]) (by rw[hT];decide);have l42:(T.toList == [42])=true:=lit_yes (l:=[42]) hT;obtain⟨x,hx⟩:∃x,i * j=x:=⟨_,rfl⟩;obtain⟨M,hM⟩:∃M,s+t=M:=⟨_,rfl⟩;have HX:=Jh hx;have HM:=Jh hM;rw[hx,hM];clear hx hM;clear hT;go_enter Tryz.func141,Tryz.ntmps141;go_wp2_with fail;have E:=Jh ((((St.start w (l:=[(A,n,c,i.natAbs),(A',n',c',j.natAbs)]) (by intro q hq;simp at hq;rcases hq with rfl|rfl;exact h;exact h')).alloc (.cells #[.bool (ngB i),.slice A n c,.int .i64 (s:Int)] 39)).alloc (.cells #[.bool (ngB j),.slice A' n' c',.int .i64 (t:Int)] 39)).lay (g:=w.heap.size+1+1) (x0:=.bool false) (x1:=.slice none 0 0) (x2:=.int .i64 0) (t:=39) (by simp));generalize hW:World.alloc (World.alloc (World.alloc w _) _) _=W0 at E ⊢;clear hW;refine(mul_is5 (i:=i) (j:=j) (s:=s) (t:=t) (St.got (A:=A) (n:=n) (c:=c) E (by simp)) (St.got (A:=A') (n:=n') (c:=c') E (by simp)) (by omega) (by omega) (by omega) (by omega) HM.out HX.out).mono ?_;rintro e w1 ⟨A2,n2,c2,rfl,hnum2,hb2⟩;replace E:=Jh (St.push E.out hb2 hnum2);clear hnum2 hb2;obtain⟨r0,r1,r2,rf0,rf1,rf2,rlt⟩:=St.az (g:=w.heap.size+1+1) E (by simp);go_wp2_with fail;clear r0 r1 r2 rf0 rf1 rf2 rlt;have EF:=Jh (St.sz E.out (g:=(w.heap.size+1+1)) (by simp) (.bool (ngB (x))) (.slice A2 n2 c2) (.int .i64 (M:Int)));obtain⟨r0,r1,r2,_,_,_,_⟩:=St.ad (x) A2 n2 c2 M (g:=w.heap.size+1+1) EF (by simp);exact bodyPost_ret (v:=.tuple #[.agg #[.bool (ngB (x)),.slice A2 n2 c2,.int .i64 (M:Int)],.int .i64 0]) (by simp[results,Tryz.results141,go_sem,r0,r1,r2]) rfl ⟨A2,n2,c2,rfl,St.got EF (by simp),EF.out.bel⟩
theorem pjoin_quo {A A':Option Addr}{n c n' c' s t:Nat}{i j:Int}{w:World}{T:ByteArray}(h:Num w w.heap.size A n c i.natAbs) (h':Num w w.heap.size A' n' c' j.natAbs) (hn:n≤1000) (hn':n'≤1000) (hs:s≤4010) (ht:t≤4010) (hl:j≠0→(dg (quoQ i s j t).natAbs).length≤1000) (hT:bs9 T=[47]) :
  Calls Tryz.prog 141 #[.agg #[.bool (ngB i),.slice A n c,.int .i64 (s:Int)],.string T,.agg #[.bool (ngB j),.slice A' n' c',.int .i64 (t:Int)]] w (RetQ w (jnd 47 i s j t)):=by
 show Calls _ _ _ _ (RetQ w (quv i s j t));have l43:(T.toList == [43])=false:=lit_not (l:=[43]) (by rw[hT];decide);have l45:(T.toList == [45])=false:=lit_not (l:=[45]) (by rw[hT];decide);have l42:(T.toList == [42])=false:=lit_not (l:=[42]) (by rw[hT];decide);obtain⟨q,hq⟩:∃q,quv i s j t=q:=⟨_,rfl⟩;have HQ:=Jh hq;have HL:=Jh hl;rw[hq];clear hq hl;clear hT;go_enter Tryz.func141,Tryz.ntmps141;go_wp2_with fail;have E:=Jh ((((St.start w (l:=[(A,n,c,i.natAbs),(A',n',c',j.natAbs)]) (by intro q hq;simp at hq;rcases hq with rfl|rfl;exact h;exact h')).alloc (.cells #[.bool (ngB i),.slice A n c,.int .i64 (s:Int)] 39)).alloc (.cells #[.bool (ngB j),.slice A' n' c',.int .i64 (t:Int)] 39)).lay (g:=w.heap.size+1+1) (x0:=.bool false) (x1:=.slice none 0 0) (x2:=.int .i64 0) (t:=39) (by simp));generalize hW:World.alloc (World.alloc (World.alloc w _) _) _=W0 at E ⊢;clear hW;refine(pquo (i:=i) (j:=j) (s:=s) (t:=t) (St.got (A:=A) (n:=n) (c:=c) E (by simp)) (St.got (A:=A') (n:=n') (c:=c') E (by simp)) hn hn' hs ht HL.out).mono ?_;rintro e w1 ⟨A2,n2,c2,rfl,hnum2,hb2⟩;rw[HQ.out] at hnum2 ⊢;replace E:=Jh (St.push E.out hb2 hnum2);clear hnum2 hb2;obtain⟨r0,r1,r2,rf0,rf1,rf2,rlt⟩:=St.az (g:=w.heap.size+1+1) E (by simp);go_wp2_with fail;clear r0 r1 r2 rf0 rf1 rf2 rlt;have EF:=Jh (St.sz E.out (g:=(w.heap.size+1+1)) (by simp) (.bool (ngB (q.1))) (.slice A2 n2 c2) (.int .i64 (q.2.1:Int)));obtain⟨r0,r1,r2,_,_,_,_⟩:=St.ad (q.1) A2 n2 c2 q.2.1 (g:=w.heap.size+1+1) EF (by simp);exact bodyPost_ret (v:=.tuple #[.agg #[.bool (ngB (q.1)),.slice A2 n2 c2,.int .i64 (q.2.1:Int)],.int .i64 (q.2.2:Int)]) (by simp[results,Tryz.results141,go_sem,r0,r1,r2]) rfl ⟨A2,n2,c2,rfl,St.got EF (by simp),EF.out.bel⟩
theorem pjoin {A A':Option Addr}{n c n' c' s t:Nat}{i j:Int}{w:World}{T:ByteArray}(h:Num w w.heap.size A n c i.natAbs) (h':Num w w.heap.size A' n' c' j.natAbs) (hn:n≤1000) (hn':n'≤1000) (hs:s≤4010) (ht:t≤4010) {x:Nat}(hc:x=43∨x=45∨x=42∨x=47) (hl:x=47→j≠0→(dg (quoQ i s j t).natAbs).length≤1000) (hT:bs9 T=[x]) :
  Calls Tryz.prog 141 #[.agg #[.bool (ngB i),.slice A n c,.int .i64 (s:Int)],.string T,.agg #[.bool (ngB j),.slice A' n' c',.int .i64 (t:Int)]] w (RetQ w (jnd x i s j t)):=by
 rcases hc with rfl|rfl|rfl|rfl
 ·exact pjoin_add h h' hn hn' hs ht hT
 ·exact pjoin_sub h h' hn hn' hs ht hT
 ·exact pjoin_mul h h' hn hn' hs ht hT
 ·exact pjoin_quo h h' hn hn' hs ht (hl rfl) hT
def OutX (x:Int) (k i' e':Nat):Rs→Prop
 | .inl (z,b)=>0<z∧e'=z∧i'=b∧x=0∧k=0
 | .inr (y,t,b)=>x=y∧k=t∧i'=b∧e'=0
def RetX (w0:World) (g:Nat) (A:Option Addr) (n c d:Nat) (r:Rs) (e:Ending) (w':World):Prop:=
 ∃(x:Int) (k:Nat) (A1:Option Addr) (n1 c1 i' e':Nat),e=.returned (.tuple #[.agg #[.bool (ngB x),.slice A1 n1 c1,.int .i64 (k:Int)],.int .i64 (e':Int)])∧Num w' w'.heap.size A1 n1 c1 x.natAbs∧StP w' g A n c i' d∧Kp g none w0 w'∧OutX x k i' e' r
theorem sy_start {w:World}{g B n c i d:Nat}{A:Option Addr}{L:List Tk4}(hs:StP w g A n c i d) (hr:RdK w B A n c L) (hm:MaxLen w) (hp:B≤g) :
 SY w (w.alloc (.cells #[.bool false,.slice none 0 0,.int .i64 0] 39)) g B A n c L i d [] [(w.heap.size,.bool false,.slice none 0 0,.int .i64 0)] []:=(SY.start hs hr hm hp).lay rfl
theorem pparse (s:ByteArray) (w:World) (hs:s.size≤6000) (hm:MaxLen w):Calls Tryz.prog 61 #[.string s] w (RetP w s):=by
 refine(read_any s w hs hm).mono fun e w' h=>?_
 have h0:Num w' w'.heap.size none 0 0 (0:Int).natAbs:=num_zero _ _;rcases h with⟨h1,h2⟩|⟨h1,h2,h3⟩|⟨h1,h2,A,n,c,h3,h4,h5⟩
 ·exact⟨0,0,none,0,0,2,h2.1,h0,h2.2,by unfold numV;rw[if_neg (fun e=>e.1 h1)];rfl⟩
 ·exact⟨0,0,none,0,0,3,h3.1,h0,h3.2,by unfold numV;rw[if_neg (fun e=>by rw[h2] at e;cases e.2)];rfl⟩
 ·exact⟨_,_,A,n,c,0,h3,h4,h5,by unfold numV;rw[if_pos ⟨h1,h2⟩];rfl⟩
def numR (T:ByteArray) (i:Nat):Rs:=match numV T with|none=>.inl (3,i)|some (x,k)=>.inr (x,k,i+1)
theorem pnumber {w:World}{g B n c i d:Nat}{A:Option Addr}{L:List Tk4}(hs:StP w g A n c i d) (hr:RdK w B A n c L) (hm:MaxLen w) (hp:B≤g) (hi:i≤1000) (T:ByteArray) (hT:T.size≤6000):Calls Tryz.prog 160 #[.pointer (some ⟨g,0,none⟩),.string T] w (RetX w g A n c d (numR T i)):=by
 have E:=Jh (sy_start hs hr hm hp);have hgw:=hs.lt;clear hs hr hm;go_enter Tryz.func160,Tryz.ntmps160;go_wp2_with fail;generalize hW:World.alloc w _=W1 at E ⊢;clear hW;refine(pparse T _ hT E.out.mx).mono ?_;rintro e w5 ⟨x5,k5,A5,n5,c5,z5,rfl,hn5,hb5,hv5⟩;replace E:=Jh (SY.push (SY.step E.out hb5) hn5);have HV:=Jh hv5;clear hn5 hb5 hv5;have EL:=Jh (SY.lay (g1:=w5.heap.size) (x0:=.bool (ngB x5)) (x1:=.slice A5 n5 c5) (x2:=.int .i64 (k5:Int)) (t:=39) E.out rfl);rcases Nat.eq_zero_or_pos z5 with hz|hz
 ·have dz:((z5:Int) != 0)=false:=by rw[hz];rfl
  obtain⟨i1,hi1⟩:∃i1,i+1=i1:=⟨_,rfl⟩;have HR:Hid (numR T i=.inr (x5,k5,i1)):=by
   show _=_;unfold numR;rw[HV.out,if_pos hz,hi1]
  have HI:=Jh hi1;clear hz hi1 E;go_wp2_with fail;obtain⟨g5,hg5⟩:∃g,w5.heap.size=g:=⟨_,rfl⟩;rw[hg5] at EL ⊢;clear hg5;generalize hV:World.alloc w5 _=V5 at EL ⊢;clear hV;refine(ppass EL.out.st (by omega) i1 HI.out).mono ?_;rintro e w6 ⟨rfl,rfl⟩;have E:=Jh (SY.set1 EL.out i1);clear EL;obtain⟨q0,q1,q2,qf0,qf1,qf2,qlt⟩:=SY.ad x5 A5 n5 c5 k5 (g1:=g5) E (by simp);obtain⟨r0,r1,r2,rf0,rf1,rf2,rlt⟩:=SY.az (g1:=w.heap.size) E (by simp);go_wp2_with fail;clear q0 q1 q2 qf0 qf1 qf2 qlt;clear r0 r1 r2 rf0 rf1 rf2 rlt;have EF:=Jh (SY.pz E.out (g1:=w.heap.size) (by simp) (.bool (ngB x5)) (.slice A5 n5 c5) (.int .i64 (k5:Int)));obtain⟨r0,r1,r2,_,_,_,_⟩:=SY.ad x5 A5 n5 c5 k5 (g1:=w.heap.size) EF (by simp);exact bodyPost_ret (v:=.tuple #[.agg #[.bool (ngB x5),.slice A5 n5 c5,.int .i64 (k5:Int)],.int .i64 0]) (by simp[results,Tryz.results160,go_sem,r0,r1,r2]) rfl ⟨x5,k5,A5,n5,c5,i1,0,rfl,SY.got EF (by simp),EF.out.st,EF.out.kp,by rw[HR.out];exact⟨rfl,rfl,rfl,rfl⟩⟩
 ·have dz:((z5:Int) != 0)=true:=by rw[bne_iff_ne];omega
  have HR:Hid (numR T i=.inl (3,i)):=by
   show _=_;unfold numR;rw[HV.out,if_neg (by omega)]
  clear hz;obtain⟨r0,r1,r2,rf0,rf1,rf2,rlt⟩:=SY.az (g1:=w.heap.size) EL (by simp);go_wp2_with fail;clear r0 r1 r2 rf0 rf1 rf2 rlt;have EF:=Jh (SY.pz EL.out (g1:=w.heap.size) (by simp) (.bool false) (.slice none 0 0) (.int .i64 0));obtain⟨r0,r1,r2,_,_,_,_⟩:=SY.az (g1:=w.heap.size) EF (by simp);exact bodyPost_ret (v:=.tuple #[.agg #[.bool false,.slice none 0 0,.int .i64 0],.int .i64 3]) (by simp[results,Tryz.results160,go_sem,r0,r1,r2]) rfl ⟨0,0,none,0,0,i,3,rfl,num_zero _ _,EF.out.st,EF.out.kp,by rw[HR.out];exact⟨by omega,rfl,rfl,rfl,rfl⟩⟩
def SumP (L:List Tk4) (i:Nat):Prop:=∀{w:World}{g B n c d:Nat}{A:Option Addr},StP w g A n c i d→RdK w B A n c L→MaxLen w→B≤g→n≤400→d≤64→Calls Tryz.prog 113 #[.pointer (some ⟨g,0,none⟩)] w (RetX w g A n c d (SUM (L.map tok) d i))
def ProP (L:List Tk4) (i:Nat):Prop:=∀{w:World}{g B n c d:Nat}{A:Option Addr},StP w g A n c i d→RdK w B A n c L→MaxLen w→B≤g→n≤400→d≤64→Calls Tryz.prog 125 #[.pointer (some ⟨g,0,none⟩)] w (RetX w g A n c d (PRO (L.map tok) d i))
def FacP (L:List Tk4) (i:Nat):Prop:=∀{w:World}{g B n c d:Nat}{A:Option Addr},StP w g A n c i d→RdK w B A n c L→MaxLen w→B≤g→n≤400→d≤64→Calls Tryz.prog 142 #[.pointer (some ⟨g,0,none⟩)] w (RetX w g A n c d (FAC (L.map tok) d i))
theorem pshut {w:World}{g B n c i d:Nat}{A:Option Addr}{L:List Tk4}(hs:StP w g A n c i d) (hr:RdK w B A n c L) (hm:MaxLen w) (hp:B≤g) (hn:n≤400) (hd:d≤64) (HC:SumP L i):Calls Tryz.prog 177 #[.pointer (some ⟨g,0,none⟩)] w (RetX w g A n c d (Rs.shut (L.map tok) (SUM (L.map tok) d i))):=by
 have hlen:=hr.len;have hgw:=hs.lt;have E:=Jh (sy_start hs hr hm hp);have hlt:∀j t b,SUM (L.map tok) d i=.inr (j,t,b)→b≤n:=fun j t b h=>by have:=(SUM_lt h rfl).2;rw[List.length_map] at this;omega
 have HLT:=Jh hlt;have HLEN:=Jh hlen;clear hs hr hm hlt hlen;go_enter Tryz.func177,Tryz.ntmps177;go_wp2_with fail;generalize hW:World.alloc w _=W1 at E ⊢;clear hW;refine(HC E.out.st E.out.rd E.out.mx hp hn hd).mono ?_;rintro e w9 ⟨x9,k9,A9,n9,c9,i9,e9,rfl,hnum9,hst9,hkp9,hout⟩;replace E:=Jh (SY.push (SY.call E.out hkp9 hst9) hnum9);clear hnum9 hst9 hkp9;cases hS:SUM (L.map tok) d i with
 | inl r=>
  obtain⟨z,b⟩:=r;rw[hS] at hout;obtain⟨hz,rfl,rfl,-,-⟩:=hout;have dz:((e9:Int) != 0)=true:=by rw[bne_iff_ne];omega
  have HO:Hid (Rs.shut (L.map tok) (SUM (L.map tok) d i)=.inl (e9,i9)):=by show _=_;rw[hS];rfl
  have EL:=Jh (SY.lay (g1:=w9.heap.size) (x0:=.bool (ngB x9)) (x1:=.slice A9 n9 c9) (x2:=.int .i64 (k9:Int)) (t:=39) E.out rfl);clear hS;obtain⟨r0,r1,r2,rf0,rf1,rf2,rlt⟩:=SY.az (g1:=w.heap.size) EL (by simp);go_wp2_with fail;clear r0 r1 r2 rf0 rf1 rf2 rlt;have EF:=Jh (SY.pz EL.out (g1:=w.heap.size) (by simp) (.bool false) (.slice none 0 0) (.int .i64 0));obtain⟨r0,r1,r2,_,_,_,_⟩:=SY.az (g1:=w.heap.size) EF (by simp);exact bodyPost_ret (v:=.tuple #[.agg #[.bool false,.slice none 0 0,.int .i64 0],.int .i64 (e9:Int)]) (by simp[results,Tryz.results177,go_sem,r0,r1,r2]) rfl ⟨0,0,none,0,0,i9,e9,rfl,num_zero _ _,EF.out.st,EF.out.kp,by rw[HO.out];exact⟨hz,rfl,rfl,rfl,rfl⟩⟩
 | inr r=>
  obtain⟨j,s,b⟩:=r;have hbn:=HLT.out _ _ _ hS;rw[hS] at hout;obtain⟨rfl,rfl,rfl,rfl⟩:=hout;have HS:=Jh hS;clear hS;go_wp2_with fail;replace E:=Jh (SY.lay (g1:=w9.heap.size) (x0:=.bool (ngB x9)) (x1:=.slice A9 n9 c9) (x2:=.int .i64 (k9:Int)) (t:=39) E.out rfl);obtain⟨g9,hg9⟩:∃g,w9.heap.size=g:=⟨_,rfl⟩;rw[hg9] at E ⊢;clear hg9;generalize hV:World.alloc w9 _=V9 at E ⊢;clear hV;rcases Nat.lt_or_ge i9 n with hin|hin
  ·obtain⟨t,ht⟩:∃t,L[i9]?=some t:=⟨_,List.getElem?_eq_getElem (by have:=HLEN.out;omega)⟩
   obtain⟨k,T,l,m⟩:=t;refine(pnext_some E.out.st E.out.rd (by have:=E.out.pl;have:=E.out.st.lt;omega) (by omega) ht).mono ?_;rintro e w10 ⟨rfl,hb⟩;replace E:=Jh (SY.step E.out hb);clear hb;unfold tk4;go_wp2_with fail;have SG:=Jh (sgn_one (World.alloc w10 (.cells #[.int .i64 k,.string T,.int .i64 l,.int .i64 m] 60)) ⟨#[41]⟩ 9 (q:=w10.heap.size+1) (by simp));have ES:=Jh ((SY.word (g1:=w10.heap.size) E.out k T l m (t:=60) rfl).alloc (.cells #[.string ⟨#[41]⟩] 9));clear E;obtain⟨g10,hg10⟩:∃g,w10.heap.size=g:=⟨_,rfl⟩;rw[hg10] at ES SG ⊢;clear hg10;generalize hV:World.alloc (World.alloc w10 _) _=V10 at ES SG ⊢;clear hV;cases hI:isAt (L.map tok) i9 41 with
   | true=>
    have HO:Hid (Rs.shut (L.map tok) (SUM (L.map tok) d i)=.inr (x9,k9,i9+1)):=by
     show _=_;rw[HS.out];unfold Rs.shut;dsimp only
     rw[if_pos hI]
    have HI:Hid (isgs (k,T) [⟨#[41]⟩]=true):=by
     show _=_;rw[isgs_one _ (x:=41) rfl,← hI,isAt_some ht]
    clear hI;refine(pissign SG.out HI.out l m).mono ?_;rintro e w11 ⟨rfl,hb⟩;have E:=Jh (SY.step ES.out hb);clear hb ES SG;obtain⟨i1,hi1⟩:∃i1,i9+1=i1:=⟨_,rfl⟩;have HI1:=Jh hi1;rw[hi1] at HO;clear hi1;go_wp2_with fail;refine(ppass E.out.st (by omega) i1 HI1.out).mono ?_;rintro e w12 ⟨rfl,rfl⟩;replace E:=Jh (SY.set1 E.out i1);obtain⟨q0,q1,q2,qf0,qf1,qf2,qlt⟩:=SY.ad x9 A9 n9 c9 k9 (g1:=g9) E (by simp);obtain⟨r0,r1,r2,rf0,rf1,rf2,rlt⟩:=SY.az (g1:=w.heap.size) E (by simp);go_wp2_with fail;clear q0 q1 q2 qf0 qf1 qf2 qlt;clear r0 r1 r2 rf0 rf1 rf2 rlt;have EF:=Jh (SY.pz E.out (g1:=w.heap.size) (by simp) (.bool (ngB x9)) (.slice A9 n9 c9) (.int .i64 (k9:Int)));obtain⟨r0,r1,r2,_,_,_,_⟩:=SY.ad x9 A9 n9 c9 k9 (g1:=w.heap.size) EF (by simp);exact bodyPost_ret (v:=.tuple #[.agg #[.bool (ngB x9),.slice A9 n9 c9,.int .i64 (k9:Int)],.int .i64 0]) (by simp[results,Tryz.results177,go_sem,r0,r1,r2]) rfl ⟨x9,k9,A9,n9,c9,i1,0,rfl,SY.got EF (by simp),EF.out.st,EF.out.kp,by rw[HO.out];exact⟨rfl,rfl,rfl,rfl⟩⟩
   | false=>
    have HO:Hid (Rs.shut (L.map tok) (SUM (L.map tok) d i)=.inl (3,i9)):=by
     show _=_;rw[HS.out];unfold Rs.shut;dsimp only
     rw[if_neg (by rw[hI];decide),if_pos (by rw[List.length_map];have:=HLEN.out;omega)]
    have HI:Hid (isgs (k,T) [⟨#[41]⟩]=false):=by
     show _=_;rw[isgs_one _ (x:=41) rfl,← hI,isAt_some ht]
    clear hI;refine(pissign SG.out HI.out l m).mono ?_;rintro e w11 ⟨rfl,hb⟩;have E:=Jh (SY.step ES.out hb);clear hb ES SG;obtain⟨r0,r1,r2,rf0,rf1,rf2,rlt⟩:=SY.az (g1:=w.heap.size) E (by simp);go_wp2_with fail;clear r0 r1 r2 rf0 rf1 rf2 rlt;have EF:=Jh (SY.pz E.out (g1:=w.heap.size) (by simp) (.bool false) (.slice none 0 0) (.int .i64 0));obtain⟨r0,r1,r2,_,_,_,_⟩:=SY.az (g1:=w.heap.size) EF (by simp);exact bodyPost_ret (v:=.tuple #[.agg #[.bool false,.slice none 0 0,.int .i64 0],.int .i64 3]) (by simp[results,Tryz.results177,go_sem,r0,r1,r2]) rfl ⟨0,0,none,0,0,i9,3,rfl,num_zero _ _,EF.out.st,EF.out.kp,by rw[HO.out];exact⟨by omega,rfl,rfl,rfl,rfl⟩⟩
  ·obtain rfl:i9=n:=by omega
   refine(pnext_end E.out.st rfl).mono ?_;rintro e w10 ⟨rfl,hb⟩;replace E:=Jh (SY.step E.out hb);clear hb;have EL:=Jh (SY.word (g1:=w10.heap.size) E.out 0 ⟨#[]⟩ 0 0 (t:=60) rfl);have HO:Hid (Rs.shut (L.map tok) (SUM (L.map tok) d i)=.inl (2,i9)):=by
    show _=_;rw[HS.out];unfold Rs.shut;dsimp only
    rw[isAt_none (by have:=HLEN.out;omega),if_neg (by decide),if_neg (by rw[List.length_map];have:=HLEN.out;omega)]
   obtain⟨r0,r1,r2,rf0,rf1,rf2,rlt⟩:=SY.az (g1:=w.heap.size) EL (by simp);go_wp2_with fail;clear r0 r1 r2 rf0 rf1 rf2 rlt;have EF:=Jh (SY.pz EL.out (g1:=w.heap.size) (by simp) (.bool false) (.slice none 0 0) (.int .i64 0));obtain⟨r0,r1,r2,_,_,_,_⟩:=SY.az (g1:=w.heap.size) EF (by simp);exact bodyPost_ret (v:=.tuple #[.agg #[.bool false,.slice none 0 0,.int .i64 0],.int .i64 2]) (by simp[results,Tryz.results177,go_sem,r0,r1,r2]) rfl ⟨0,0,none,0,0,i9,2,rfl,num_zero _ _,EF.out.st,EF.out.kp,by rw[HO.out];exact⟨by omega,rfl,rfl,rfl,rfl⟩⟩
theorem pbeh_open {w:World}{g B n c i d:Nat}{A:Option Addr}{L:List Tk4}(hs:StP w g A n c i d) (hr:RdK w B A n c L) (hm:MaxLen w) (hp:B≤g) (hn:n≤400) (hd:d≤64) {R:Rs}(HC:∀w':World,StP w' g A n c i d→RdK w' B A n c L→MaxLen w'→Calls Tryz.prog 177 #[.pointer (some ⟨g,0,none⟩)] w' (RetX w' g A n c d R)) {T:ByteArray}(hT:bs9 T=[40]):Calls Tryz.prog 161 #[.pointer (some ⟨g,0,none⟩),.string T] w (RetX w g A n c d R):=by
 have hlen:=hr.len;have hgw:=hs.lt;have E:=Jh (sy_start hs hr hm hp);have l40:(T.toList == [40])=true:=lit_yes (l:=[40]) hT;clear hs hr hm hT;go_enter Tryz.func161,Tryz.ntmps161;go_wp2_with fail;generalize hW:World.alloc w _=W1 at E ⊢;clear hW;refine(HC _ E.out.st E.out.rd E.out.mx).mono ?_;rintro e w9 ⟨x9,k9,A9,n9,c9,i9,e9,rfl,hnum9,hst9,hkp9,hout⟩;replace E:=Jh (SY.push (SY.call E.out hkp9 hst9) hnum9);clear hnum9 hst9 hkp9;have HO:=Jh hout;clear hout;obtain⟨r0,r1,r2,rf0,rf1,rf2,rlt⟩:=SY.az (g1:=w.heap.size) E (by simp);go_wp2_with fail;clear r0 r1 r2 rf0 rf1 rf2 rlt;have EF:=Jh (SY.pz E.out (g1:=w.heap.size) (by simp) (.bool (ngB x9)) (.slice A9 n9 c9) (.int .i64 (k9:Int)));obtain⟨r0,r1,r2,_,_,_,_⟩:=SY.ad x9 A9 n9 c9 k9 (g1:=w.heap.size) EF (by simp);exact bodyPost_ret (v:=.tuple #[.agg #[.bool (ngB x9),.slice A9 n9 c9,.int .i64 (k9:Int)],.int .i64 (e9:Int)]) (by simp[results,Tryz.results161,go_sem,r0,r1,r2]) rfl ⟨x9,k9,A9,n9,c9,i9,e9,rfl,SY.got EF (by simp),EF.out.st,EF.out.kp,HO.out⟩
theorem pbeh_plus {w:World}{g B n c i d:Nat}{A:Option Addr}{L:List Tk4}(hs:StP w g A n c i d) (hr:RdK w B A n c L) (hm:MaxLen w) (hp:B≤g) (hn:n≤400) (hd:d≤64) {G:Nat→Nat→Int→Nat→Prop}(hL:Siz (L.map tok) G) (HC:FacP L i) {T:ByteArray}(hT:bs9 T=[43]):Calls Tryz.prog 161 #[.pointer (some ⟨g,0,none⟩),.string T] w (RetX w g A n c d (Rs.neg false (FAC (L.map tok) d i))):=by
 have hlen:=hr.len;have hgw:=hs.lt;have E:=Jh (sy_start hs hr hm hp);have l40:(T.toList == [40])=false:=lit_not (l:=[40]) (by rw[hT];decide);have l43:(T.toList == [43])=true:=lit_yes (l:=[43]) hT;have HLEN:=Jh hlen;have HL:=Jh hL;clear hs hr hm hT hlen hL;go_enter Tryz.func161,Tryz.ntmps161;go_wp2_with fail;generalize hW:World.alloc w _=W1 at E ⊢;clear hW;refine(HC E.out.st E.out.rd E.out.mx hp hn hd).mono ?_;rintro e w9 ⟨x9,k9,A9,n9,c9,i9,e9,rfl,hnum9,hst9,hkp9,hout⟩;replace E:=Jh (SY.push (SY.call E.out hkp9 hst9) hnum9);clear hnum9 hst9 hkp9;cases hF:FAC (L.map tok) d i with
 | inl r=>
  obtain⟨z,b⟩:=r;rw[hF] at hout;obtain⟨hz,rfl,rfl,hx,hk⟩:=hout;have HX:=Jh hx;have HK:=Jh hk;have dz:((e9:Int) != 0)=true:=by rw[bne_iff_ne];omega
  have HO:Hid (Rs.neg false (FAC (L.map tok) d i)=.inl (e9,i9)):=by show _=_;rw[hF];rfl
  have EL:=Jh (SY.lay (g1:=w9.heap.size) (x0:=.bool (ngB x9)) (x1:=.slice A9 n9 c9) (x2:=.int .i64 (k9:Int)) (t:=39) E.out rfl);clear hF hx hk E;obtain⟨q0,q1,q2,qf0,qf1,qf2,qlt⟩:=SY.ad x9 A9 n9 c9 k9 (g1:=w9.heap.size) EL (by simp);obtain⟨r0,r1,r2,rf0,rf1,rf2,rlt⟩:=SY.az (g1:=w.heap.size) EL (by simp);go_wp2_with fail;clear q0 q1 q2 qf0 qf1 qf2 qlt;clear r0 r1 r2 rf0 rf1 rf2 rlt;have EF:=Jh (SY.pz EL.out (g1:=w.heap.size) (by simp) (.bool (ngB x9)) (.slice A9 n9 c9) (.int .i64 (k9:Int)));obtain⟨r0,r1,r2,_,_,_,_⟩:=SY.ad x9 A9 n9 c9 k9 (g1:=w.heap.size) EF (by simp);exact bodyPost_ret (v:=.tuple #[.agg #[.bool (ngB x9),.slice A9 n9 c9,.int .i64 (k9:Int)],.int .i64 (e9:Int)]) (by simp[results,Tryz.results161,go_sem,r0,r1,r2]) rfl ⟨x9,k9,A9,n9,c9,i9,e9,rfl,SY.got EF (by simp),EF.out.st,EF.out.kp,by rw[HO.out];exact⟨hz,rfl,rfl,HX.out,HK.out⟩⟩
 | inr r=>
  obtain⟨j,s,b⟩:=r;rw[hF] at hout;obtain⟨rfl,rfl,rfl,rfl⟩:=hout;have hfit:=HL.out.fits (HL.out.fac hF);have hn9:n9≤1000:=by have:=(SY.got E (A1:=A9) (n1:=n9) (c1:=c9) (x:=x9.natAbs) (by simp)).len;omega
  have hk9:k9≤4010:=hfit.2;have HO:Hid (Rs.neg false (FAC (L.map tok) d i)=.inr (x9,k9,i9)):=by show _=_;rw[hF];rfl
  clear hF hfit;have EL:=Jh (SY.lay (g1:=w9.heap.size) (x0:=.bool (ngB x9)) (x1:=.slice A9 n9 c9) (x2:=.int .i64 (k9:Int)) (t:=39) E.out rfl);clear E;obtain⟨q0,q1,q2,qf0,qf1,qf2,qlt⟩:=SY.ad x9 A9 n9 c9 k9 (g1:=w9.heap.size) EL (by simp);obtain⟨r0,r1,r2,rf0,rf1,rf2,rlt⟩:=SY.az (g1:=w.heap.size) EL (by simp);go_wp2_with fail;clear q0 q1 q2 qf0 qf1 qf2 qlt;clear r0 r1 r2 rf0 rf1 rf2 rlt;have EF:=Jh (SY.pz EL.out (g1:=w.heap.size) (by simp) (.bool (ngB x9)) (.slice A9 n9 c9) (.int .i64 (k9:Int)));obtain⟨r0,r1,r2,_,_,_,_⟩:=SY.ad x9 A9 n9 c9 k9 (g1:=w.heap.size) EF (by simp);exact bodyPost_ret (v:=.tuple #[.agg #[.bool (ngB x9),.slice A9 n9 c9,.int .i64 (k9:Int)],.int .i64 0]) (by simp[results,Tryz.results161,go_sem,r0,r1,r2]) rfl ⟨x9,k9,A9,n9,c9,i9,0,rfl,SY.got EF (by simp),EF.out.st,EF.out.kp,by rw[HO.out];exact⟨rfl,rfl,rfl,rfl⟩⟩
theorem pbeh_minus {w:World}{g B n c i d:Nat}{A:Option Addr}{L:List Tk4}(hs:StP w g A n c i d) (hr:RdK w B A n c L) (hm:MaxLen w) (hp:B≤g) (hn:n≤400) (hd:d≤64) {G:Nat→Nat→Int→Nat→Prop}(hL:Siz (L.map tok) G) (HC:FacP L i) {T:ByteArray}(hT:bs9 T=[45]):Calls Tryz.prog 161 #[.pointer (some ⟨g,0,none⟩),.string T] w (RetX w g A n c d (Rs.neg true (FAC (L.map tok) d i))):=by
 have hlen:=hr.len;have hgw:=hs.lt;have E:=Jh (sy_start hs hr hm hp);have l40:(T.toList == [40])=false:=lit_not (l:=[40]) (by rw[hT];decide);have l43:(T.toList == [43])=false:=lit_not (l:=[43]) (by rw[hT];decide);have HLEN:=Jh hlen;have HL:=Jh hL;clear hs hr hm hT hlen hL;go_enter Tryz.func161,Tryz.ntmps161;go_wp2_with fail;generalize hW:World.alloc w _=W1 at E ⊢;clear hW;refine(HC E.out.st E.out.rd E.out.mx hp hn hd).mono ?_;rintro e w9 ⟨x9,k9,A9,n9,c9,i9,e9,rfl,hnum9,hst9,hkp9,hout⟩;replace E:=Jh (SY.push (SY.call E.out hkp9 hst9) hnum9);clear hnum9 hst9 hkp9;cases hF:FAC (L.map tok) d i with
 | inl r=>
  obtain⟨z,b⟩:=r;rw[hF] at hout;obtain⟨hz,rfl,rfl,hx,hk⟩:=hout;have HX:=Jh hx;have HK:=Jh hk;have dz:((e9:Int) != 0)=true:=by rw[bne_iff_ne];omega
  have HO:Hid (Rs.neg true (FAC (L.map tok) d i)=.inl (e9,i9)):=by show _=_;rw[hF];rfl
  have EL:=Jh (SY.lay (g1:=w9.heap.size) (x0:=.bool (ngB x9)) (x1:=.slice A9 n9 c9) (x2:=.int .i64 (k9:Int)) (t:=39) E.out rfl);clear hF hx hk E;obtain⟨q0,q1,q2,qf0,qf1,qf2,qlt⟩:=SY.ad x9 A9 n9 c9 k9 (g1:=w9.heap.size) EL (by simp);obtain⟨r0,r1,r2,rf0,rf1,rf2,rlt⟩:=SY.az (g1:=w.heap.size) EL (by simp);go_wp2_with fail;clear q0 q1 q2 qf0 qf1 qf2 qlt;clear r0 r1 r2 rf0 rf1 rf2 rlt;have EF:=Jh (SY.pz EL.out (g1:=w.heap.size) (by simp) (.bool (ngB x9)) (.slice A9 n9 c9) (.int .i64 (k9:Int)));obtain⟨r0,r1,r2,_,_,_,_⟩:=SY.ad x9 A9 n9 c9 k9 (g1:=w.heap.size) EF (by simp);exact bodyPost_ret (v:=.tuple #[.agg #[.bool (ngB x9),.slice A9 n9 c9,.int .i64 (k9:Int)],.int .i64 (e9:Int)]) (by simp[results,Tryz.results161,go_sem,r0,r1,r2]) rfl ⟨x9,k9,A9,n9,c9,i9,e9,rfl,SY.got EF (by simp),EF.out.st,EF.out.kp,by rw[HO.out];exact⟨hz,rfl,rfl,HX.out,HK.out⟩⟩
 | inr r=>
  obtain⟨j,s,b⟩:=r;rw[hF] at hout;obtain⟨rfl,rfl,rfl,rfl⟩:=hout;have hfit:=HL.out.fits (HL.out.fac hF);have hn9:n9≤1000:=by have:=(SY.got E (A1:=A9) (n1:=n9) (c1:=c9) (x:=x9.natAbs) (by simp)).len;omega
  have hk9:k9≤4010:=hfit.2;have HO:Hid (Rs.neg true (FAC (L.map tok) d i)=.inr (-x9,k9,i9)):=by show _=_;rw[hF];rfl
  clear hF hfit;obtain⟨y8,hy8⟩:∃y,-x9=y:=⟨_,rfl⟩;rw[hy8] at HO;have HY:=Jh hy8;clear hy8;have EL:=Jh (SY.lay (g1:=w9.heap.size) (x0:=.bool (ngB x9)) (x1:=.slice A9 n9 c9) (x2:=.int .i64 (k9:Int)) (t:=39) E.out rfl);obtain⟨q0,q1,q2,qf0,qf1,qf2,qlt⟩:=SY.ad x9 A9 n9 c9 k9 (g1:=w9.heap.size) EL (by simp);go_wp2_with fail;clear q0 q1 q2 qf0 qf1 qf2 qlt;clear E;have E:=EL;clear EL;obtain⟨g9,hg9⟩:∃g,w9.heap.size=g:=⟨_,rfl⟩;rw[hg9] at E ⊢;clear hg9;generalize hV:World.alloc w9 _=V9 at E ⊢;clear hV;refine(neg_is5 (i:=x9) (s:=k9) (x:=y8) (SY.got E (A1:=A9) (n1:=n9) (c1:=c9) (by simp)) (by omega) (by omega) HY.out).mono ?_;rintro e w10 ⟨A8,n8,c8,rfl,hnum8,hb8⟩;replace E:=Jh (SY.push (SY.step E.out hb8) hnum8);clear hnum8 hb8;obtain⟨r0,r1,r2,rf0,rf1,rf2,rlt⟩:=SY.az (g1:=w.heap.size) E (by simp);go_wp2_with fail;clear r0 r1 r2 rf0 rf1 rf2 rlt;have EF:=Jh (SY.pz E.out (g1:=w.heap.size) (by simp) (.bool (ngB y8)) (.slice A8 n8 c8) (.int .i64 (k9:Int)));obtain⟨r0,r1,r2,_,_,_,_⟩:=SY.ad y8 A8 n8 c8 k9 (g1:=w.heap.size) EF (by simp);exact bodyPost_ret (v:=.tuple #[.agg #[.bool (ngB y8),.slice A8 n8 c8,.int .i64 (k9:Int)],.int .i64 0]) (by simp[results,Tryz.results161,go_sem,r0,r1,r2]) rfl ⟨y8,k9,A8,n8,c8,i9,0,rfl,SY.got EF (by simp),EF.out.st,EF.out.kp,by rw[HO.out];exact⟨rfl,rfl,rfl,rfl⟩⟩
theorem pfac_end {w:World}{g B n c i d:Nat}{A:Option Addr}{L:List Tk4}(hs:StP w g A n c i d) (hr:RdK w B A n c L) (hm:MaxLen w) (hp:B≤g) (hn:n≤400) (hd:d≤64) (hi:i=n):Calls Tryz.prog 142 #[.pointer (some ⟨g,0,none⟩)] w (RetX w g A n c d (FAC (L.map tok) d i)):=by
 have hlen:=hr.len;have hgw:=hs.lt;have E:=Jh (sy_start hs hr hm hp);have HO:Hid (FAC (L.map tok) d i=.inl (2,i)):=FAC_none (by rw[List.length_map];omega);clear hs hr hm hlen;go_enter Tryz.func142,Tryz.ntmps142;go_wp2_with fail;generalize hW:World.alloc w _=W1 at E ⊢;clear hW;refine(pnext_end E.out.st hi).mono ?_;rintro e w10 ⟨rfl,hb⟩;replace E:=Jh (SY.step E.out hb);clear hb;have EL:=Jh (SY.word (g1:=w10.heap.size) E.out 0 ⟨#[]⟩ 0 0 (t:=60) rfl);obtain⟨r0,r1,r2,rf0,rf1,rf2,rlt⟩:=SY.az (g1:=w.heap.size) EL (by simp);go_wp2_with fail;clear r0 r1 r2 rf0 rf1 rf2 rlt;have EF:=Jh (SY.pz EL.out (g1:=w.heap.size) (by simp) (.bool false) (.slice none 0 0) (.int .i64 0));obtain⟨r0,r1,r2,_,_,_,_⟩:=SY.az (g1:=w.heap.size) EF (by simp);exact bodyPost_ret (v:=.tuple #[.agg #[.bool false,.slice none 0 0,.int .i64 0],.int .i64 2]) (by simp[results,Tryz.results142,go_sem,r0,r1,r2]) rfl ⟨0,0,none,0,0,i,2,rfl,num_zero _ _,EF.out.st,EF.out.kp,by rw[HO.out];exact⟨by omega,rfl,rfl,rfl,rfl⟩⟩
theorem pfac_not {w:World}{g B n c i d:Nat}{A:Option Addr}{L:List Tk4}(hs:StP w g A n c i d) (hr:RdK w B A n c L) (hm:MaxLen w) (hp:B≤g) (hn:n≤400) (hd:d≤64) {t:Tk4}(ht:L[i]?=some t) (hst:sta (tok t)=false):Calls Tryz.prog 142 #[.pointer (some ⟨g,0,none⟩)] w (RetX w g A n c d (FAC (L.map tok) d i)):=by
 have hlen:=hr.len;have hgw:=hs.lt;have E:=Jh (sy_start hs hr hm hp);obtain⟨k,T,l,m⟩:=t;have hk:k≠4:=fun e=>by have h:sta (k,T)=false:=hst;rw[e] at h;unfold sta at h;simp at h
 have HO:Hid (FAC (L.map tok) d i=.inl (3,i)):=FAC_not (t:=(k,T)) (by rw[List.getElem?_map,ht];rfl) hk hst;have HST:Hid (sta (k,T)=false):=hst;clear hst hk;have HT:=Jh ht;clear hs hr hm hlen;go_enter Tryz.func142,Tryz.ntmps142;go_wp2_with fail;generalize hW:World.alloc w _=W1 at E ⊢;clear hW;refine(pnext_some E.out.st E.out.rd (by have:=E.out.pl;have:=E.out.st.lt;omega) (by omega) ht).mono ?_;rintro e w10 ⟨rfl,hb⟩;replace E:=Jh (SY.step E.out hb);clear hb ht;unfold tk4;go_wp2_with fail;replace E:=Jh (SY.word (g1:=w10.heap.size) E.out k T l m (t:=60) rfl);obtain⟨g4,hg4⟩:∃g,w10.heap.size=g:=⟨_,rfl⟩;rw[hg4] at E ⊢;clear hg4;generalize hV:World.alloc w10 _=V10 at E ⊢;clear hV;refine(pstarts HST.out l m).mono ?_;rintro e w11 ⟨rfl,hb⟩;replace E:=Jh (SY.step E.out hb);clear hb;obtain⟨r0,r1,r2,rf0,rf1,rf2,rlt⟩:=SY.az (g1:=w.heap.size) E (by simp);go_wp2_with fail;clear r0 r1 r2 rf0 rf1 rf2 rlt;have EF:=Jh (SY.pz E.out (g1:=w.heap.size) (by simp) (.bool false) (.slice none 0 0) (.int .i64 0));obtain⟨r0,r1,r2,_,_,_,_⟩:=SY.az (g1:=w.heap.size) EF (by simp);exact bodyPost_ret (v:=.tuple #[.agg #[.bool false,.slice none 0 0,.int .i64 0],.int .i64 3]) (by simp[results,Tryz.results142,go_sem,r0,r1,r2]) rfl ⟨0,0,none,0,0,i,3,rfl,num_zero _ _,EF.out.st,EF.out.kp,by rw[HO.out];exact⟨by omega,rfl,rfl,rfl,rfl⟩⟩
theorem pfac_num {w:World}{g B n c i d:Nat}{A:Option Addr}{L:List Tk4}(hs:StP w g A n c i d) (hr:RdK w B A n c L) (hm:MaxLen w) (hp:B≤g) (hn:n≤400) (hd:d≤64) {t:Tk4}(ht:L[i]?=some t) (hk:t.1=4) (hT:t.2.1.size≤6000):Calls Tryz.prog 142 #[.pointer (some ⟨g,0,none⟩)] w (RetX w g A n c d (FAC (L.map tok) d i)):=by
 have hlen:=hr.len;have hgw:=hs.lt;have E:=Jh (sy_start hs hr hm hp);obtain⟨k,T,l,m⟩:=t;have HO:Hid (FAC (L.map tok) d i=numR T i):=FAC_num (t:=(k,T)) (by rw[List.getElem?_map,ht];rfl) hk;have dk:(k == 4)=true:=by rw[beq_iff_eq];exact hk
 have HST:Hid (sta (k,T)=true):=by show sta (k,T)=true;unfold sta;rw[decide_eq_true (show(k,T).1=4 from hk)];rfl
 have hTs:T.size≤6000:=Nat.le_trans hT (by omega);have hi:i≤1000:=by have:=(List.getElem?_eq_some_iff.1 ht).1;omega
 clear hk hT;have HT:=Jh ht;clear hs hr hm hlen;go_enter Tryz.func142,Tryz.ntmps142;go_wp2_with fail;generalize hW:World.alloc w _=W1 at E ⊢;clear hW;refine(pnext_some E.out.st E.out.rd (by have:=E.out.pl;have:=E.out.st.lt;omega) (by omega) ht).mono ?_;rintro e w10 ⟨rfl,hb⟩;replace E:=Jh (SY.step E.out hb);clear hb ht;unfold tk4;go_wp2_with fail;replace E:=Jh (SY.word (g1:=w10.heap.size) E.out k T l m (t:=60) rfl);obtain⟨g4,hg4⟩:∃g,w10.heap.size=g:=⟨_,rfl⟩;rw[hg4] at E ⊢;clear hg4;generalize hV:World.alloc w10 _=V10 at E ⊢;clear hV;refine(pstarts HST.out l m).mono ?_;rintro e w11 ⟨rfl,hb⟩;replace E:=Jh (SY.step E.out hb);clear hb;obtain⟨t0,t1,t2,t3,tf0,tf1,tf2,tf3,tlt⟩:=SY.wat (k:=k) (T:=T) (p:=l) (q:=m) (g1:=g4) E (by simp);go_wp2_with fail;clear t0 t1 t2 t3 tf0 tf1 tf2 tf3 tlt;refine(pnumber E.out.st E.out.rd E.out.mx hp hi T hTs).mono ?_;rintro e w9 ⟨x9,k9,A9,n9,c9,i9,e9,rfl,hnum9,hst9,hkp9,hout⟩;replace E:=Jh (SY.push (SY.call E.out hkp9 hst9) hnum9);clear hnum9 hst9 hkp9;rw[← HO.out] at hout;have HO2:=Jh hout;clear hout;obtain⟨r0,r1,r2,rf0,rf1,rf2,rlt⟩:=SY.az (g1:=w.heap.size) E (by simp);go_wp2_with fail;clear r0 r1 r2 rf0 rf1 rf2 rlt;have EF:=Jh (SY.pz E.out (g1:=w.heap.size) (by simp) (.bool (ngB x9)) (.slice A9 n9 c9) (.int .i64 (k9:Int)));obtain⟨r0,r1,r2,_,_,_,_⟩:=SY.ad x9 A9 n9 c9 k9 (g1:=w.heap.size) EF (by simp);exact bodyPost_ret (v:=.tuple #[.agg #[.bool (ngB x9),.slice A9 n9 c9,.int .i64 (k9:Int)],.int .i64 (e9:Int)]) (by simp[results,Tryz.results142,go_sem,r0,r1,r2]) rfl ⟨x9,k9,A9,n9,c9,i9,e9,rfl,SY.got EF (by simp),EF.out.st,EF.out.kp,HO2.out⟩
theorem pfac_deep {w:World}{g B n c i d:Nat}{A:Option Addr}{L:List Tk4}(hs:StP w g A n c i d) (hr:RdK w B A n c L) (hm:MaxLen w) (hp:B≤g) (hn:n≤400) (hd:d≤64) {t:Tk4}(ht:L[i]?=some t) (hk:t.1≠4) (hst:sta (tok t)=true) (h64:d=64):Calls Tryz.prog 142 #[.pointer (some ⟨g,0,none⟩)] w (RetX w g A n c d (FAC (L.map tok) d i)):=by
 have hlen:=hr.len;have hgw:=hs.lt;have E:=Jh (sy_start hs hr hm hp);obtain⟨k,T,l,m⟩:=t;have HO:Hid (FAC (L.map tok) d i=.inl (6,i)):=FAC_deep (t:=(k,T)) (by rw[List.getElem?_map,ht];rfl) hk hst (by omega);have dk:(k == 4)=false:=by rw[beq_eq_false_iff_ne];exact hk
 have d64:((d:Int) == 64)=true:=by rw[beq_iff_eq];omega
 have HST:Hid (sta (k,T)=true):=hst;clear hk hst h64;have HT:=Jh ht;clear hs hr hm hlen;go_enter Tryz.func142,Tryz.ntmps142;go_wp2_with fail;generalize hW:World.alloc w _=W1 at E ⊢;clear hW;refine(pnext_some E.out.st E.out.rd (by have:=E.out.pl;have:=E.out.st.lt;omega) (by omega) ht).mono ?_;rintro e w10 ⟨rfl,hb⟩;replace E:=Jh (SY.step E.out hb);clear hb ht;unfold tk4;go_wp2_with fail;replace E:=Jh (SY.word (g1:=w10.heap.size) E.out k T l m (t:=60) rfl);obtain⟨g4,hg4⟩:∃g,w10.heap.size=g:=⟨_,rfl⟩;rw[hg4] at E ⊢;clear hg4;generalize hV:World.alloc w10 _=V10 at E ⊢;clear hV;refine(pstarts HST.out l m).mono ?_;rintro e w11 ⟨rfl,hb⟩;replace E:=Jh (SY.step E.out hb);clear hb;obtain⟨t0,t1,t2,t3,tf0,tf1,tf2,tf3,tlt⟩:=SY.wat (k:=k) (T:=T) (p:=l) (q:=m) (g1:=g4) E (by simp);obtain⟨p0,p1,p2,pf0,pf1,pf2,plt⟩:=SY.facts E;obtain⟨r0,r1,r2,rf0,rf1,rf2,rlt⟩:=SY.az (g1:=w.heap.size) E (by simp);go_wp2_with fail;clear t0 t1 t2 t3 tf0 tf1 tf2 tf3 tlt;clear p0 p1 p2 pf0 pf1 pf2 plt;clear r0 r1 r2 rf0 rf1 rf2 rlt;have EF:=Jh (SY.pz E.out (g1:=w.heap.size) (by simp) (.bool false) (.slice none 0 0) (.int .i64 0));obtain⟨r0,r1,r2,_,_,_,_⟩:=SY.az (g1:=w.heap.size) EF (by simp);exact bodyPost_ret (v:=.tuple #[.agg #[.bool false,.slice none 0 0,.int .i64 0],.int .i64 6]) (by simp[results,Tryz.results142,go_sem,r0,r1,r2]) rfl ⟨0,0,none,0,0,i,6,rfl,num_zero _ _,EF.out.st,EF.out.kp,by rw[HO.out];exact⟨by omega,rfl,rfl,rfl,rfl⟩⟩
theorem pfac_go {w:World}{g B n c i d:Nat}{A:Option Addr}{L:List Tk4}(hs:StP w g A n c i d) (hr:RdK w B A n c L) (hm:MaxLen w) (hp:B≤g) (hn:n≤400) (hd:d≤64) {t:Tk4}(ht:L[i]?=some t) (hk:t.1≠4) (hst:sta (tok t)=true) (h64:d<64) {R:Rs}(hR:FAC (L.map tok) d i=R) (HC:∀w':World,StP w' g A n c (i+1) (d+1)→RdK w' B A n c L→MaxLen w'→Calls Tryz.prog 161 #[.pointer (some ⟨g,0,none⟩),.string t.2.1] w' (RetX w' g A n c (d+1) R)):Calls Tryz.prog 142 #[.pointer (some ⟨g,0,none⟩)] w (RetX w g A n c d (FAC (L.map tok) d i)):=by
 have hlen:=hr.len;have hgw:=hs.lt;have E:=Jh (sy_start hs hr hm hp);obtain⟨k,T,l,m⟩:=t;have HO:=Jh hR;have dk:(k == 4)=false:=by rw[beq_eq_false_iff_ne];exact hk
 have d64:((d:Int) == 64)=false:=by rw[beq_eq_false_iff_ne];omega
 have HST:Hid (sta (k,T)=true):=hst;have hi:i≤1000:=by have:=(List.getElem?_eq_some_iff.1 ht).1;omega
 obtain⟨i1,hi1⟩:∃i1,i+1=i1:=⟨_,rfl⟩;obtain⟨d1,hd1⟩:∃d1,d+1=d1:=⟨_,rfl⟩;have ed:(d:Int)+1=(d1:Int):=by omega
 have ed2:(d1:Int) - 1=(d:Int):=by omega
 have hd11:d1≤64:=by omega
 rw[hi1,hd1] at HC;have HI:=Jh hi1;clear hk hst hR hi1 hd1;have HT:=Jh ht;clear hs hr hm hlen;go_enter Tryz.func142,Tryz.ntmps142;go_wp2_with fail;generalize hW:World.alloc w _=W1 at E ⊢;clear hW;refine(pnext_some E.out.st E.out.rd (by have:=E.out.pl;have:=E.out.st.lt;omega) (by omega) ht).mono ?_;rintro e w10 ⟨rfl,hb⟩;replace E:=Jh (SY.step E.out hb);clear hb ht;unfold tk4;go_wp2_with fail;replace E:=Jh (SY.word (g1:=w10.heap.size) E.out k T l m (t:=60) rfl);obtain⟨g4,hg4⟩:∃g,w10.heap.size=g:=⟨_,rfl⟩;rw[hg4] at E ⊢;clear hg4;generalize hV:World.alloc w10 _=V10 at E ⊢;clear hV;refine(pstarts HST.out l m).mono ?_;rintro e w11 ⟨rfl,hb⟩;replace E:=Jh (SY.step E.out hb);clear hb;obtain⟨t0,t1,t2,t3,tf0,tf1,tf2,tf3,tlt⟩:=SY.wat (k:=k) (T:=T) (p:=l) (q:=m) (g1:=g4) E (by simp);obtain⟨p0,p1,p2,pf0,pf1,pf2,plt⟩:=SY.facts E;go_wp2_with fail;clear t0 t1 t2 t3 tf0 tf1 tf2 tf3 tlt;clear p0 p1 p2 pf0 pf1 pf2 plt;refine(ppass E.out.st (by omega) i1 HI.out).mono ?_;rintro e w12 ⟨rfl,rfl⟩;replace E:=Jh (SY.set1 E.out i1);obtain⟨t0,t1,t2,t3,tf0,tf1,tf2,tf3,tlt⟩:=SY.wat (k:=k) (T:=T) (p:=l) (q:=m) (g1:=g4) E (by simp);obtain⟨p0,p1,p2,pf0,pf1,pf2,plt⟩:=SY.facts E;have ng:g≠g4:=by
  have h0:=(SY.facts E).c0;have h1:=(SY.wat (k:=k) (T:=T) (p:=l) (q:=m) (g1:=g4) E (by simp)).c0;rintro rfl;rw[h0] at h1;cases h1
 have ng2:g4≠g:=fun e=>ng e.symm
 generalize hV:World.setCell w11 _ _=V11 at E p0 p1 p2 pf0 pf1 pf2 plt t0 t1 t2 t3 tf0 tf1 tf2 tf3 tlt ⊢;clear hV;go_wp2_with fail;clear t0 t1 t2 t3 tf0 tf1 tf2 tf3 tlt;clear p0 p1 p2 pf0 pf1 pf2 plt;replace E:=Jh (SY.set2 E.out d1);generalize hV:World.setCell V11 _ _=V12 at E ⊢;clear hV;refine(HC _ E.out.st E.out.rd E.out.mx).mono ?_;rintro e w9 ⟨x9,k9,A9,n9,c9,i9,e9,rfl,hnum9,hst9,hkp9,hout⟩;replace E:=Jh (SY.push (SY.call E.out hkp9 hst9) hnum9);clear hnum9 hst9 hkp9;have HO2:=Jh hout;clear hout;have EL:=Jh (SY.lay (g1:=w9.heap.size) (x0:=.bool (ngB x9)) (x1:=.slice A9 n9 c9) (x2:=.int .i64 (k9:Int)) (t:=39) E.out rfl);have n1:g≠w9.heap.size:=by have:=E.out.st.lt;omega
 have n2:w9.heap.size≠g:=fun e=>n1 e.symm
 have n3:g≠w.heap.size:=by omega
 have n4:w.heap.size≠g:=by omega
 clear E;obtain⟨p0,p1,p2,pf0,pf1,pf2,plt⟩:=SY.facts EL;obtain⟨q0,q1,q2,qf0,qf1,qf2,qlt⟩:=SY.ad x9 A9 n9 c9 k9 (g1:=w9.heap.size) EL (by simp);obtain⟨r0,r1,r2,rf0,rf1,rf2,rlt⟩:=SY.az (g1:=w.heap.size) EL (by simp);go_wp2_with fail;clear p0 p1 p2 pf0 pf1 pf2 plt;clear q0 q1 q2 qf0 qf1 qf2 qlt;clear r0 r1 r2 rf0 rf1 rf2 rlt;have E:=Jh (SY.set2 EL.out d);have EF:=Jh (SY.pz E.out (g1:=w.heap.size) (by simp) (.bool (ngB x9)) (.slice A9 n9 c9) (.int .i64 (k9:Int)));obtain⟨r0,r1,r2,_,_,_,_⟩:=SY.ad x9 A9 n9 c9 k9 (g1:=w.heap.size) EF (by simp);exact bodyPost_ret (v:=.tuple #[.agg #[.bool (ngB x9),.slice A9 n9 c9,.int .i64 (k9:Int)],.int .i64 (e9:Int)]) (by simp[results,Tryz.results142,go_sem,r0,r1,r2]) rfl ⟨x9,k9,A9,n9,c9,i9,e9,rfl,SY.got EF (by simp),EF.out.st,EF.out.kp,by rw[HO.out];exact HO2.out⟩
theorem pfactor {L:List Tk4}{i:Nat}{G:Nat→Nat→Int→Nat→Prop}(hL:Siz (L.map tok) G) (hi:i≤L.length) (HS:i<L.length→SumP L (i+1)) (HF:i<L.length→FacP L (i+1)):FacP L i:=by
 intro w g B n c d A hs hr hm hp hn hd;rcases Nat.lt_or_ge i L.length with h|h
 ·obtain⟨t,ht⟩:∃t,L[i]?=some t:=⟨_,List.getElem?_eq_getElem h⟩
  have hm1:tok t∈L.map tok:=List.mem_map_of_mem (List.mem_of_getElem? ht);have hg:(L.map tok)[i]?=some (tok t):=by rw[List.getElem?_map,ht];rfl
  cases hst:sta (tok t) with
  | false=>exact pfac_not hs hr hm hp hn hd ht hst
  | true=>
   by_cases hk:t.1=4
   ·exact pfac_num hs hr hm hp hn hd ht hk (hL.txt _ hm1)
   ·rcases Nat.lt_or_ge d 64 with h64|h64
    ·have hk10:t.1=10:=sta_ten hst hk
     cases ho:isg (tok t) 40 with
     | true=>
      have hT:bs9 t.2.1=[40]:=of_decide_eq_true (isg_txt (k:=t.1) (T:=t.2.1) ho hk10);exact pfac_go hs hr hm hp hn hd ht hk hst h64 (FAC_open hg hk hst h64 ho) fun w' hs' hr' hm'=>pbeh_open hs' hr' hm' hp hn (by omega) (fun w2 hs2 hr2 hm2=>pshut hs2 hr2 hm2 hp hn (by omega) (HS h)) hT
     | false=>
      cases hb:isg (tok t) 45 with
      | true=>
       have hT:bs9 t.2.1=[45]:=of_decide_eq_true (isg_txt (k:=t.1) (T:=t.2.1) hb hk10);exact pfac_go hs hr hm hp hn hd ht hk hst h64 ((FAC_sign hg hk hst h64 ho).trans (by rw[hb])) fun w' hs' hr' hm'=>pbeh_minus hs' hr' hm' hp hn (by omega) hL (HF h) hT
      | false=>
       have h43:isg (tok t) 43=true:=by
        unfold sta at hst;rw[hb,ho,decide_eq_false (show ¬(tok t).1=4 from hk)] at hst;simpa using hst
       have hT:bs9 t.2.1=[43]:=of_decide_eq_true (isg_txt (k:=t.1) (T:=t.2.1) h43 hk10);exact pfac_go hs hr hm hp hn hd ht hk hst h64 ((FAC_sign hg hk hst h64 ho).trans (by rw[hb])) fun w' hs' hr' hm'=>pbeh_plus hs' hr' hm' hp hn (by omega) hL (HF h) hT
    ·exact pfac_deep hs hr hm hp hn hd ht hk hst (by omega)
 ·exact pfac_end hs hr hm hp hn hd (by have:=hr.len;omega)
structure Chn (L:List Tok) (G:Nat→Nat→Int→Nat→Prop) (i:Nat) (P:Nat→Rs) (F:Int→Nat→Nat→Rs) (x y:Nat):Prop where
 sx:x=43∨x=45∨x=42∨x=47
 sy:y=43∨y=45∨y=42∨y=47
 fin:∀{v k a},isAt L a x=false→isAt L a y=false→F v k a=.inr (v,k,a)
 err:∀{v k a e},isAt L a x=true∨isAt L a y=true→P (a+1)=.inl e→F v k a=.inl e
 go:∀{v k a j t b z},z=x∨z=y→isAt L a z=true→P (a+1)=.inr (j,t,b)→(jnd z v k j t).2.2=0→F v k a=F (jnd z v k j t).1 (jnd z v k j t).2.1 b
 bad:∀{v k a j t b z},z=x∨z=y→isAt L a z=true→P (a+1)=.inr (j,t,b)→0<(jnd z v k j t).2.2→F v k a=.inl ((jnd z v k j t).2.2,a)∧(jnd z v k j t).1=0∧(jnd z v k j t).2.1=0
 grt:∀{v k a j t b z},z=x∨z=y→G i a v k→P (a+1)=.inr (j,t,b)→(jnd z v k j t).2.2=0→G i b (jnd z v k j t).1 (jnd z v k j t).2.1
 rng:∀{a b i k},G a b i k→a<b∧b≤L.length
 fits:∀{a b i k},G a b i k→(dg i.natAbs).length≤900∧k≤4010
 pgrt:∀{a j t b},P a=.inr (j,t,b)→G a b j t
 len:∀{v k a j t b},G i a v k→P (a+1)=.inr (j,t,b)→j≠0→(dg (quoQ v k j t).natAbs).length≤1000
def ChI (G:Nat→Nat→Int→Nat→Prop) (i:Nat) (F:Int→Nat→Nat→Rs) (S:Rs) (v:Int) (k a e:Nat):Prop:=
 (e=0∧S=F v k a∧G i a v k)∨(0<e∧OutX v k a e S)
def msp (g n:Nat) (iv:Value) (w:World):Nat:=if intOf iv=0 then n+1 - (match w.cell? ⟨g,1,none⟩ with|some v=>(intOf v).toNat|none=>0) else 0
theorem msp_is {w:World}{g n c i d:Nat}{A:Option Addr}(h:StP w g A n c i d) (e:Nat):msp g n (.int .i64 (e:Int)) w=if e=0 then n+1 - i else 0:=by
 have p:=h.bx;unfold msp;rw[p.c1];show(if (e:Int)=0 then n+1 - ((i:Int)).toNat else 0)=_;rw[Int.toNat_natCast];by_cases he:e=0
 ·subst he;simp
 ·rw[if_neg he,if_neg (by omega)]
theorem pchain {w:World}{fn:Nat}{P:Nat→Rs}{F:Int→Nat→Nat→Rs}{G:Nat→Nat→Int→Nat→Prop}{S:Rs}{x y q:Nat}{s1 s2:ByteArray}{g B n c i d:Nat}{A:Option Addr}{L:List Tk4}(hs:StP w g A n c i d) (hr:RdK w B A n c L) (hm:MaxLen w) (hp:B≤g) (hn:n≤400) (hd:d≤64) (hent:∀(args:Array Value) (W:World),(callFunc fn args).run Tryz.prog W=.ok (.enter fn args) W) (hi:i≤n) (CN:Chn (L.map tok) G i P F x y) (h1:bs9 s1=[x]) (h2:bs9 s2=[y]) (hsg:Sgn w q 2 2 [s1,s2]) (hS:(∀e,P i=.inl e→S=.inl e)∧∀v k b,P i=.inr (v,k,b)→S=F v k b)
  (HP:∀a,i≤a→a≤n→∀w':World,StP w' g A n c a d→RdK w' B A n c L→MaxLen w'→Calls Tryz.prog fn #[.pointer (some ⟨g,0,none⟩)] w' (RetX w' g A n c d (P a))) :
  Calls Tryz.prog 124 #[.pointer (some ⟨g,0,none⟩),.func (.func fn) #[.pointer (some ⟨g,0,none⟩)] #[],.slice (some ⟨q,0,none⟩) 2 2] w (RetX w g A n c d S):=by
 have hlen:=hr.len;have hgw:=hs.lt;have E:=Jh (sy_start hs hr hm hp);have hqg:q≠g:=by
  have h0:=hsg.row 0 s1 rfl;have h3:=hs.bx.c0;rintro rfl;rw[h0] at h3;cases h3
 have SG:=Jh hsg;have HLEN:=Jh hlen;have HLL:Hid ((L.map tok).length≤400):=by show _≤_;rw[List.length_map];omega
 have HCN:=Jh CN;have HSS:=Jh hS;have H1:=Jh h1;have H2:=Jh h2;have HPP:=Jh HP;clear hs hr hm hlen hsg CN hS h1 h2 HP;go_enter Tryz.func124,Tryz.ntmps124;go_wp2_with fail;generalize hW:World.alloc w _=W1 at E ⊢;clear hW;refine(HPP.out i (Nat.le_refl _) hi _ E.out.st E.out.rd E.out.mx).mono ?_;rintro e w9 ⟨x9,k9,A9,n9,c9,i9,e9,rfl,hnum9,hst9,hkp9,hout⟩;replace E:=Jh (SY.push (SY.call E.out hkp9 hst9) hnum9);clear hnum9 hst9 hkp9;have I0:Hid (ChI G i F S x9 k9 i9 e9):=by
  show ChI _ _ _ _ _ _ _ _;cases hP:P i with
  | inl r=>
   obtain⟨z,b⟩:=r;rw[hP] at hout;exact .inr ⟨by have:=hout.1;have:=hout.2.1;omega,by rw[HSS.out.1 _ hP];exact hout⟩
  | inr r=>
   obtain⟨j,s,b⟩:=r;rw[hP] at hout;obtain⟨rfl,rfl,rfl,rfl⟩:=hout;exact .inl ⟨rfl,HSS.out.2 _ _ _ hP,HCN.out.pgrt hP⟩
 clear hout;have n5:w9.heap.size≠w.heap.size:=by have:=(SY.az (g1:=w.heap.size) E (by simp)).lt;omega
 go_wp2_with fail;replace E:=Jh (SY.lay (g1:=w9.heap.size) (x0:=.bool (ngB x9)) (x1:=.slice A9 n9 c9) (x2:=.int .i64 (k9:Int)) (t:=39) E.out rfl);obtain⟨g8,hg8⟩:∃g,w9.heap.size=g:=⟨_,rfl⟩;rw[hg8] at E n5 ⊢;clear hg8;generalize hV:World.alloc w9 _=V9 at E ⊢;clear hV;have n6:w.heap.size≠g8:=fun e=>n5 e.symm
 go_loopw [9] (fun iv wr=>∃(e:Nat) (v:Int) (k:Nat) (A1:Option Addr) (n1 c1 a:Nat),iv=.int .i64 (e:Int)∧SY w wr g B A n c L a d [(A1,n1,c1,v.natAbs)] [(g8,.bool (ngB v),.slice A1 n1 c1,.int .i64 (k:Int)),(w.heap.size,.bool false,.slice none 0 0,.int .i64 0)] []∧ChI G i F S v k a e) (fun iv wr=>msp g n iv wr)
 case atStart=>exact⟨e9,x9,k9,A9,n9,c9,i9,rfl,E.out,I0.out⟩
 case round=>
  obtain⟨e,v,k,A1,n1,c1,a,rfl,hE,hI⟩:=hrel;replace E:=Jh hE;have S0:=Jh hE.st;have I:=Jh hI;clear hE hI I0;rcases Nat.eq_zero_or_pos e with h0|h0
  ·subst h0
   have hI2:S=F v k a∧G i a v k:=by
    rcases I.out with⟨_,q1,q2⟩|⟨q1,_⟩
    ·exact⟨q1,q2⟩
    ·omega
   have HF:=Jh hI2.1;have HG:=Jh hI2.2;have ha:i≤a∧a≤n:=by have h:=HCN.out.rng hI2.2;rw[List.length_map] at h;have:=HLEN.out;omega
   have hfit:=HCN.out.fits hI2.2;have hn1:n1≤1000:=by have:=(SY.got E (A1:=A1) (n1:=n1) (c1:=c1) (x:=v.natAbs) (by simp)).len;omega
   have hk1:k≤4010:=hfit.2;clear hI2 hfit;obtain⟨p0,p1,p2,pf0,pf1,pf2,plt⟩:=SY.facts E;go_wp2_with fail;clear p0 p1 p2 pf0 pf1 pf2 plt;rcases Nat.lt_or_ge a n with han|han
   ·obtain⟨t,ht⟩:∃t,L[a]?=some t:=⟨_,List.getElem?_eq_getElem (by have:=HLEN.out;omega)⟩
    obtain⟨kk,T,l,m⟩:=t;refine(pnext_some E.out.st E.out.rd (by have:=E.out.pl;have:=E.out.st.lt;omega) (by omega) ht).mono ?_;rintro e w10 ⟨rfl,hb⟩;replace E:=Jh (SY.step E.out hb);clear hb;unfold tk4;go_wp2_with fail;have SG2:=Jh (SG.out.kp E.out.kp hqg);replace E:=Jh (SY.word (g1:=w10.heap.size) E.out kk T l m (t:=60) rfl);replace SG2:=Jh (SG2.out.on ((Below.refl _ w10).alloc (Nat.le_refl _) (.cells #[.int .i64 kk,.string T,.int .i64 l,.int .i64 m] 60)));obtain⟨g11,hg11⟩:∃g,w10.heap.size=g:=⟨_,rfl⟩;rw[hg11] at E ⊢;clear hg11;generalize hV:World.alloc w10 _=V10 at E SG2 ⊢;clear hV;obtain⟨bz,hbz⟩:∃bz,isgs (kk,T) [s1,s2]=bz:=⟨_,rfl⟩;have hbz2:(isg (kk,T) x || isg (kk,T) y)=bz:=by rw[← isgs_two _ H1.out H2.out];exact hbz
    have hxy:∀c,isAt (L.map tok) a c=isg (kk,T) c:=fun c=>isAt_some ht
    refine(pissign SG2.out hbz l m).mono ?_;rintro e w11 ⟨rfl,hb⟩;replace E:=Jh (SY.step E.out hb);clear hb hbz SG2;cases bz with
    | false=>
     rw[Bool.or_eq_false_iff] at hbz2;have HO:Hid (S=.inr (v,k,a)):=by
      show _=_;rw[HF.out];exact HCN.out.fin ((hxy _).trans hbz2.1) ((hxy _).trans hbz2.2)
     clear hbz2 hxy ht;obtain⟨q0,q1,q2,qf0,qf1,qf2,qlt⟩:=SY.ad v A1 n1 c1 k (g1:=g8) E (by simp);obtain⟨r0,r1,r2,rf0,rf1,rf2,rlt⟩:=SY.az (g1:=w.heap.size) E (by simp);go_wp2_with fail;clear q0 q1 q2 qf0 qf1 qf2 qlt;clear r0 r1 r2 rf0 rf1 rf2 rlt;have EF:=Jh (SY.pz E.out (g1:=w.heap.size) (by simp) (.bool (ngB v)) (.slice A1 n1 c1) (.int .i64 (k:Int)));obtain⟨r0,r1,r2,_,_,_,_⟩:=SY.ad v A1 n1 c1 k (g1:=w.heap.size) EF (by simp);exact bodyPost_ret (v:=.tuple #[.agg #[.bool (ngB v),.slice A1 n1 c1,.int .i64 (k:Int)],.int .i64 0]) (by simp[results,Tryz.results124,go_sem,r0,r1,r2]) rfl ⟨v,k,A1,n1,c1,a,0,rfl,SY.got EF (by simp),EF.out.st,EF.out.kp,by rw[HO.out];exact⟨rfl,rfl,rfl,rfl⟩⟩
    | true=>
     obtain⟨z,hz,hz1⟩:∃z,(z=x∨z=y)∧isg (kk,T) z=true:=by
      rcases Bool.or_eq_true_iff.1 hbz2 with h|h
      ·exact⟨x,.inl rfl,h⟩
      ·exact⟨y,.inr rfl,h⟩
     have hza:isAt (L.map tok) a z=true:=(hxy z).trans hz1;have hT:bs9 T=[z]:=by
      rw[isg_is,Bool.and_eq_true] at hz1;exact of_decide_eq_true hz1.2
     have hz4:z=43∨z=45∨z=42∨z=47:=by
      rcases hz with rfl|rfl
      ·exact HCN.out.sx
      ·exact HCN.out.sy
     have hxy2:isAt (L.map tok) a x=true∨isAt (L.map tok) a y=true:=by
      rcases hz with rfl|rfl
      ·exact .inl hza
      ·exact .inr hza
     have HZ:=Jh hz;have HZA:=Jh hza;have HT:=Jh hT;have HZ4:=Jh hz4;have HXY:=Jh hxy2;clear hbz2 hxy ht hz1 hz hza hT hz4 hxy2;obtain⟨a1,ha1⟩:∃a1,a+1=a1:=⟨_,rfl⟩;have HA1:=Jh ha1;have ha1n:i≤a1∧a1≤n:=by omega
     clear ha1;go_wp2_with fail;refine(ppass E.out.st (by omega) a1 HA1.out).mono ?_;rintro e w12 ⟨rfl,rfl⟩;replace E:=Jh (SY.set1 E.out a1);generalize hV:World.setCell w11 _ _=V11 at E ⊢;clear hV;go_wp2_with fail;refine(HPP.out a1 ha1n.1 ha1n.2 _ E.out.st E.out.rd E.out.mx).mono ?_;rintro e w7 ⟨x7,k7,A7,n7,c7,i7,e7,rfl,hnum7,hst7,hkp7,hout⟩;replace E:=Jh (SY.push (SY.call E.out hkp7 hst7) hnum7);clear hnum7 hst7 hkp7;cases hP:P a1 with
     | inl r=>
      obtain⟨z7,b7⟩:=r;rw[hP] at hout;obtain⟨hz7,rfl,rfl,-,-⟩:=hout;have dz:((e7:Int) != 0)=true:=by rw[bne_iff_ne];omega
      have HO:Hid (S=.inl (e7,i7)):=by
       show _=_;rw[HF.out];exact HCN.out.err HXY.out (by rw[HA1.out];exact hP)
      clear hP;have EL:=Jh (SY.lay (g1:=w7.heap.size) (x0:=.bool (ngB x7)) (x1:=.slice A7 n7 c7) (x2:=.int .i64 (k7:Int)) (t:=39) E.out rfl);clear E;obtain⟨r0,r1,r2,rf0,rf1,rf2,rlt⟩:=SY.az (g1:=w.heap.size) EL (by simp);go_wp2_with fail;clear r0 r1 r2 rf0 rf1 rf2 rlt;have EF:=Jh (SY.pz EL.out (g1:=w.heap.size) (by simp) (.bool false) (.slice none 0 0) (.int .i64 0));obtain⟨r0,r1,r2,_,_,_,_⟩:=SY.az (g1:=w.heap.size) EF (by simp);exact bodyPost_ret (v:=.tuple #[.agg #[.bool false,.slice none 0 0,.int .i64 0],.int .i64 (e7:Int)]) (by simp[results,Tryz.results124,go_sem,r0,r1,r2]) rfl ⟨0,0,none,0,0,i7,e7,rfl,num_zero _ _,EF.out.st,EF.out.kp,by rw[HO.out];exact⟨hz7,rfl,rfl,rfl,rfl⟩⟩
     | inr r=>
      obtain⟨j,s,b⟩:=r;rw[hP] at hout;obtain⟨rfl,rfl,rfl,rfl⟩:=hout;have hP2:P (a+1)=.inr (x7,k7,i7):=by rw[HA1.out];exact hP
      have hg7:=HCN.out.pgrt hP;have hfit7:=HCN.out.fits hg7;have hn7:n7≤1000:=by have:=(SY.got E (A1:=A7) (n1:=n7) (c1:=c7) (x:=x7.natAbs) (by simp)).len;omega
      have hk7:k7≤4010:=hfit7.2;have hai:a<i7:=by have:=(HCN.out.rng hg7).1;have:=HA1.out;omega
      have HQ:Hid (z=47→x7≠0→(dg (quoQ v k x7 k7).natAbs).length≤1000):=fun _ h=>HCN.out.len HG.out hP2 h
      obtain⟨r,hr⟩:∃r,jnd z v k x7 k7=r:=⟨_,rfl⟩;have HGO:Hid (r.2.2=0→S=F r.1 r.2.1 i7∧G i i7 r.1 r.2.1):=fun h=>by
       rw[← hr] at h ⊢;exact⟨HF.out.trans (HCN.out.go HZ.out HZA.out hP2 h),HCN.out.grt HZ.out HG.out hP2 h⟩
      have HBD:Hid (0<r.2.2→S=.inl (r.2.2,a)∧r.1=0∧r.2.1=0):=fun h=>by
       rw[← hr] at h ⊢;have h2:=HCN.out.bad HZ.out HZA.out hP2 h;exact⟨HF.out.trans h2.1,h2.2⟩
      have HR:=Jh hr;clear hP hP2 hg7 hfit7 hr;have EL:=Jh (SY.lay (g1:=w7.heap.size) (x0:=.bool (ngB x7)) (x1:=.slice A7 n7 c7) (x2:=.int .i64 (k7:Int)) (t:=39) E.out rfl);clear E;obtain⟨q0,q1,q2,qf0,qf1,qf2,qlt⟩:=SY.ad v A1 n1 c1 k (g1:=g8) EL (by simp);obtain⟨t0,t1,t2,t3,tf0,tf1,tf2,tf3,tlt⟩:=SY.wat (k:=kk) (T:=T) (p:=l) (q:=m) (g1:=g11) EL (by simp);go_wp2_with fail;clear q0 q1 q2 qf0 qf1 qf2 qlt;clear t0 t1 t2 t3 tf0 tf1 tf2 tf3 tlt;replace E:=EL;clear EL;generalize hV:World.alloc w7 _=V12 at E ⊢;clear hV;refine(pjoin (SY.got E (A1:=A1) (n1:=n1) (c1:=c1) (by simp)) (SY.got E (A1:=A7) (n1:=n7) (c1:=c7) (by simp)) hn1 hn7 hk1 hk7 HZ4.out HQ.out HT.out).mono ?_;rintro e w14 ⟨A2,n2,c2,rfl,hnum2,hb2⟩;rw[HR.out] at hnum2 ⊢;replace E:=Jh (SY.push (SY.step E.out hb2) hnum2);clear hnum2 hb2;have hgg:g≠g8:=by
       have h0:=(SY.facts E).c0;have h1:=(SY.ad v A1 n1 c1 k (g1:=g8) E (by simp)).c0;rintro rfl;rw[h0] at h1;cases h1
      have hgg2:g8≠g:=fun e=>hgg e.symm
      have EP:=Jh (SY.sub (l':=[(A2,n2,c2,r.1.natAbs)]) (bs':=[(g8,.bool (ngB r.1),.slice A2 n2 c2,.int .i64 (r.2.1:Int)),(w.heap.size,.bool false,.slice none 0 0,.int .i64 0)]) (ts':=[]) (SY.put E.out (g1:=g8) (b:=ngB v) (A1:=A1) (n1:=n1) (c1:=c1) (k1:=(k:Int)) (by simp) [(w.heap.size,.bool false,.slice none 0 0,.int .i64 0)] (fun q hq=>by simp at hq;subst hq;exact⟨by simp,n5⟩) (.bool (ngB r.1)) (.slice A2 n2 c2) (.int .i64 (r.2.1:Int))) (by simp) (by simp) (by simp));rcases Nat.eq_zero_or_pos r.2.2 with h0|h0
      ·have hgo:=HGO.out h0
       have dz:((r.2.2:Int) != 0)=false:=by rw[h0];rfl
       have J:Hid (ChI G i F S r.1 r.2.1 i7 r.2.2):=.inl ⟨h0,hgo⟩;have HZR:=Jh h0;clear hgo h0;obtain⟨q0,q1,q2,qf0,qf1,qf2,qlt⟩:=SY.ad v A1 n1 c1 k (g1:=g8) E (by simp);go_wp2_with fail;clear q0 q1 q2 qf0 qf1 qf2 qlt;go_roundw
       case rel=>exact⟨r.2.2,r.1,r.2.1,A2,n2,c2,i7,rfl,EP.out,J.out⟩
       case measure=>
        show msp g n (.int .i64 (r.2.2:Int)) _<msp g n (.int .i64 ((0:Nat):Int)) _;rw[msp_is EP.out.st,msp_is S0.out,if_pos HZR.out,if_pos rfl];omega
      ·have hbd:=HBD.out h0
       have dz:((r.2.2:Int) != 0)=true:=by rw[bne_iff_ne];omega
       have EQ:=Jh (SY.set1 EP.out a);have J:Hid (ChI G i F S r.1 r.2.1 a r.2.2):=.inr ⟨h0,by rw[hbd.1];exact⟨h0,rfl,rfl,hbd.2⟩⟩;have HZR:=Jh h0;clear hbd h0;obtain⟨q0,q1,q2,qf0,qf1,qf2,qlt⟩:=SY.ad v A1 n1 c1 k (g1:=g8) E (by simp);obtain⟨p0,p1,p2,pf0,pf1,pf2,plt⟩:=SY.facts E;go_wp2_with fail;clear q0 q1 q2 qf0 qf1 qf2 qlt;clear p0 p1 p2 pf0 pf1 pf2 plt;go_roundw
       case rel=>exact⟨r.2.2,r.1,r.2.1,A2,n2,c2,a,rfl,EQ.out,J.out⟩
       case measure=>
        show msp g n (.int .i64 (r.2.2:Int)) _<msp g n (.int .i64 ((0:Nat):Int)) _;rw[msp_is EQ.out.st,msp_is S0.out,if_neg (by have:=HZR.out;omega),if_pos rfl];omega
   ·obtain rfl:a=n:=by omega
    refine(pnext_end E.out.st rfl).mono ?_;rintro e w10 ⟨rfl,hb⟩;replace E:=Jh (SY.step E.out hb);clear hb;have HO:Hid (S=.inr (v,k,a)):=by
     show _=_;rw[HF.out];exact HCN.out.fin (isAt_none (by have:=HLEN.out;omega)) (isAt_none (by have:=HLEN.out;omega))
    have EL:=Jh (SY.word (g1:=w10.heap.size) E.out 0 ⟨#[]⟩ 0 0 (t:=60) rfl);clear E;obtain⟨q0,q1,q2,qf0,qf1,qf2,qlt⟩:=SY.ad v A1 n1 c1 k (g1:=g8) EL (by simp);obtain⟨r0,r1,r2,rf0,rf1,rf2,rlt⟩:=SY.az (g1:=w.heap.size) EL (by simp);go_wp2_with fail;clear q0 q1 q2 qf0 qf1 qf2 qlt;clear r0 r1 r2 rf0 rf1 rf2 rlt;have EF:=Jh (SY.pz EL.out (g1:=w.heap.size) (by simp) (.bool (ngB v)) (.slice A1 n1 c1) (.int .i64 (k:Int)));obtain⟨r0,r1,r2,_,_,_,_⟩:=SY.ad v A1 n1 c1 k (g1:=w.heap.size) EF (by simp);exact bodyPost_ret (v:=.tuple #[.agg #[.bool (ngB v),.slice A1 n1 c1,.int .i64 (k:Int)],.int .i64 0]) (by simp[results,Tryz.results124,go_sem,r0,r1,r2]) rfl ⟨v,k,A1,n1,c1,a,0,rfl,SY.got EF (by simp),EF.out.st,EF.out.kp,by rw[HO.out];exact⟨rfl,rfl,rfl,rfl⟩⟩
  ·have HO:Hid (OutX v k a e S):=by
    rcases I.out with⟨q1,_⟩|⟨_,q1⟩
    ·omega
    ·exact q1
   have dz:((e:Int) == 0)=false:=by rw[beq_eq_false_iff_ne];omega
   obtain⟨q0,q1,q2,qf0,qf1,qf2,qlt⟩:=SY.ad v A1 n1 c1 k (g1:=g8) E (by simp);obtain⟨r0,r1,r2,rf0,rf1,rf2,rlt⟩:=SY.az (g1:=w.heap.size) E (by simp);go_wp2_with fail;clear q0 q1 q2 qf0 qf1 qf2 qlt;clear r0 r1 r2 rf0 rf1 rf2 rlt;have EF:=Jh (SY.pz E.out (g1:=w.heap.size) (by simp) (.bool (ngB v)) (.slice A1 n1 c1) (.int .i64 (k:Int)));obtain⟨r0,r1,r2,_,_,_,_⟩:=SY.ad v A1 n1 c1 k (g1:=w.heap.size) EF (by simp);exact bodyPost_ret (v:=.tuple #[.agg #[.bool (ngB v),.slice A1 n1 c1,.int .i64 (k:Int)],.int .i64 (e:Int)]) (by simp[results,Tryz.results124,go_sem,r0,r1,r2]) rfl ⟨v,k,A1,n1,c1,a,e,rfl,SY.got EF (by simp),EF.out.st,EF.out.kp,HO.out⟩
def dayR (L:List Tok) (a:Nat):RH (Int×Int×Int):=thn (tkw L a 1) fun s b=>if Dat.prOk s=true then .inr (pday s,b) else .inl (3,b - 1)
def curR (L:List Tok) (a:Nat):RH (List ByteArray):=thn (tkw L a 3) fun x b=>thn (curL L L.length b) fun xs c=>.inr (x::xs,c)
def mthR (L:List Tok) (a:Nat):RH Nat:=thn (tkw L a 5) fun s b=>match mth (bs9 s) with|none=>.inl (3,b - 1)|some m=>.inr (m,b)
def tolR (L:List Tok) (a:Nat):RH (Int×Nat):=thn (nmr L a) fun n b=>if n.1<0 then .inl (3,b - 1) else .inr (n,b)
theorem knd_some {L:List Tok}{a:Nat}{k:Int}(h:knd L a k=true):∃t,L[a]?=some t∧t.1=k:=by
 unfold knd at h;cases ht:L[a]? with
 | none=>rw[ht] at h;cases h
 | some t=>rw[ht] at h;exact⟨t,rfl,of_decide_eq_true h⟩
theorem tkw_some {L:List Tok}{a:Nat}{k:Int}{t:Tok}(h:L[a]?=some t) (hk:t.1=k):tkw L a k=.inr (t.2,a+1):=by unfold tkw;rw[h];exact if_pos hk
def opnR (L:List Tok) (a:Nat):RH Dr:=thn (tkw L a 2) fun ac a=>thn (if knd L a 3=true then curR L a else .inr ([],a)) fun cs a=>thn (if knd L a 5=true then mthR L a else .inr (0,a)) fun m a=>.inr (.opn (0,0,0) ac cs m,a)
theorem rOpen_eq (L:List Tok) (a:Nat):rOpen L (0,0,0) a=opnR L a:=by
 unfold rOpen opnR;congr 1;funext ac a
 show thn (curs L a) _=thn (curs L a) _;congr 1;funext cs a
 by_cases h:knd L a 5=true
 ·rw[if_pos h,if_pos h]
  obtain⟨t,ht,h5⟩:=knd_some h;unfold mthR mthO;rw[tkw_some ht h5,ht];show(match mth (bs9 t.2) with|none=>Sum.inl (3,a)|some m=>Sum.inr (Dr.opn (0,0,0) ac cs m,a+1))=thn (match mth (bs9 t.2) with|none=>Sum.inl (3,a+1 - 1)|some m=>Sum.inr (m,a+1)) _;cases mth (bs9 t.2)<;>rfl
 ·rw[if_neg h,if_neg h];rfl
def balR (L:List Tok) (a:Nat):RH Dr:=thn (tkw L a 2) fun ac a=>thn (nmr L a) fun n a=>thn (if isW L a [126]=true then thn (tolR L (a+1)) fun t b=>.inr (some t,b) else .inr (none,a)) fun t a=>thn (tkw L a 3) fun x a=>.inr (.bal (0,0,0) ac n.1 n.2 t x,a)
theorem rBal_eq (L:List Tok) (a:Nat):rBal L (0,0,0) a=balR L a:=by
 unfold rBal balR rTol;congr 1;funext ac a
 congr 1;funext n a
 congr 1
 by_cases h:isW L a [126]=true
 ·rw[if_pos h,if_pos h]
  unfold tolR;cases nmr L (a+1) with
  | inl e=>rfl
  | inr r=>
   obtain⟨n,b⟩:=r;show(if n.1<0 then _ else _)=thn (if n.1<0 then _ else _) _;by_cases h0:n.1<0
   ·rw[if_pos h0,if_pos h0];rfl
   ·rw[if_neg h0,if_neg h0];rfl
 ·rw[if_neg h,if_neg h]
def dirR (L:List Tok):RH Dr:=if psW L 0 0 8 wOption=true then thn (tkw L 1 5) fun n a=>thn (tkw L a 5) fun x a=>.inr (.opt n x,a) else thn (dayR L 0) fun d a=>thn (tkwK L [8,10] a) fun w a=>mapR (Dr.day d) (rest15 L (0,0,0) (bs9 w) a)
theorem hd_eq (L:List Tok):hd L=fin15 L (dirR L):=by
 unfold hd dirR;cases h0:L[0]? with
 | none=>
  have h1:psW L 0 0 8 wOption=false:=by unfold psW knd;rw[h0];rfl
  have h2:dayR L 0=.inl (2,0):=by unfold dayR tkw;rw[h0];rfl
  rw[h1,if_neg (by decide),h2];rfl
 | some t=>
  have h1:psW L 0 0 8 wOption=(decide (t.1=8)&&decide (bs9 t.2=wOption)):=by unfold psW knd;rw[h0];rfl
  dsimp only
  by_cases h8:t.1=8∧bs9 t.2=wOption
  ·rw[if_pos h8,if_pos (by rw[h1,decide_eq_true h8.1,decide_eq_true h8.2];rfl)]
  ·have hz:¬(psW L 0 0 8 wOption=true):=by rw[h1];intro q;rw[Bool.and_eq_true,decide_eq_true_iff,decide_eq_true_iff] at q;exact h8 q
   rw[if_neg h8,if_neg hz];by_cases h3:t.1=1
   ·rw[if_pos h3]
    by_cases hp:Dat.prOk t.2=true
    ·rw[if_pos hp]
     have h2:dayR L 0=.inr (pday t.2,1):=by unfold dayR;rw[tkw_some h0 h3];exact if_pos hp
     rw[h2];show _=fin15 L (thn (tkwK L [8,10] 1) fun w a=>mapR (Dr.day (pday t.2)) (rest15 L (0,0,0) (bs9 w) a));unfold tkwK;cases hu:L[1]? with
     | none=>rfl
     | some u=>
      have e:([8,10]:List Int).any (fun k=>decide (u.1=k))=(decide (u.1=8) || (decide (u.1=10) || false)):=rfl;dsimp only
      by_cases hk:u.1=8∨u.1=10
      ·rw[if_pos hk,if_pos (by rw[e];rcases hk with hk|hk<;>rw[hk]<;>rfl),rest_day];rfl
      ·rw[if_neg hk,if_neg (by rw[e,decide_eq_false (fun q=>hk (.inl q)),decide_eq_false (fun q=>hk (.inr q))];decide)];rfl
    ·rw[if_neg hp]
     have h2:dayR L 0=.inl (3,0):=by unfold dayR;rw[tkw_some h0 h3];exact if_neg hp
     rw[h2];rfl
   ·rw[if_neg h3]
    have h2:dayR L 0=.inl (3,0):=by unfold dayR tkw;rw[h0];show thn (if t.1=1 then _ else _) _=_;rw[if_neg h3];rfl
    rw[h2];rfl
theorem rTxt_none {L:List Tok}{a:Nat}(h:knd L a 5=false):rTxt L a=((⟨#[]⟩,⟨#[]⟩),a):=by
 unfold rTxt;unfold knd at h;cases ht:L[a]? with
 | none=>rfl
 | some t=>rw[ht] at h;dsimp only;exact if_neg (of_decide_eq_false h)
theorem rTxt_one {L:List Tok}{a:Nat}{t:Tok}(ht:L[a]?=some t) (h5:t.1=5) (h:knd L (a+1) 5=false):rTxt L a=((⟨#[]⟩,t.2),a+1):=by
 unfold rTxt;unfold knd at h;rw[ht];dsimp only;rw[if_pos h5];cases hu:L[a+1]? with
 | none=>rfl
 | some u=>rw[hu] at h;dsimp only;exact if_neg (of_decide_eq_false h)
theorem rTxt_two {L:List Tok}{a:Nat}{t u:Tok}(ht:L[a]?=some t) (h5:t.1=5) (hu:L[a+1]?=some u) (h6:u.1=5):rTxt L a=((t.2,u.2),a+2):=by
 unfold rTxt;rw[ht];dsimp only;rw[if_pos h5,hu];dsimp only;rw[if_pos h6]
theorem curL_stop {L:List Tok}{f a:Nat}(h:isW L a [44]=false):curL L f a=.inr ([],a):=by
 cases f with
 | zero=>rfl
 | succ f=>unfold curL;rw[if_neg (by rw[h];decide)]
theorem curL_go {L:List Tok}{f a:Nat}(h:isW L a [44]=true):curL L (f+1) a=thn (tkw L (a+1) 3) fun x b=>thn (curL L f b) fun xs c=>.inr (x::xs,c):=by
 rw[curL,if_pos h]
theorem thn_thn {α β γ:Type}(r:RH α) (f:α→Nat→RH β) (g:β→Nat→RH γ):thn (thn r f) g=thn r fun x b=>thn (f x b) g:=by
 rcases r with e|⟨x,b⟩<;>rfl
def curAcc (L:List Tok) (f:Nat) (acc:List ByteArray) (a:Nat):RH (List ByteArray):=thn (curL L f a) fun xs c=>.inr (acc++xs,c)
theorem curAcc_stop {L:List Tok}{f a:Nat}{acc:List ByteArray}(h:isW L a [44]=false):curAcc L f acc a=.inr (acc,a):=by
 unfold curAcc;rw[curL_stop h];show Sum.inr (acc++[],a)=_;rw[List.append_nil]
theorem curAcc_go {L:List Tok}{f a:Nat}{acc:List ByteArray}(h:isW L a [44]=true):curAcc L (f+1) acc a=thn (tkw L (a+1) 3) fun x b=>curAcc L f (acc++[x]) b:=by
 unfold curAcc;rw[curL_go h,thn_thn];congr 1;funext x b
 rw[thn_thn];congr 1;funext xs c
 show Sum.inr (acc++x::xs,c)=_;rw[List.append_assoc];rfl
theorem curR_acc (L:List Tok) (a:Nat):curR L a=thn (tkw L a 3) fun x b=>curAcc L L.length [x] b:=rfl
end Go.Proofs.YthpmaoimceojgaaGreatDoor.Num
