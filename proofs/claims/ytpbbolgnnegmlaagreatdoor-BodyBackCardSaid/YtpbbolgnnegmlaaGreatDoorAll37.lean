/- Lemmas of the proof: ExpN, ExpV, AmoMath, ExpO, ExpT, ExpU, ExpW, ExpX, ExpY, ExpZ. -/
import Derived.Test.YtpbbolgnnegmlaaGreatDoorAll34
import Derived.Test.YtpbbolgnnegmlaaGreatDoorAll36
import Derived.Test.YtpbbolgnnegmlaaGreatDoorAll29
set_option linter.unusedVariables false
set_option linter.unusedSimpArgs false
set_option maxRecDepth 100000
set_option maxHeartbeats 32000000
open Go.Lib renaming hid→Jh
namespace Go.Proofs.YtpbbolgnnegmlaaGreatDoor.Num
open Go.RowKit
def tks(no:Int)(ts:List Wd):List Tk4:=ts.map fun t=>((t.1:Int),st9 t.2.1,no,(t.2.2:Int))
theorem rowK_tks(no:Int):∀ts:List Wd,rowK (tks no ts)=rowT no ts
 | []=>rfl
 | t::ts=>by
  show rowK (((t.1:Int),st9 t.2.1,no,(t.2.2:Int))::tks no ts)=_;rw[rowK,rowK_tks no ts,rowT]
theorem rdK_of{w:World}{A:Option Addr}{n c:Nat}{no:Int}{ts:List Wd}(h:RdT w A n c no ts):RdK w w.heap.size A n c (tks no ts):=by
 obtain⟨h1,h2,h3,h4⟩:=h;refine⟨by rw[h1];unfold tks;rw[List.length_map],h2,h3,?_⟩;rcases h4 with rfl|⟨b,o,h4,h5,h6⟩
 ·exact .inl rfl
 ·exact .inr ⟨b,o,h4,h5,by rw[rowK_tks];exact h6⟩
def tk(u:Nat×List Nat):Tok:=((u.1:Int),st9 u.2)
theorem tks_tk(no:Int){ts:List Wd}{us:List (Nat×List Nat)}(h:ts.map (fun t=>(t.1,t.2.1))=us):(tks no ts).map tok=us.map tk:=by
 rw[← h];unfold tks;rw[List.map_map,List.map_map];rfl
section
variable {L X Y Q:List Tok}{x:Tok}{a b d c:Nat}
theorem dr_one(h:L.drop a=x::Y):L.drop (a+1)=Y:=by rw[← List.drop_drop,h];rfl
theorem dr_app(h:L.drop a=X++Y)(hb:X.length=b):L.drop (a+b)=Y:=by rw[← List.drop_drop,h,← hb,List.drop_left]
theorem dr_get(h:L.drop a=x::Y):L[a]?=some x:=by
 have:=congrArg (fun l=>l[0]?) h;rw[List.getElem?_drop] at this;simpa using this
theorem dr_is(h:L.drop a=x::Y):isAt L a c=isg x c:=by unfold isAt;rw[dr_get h];rfl
end
theorem isg_tk(x c:Nat)(hx:x<256):isg (tk (10,[x])) c=decide (x=c):=by
 unfold isg tk;have:bs9 (st9 [x])=[x]:=bs9_st9 (by intro y hy;rw[List.mem_singleton] at hy;omega);rw[this];by_cases h:x=c
 ·subst h;simp
 ·rw[decide_eq_false h]
  show(decide _&&decide ([x]=[c]))=false;rw[decide_eq_false (p:=[x]=[c]) (by intro e;exact h (List.cons.inj e).1),Bool.and_false]
theorem bod_lt(a s:Nat):∀c∈bod a s,c<256:=fun c hc=>app_lt (txt_bytes _) (beh_lt _ _) c hc
theorem numV_bod(a s:Nat):numV (st9 (bod a s))=some ((a:Int),s):=by
 obtain⟨h1,h2,h3,h4,h5⟩:=told (i:=(a:Int)) (s:=s) (x:=txt (a/10^s)) (.inl rfl);have e0:sgT (a:Int)=[]:=by unfold sgT;rw[if_neg (by omega)]
 have ec:codes (st9 (bod a s))=bod a s:=bs9_st9 (bod_lt a s);rw[e0,List.nil_append,Int.natAbs_natCast] at h1 h2 h4;rw[Int.natAbs_natCast] at h3 h5;unfold numV;rw[ec];have e1:rst (bod a s)=bod a s:=h1;rw[if_pos ⟨h2,by rw[e1];exact h3⟩,e1];exact congrArg some (Prod.ext h4 h5)
theorem tT_len(i:Int)(s:Nat):((tT i s).map tk).length=if i<0 then 2 else 1:=by
 unfold tT;split<;>rfl
section
variable {L Q:List Tok}{a d:Nat}
theorem fac_val{i:Int}{s:Nat}(h:L.drop a=(tT i s).map tk++Q)(hd:d<64):FAC L d a=.inr (i,s,a+((tT i s).map tk).length):=by
 rw[tT_len];unfold tT at h;by_cases hi:i<0
 ·rw[if_pos hi] at h ⊢
  have h0:L.drop a=tk (10,[45])::(tk (4,bod i.natAbs s)::Q):=h;have h1:L.drop (a+1)=tk (4,bod i.natAbs s)::Q:=dr_one h0;have hst:sta (tk (10,[45]))=true:=by
   unfold sta;rw[isg_tk 45 45 (by decide)];simp
  rw[FAC_sign (dr_get h0) (by decide) hst hd (by rw[isg_tk 45 40 (by decide)];rfl),FAC_num (dr_get h1) rfl];have e:numV (tk (4,bod i.natAbs s)).2=some ((i.natAbs:Int),s):=numV_bod _ _;rw[e,isg_tk 45 45 (by decide)];show(Sum.inr (if decide (45=45)=true then -(i.natAbs:Int) else (i.natAbs:Int),s,a+1+1):Rs)=_;rw[if_pos (by decide)];have : -(i.natAbs:Int)=i:=by omega
  rw[this]
 ·rw[if_neg hi] at h ⊢
  have h0:L.drop a=tk (4,bod i.natAbs s)::Q:=h;rw[FAC_num (dr_get h0) rfl];have e:numV (tk (4,bod i.natAbs s)).2=some ((i.natAbs:Int),s):=numV_bod _ _;rw[e];have:(i.natAbs:Int)=i:=by omega
  dsimp only
  rw[this]
end
def isW(L:List Tok)(a:Nat)(x:List Nat):Bool:=(L[a]?).any fun t=>decide (t.1=10)&&decide (bs9 t.2=x)
def shr(L:List Tok)(a:Nat):Nat:=if a<L.length then 3 else 2
abbrev RA:=(Nat×Nat)⊕(Int×Nat×ByteArray×Nat)
def amt(L:List Tok)(a:Nat):RA:=match SUM L 0 a with
 | .inl e=>.inl e
 | .inr (i,k,b)=>match L[b]? with
  | none=>.inl (2,b)
  | some t=>if t.1=3 then .inr (i,k,t.2,b+1) else .inl (3,b)
structure Un where
 has:Bool
 i:Int
 k:Nat
 cur:ByteArray
def Un.zero:Un:=⟨false,0,0,⟨#[]⟩⟩
def unt(L:List Tok)(a:Nat):(Nat×Nat)⊕(Un×Nat):=match L[a]? with
 | none=>.inr (Un.zero,a)
 | some t=>if t.1=3 then .inr (⟨false,0,0,t.2⟩,a+1) else if sta t=false then .inr (Un.zero,a) else match amt L a with
  | .inl e=>.inl e
  | .inr (i,k,c,b)=>.inr (⟨true,i,k,c⟩,b)
structure Co where
 tot:Bool
 un:Un
 day:Int×Int×Int
 lab:ByteArray
def Co.start(m:Bool):Co:=⟨m,Un.zero,(0,0,0),⟨#[]⟩⟩
def pday(s:ByteArray):Int×Int×Int:=if Dat.prOk s=true then (Dat.prY s,Dat.prM s,Dat.prD s) else (0,0,0)
def itm(L:List Tok)(c:Co)(a:Nat):(Nat×Nat)⊕(Co×Nat):=match L[a]? with
 | none=>.inl (2,a)
 | some t=>
  if t.1=1∧c.day=(0,0,0) then .inr (⟨c.tot,c.un,pday t.2,c.lab⟩,a+1)
  else if t.1=5∧bs9 c.lab=[]∧bs9 t.2≠[] then .inr (⟨c.tot,c.un,c.day,t.2⟩,a+1)
  else if t.1=3∧bs9 c.un.cur=[] then .inr (⟨c.tot,⟨c.un.has,c.un.i,c.un.k,t.2⟩,c.day,c.lab⟩,a+1)
  else if sta t=true∧bs9 c.un.cur=[] then (match amt L a with
   | .inl e=>.inl e
   | .inr (i,k,x,b)=>.inr (⟨c.tot,⟨true,i,k,x⟩,c.day,c.lab⟩,b))
  else .inl (3,a)
def shutC(m:Bool):List Nat:=if m=true then [125,125] else [125]
def opnC(m:Bool):List Nat:=if m=true then [123,123] else [123]
def cstL(L:List Tok):Nat→Co→Nat→(Nat×Nat)⊕(Co×Nat)
 | 0,_,a=>.inl (2,a)
 | f+1,c,a=>match itm L c a with
  | .inl e=>.inl e
  | .inr (c',b)=>if isW L b (shutC c'.tot)=true then .inr (c',b+1) else if isW L b [44]=true then cstL L f c' (b+1) else .inl (shr L b,b)
def cstB(L:List Tok)(m:Bool)(a:Nat):(Nat×Nat)⊕(Co×Nat):=if isW L a (shutC m)=true then .inr (Co.start m,a+1) else cstL L (L.length+1) (Co.start m) a
def cst(L:List Tok)(a:Nat):(Nat×Nat)⊕(Option Co×Nat):=
 if isW L a [123,123]=true∨isW L a [123]=true then (match cstB L (isW L a [123,123]) (a+1) with
  | .inl e=>.inl e
  | .inr (c,b)=>.inr (some c,b))
 else .inr (none,a)
def prc(L:List Tok)(a:Nat):(Nat×Nat)⊕(Option (Bool×Un)×Nat):=
 if isW L a [64,64]=true∨isW L a [64]=true then (match unt L (a+1) with
  | .inl e=>.inl e
  | .inr (u,b)=>.inr (some (isW L a [64,64],u),b))
 else .inr (none,a)
def amtT(i:Int)(k:Nat)(c:List Nat):List Nat:=txtD i k++32::c
def untT(u:Un):List Nat:=if u.has=true then amtT u.i u.k (bs9 u.cur) else bs9 u.cur
def dayT(d:Int×Int×Int):List Nat:=bs9 (Dat.text8 d.1 d.2.1 d.2.2)
def prtT(c:Co):List (List Nat):=(if c.un.has=true∨bs9 c.un.cur≠[] then [untT c.un] else [])++((if dayT c.day≠[] then [dayT c.day] else [])++(if bs9 c.lab≠[] then [qt (bs9 c.lab)] else []))
def jnT:List (List Nat)→List Nat
 | []=>[]
 | [x]=>x
 | x::y::r=>x++44::32::jnT (y::r)
def cstT(c:Co):List Nat:=opnC c.tot++(jnT (prtT c)++shutC c.tot)
def prcT(p:Bool×Un):List Nat:=(if p.1=true then [64,64] else [64])++(if untT p.2≠[] then 32::untT p.2 else [])
def PrpL(L:List Tok):Prop:=∀t∈L,Prp t.1.toNat (bs9 t.2)
def Un.ok(u:Un):Prop:=(u.has=false∧u.i=0∧u.k=0∧bs9 u.cur=[])∨(u.has=false∧u.i=0∧u.k=0∧CurW (bs9 u.cur))∨(u.has=true∧CurW (bs9 u.cur))
def Co.ok(c:Co):Prop:=c.un.ok∧(c.day=(0,0,0)∨Dat.ok8 c.day.1 c.day.2.1 c.day.2.2=true)
theorem CurW.ne{y:List Nat}(h:CurW y):y≠[]:=by obtain⟨⟨c,u,rfl,-⟩,-⟩:=h;intro e;cases e
theorem zero_ok:Un.zero.ok:=.inl ⟨rfl,rfl,rfl,rfl⟩
section
variable {L:List Tok}(hL:PrpL L) {a b k:Nat}{i:Int}{x:ByteArray}{u:Un}{c c':Co}{m:Bool}
include hL
theorem prp_cur{t:Tok}(h:L[a]?=some t)(h3:t.1=3):CurW (bs9 t.2):=by
 have:=hL t (List.mem_of_getElem? h);rw[h3] at this;exact this.cur
theorem prp_day{t:Tok}(h:L[a]?=some t)(h3:t.1=1):Dat.prOk t.2=true:=by
 have:=hL t (List.mem_of_getElem? h);rw[h3] at this;have h:=this.day;rw[d12_is] at h;exact h
theorem amt_ok(h:amt L a=.inr (i,k,x,b)):CurW (bs9 x):=by
 unfold amt at h;split at h
 ·cases h
 ·split at h
  ·cases h
  ·rename_i ht
   split at h
   ·rename_i h3
    cases h
    exact prp_cur hL ht h3
   ·cases h
theorem unt_ok(h:unt L a=.inr (u,b)):u.ok:=by
 unfold unt at h;split at h
 ·cases h;exact zero_ok
 ·rename_i ht
  split at h
  ·rename_i h3
   cases h
   exact .inr (.inl ⟨rfl,rfl,rfl,prp_cur hL ht h3⟩)
  ·split at h
   ·cases h;exact zero_ok
   ·split at h
    ·cases h
    ·rename_i ha
     cases h
     exact .inr (.inr ⟨rfl,amt_ok hL ha⟩)
theorem itm_ok(hc:c.ok)(h:itm L c a=.inr (c',b)):c'.ok∧c'.tot=c.tot:=by
 unfold itm at h;split at h
 ·cases h
 ·rename_i t ht
  split at h
  ·rename_i h1
   cases h
   refine⟨⟨hc.1,.inr ?_⟩,rfl⟩;have h2:=prp_day hL ht h1.1;show Dat.ok8 (pday t.2).1 (pday t.2).2.1 (pday t.2).2.2=true;unfold pday;rw[if_pos h2];unfold Dat.prOk at h2;rw[Bool.and_eq_true] at h2;exact h2.2
  ·split at h
   ·cases h;exact⟨⟨hc.1,hc.2⟩,rfl⟩
   ·split at h
    ·rename_i h3
     cases h
     refine⟨⟨?_,hc.2⟩,rfl⟩;rcases hc.1 with⟨g1,g2,g3,-⟩|⟨-,-,-,g4⟩|⟨-,g4⟩
     ·exact .inr (.inl ⟨g1,g2,g3,prp_cur hL ht h3.1⟩)
     ·exact absurd h3.2 (CurW.ne g4)
     ·exact absurd h3.2 (CurW.ne g4)
    ·split at h
     ·split at h
      ·cases h
      ·rename_i ha
       cases h
       exact⟨⟨.inr (.inr ⟨rfl,amt_ok hL ha⟩),hc.2⟩,rfl⟩
     ·cases h
theorem cstL_ok:∀(f:Nat) {c:Co}{a:Nat},c.ok→cstL L f c a=.inr (c',b)→c'.ok∧c'.tot=c.tot:=by
 intro f;induction f with
 | zero=>intro c a _ h;rw[cstL] at h;cases h
 | succ f ih=>
  intro c a hc h;rw[cstL] at h;split at h
  ·cases h
  ·rename_i hi
   obtain⟨g1,g2⟩:=itm_ok hL hc hi;split at h
   ·cases h;exact⟨g1,g2⟩
   ·split at h
    ·obtain⟨g3,g4⟩:=ih g1 h
     exact⟨g3,g4.trans g2⟩
    ·cases h
theorem cst_ok(h:cst L a=.inr (some c,b)):c.ok:=by
 unfold cst at h;split at h
 ·split at h
  ·cases h
  ·rename_i hb
   cases h
   unfold cstB at hb;split at hb
   ·cases hb;exact⟨zero_ok,.inl rfl⟩
   ·exact(cstL_ok hL _ ⟨zero_ok,.inl rfl⟩ hb).1
 ·cases h
theorem prc_ok(h:prc L a=.inr (some (m,u),b)):u.ok:=by
 unfold prc at h;split at h
 ·split at h
  ·cases h
  ·rename_i hb
   cases h
   exact unt_ok hL hb
 ·cases h
end
def quv(i:Int)(s:Nat)(j:Int)(t:Nat):Int×Nat×Nat:=if j=0 then (0,0,4) else (quoI i s j t,quoK i s j t,0)
def RetQ(w:World)(r:Int×Nat×Nat)(e:Ending)(w':World):Prop:=
 ∃(A:Option Addr) (n c:Nat),e=.returned (.tuple #[.agg #[.bool (ngB r.1),.slice A n c,.int .i64 (r.2.1:Int)],.int .i64 (r.2.2:Int)])∧Num w' w'.heap.size A n c r.1.natAbs∧Below w.heap.size w w'
def StP(w:World)(g:Nat)(A:Option Addr)(n c:Nat)(a d:Nat):Prop:=w.heap[g]?=some (.cells #[.slice A n c,.int .i64 (a:Int),.int .i64 (d:Int)] 170 (0,0))
section
variable {w w':World}{g n c a d:Nat}{A:Option Addr}
theorem StP.lt(h:StP w g A n c a d):g<w.heap.size:=by
 rcases Nat.lt_or_ge g w.heap.size with h1|h1
 ·exact h1
 ·unfold StP at h;rw[Array.getElem?_eq_none h1] at h;cases h
theorem StP.bx(h:StP w g A n c a d):Box w g (.slice A n c) (.int .i64 (a:Int)) (.int .i64 (d:Int)):=by
 have hc:=fun j=>cell_of_row w g j _ _ _ h
 have hf:∀j,w.frozen? ⟨g,j,none⟩=false:=fun j=>by
  have h2:w.heap[g]?=some (.cells #[.slice A n c,.int .i64 (a:Int),.int .i64 (d:Int)] 170 (0,0)):=h;simp[World.frozen?,h2]
 exact⟨hc 0,hc 1,hc 2,hf 0,hf 1,hf 2,h.lt⟩
theorem StP.set1(h:StP w g A n c a d)(x:Nat):StP (w.setCell ⟨g,1,none⟩ (.int .i64 (x:Int))) g A n c x d:=heap_setCell_same w g 1 _ _ _ h
theorem StP.set2(h:StP w g A n c a d)(x:Nat):StP (w.setCell ⟨g,2,none⟩ (.int .i64 (x:Int))) g A n c a x:=heap_setCell_same w g 2 _ _ _ h
theorem StP.on(h:StP w g A n c a d)(hb:Below w.heap.size w w'):StP w' g A n c a d:=(hb.block g h.lt).trans h
theorem StP.noLimb(h:StP w g A n c a d){j:Nat}{x:Nat}(hx:w.cell? ⟨g,j,none⟩=some (.int .u32 (x:Int))):False:=by
 rw[cell_of_row w g j _ _ _ h] at hx;rcases j with _|_|_|j
 ·cases hx
 ·cases hx
 ·cases hx
 ·simp at hx
theorem Lim.kpP{B m k:Nat}{A':Option Addr}{xs:List Nat}(h:Lim w B A' m k xs)(hs:StP w g A n c a d)(hB:B≤w.heap.size)(hk:Kp g none w w'):Lim w' B A' m k xs:=by
 refine⟨h.len,h.cap,h.room,h.fit,?_,h.addr⟩;rcases h.row with h' | ⟨b,o,rfl,hb,hc⟩
 ·exact .inl h'
 ·refine .inr ⟨b,o,rfl,hb,fun j u hu=>?_⟩
  have hj:=hc j u hu;by_cases hbg:b=g
  ·exfalso
   have:=List.mem_of_getElem? hu;unfold vals at this;obtain⟨x,_,rfl⟩:=List.mem_map.1 this;subst hbg;exact hs.noLimb hj
  ·exact(World.cell?_of_block (hk.block b (by omega) hbg (by simp))).trans hj
theorem MaxLen.kpP(h:MaxLen w)(hs:StP w g A n c a d)(hk:Kp g none w w'):MaxLen w':=by
 obtain⟨m,hm⟩:=h;have hlt:2<w.heap.size:=World.block_lt_of_cell? w _ hm;have hne:2≠g:=by
  rintro rfl;have h0:=hs.bx.c0;rw[hm] at h0;cases h0
 exact⟨m,(World.cell?_of_block (hk.block _ hlt hne (by simp))).trans hm⟩
end
structure Sgn (w:World) (q n c:Nat) (S:List ByteArray):Prop where
 len:n=S.length
 cap:n≤c
 room:c≤maxLen
 lt:q<w.heap.size
 row:∀(j:Nat) (s:ByteArray),S[j]?=some s→w.cell? ⟨q,j,none⟩=some (.string s)
section
variable {w w':World}{q n c g m k a d:Nat}{A:Option Addr}{S:List ByteArray}
theorem Sgn.on(h:Sgn w q n c S)(hb:Below w.heap.size w w'):Sgn w' q n c S:=
 ⟨h.len,h.cap,h.room,Nat.lt_of_lt_of_le h.lt hb.size,fun j s hs=>(hb.cell (p:=⟨q,j,none⟩) h.lt).trans (h.row j s hs)⟩
theorem Sgn.kp(h:Sgn w q n c S)(hk:Kp g none w w')(hg:q≠g):Sgn w' q n c S:=
 ⟨h.len,h.cap,h.room,Nat.lt_of_lt_of_le h.lt hk.size,fun j s hs=>(World.cell?_of_block (hk.block q h.lt hg (by simp))).trans (h.row j s hs)⟩
end
abbrev TBx(w:World)(g:Nat)(t:Tk4):Prop:=Bx4 w g (.int .i64 t.1) (.string t.2.1) (.int .i64 t.2.2.1) (.int .i64 t.2.2.2)
structure SY (w0 w:World) (g B:Nat) (A:Option Addr) (n c:Nat) (L:List Tk4) (a d:Nat) (l:List (Option Addr×Nat×Nat×Nat)) (bs:List (Nat×Value×Value×Value)) (ts:List (Nat×Tk4)):Prop where
 kp:Kp g none w0 w
 st:StP w g A n c a d
 rd:RdK w B A n c L
 mx:MaxLen w
 pl:B≤g∧g<w0.heap.size
 num:∀q∈l,Num w w.heap.size q.1 q.2.1 q.2.2.1 q.2.2.2
 box:∀q∈bs,Box w q.1 q.2.1 q.2.2.1 q.2.2.2∧w0.heap.size≤q.1
 tbx:∀q∈ts,TBx w q.1 q.2∧w0.heap.size≤q.1
section
variable {w0 w w':World}{g B n c a d a' d':Nat}{A:Option Addr}{L:List Tk4}{l:List (Option Addr×Nat×Nat×Nat)}{bs:List (Nat×Value×Value×Value)}{ts:List (Nat×Tk4)}
theorem SY.start(hs:StP w g A n c a d)(hr:RdK w B A n c L)(hm:MaxLen w)(hp:B≤g):SY w w g B A n c L a d [] [] []:=
 ⟨Kp.refl _ _ _,hs,hr,hm,⟨hp,hs.lt⟩,(fun q hq=>by cases hq),(fun q hq=>by cases hq),(fun q hq=>by cases hq)⟩
theorem SY.step(h:SY w0 w g B A n c L a d l bs ts)(hb:Below w.heap.size w w'):SY w0 w' g B A n c L a d l bs ts:=
 ⟨kp_trans h.kp (kp_of hb (Nat.le_refl _)),h.st.on hb,h.rd.on (by have:=h.pl;have:=h.st.lt;omega) hb,h.mx.on hb,h.pl,fun q hq=>(h.num q hq).on hb,fun q hq=>⟨(h.box q hq).1.on hb,(h.box q hq).2⟩,fun q hq=>⟨(h.tbx q hq).1.on hb,(h.tbx q hq).2⟩⟩
theorem SY.call(h:SY w0 w g B A n c L a d l bs ts)(hk:Kp g none w w')(hs:StP w' g A n c a' d'):SY w0 w' g B A n c L a' d' l bs ts:=
 ⟨kp_trans h.kp hk,hs,h.rd.kp h.pl.1 (by have:=h.pl;have:=h.st.lt;omega) hk,h.mx.kpP h.st hk,h.pl,fun q hq=>(Lim.kpP (h.num q hq) h.st (Nat.le_refl _) hk).more hk.size,fun q hq=>⟨(h.box q hq).1.kp hk (by have:=h.pl;have:=(h.box q hq).2;omega),(h.box q hq).2⟩,fun q hq=>⟨(h.tbx q hq).1.kp hk (by have:=h.pl;have:=(h.tbx q hq).2;omega) (by simp),(h.tbx q hq).2⟩⟩
theorem SY.set1(h:SY w0 w g B A n c L a d l bs ts)(x:Nat):SY w0 (w.setCell ⟨g,1,none⟩ (.int .i64 (x:Int))) g B A n c L x d l bs ts:=h.call (kp_set _ _ _ _) (h.st.set1 x)
theorem SY.set2(h:SY w0 w g B A n c L a d l bs ts)(x:Nat):SY w0 (w.setCell ⟨g,2,none⟩ (.int .i64 (x:Int))) g B A n c L a x l bs ts:=h.call (kp_set _ _ _ _) (h.st.set2 x)
theorem SY.push(h:SY w0 w g B A n c L a d l bs ts){A1:Option Addr}{n1 c1 x:Nat}(hn:Num w w.heap.size A1 n1 c1 x):SY w0 w g B A n c L a d ((A1,n1,c1,x)::l) bs ts:=
 ⟨h.kp,h.st,h.rd,h.mx,h.pl,fun q hq=>by
  rcases List.mem_cons.1 hq with rfl|hq
  ·exact hn
  ·exact h.num q hq,h.box,h.tbx⟩
theorem SY.alloc(h:SY w0 w g B A n c L a d l bs ts)(o:Obj):SY w0 (w.alloc o) g B A n c L a d l bs ts:=h.step ((Below.refl _ _).alloc (Nat.le_refl _) o)
theorem SY.lay{x0 x1 x2:Value}{t:TypeId}{g1:Nat}(h:SY w0 w g B A n c L a d l bs ts)(hg:g1=w.heap.size):SY w0 (w.alloc (.cells #[x0,x1,x2] t)) g B A n c L a d l ((g1,x0,x1,x2)::bs) ts:=by
 have h2:=h.alloc (.cells #[x0,x1,x2] t);refine⟨h2.kp,h2.st,h2.rd,h2.mx,h2.pl,h2.num,fun q hq=>?_,h2.tbx⟩;rcases List.mem_cons.1 hq with rfl|hq
 ·exact⟨Box.newAt w x0 x1 x2 t hg,by have:=h.kp.size;show _≤g1;omega⟩
 ·exact h2.box q hq
theorem SY.word{t:TypeId}{g1:Nat}(h:SY w0 w g B A n c L a d l bs ts)(k:Int)(T:ByteArray)(p q:Int)(hg:g1=w.heap.size):SY w0 (w.alloc (.cells #[.int .i64 k,.string T,.int .i64 p,.int .i64 q] t)) g B A n c L a d l bs ((g1,k,T,p,q)::ts):=by
 have h2:=h.alloc (.cells #[.int .i64 k,.string T,.int .i64 p,.int .i64 q] t);refine⟨h2.kp,h2.st,h2.rd,h2.mx,h2.pl,h2.num,h2.box,fun r hr=>?_⟩;rcases List.mem_cons.1 hr with rfl|hr
 ·exact⟨Bx4.newAt w _ _ _ _ t hg,by have:=h.kp.size;show _≤g1;omega⟩
 ·exact h2.tbx r hr
theorem SY.got{A1:Option Addr}{n1 c1 x:Nat}(h:Hid (SY w0 w g B A n c L a d l bs ts))(hm:(A1,n1,c1,x)∈l):Num w w.heap.size A1 n1 c1 x:=h.out.num _ hm
theorem SY.at_{x0 x1 x2:Value}{g1:Nat}(h:Hid (SY w0 w g B A n c L a d l bs ts))(hm:(g1,x0,x1,x2)∈bs):Box w g1 x0 x1 x2:=(h.out.box _ hm).1
theorem SY.wat{k p q:Int}{T:ByteArray}{g1:Nat}(h:Hid (SY w0 w g B A n c L a d l bs ts))(hm:(g1,k,T,p,q)∈ts):Bx4 w g1 (.int .i64 k) (.string T) (.int .i64 p) (.int .i64 q):=(h.out.tbx _ hm).1
theorem SY.facts(h:Hid (SY w0 w g B A n c L a d l bs ts)):Box w g (.slice A n c) (.int .i64 (a:Int)) (.int .i64 (d:Int)):=h.out.st.bx
theorem SY.put{g1:Nat}{b:Bool}{A1:Option Addr}{n1 c1:Nat}{k1:Int}(h:SY w0 w g B A n c L a d l bs ts)(hm:(g1,.bool b,.slice A1 n1 c1,.int .i64 k1)∈bs)(bs':List (Nat×Value×Value×Value))(hs:∀q∈bs',q∈bs∧g1≠q.1)(y0 y1 y2:Value) :
  SY w0 (put3 w g1 y0 y1 y2) g B A n c L a d l ((g1,y0,y1,y2)::bs') ts:=by
 have X:=h.box _ hm;have hg:g≠g1:=by have:=h.pl;have:=X.2;dsimp only at this;omega
 have hblk:∀k,k≠g1→(put3 w g1 y0 y1 y2).heap[k]?=w.heap[k]?:=fun k hk=>by
  unfold put3;rw[heap_setCell_other _ ⟨g1,2,none⟩ k _ hk,heap_setCell_other _ ⟨g1,1,none⟩ k _ hk,heap_setCell_other _ ⟨g1,0,none⟩ k _ hk]
 have hsz:(put3 w g1 y0 y1 y2).heap.size=w.heap.size:=by simp
 have hmx:MaxLen (put3 w g1 y0 y1 y2):=by
  obtain⟨m,hmx⟩:=h.mx;refine⟨m,(World.cell?_of_block (hblk _ ?_)).trans hmx⟩;rintro rfl;have h0:=X.1.c0;rw[hmx] at h0;cases h0
 refine⟨⟨h.kp.os,h.kp.tape,h.kp.output,by rw[hsz];exact h.kp.size,fun k hk hc hr=>?_⟩,(hblk g hg).trans h.st,⟨h.rd.len,h.rd.cap,h.rd.room,h.rd.row.keep fun p hp=>World.cell?_of_block (hblk p.block (by have:=h.pl;have:=X.2;dsimp only at this;omega))⟩,hmx,h.pl,fun q hq=>?_,fun q hq=>?_,fun q hq=>?_⟩
 ·rw[hblk k (by have:=X.2;dsimp only at this;omega)];exact h.kp.block k hk hc hr
 ·have:=(h.num q hq).put3 X.1 (noLimb_bool _) (noLimb_slice _ _ _) (noLimb_int _) y0 y1 y2
  rw[hsz];exact this
 ·rcases List.mem_cons.1 hq with rfl|hq
  ·exact⟨X.1.put y0 y1 y2,X.2⟩
  ·exact⟨(h.box q (hs q hq).1).1.apart y0 y1 y2 (hs q hq).2,(h.box q (hs q hq).1).2⟩
 ·have T:=h.tbx q hq
  have hne:q.1≠g1:=fun e=>by
   have h0:=X.1.c0;have h1:=T.1.c0;rw[e] at h1;dsimp only at h0
   rw[h0] at h1;cases h1
  obtain⟨c0,c1,c2,c3,f0,f1,f2,f3,lt⟩:=T.1;have hb:=hblk q.1 hne;have hcell:∀j,(put3 w g1 y0 y1 y2).cell? ⟨q.1,j,none⟩=w.cell? ⟨q.1,j,none⟩:=fun j=>World.cell?_of_block hb
  have hfr:∀j,(put3 w g1 y0 y1 y2).frozen? ⟨q.1,j,none⟩=w.frozen? ⟨q.1,j,none⟩:=fun j=>World.frozen?_of_block hb
  exact⟨⟨(hcell 0).trans c0,(hcell 1).trans c1,(hcell 2).trans c2,(hcell 3).trans c3,(hfr 0).trans f0,(hfr 1).trans f1,(hfr 2).trans f2,(hfr 3).trans f3,by rw[hsz];exact lt⟩,T.2⟩
theorem SY.sub{l':List (Option Addr×Nat×Nat×Nat)}{bs':List (Nat×Value×Value×Value)}{ts':List (Nat×Tk4)}(h:SY w0 w g B A n c L a d l bs ts)(hl:∀q∈l',q∈l)(hs:∀q∈bs',q∈bs)(ht:∀q∈ts',q∈ts):SY w0 w g B A n c L a d l' bs' ts':=
 ⟨h.kp,h.st,h.rd,h.mx,h.pl,fun q hq=>h.num q (hl q hq),fun q hq=>h.box q (hs q hq),fun q hq=>h.tbx q (ht q hq)⟩
theorem SY.az{g1:Nat}(h:Hid (SY w0 w g B A n c L a d l bs ts))(hm:(g1,.bool false,.slice none 0 0,.int .i64 0)∈bs):Box w g1 (.bool false) (.slice none 0 0) (.int .i64 0):=SY.at_ h hm
theorem SY.ad{g1:Nat}(x:Int)(A1:Option Addr)(n1 c1:Nat)(k:Int)(h:Hid (SY w0 w g B A n c L a d l bs ts))(hm:(g1,.bool (ngB x),.slice A1 n1 c1,.int .i64 k)∈bs):Box w g1 (.bool (ngB x)) (.slice A1 n1 c1) (.int .i64 k):=SY.at_ h hm
theorem SY.pz{g1:Nat}(h:SY w0 w g B A n c L a d l bs ts)(hm:(g1,.bool false,.slice none 0 0,.int .i64 0)∈bs)(y0 y1 y2:Value):SY w0 (put3 w g1 y0 y1 y2) g B A n c L a d l [(g1,y0,y1,y2)] ts:=SY.put h hm [] (fun q hq=>by cases hq) y0 y1 y2
end
theorem tok_put{w W:World}{x0 x1 x2 x3:Value}(h:Below w.heap.size w W)(X:Bx4 W w.heap.size x0 x1 x2 x3)(y0 y1 y2 y3:Value) :
  Rbx w ((((W.setCell ⟨w.heap.size,0,none⟩ y0).setCell ⟨w.heap.size,1,none⟩ y1).setCell ⟨w.heap.size,2,none⟩ y2).setCell ⟨w.heap.size,3,none⟩ y3) y0 y1 y2 y3:=
 ⟨(((h.setCell (Nat.le_refl _) y0).setCell (Nat.le_refl _) y1).setCell (Nat.le_refl _) y2).setCell (Nat.le_refl _) y3,(((X.set0 y0).set1 y1).set2 y2).set3 y3⟩
theorem pnext_end{w:World}{g n c i d:Nat}{A:Option Addr}(hs:StP w g A n c i d)(hi:i=n):Calls Tryz.prog 135 #[.pointer (some ⟨g,0,none⟩)] w (Ret9 w (.tuple #[.agg #[.int .i64 0,.string ⟨#[]⟩,.int .i64 0,.int .i64 0],.bool false])):=by
 have X:Hid (Bx4 (w.alloc (.cells #[.int .i64 0,.string ⟨#[]⟩,.int .i64 0,.int .i64 0] 65)) w.heap.size (.int .i64 0) (.string ⟨#[]⟩) (.int .i64 0) (.int .i64 0)):=Bx4.newAt _ _ _ _ _ _ rfl;have hb:Below w.heap.size w (w.alloc (.cells #[.int .i64 0,.string ⟨#[]⟩,.int .i64 0,.int .i64 0] 65)):=(Below.refl _ _).alloc (Nat.le_refl _) _;have E:=Jh hb;have HS:=Jh (hs.on hb);have hg:=hs.lt;have d1:((i:Int) == (n:Int))=true:=by rw[beq_iff_eq];omega
 clear hs hb;go_enter Tryz.func135,Tryz.ntmps135;go_wp2_with fail;generalize hW:World.alloc w _=W1 at E HS X ⊢;clear hW;obtain⟨p0,p1,p2,pf0,pf1,pf2,plt⟩:=HS.out.bx;go_quiet (fail)
 have hb:=below_drewN (Below.refl W1.heap.size W1) nq;replace X:=Jh (X.out.on hb);replace E:=Jh (E.out.trans (hb.mono E.out.size));replace HS:=Jh (HS.out.on hb);clear hb p0 p1 p2 pf0 pf1 pf2 plt;generalize hW:World.drewN W1 _=W2 at E HS X ⊢;clear hW;have Y:Hid (Bx4 (W2.alloc (.cells #[.int .i64 0,.string ⟨#[]⟩,.int .i64 0,.int .i64 0] 65)) W2.heap.size (.int .i64 0) (.string ⟨#[]⟩) (.int .i64 0) (.int .i64 0)):=Bx4.newAt _ _ _ _ _ _ rfl;replace X:=Jh (X.out.on ((Below.refl _ _).alloc (Nat.le_refl _) (.cells #[.int .i64 0,.string ⟨#[]⟩,.int .i64 0,.int .i64 0] 65)));obtain⟨q0,q1,q2,q3,qf0,qf1,qf2,qf3,qlt⟩:=X.out;go_wp2_with fail;have R:=tok_put (E.out.alloc E.out.size (.cells #[.int .i64 0,.string ⟨#[]⟩,.int .i64 0,.int .i64 0] 65)) X.out (.int .i64 0) (.string ⟨#[]⟩) (.int .i64 0) (.int .i64 0);clear q0 q1 q2 q3 qf0 qf1 qf2 qf3 qlt;obtain⟨q0,q1,q2,q3,_,_,_,_,_⟩:=R.2;exact bodyPost_ret (v:=.tuple #[.agg #[.int .i64 0,.string ⟨#[]⟩,.int .i64 0,.int .i64 0],.bool false]) (by simp[results,Tryz.results135,go_sem,q0,q1,q2,q3]) rfl ⟨rfl,R.1⟩
theorem some_map_str{S:List ByteArray}{j:Nat}{s:ByteArray}(h:S[j]?=some s):(S.map Value.string)[j]?=some (.string s):=by rw[List.getElem?_map,h];rfl
theorem sgn_of{v:World}{q n:Nat}{S:List ByteArray}{vs:Array Value}{t:TypeId}(hq:v.heap[q]?=some (.cells vs t (0,0)))(hv:vs.toList=S.map Value.string)(hn:n=S.length)(hm:n≤1000):Sgn v q n n S:=by
 refine⟨hn,Nat.le_refl _,by unfold maxLen;omega,?_,fun j s hs=>?_⟩
 ·rcases Nat.lt_or_ge q v.heap.size with h1|h1
  ·exact h1
  ·rw[Array.getElem?_eq_none h1] at hq;cases hq
 ·rw[cell_of_row v q j _ _ _ hq]
  have:=some_map_str hs;rw[← hv,Array.getElem?_toList] at this;exact this
theorem sgn_one(v:World)(s1:ByteArray)(t:TypeId){q:Nat}(hq:q=v.heap.size):Sgn (v.alloc (.cells #[.string s1] t)) q 1 1 [s1]:=by subst hq;exact sgn_of (heap_alloc_new v _) rfl rfl (by omega)
theorem sgn_two(v:World)(s1 s2:ByteArray)(t:TypeId){q:Nat}(hq:q=v.heap.size):Sgn (v.alloc (.cells #[.string s1,.string s2] t)) q 2 2 [s1,s2]:=by subst hq;exact sgn_of (heap_alloc_new v _) rfl rfl (by omega)
theorem sgn_three(v:World)(s1 s2 s3:ByteArray)(t:TypeId){q:Nat}(hq:q=v.heap.size):Sgn (v.alloc (.cells #[.string s1,.string s2,.string s3] t)) q 3 3 [s1,s2,s3]:=by subst hq;exact sgn_of (heap_alloc_new v _) rfl rfl (by omega)
theorem pnext_some{w:World}{g B n c i d:Nat}{A:Option Addr}{L:List Tk4}(hs:StP w g A n c i d)(hr:RdK w B A n c L)(hB:B≤w.heap.size)(hn:n≤1000){t:Tk4}(ht:L[i]?=some t):Calls Tryz.prog 135 #[.pointer (some ⟨g,0,none⟩)] w (Ret9 w (.tuple #[tk4 t,.bool true])):=by
 obtain⟨q,u0,rfl,h1,h2,h3,h4,-⟩:=hr.at_ ht;obtain⟨k,T,l,m⟩:=t;have X:Hid (Bx4 (w.alloc (.cells #[.int .i64 0,.string ⟨#[]⟩,.int .i64 0,.int .i64 0] 65)) w.heap.size (.int .i64 0) (.string ⟨#[]⟩) (.int .i64 0) (.int .i64 0)):=Bx4.newAt _ _ _ _ _ _ rfl;have hb:Below w.heap.size w (w.alloc (.cells #[.int .i64 0,.string ⟨#[]⟩,.int .i64 0,.int .i64 0] 65)):=(Below.refl _ _).alloc (Nat.le_refl _) _;have E:=Jh hb;have HS:=Jh (hs.on hb);have HR:=Jh (hr.on hB hb);have hg:=hs.lt;have d1:((i:Int) == (n:Int))=false:=by rw[beq_eq_false_iff_ne];omega
 have d2:decide (n≤i)=false:=decide_eq_false (by omega);have d3:decide (i<n)=true:=decide_eq_true (by omega);have d4:(0:Int)≤(i:Int):=by omega
 have d5:(i:Int)<(n:Int):=by omega
 clear hs hr hb;go_enter Tryz.func135,Tryz.ntmps135;go_wp2_with fail;generalize hW:World.alloc w _=W1 at E HS HR X ⊢;clear hW;obtain⟨p0,p1,p2,pf0,pf1,pf2,plt⟩:=HS.out.bx;go_quiet (fail)
 have hb:=below_drewN (Below.refl W1.heap.size W1) nq;replace X:=Jh (X.out.on hb);replace HR:=Jh (HR.out.on (by have:=E.out.size;omega) hb);replace E:=Jh (E.out.trans (hb.mono E.out.size));replace HS:=Jh (HS.out.on hb);clear hb p0 p1 p2 pf0 pf1 pf2 plt;generalize hW:World.drewN W1 _=W2 at E HS HR X ⊢;clear hW;obtain⟨p0,p1,p2,pf0,pf1,pf2,plt⟩:=HS.out.bx;obtain⟨q0,q1,q2,q3,qf0,qf1,qf2,qf3,qlt⟩:=X.out;obtain⟨a0,a1,a2,a3⟩:=tok_cells HR.out ht;go_wp2_with fail;go_region
 have R:=(tok_put E.out X.out (.int .i64 k) (.string T) (.int .i64 l) (.int .i64 m)).on (Below.refl _ _).drew;clear q0 q1 q2 q3 qf0 qf1 qf2 qf3 qlt;obtain⟨q0,q1,q2,q3,_,_,_,_,_⟩:=R.2;go_wp2_with fail;exact bodyPost_ret (v:=.tuple #[.agg #[.int .i64 k,.string T,.int .i64 l,.int .i64 m],.bool true]) (by simp[results,Tryz.results135,go_sem,q0,q1,q2,q3]) rfl ⟨rfl,R.1⟩
theorem ppass{w:World}{g n c i d:Nat}{A:Option Addr}(hs:StP w g A n c i d)(hi:i≤1000000)(i1:Nat)(h1:i+1=i1):Calls Tryz.prog 136 #[.pointer (some ⟨g,0,none⟩)] w (fun e w'=>e=.returned (.tuple #[])∧w'=w.setCell ⟨g,1,none⟩ (.int .i64 (i1:Int))):=by
 obtain⟨p0,p1,p2,pf0,pf1,pf2,plt⟩:=hs.bx;have ei:(i:Int)+1=(i1:Int):=by omega
 clear hs h1;go_enter Tryz.func136,Tryz.ntmps136;go_wp2_with fail;go_end0
 exact⟨rfl,rfl⟩
def isOne(T:ByteArray)(S:List ByteArray):Bool:=S.any fun s=>decide (bs9 T=bs9 s)
theorem pindex{w:World}{q n c:Nat}{S:List ByteArray}(h:Sgn w q n c S)(T:ByteArray) :
  Calls Tryz.prog 123 #[.slice (some ⟨q,0,none⟩) n c,.string T] w fun e w'=>(∃r:Int,e=.returned (.int .i64 r)∧decide (0≤r)=isOne T S)∧w=w':=by
 have hm:=h.room;have hn:=h.cap;unfold maxLen at hm;go_enter Tryz.func123,Tryz.ntmps123;go_wp2;go_loop [8] (fun i=>∃k:Nat,k≤n∧i=.int .i64 k∧isOne T (S.take k)=false) (fun i=>n-(intOf i).toNat)
 case atStart=>exact⟨0,Nat.zero_le _,rfl,rfl⟩
 case round=>
  obtain⟨k,hk,rfl,hall⟩:=hrel;have HALL:=Jh hall;clear hall;by_cases hkn:k<n
  ·obtain⟨s,hs⟩:∃s,S[k]?=some s:=⟨_,List.getElem?_eq_getElem (by have:=h.len;omega)⟩
   have hc:=h.row k s hs;have H:=Jh h;have HS:=Jh hs;clear h hs;cases hb:decide (bs9 T=bs9 s) with
   | true=>
    have ht:(T.toList == s.toList)=true:=by rw[txt_eq];exact hb
    have E:Hid (isOne T S=true):=by
     show _=_;unfold isOne;rw[List.any_eq_true];exact⟨s,List.mem_of_getElem? HS.out,hb⟩
    clear hb;go_wp2_with fail;go_ret;exact⟨⟨_,rfl,by rw[E.out];simp⟩,rfl⟩
   | false=>
    have ht:(T.toList == s.toList)=false:=by rw[txt_eq];exact hb
    have E:Hid (isOne T (S.take (k+1))=false):=by
     show _=_;have h2:=HALL.out;unfold isOne at h2 ⊢;rw[List.take_add_one,List.any_append,h2,HS.out];show(false||(decide (bs9 T=bs9 s)||false))=false;rw[hb];rfl
    clear hb;go_wp2_with fail;go_round
    case rel=>exact⟨k+1,by omega,by go_num,E.out⟩
    case measure=>simp[intOf];omega
  ·obtain rfl:k=n:=by omega
   have E:Hid (isOne T S=false):=by
    show _=_;have h2:=HALL.out;rw[List.take_of_length_le (by rw[h.len];exact Nat.le_refl _)] at h2;exact h2
   clear h;go_wp2;go_ret;exact⟨⟨_,rfl,by rw[E.out];simp⟩,rfl⟩
theorem pcontains{w:World}{q n c:Nat}{S:List ByteArray}(h:Sgn w q n c S)(T:ByteArray){b:Bool}(hb:isOne T S=b) :
  Calls Tryz.prog 111 #[.slice (some ⟨q,0,none⟩) n c,.string T] w fun e w'=>e=.returned (.bool b)∧w=w':=by
 have H:=Jh h;have HB:=Jh hb;clear h hb;go_enter Tryz.func111,Tryz.ntmps111;go_wp2_with fail;refine(pindex H.out T).mono ?_;rintro e w1 ⟨⟨r,rfl,hr⟩,rfl⟩;have HR:Hid (decide (0≤r)=b):=hr.trans HB.out;clear hr;go_wp2_with fail;go_ret;exact⟨ret_bool HR.out,rfl⟩
def isgs(t:Tok)(S:List ByteArray):Bool:=decide (t.1=10)&&isOne t.2 S
theorem pissign{w:World}{q n c:Nat}{S:List ByteArray}(h:Sgn w q n c S){k:Int}{T:ByteArray}{b:Bool}(hb:isgs (k,T) S=b)(l m:Int) :
  Calls Tryz.prog 94 #[.agg #[.int .i64 k,.string T,.int .i64 l,.int .i64 m],.slice (some ⟨q,0,none⟩) n c] w (Ret9 w (.bool b)):=by
 have HB:Hid (Below w.heap.size w (w.alloc (.cells #[.int .i64 k,.string T,.int .i64 l,.int .i64 m] 65))):=(Below.refl _ _).alloc (Nat.le_refl _) _;have H:=Jh (h.on HB.out);by_cases hk:k=10
 ·have d:(k == 10)=true:=by rw[hk];rfl
  have E:Hid (isOne T S=b):=by show _=_;rw[← hb];unfold isgs;rw[decide_eq_true hk,Bool.true_and]
  clear h hb hk;go_enter Tryz.func94,Tryz.ntmps94;go_wp2_with fail;refine(pcontains H.out T E.out).mono ?_;rintro e w1 ⟨rfl,rfl⟩;go_wp2_with fail;go_ret;exact⟨rfl,HB.out⟩
 ·have d:(k == 10)=false:=by rw[beq_eq_false_iff_ne];exact hk
  have E:Hid (false=b):=by show _=_;rw[← hb];unfold isgs;rw[decide_eq_false hk,Bool.false_and]
  clear h hb hk;go_enter Tryz.func94,Tryz.ntmps94;go_wp2_with fail;go_ret;exact⟨rb9 E.out,HB.out⟩
theorem isgs_two(t:Tok){s1 s2:ByteArray}{x y:Nat}(h1:bs9 s1=[x])(h2:bs9 s2=[y]):isgs t [s1,s2]=(isg t x||isg t y):=by
 unfold isgs isOne isg;rw[List.any_cons,List.any_cons,List.any_nil,h1,h2,Bool.or_false,Bool.and_or_distrib_left]
theorem isgs_one(t:Tok){s1:ByteArray}{x:Nat}(h1:bs9 s1=[x]):isgs t [s1]=isg t x:=by
 unfold isgs isOne isg;rw[List.any_cons,List.any_nil,h1,Bool.or_false]
theorem isgs_starts(t:Tok)(h:t.1≠4):isgs t [⟨#[43]⟩,⟨#[45]⟩,⟨#[40]⟩]=sta t:=by
 unfold isgs isOne sta isg;rw[decide_eq_false h,Bool.false_or,List.any_cons,List.any_cons,List.any_cons,List.any_nil,Bool.or_false];show(_&&(decide (bs9 t.2=[43])||(decide (bs9 t.2=[45])||decide (bs9 t.2=[40]))))=_;cases decide (t.1=10)<;>cases decide (bs9 t.2=[43])<;>cases decide (bs9 t.2=[45])<;>cases decide (bs9 t.2=[40])<;>rfl
theorem pstarts{w:World}{k:Int}{T:ByteArray}{b:Bool}(hb:sta (k,T)=b)(l m:Int) :
  Calls Tryz.prog 72 #[.agg #[.int .i64 k,.string T,.int .i64 l,.int .i64 m]] w (Ret9 w (.bool b)):=by
 have HB:Hid (Below w.heap.size w (w.alloc (.cells #[.int .i64 k,.string T,.int .i64 l,.int .i64 m] 65))):=(Below.refl _ _).alloc (Nat.le_refl _) _;have X:Hid (Bx4 (w.alloc (.cells #[.int .i64 k,.string T,.int .i64 l,.int .i64 m] 65)) w.heap.size (.int .i64 k) (.string T) (.int .i64 l) (.int .i64 m)):=Bx4.newAt _ _ _ _ _ _ rfl;by_cases hk:k=4
 ·have d:(k == 4)=true:=by rw[hk];rfl
  have E:Hid (true=b):=by show _=_;rw[← hb];unfold sta;rw[decide_eq_true hk];rfl
  clear hb hk;go_enter Tryz.func72,Tryz.ntmps72;go_wp2_with fail;go_ret;exact⟨rb9 E.out,HB.out⟩
 ·have d:(k == 4)=false:=by rw[beq_eq_false_iff_ne];exact hk
  have E:Hid (isgs (k,T) [⟨#[43]⟩,⟨#[45]⟩,⟨#[40]⟩]=b):=by show _=_;rw[isgs_starts _ hk];exact hb
  clear hb hk;go_enter Tryz.func72,Tryz.ntmps72;go_wp2_with fail;have hb2:=HB.out.alloc HB.out.size (.cells #[.string ⟨#[43]⟩,.string ⟨#[45]⟩,.string ⟨#[40]⟩] 9);refine(pissign (sgn_three _ ⟨#[43]⟩ ⟨#[45]⟩ ⟨#[40]⟩ 9 (by simp)) E.out l m).mono ?_;rintro e w1 ⟨rfl,hb⟩;replace HB:=Jh (hb2.trans (hb.mono hb2.size));clear hb hb2;go_wp2_with fail;go_ret;exact⟨rfl,HB.out⟩
theorem pquo_yes{A A':Option Addr}{n c n' c' s t:Nat}{i j:Int}{w:World}(h:Num w w.heap.size A n c i.natAbs)(h':Num w w.heap.size A' n' c' j.natAbs)(hn:n≤1000)(hn':n'≤1000)(hs:s≤4010)(ht:t≤4010)(hj:j≠0)(hl:(dg (quoQ i s j t).natAbs).length≤1000) :
  Calls Tryz.prog 154 #[.agg #[.bool (ngB i),.slice A n c,.int .i64 (s:Int)],.agg #[.bool (ngB j),.slice A' n' c',.int .i64 (t:Int)]] w (RetDecE w (quoI i s j t) (quoK i s j t)):=by
 obtain⟨M,hM⟩:∃M,max s t=M:=⟨_,rfl⟩;obtain⟨S,hS⟩:∃S,M+10=S:=⟨_,rfl⟩;have em:max (s:Int) (t:Int)=(M:Int):=by omega
 have eS:(M:Int)+10=(S:Int):=by omega
 have hM4:M≤4010:=by omega
 have hmn:=min_gen (P:=Tryz.prog) (x:=(M:Int)) (y:=9223372036854775797) (z:=(M:Int)) (by omega);have HM:=Jh hM;have HS:=Jh hS;have HJ:=Jh hj;have HL:=Jh hl;clear hM hS hj hl;go_enter Tryz.func154,Tryz.ntmps154;go_wp2_with fail;have E:=Jh ((((St.start w (l:=[(A,n,c,i.natAbs),(A',n',c',j.natAbs)]) (by intro q hq;simp at hq;rcases hq with rfl|rfl;exact h;exact h')).alloc (.cells #[.bool (ngB i),.slice A n c,.int .i64 (s:Int)] 36)).alloc (.cells #[.bool (ngB j),.slice A' n' c',.int .i64 (t:Int)] 36)).lay (g:=w.heap.size+1+1) (x0:=.bool false) (x1:=.slice none 0 0) (x2:=.int .i64 0) (t:=36) (by simp));generalize hW:World.alloc (World.alloc (World.alloc w _) _) _=W0 at E ⊢;clear hW;refine(rdiv_is (i:=i) (j:=j) (s:=s) (t:=t) (S:=S) (St.got (A:=A) (n:=n) (c:=c) E (by simp)) (St.got (A:=A') (n:=n') (c:=c') E (by simp)) hn hn' (by omega) (by omega) (by omega) (by omega) HJ.out (z:=quoQ i s j t) (by unfold quoQ;rw[HM.out,HS.out])).mono ?_;rintro e w1 ⟨A2,n2,c2,rfl,hnum2,hb2⟩;have hn2:n2≤1000:=by have:=hnum2.len;have:=HL.out;omega
 replace E:=Jh (St.push E.out hb2 hnum2);clear hnum2 hb2;have hlt:=(St.az (g:=w.heap.size+1+1) E (by simp)).lt;go_wp2_with fail;replace E:=Jh (St.lay (g:=w1.heap.size) (x0:=.bool (ngB (quoQ i s j t))) (x1:=.slice A2 n2 c2) (x2:=.int .i64 (S:Int)) (t:=36) E.out rfl);refine(strip_is5 (i:=quoQ i s j t) (s:=S) (L:=M) (v:=(M:Int)) (St.got (A:=A2) (n:=n2) (c:=c2) E (by simp)) hn2 (by omega) (by omega) (by omega) (M:=quoK i s j t) (by unfold quoK;rw[HM.out,HS.out]) (x:=quoI i s j t) (by unfold quoI;rw[HM.out,HS.out])).mono ?_;rintro e w2 ⟨A3,n3,c3,rfl,hnum3,hb3⟩;replace E:=Jh (St.push E.out hb3 hnum3);clear hnum3 hb3;obtain⟨r0,r1,r2,rf0,rf1,rf2,rlt⟩:=St.az (g:=w.heap.size+1+1) E (by simp);go_wp2_with fail;clear r0 r1 r2 rf0 rf1 rf2 rlt;have EF:=Jh (St.sz E.out (g:=(w.heap.size+1+1)) (by simp) (.bool (ngB (quoI i s j t))) (.slice A3 n3 c3) (.int .i64 (quoK i s j t:Int)));obtain⟨r0,r1,r2,_,_,_,_⟩:=St.ad (quoI i s j t) A3 n3 c3 (quoK i s j t) (g:=w.heap.size+1+1) EF (by simp);exact bodyPost_ret (v:=.tuple #[.agg #[.bool (ngB (quoI i s j t)),.slice A3 n3 c3,.int .i64 (quoK i s j t:Int)],.int .i64 0]) (by simp[results,Tryz.results154,go_sem,r0,r1,r2]) rfl ⟨A3,n3,c3,rfl,St.got EF (by simp),EF.out.bel⟩
theorem pquo_no{A A':Option Addr}{n c n' c' s t:Nat}{i j:Int}{w:World}(h:Num w w.heap.size A n c i.natAbs)(h':Num w w.heap.size A' n' c' j.natAbs)(hn:n≤1000)(hn':n'≤1000)(hs:s≤4010)(ht:t≤4010)(hj:j=0) :
  Calls Tryz.prog 154 #[.agg #[.bool (ngB i),.slice A n c,.int .i64 (s:Int)],.agg #[.bool (ngB j),.slice A' n' c',.int .i64 (t:Int)]] w (RetVal w (.tuple #[.agg #[.bool false,.slice none 0 0,.int .i64 0],.int .i64 4])):=by
 obtain⟨M,hM⟩:∃M,max s t=M:=⟨_,rfl⟩;obtain⟨S,hS⟩:∃S,M+10=S:=⟨_,rfl⟩;have em:max (s:Int) (t:Int)=(M:Int):=by omega
 have eS:(M:Int)+10=(S:Int):=by omega
 have hM4:M≤4010:=by omega
 have hmn:=min_gen (P:=Tryz.prog) (x:=(M:Int)) (y:=9223372036854775797) (z:=(M:Int)) (by omega);have HM:=Jh hM;have HS:=Jh hS;have HJ:=Jh hj;clear hM hS hj;go_enter Tryz.func154,Tryz.ntmps154;go_wp2_with fail;have E:=Jh ((((St.start w (l:=[(A,n,c,i.natAbs),(A',n',c',j.natAbs)]) (by intro q hq;simp at hq;rcases hq with rfl|rfl;exact h;exact h')).alloc (.cells #[.bool (ngB i),.slice A n c,.int .i64 (s:Int)] 36)).alloc (.cells #[.bool (ngB j),.slice A' n' c',.int .i64 (t:Int)] 36)).lay (g:=w.heap.size+1+1) (x0:=.bool false) (x1:=.slice none 0 0) (x2:=.int .i64 0) (t:=36) (by simp));generalize hW:World.alloc (World.alloc (World.alloc w _) _) _=W0 at E ⊢;clear hW;refine(rdiv_zero (i:=i) (j:=j) (s:=s) (t:=t) (S:=S) (St.got (A:=A) (n:=n) (c:=c) E (by simp)) (St.got (A:=A') (n:=n') (c:=c') E (by simp)) hn hn' (by omega) (by omega) (by omega) (by omega) HJ.out).mono ?_;rintro e w1 ⟨rfl,hb2⟩;replace E:=Jh (St.step E.out hb2);clear hb2;have hlt:=(St.az (g:=w.heap.size+1+1) E (by simp)).lt;obtain⟨r0,r1,r2,rf0,rf1,rf2,rlt⟩:=St.az (g:=w.heap.size+1+1) E (by simp);go_wp2_with fail;clear r0 r1 r2 rf0 rf1 rf2 rlt;have EF:=Jh (St.sz E.out (g:=(w.heap.size+1+1)) (by simp) (.bool false) (.slice none 0 0) (.int .i64 0));replace EF:=Jh (EF.out.alloc (.cells #[.bool false,.slice none 0 0,.int .i64 0] 36));obtain⟨r0,r1,r2,_,_,_,_⟩:=St.az (g:=w.heap.size+1+1) EF (by simp);exact bodyPost_ret (v:=.tuple #[.agg #[.bool false,.slice none 0 0,.int .i64 0],.int .i64 4]) (by simp[results,Tryz.results154,go_sem,r0,r1,r2]) rfl ⟨rfl,EF.out.bel⟩
def jnd(c:Nat)(i:Int)(s:Nat)(j:Int)(t:Nat):Int×Nat×Nat:=
 if c=43 then (addZ i s j t,max s t,0) else if c=45 then (subZ i s j t,max s t,0) else if c=42 then (i*j,s+t,0) else quv i s j t
theorem pquo{A A':Option Addr}{n c n' c' s t:Nat}{i j:Int}{w:World}(h:Num w w.heap.size A n c i.natAbs)(h':Num w w.heap.size A' n' c' j.natAbs)(hn:n≤1000)(hn':n'≤1000)(hs:s≤4010)(ht:t≤4010)(hl:j≠0→(dg (quoQ i s j t).natAbs).length≤1000) :
  Calls Tryz.prog 154 #[.agg #[.bool (ngB i),.slice A n c,.int .i64 (s:Int)],.agg #[.bool (ngB j),.slice A' n' c',.int .i64 (t:Int)]] w (RetQ w (quv i s j t)):=by
 unfold quv;by_cases hj:j=0
 ·rw[if_pos hj]
  exact(pquo_no h h' hn hn' hs ht hj).mono fun e w' q=>⟨none,0,0,q.1,num_zero _ _,q.2⟩
 ·rw[if_neg hj]
  exact(pquo_yes h h' hn hn' hs ht hj (hl hj)).mono fun e w' q=>q
theorem pjoin_add{A A':Option Addr}{n c n' c' s t:Nat}{i j:Int}{w:World}{T:ByteArray}(h:Num w w.heap.size A n c i.natAbs)(h':Num w w.heap.size A' n' c' j.natAbs)(hn:n≤1000)(hn':n'≤1000)(hs:s≤4010)(ht:t≤4010)(hT:bs9 T=[43]) :
  Calls Tryz.prog 137 #[.agg #[.bool (ngB i),.slice A n c,.int .i64 (s:Int)],.string T,.agg #[.bool (ngB j),.slice A' n' c',.int .i64 (t:Int)]] w (RetQ w (jnd 43 i s j t)):=by
 show Calls _ _ _ _ (RetQ w ((addZ i s j t,max s t,0)));have l43:(T.toList == [43])=true:=lit_yes (l:=[43]) hT;obtain⟨x,hx⟩:∃x,addZ i s j t=x:=⟨_,rfl⟩;obtain⟨M,hM⟩:∃M,max s t=M:=⟨_,rfl⟩;have HX:=Jh hx;have HM:=Jh hM;rw[hx,hM];clear hx hM;clear hT;go_enter Tryz.func137,Tryz.ntmps137;go_wp2_with fail;have E:=Jh ((((St.start w (l:=[(A,n,c,i.natAbs),(A',n',c',j.natAbs)]) (by intro q hq;simp at hq;rcases hq with rfl|rfl;exact h;exact h')).alloc (.cells #[.bool (ngB i),.slice A n c,.int .i64 (s:Int)] 36)).alloc (.cells #[.bool (ngB j),.slice A' n' c',.int .i64 (t:Int)] 36)).lay (g:=w.heap.size+1+1) (x0:=.bool false) (x1:=.slice none 0 0) (x2:=.int .i64 0) (t:=36) (by simp));generalize hW:World.alloc (World.alloc (World.alloc w _) _) _=W0 at E ⊢;clear hW;refine(add_is5 (i:=i) (j:=j) (s:=s) (t:=t) (St.got (A:=A) (n:=n) (c:=c) E (by simp)) (St.got (A:=A') (n:=n') (c:=c') E (by simp)) (by omega) (by omega) (by omega) (by omega) HM.out HX.out).mono ?_;rintro e w1 ⟨A2,n2,c2,rfl,hnum2,hb2⟩;replace E:=Jh (St.push E.out hb2 hnum2);clear hnum2 hb2;obtain⟨r0,r1,r2,rf0,rf1,rf2,rlt⟩:=St.az (g:=w.heap.size+1+1) E (by simp);go_wp2_with fail;clear r0 r1 r2 rf0 rf1 rf2 rlt;have EF:=Jh (St.sz E.out (g:=(w.heap.size+1+1)) (by simp) (.bool (ngB (x))) (.slice A2 n2 c2) (.int .i64 (M:Int)));obtain⟨r0,r1,r2,_,_,_,_⟩:=St.ad (x) A2 n2 c2 M (g:=w.heap.size+1+1) EF (by simp);exact bodyPost_ret (v:=.tuple #[.agg #[.bool (ngB (x)),.slice A2 n2 c2,.int .i64 (M:Int)],.int .i64 0]) (by simp[results,Tryz.results137,go_sem,r0,r1,r2]) rfl ⟨A2,n2,c2,rfl,St.got EF (by simp),EF.out.bel⟩
theorem pjoin_sub{A A':Option Addr}{n c n' c' s t:Nat}{i j:Int}{w:World}{T:ByteArray}(h:Num w w.heap.size A n c i.natAbs)(h':Num w w.heap.size A' n' c' j.natAbs)(hn:n≤1000)(hn':n'≤1000)(hs:s≤4010)(ht:t≤4010)(hT:bs9 T=[45]) :
  Calls Tryz.prog 137 #[.agg #[.bool (ngB i),.slice A n c,.int .i64 (s:Int)],.string T,.agg #[.bool (ngB j),.slice A' n' c',.int .i64 (t:Int)]] w (RetQ w (jnd 45 i s j t)):=by
 show Calls _ _ _ _ (RetQ w ((subZ i s j t,max s t,0)));have l43:(T.toList == [43])=false:=lit_not (l:=[43]) (by rw[hT];decide);have l45:(T.toList == [45])=true:=lit_yes (l:=[45]) hT;obtain⟨x,hx⟩:∃x,subZ i s j t=x:=⟨_,rfl⟩;obtain⟨M,hM⟩:∃M,max s t=M:=⟨_,rfl⟩;have HX:=Jh hx;have HM:=Jh hM;rw[hx,hM];clear hx hM;clear hT;go_enter Tryz.func137,Tryz.ntmps137;go_wp2_with fail;have E:=Jh ((((St.start w (l:=[(A,n,c,i.natAbs),(A',n',c',j.natAbs)]) (by intro q hq;simp at hq;rcases hq with rfl|rfl;exact h;exact h')).alloc (.cells #[.bool (ngB i),.slice A n c,.int .i64 (s:Int)] 36)).alloc (.cells #[.bool (ngB j),.slice A' n' c',.int .i64 (t:Int)] 36)).lay (g:=w.heap.size+1+1) (x0:=.bool false) (x1:=.slice none 0 0) (x2:=.int .i64 0) (t:=36) (by simp));generalize hW:World.alloc (World.alloc (World.alloc w _) _) _=W0 at E ⊢;clear hW;refine(sub_is5 (i:=i) (j:=j) (s:=s) (t:=t) (St.got (A:=A) (n:=n) (c:=c) E (by simp)) (St.got (A:=A') (n:=n') (c:=c') E (by simp)) (by omega) (by omega) (by omega) (by omega) HM.out HX.out).mono ?_;rintro e w1 ⟨A2,n2,c2,rfl,hnum2,hb2⟩;replace E:=Jh (St.push E.out hb2 hnum2);clear hnum2 hb2;obtain⟨r0,r1,r2,rf0,rf1,rf2,rlt⟩:=St.az (g:=w.heap.size+1+1) E (by simp);go_wp2_with fail;clear r0 r1 r2 rf0 rf1 rf2 rlt;have EF:=Jh (St.sz E.out (g:=(w.heap.size+1+1)) (by simp) (.bool (ngB (x))) (.slice A2 n2 c2) (.int .i64 (M:Int)));obtain⟨r0,r1,r2,_,_,_,_⟩:=St.ad (x) A2 n2 c2 M (g:=w.heap.size+1+1) EF (by simp);exact bodyPost_ret (v:=.tuple #[.agg #[.bool (ngB (x)),.slice A2 n2 c2,.int .i64 (M:Int)],.int .i64 0]) (by simp[results,Tryz.results137,go_sem,r0,r1,r2]) rfl ⟨A2,n2,c2,rfl,St.got EF (by simp),EF.out.bel⟩
theorem pjoin_mul{A A':Option Addr}{n c n' c' s t:Nat}{i j:Int}{w:World}{T:ByteArray}(h:Num w w.heap.size A n c i.natAbs)(h':Num w w.heap.size A' n' c' j.natAbs)(hn:n≤1000)(hn':n'≤1000)(hs:s≤4010)(ht:t≤4010)(hT:bs9 T=[42]) :
  Calls Tryz.prog 137 #[.agg #[.bool (ngB i),.slice A n c,.int .i64 (s:Int)],.string T,.agg #[.bool (ngB j),.slice A' n' c',.int .i64 (t:Int)]] w (RetQ w (jnd 42 i s j t)):=by
 show Calls _ _ _ _ (RetQ w ((i*j,s+t,0)));have l43:(T.toList == [43])=false:=lit_not (l:=[43]) (by rw[hT];decide);have l45:(T.toList == [45])=false:=lit_not (l:=[45]) (by rw[hT];decide);have l42:(T.toList == [42])=true:=lit_yes (l:=[42]) hT;obtain⟨x,hx⟩:∃x,i*j=x:=⟨_,rfl⟩;obtain⟨M,hM⟩:∃M,s+t=M:=⟨_,rfl⟩;have HX:=Jh hx;have HM:=Jh hM;rw[hx,hM];clear hx hM;clear hT;go_enter Tryz.func137,Tryz.ntmps137;go_wp2_with fail;have E:=Jh ((((St.start w (l:=[(A,n,c,i.natAbs),(A',n',c',j.natAbs)]) (by intro q hq;simp at hq;rcases hq with rfl|rfl;exact h;exact h')).alloc (.cells #[.bool (ngB i),.slice A n c,.int .i64 (s:Int)] 36)).alloc (.cells #[.bool (ngB j),.slice A' n' c',.int .i64 (t:Int)] 36)).lay (g:=w.heap.size+1+1) (x0:=.bool false) (x1:=.slice none 0 0) (x2:=.int .i64 0) (t:=36) (by simp));generalize hW:World.alloc (World.alloc (World.alloc w _) _) _=W0 at E ⊢;clear hW;refine(mul_is5 (i:=i) (j:=j) (s:=s) (t:=t) (St.got (A:=A) (n:=n) (c:=c) E (by simp)) (St.got (A:=A') (n:=n') (c:=c') E (by simp)) (by omega) (by omega) (by omega) (by omega) HM.out HX.out).mono ?_;rintro e w1 ⟨A2,n2,c2,rfl,hnum2,hb2⟩;replace E:=Jh (St.push E.out hb2 hnum2);clear hnum2 hb2;obtain⟨r0,r1,r2,rf0,rf1,rf2,rlt⟩:=St.az (g:=w.heap.size+1+1) E (by simp);go_wp2_with fail;clear r0 r1 r2 rf0 rf1 rf2 rlt;have EF:=Jh (St.sz E.out (g:=(w.heap.size+1+1)) (by simp) (.bool (ngB (x))) (.slice A2 n2 c2) (.int .i64 (M:Int)));obtain⟨r0,r1,r2,_,_,_,_⟩:=St.ad (x) A2 n2 c2 M (g:=w.heap.size+1+1) EF (by simp);exact bodyPost_ret (v:=.tuple #[.agg #[.bool (ngB (x)),.slice A2 n2 c2,.int .i64 (M:Int)],.int .i64 0]) (by simp[results,Tryz.results137,go_sem,r0,r1,r2]) rfl ⟨A2,n2,c2,rfl,St.got EF (by simp),EF.out.bel⟩
theorem pjoin_quo{A A':Option Addr}{n c n' c' s t:Nat}{i j:Int}{w:World}{T:ByteArray}(h:Num w w.heap.size A n c i.natAbs)(h':Num w w.heap.size A' n' c' j.natAbs)(hn:n≤1000)(hn':n'≤1000)(hs:s≤4010)(ht:t≤4010)(hl:j≠0→(dg (quoQ i s j t).natAbs).length≤1000)(hT:bs9 T=[47]) :
  Calls Tryz.prog 137 #[.agg #[.bool (ngB i),.slice A n c,.int .i64 (s:Int)],.string T,.agg #[.bool (ngB j),.slice A' n' c',.int .i64 (t:Int)]] w (RetQ w (jnd 47 i s j t)):=by
 show Calls _ _ _ _ (RetQ w (quv i s j t));have l43:(T.toList == [43])=false:=lit_not (l:=[43]) (by rw[hT];decide);have l45:(T.toList == [45])=false:=lit_not (l:=[45]) (by rw[hT];decide);have l42:(T.toList == [42])=false:=lit_not (l:=[42]) (by rw[hT];decide);obtain⟨q,hq⟩:∃q,quv i s j t=q:=⟨_,rfl⟩;have HQ:=Jh hq;have HL:=Jh hl;rw[hq];clear hq hl;clear hT;go_enter Tryz.func137,Tryz.ntmps137;go_wp2_with fail;have E:=Jh ((((St.start w (l:=[(A,n,c,i.natAbs),(A',n',c',j.natAbs)]) (by intro q hq;simp at hq;rcases hq with rfl|rfl;exact h;exact h')).alloc (.cells #[.bool (ngB i),.slice A n c,.int .i64 (s:Int)] 36)).alloc (.cells #[.bool (ngB j),.slice A' n' c',.int .i64 (t:Int)] 36)).lay (g:=w.heap.size+1+1) (x0:=.bool false) (x1:=.slice none 0 0) (x2:=.int .i64 0) (t:=36) (by simp));generalize hW:World.alloc (World.alloc (World.alloc w _) _) _=W0 at E ⊢;clear hW;refine(pquo (i:=i) (j:=j) (s:=s) (t:=t) (St.got (A:=A) (n:=n) (c:=c) E (by simp)) (St.got (A:=A') (n:=n') (c:=c') E (by simp)) hn hn' hs ht HL.out).mono ?_;rintro e w1 ⟨A2,n2,c2,rfl,hnum2,hb2⟩;rw[HQ.out] at hnum2 ⊢;replace E:=Jh (St.push E.out hb2 hnum2);clear hnum2 hb2;obtain⟨r0,r1,r2,rf0,rf1,rf2,rlt⟩:=St.az (g:=w.heap.size+1+1) E (by simp);go_wp2_with fail;clear r0 r1 r2 rf0 rf1 rf2 rlt;have EF:=Jh (St.sz E.out (g:=(w.heap.size+1+1)) (by simp) (.bool (ngB (q.1))) (.slice A2 n2 c2) (.int .i64 (q.2.1:Int)));obtain⟨r0,r1,r2,_,_,_,_⟩:=St.ad (q.1) A2 n2 c2 q.2.1 (g:=w.heap.size+1+1) EF (by simp);exact bodyPost_ret (v:=.tuple #[.agg #[.bool (ngB (q.1)),.slice A2 n2 c2,.int .i64 (q.2.1:Int)],.int .i64 (q.2.2:Int)]) (by simp[results,Tryz.results137,go_sem,r0,r1,r2]) rfl ⟨A2,n2,c2,rfl,St.got EF (by simp),EF.out.bel⟩
theorem pjoin{A A':Option Addr}{n c n' c' s t:Nat}{i j:Int}{w:World}{T:ByteArray}(h:Num w w.heap.size A n c i.natAbs)(h':Num w w.heap.size A' n' c' j.natAbs)(hn:n≤1000)(hn':n'≤1000)(hs:s≤4010)(ht:t≤4010){x:Nat}(hc:x=43∨x=45∨x=42∨x=47)(hl:x=47→j≠0→(dg (quoQ i s j t).natAbs).length≤1000)(hT:bs9 T=[x]) :
  Calls Tryz.prog 137 #[.agg #[.bool (ngB i),.slice A n c,.int .i64 (s:Int)],.string T,.agg #[.bool (ngB j),.slice A' n' c',.int .i64 (t:Int)]] w (RetQ w (jnd x i s j t)):=by
 rcases hc with rfl|rfl|rfl|rfl
 ·exact pjoin_add h h' hn hn' hs ht hT
 ·exact pjoin_sub h h' hn hn' hs ht hT
 ·exact pjoin_mul h h' hn hn' hs ht hT
 ·exact pjoin_quo h h' hn hn' hs ht (hl rfl) hT
def OutX(x:Int)(k i' e':Nat):Rs→Prop
 | .inl (z,b)=>0<z∧e'=z∧i'=b∧x=0∧k=0
 | .inr (y,t,b)=>x=y∧k=t∧i'=b∧e'=0
def RetX(w0:World)(g:Nat)(A:Option Addr)(n c d:Nat)(r:Rs)(e:Ending)(w':World):Prop:=
 ∃(x:Int) (k:Nat) (A1:Option Addr) (n1 c1 i' e':Nat),e=.returned (.tuple #[.agg #[.bool (ngB x),.slice A1 n1 c1,.int .i64 (k:Int)],.int .i64 (e':Int)])∧Num w' w'.heap.size A1 n1 c1 x.natAbs∧StP w' g A n c i' d∧Kp g none w0 w'∧OutX x k i' e' r
theorem sy_start{w:World}{g B n c i d:Nat}{A:Option Addr}{L:List Tk4}(hs:StP w g A n c i d)(hr:RdK w B A n c L)(hm:MaxLen w)(hp:B≤g) :
 SY w (w.alloc (.cells #[.bool false,.slice none 0 0,.int .i64 0] 36)) g B A n c L i d [] [(w.heap.size,.bool false,.slice none 0 0,.int .i64 0)] []:=(SY.start hs hr hm hp).lay rfl
theorem pparse(s:ByteArray)(w:World)(hs:s.size≤6000)(hm:MaxLen w):Calls Tryz.prog 66 #[.string s] w (RetP w s):=by
 refine(read_any s w hs hm).mono fun e w' h=>?_
 have h0:Num w' w'.heap.size none 0 0 (0:Int).natAbs:=num_zero _ _;rcases h with⟨h1,h2⟩|⟨h1,h2,h3⟩|⟨h1,h2,A,n,c,h3,h4,h5⟩
 ·exact⟨0,0,none,0,0,2,h2.1,h0,h2.2,by unfold numV;rw[if_neg (fun e=>e.1 h1)];rfl⟩
 ·exact⟨0,0,none,0,0,3,h3.1,h0,h3.2,by unfold numV;rw[if_neg (fun e=>by rw[h2] at e;cases e.2)];rfl⟩
 ·exact⟨_,_,A,n,c,0,h3,h4,h5,by unfold numV;rw[if_pos ⟨h1,h2⟩];rfl⟩
def numR(T:ByteArray)(i:Nat):Rs:=match numV T with|none=>.inl (3,i)|some (x,k)=>.inr (x,k,i+1)
theorem pnumber{w:World}{g B n c i d:Nat}{A:Option Addr}{L:List Tk4}(hs:StP w g A n c i d)(hr:RdK w B A n c L)(hm:MaxLen w)(hp:B≤g)(hi:i≤1000)(T:ByteArray)(hT:T.size≤6000):Calls Tryz.prog 155 #[.pointer (some ⟨g,0,none⟩),.string T] w (RetX w g A n c d (numR T i)):=by
 have E:=Jh (sy_start hs hr hm hp);have hgw:=hs.lt;clear hs hr hm;go_enter Tryz.func155,Tryz.ntmps155;go_wp2_with fail;generalize hW:World.alloc w _=W1 at E ⊢;clear hW;refine(pparse T _ hT E.out.mx).mono ?_;rintro e w5 ⟨x5,k5,A5,n5,c5,z5,rfl,hn5,hb5,hv5⟩;replace E:=Jh (SY.push (SY.step E.out hb5) hn5);have HV:=Jh hv5;clear hn5 hb5 hv5;have EL:=Jh (SY.lay (g1:=w5.heap.size) (x0:=.bool (ngB x5)) (x1:=.slice A5 n5 c5) (x2:=.int .i64 (k5:Int)) (t:=36) E.out rfl);rcases Nat.eq_zero_or_pos z5 with hz|hz
 ·have dz:((z5:Int) != 0)=false:=by rw[hz];rfl
  obtain⟨i1,hi1⟩:∃i1,i+1=i1:=⟨_,rfl⟩;have HR:Hid (numR T i=.inr (x5,k5,i1)):=by
   show _=_;unfold numR;rw[HV.out,if_pos hz,hi1]
  have HI:=Jh hi1;clear hz hi1 E;go_wp2_with fail;obtain⟨g5,hg5⟩:∃g,w5.heap.size=g:=⟨_,rfl⟩;rw[hg5] at EL ⊢;clear hg5;generalize hV:World.alloc w5 _=V5 at EL ⊢;clear hV;refine(ppass EL.out.st (by omega) i1 HI.out).mono ?_;rintro e w6 ⟨rfl,rfl⟩;have E:=Jh (SY.set1 EL.out i1);clear EL;obtain⟨q0,q1,q2,qf0,qf1,qf2,qlt⟩:=SY.ad x5 A5 n5 c5 k5 (g1:=g5) E (by simp);obtain⟨r0,r1,r2,rf0,rf1,rf2,rlt⟩:=SY.az (g1:=w.heap.size) E (by simp);go_wp2_with fail;clear q0 q1 q2 qf0 qf1 qf2 qlt;clear r0 r1 r2 rf0 rf1 rf2 rlt;have EF:=Jh (SY.pz E.out (g1:=w.heap.size) (by simp) (.bool (ngB x5)) (.slice A5 n5 c5) (.int .i64 (k5:Int)));obtain⟨r0,r1,r2,_,_,_,_⟩:=SY.ad x5 A5 n5 c5 k5 (g1:=w.heap.size) EF (by simp);exact bodyPost_ret (v:=.tuple #[.agg #[.bool (ngB x5),.slice A5 n5 c5,.int .i64 (k5:Int)],.int .i64 0]) (by simp[results,Tryz.results155,go_sem,r0,r1,r2]) rfl ⟨x5,k5,A5,n5,c5,i1,0,rfl,SY.got EF (by simp),EF.out.st,EF.out.kp,by rw[HR.out];exact⟨rfl,rfl,rfl,rfl⟩⟩
 ·have dz:((z5:Int) != 0)=true:=by rw[bne_iff_ne];omega
  have HR:Hid (numR T i=.inl (3,i)):=by
   show _=_;unfold numR;rw[HV.out,if_neg (by omega)]
  clear hz;obtain⟨r0,r1,r2,rf0,rf1,rf2,rlt⟩:=SY.az (g1:=w.heap.size) EL (by simp);go_wp2_with fail;clear r0 r1 r2 rf0 rf1 rf2 rlt;have EF:=Jh (SY.pz EL.out (g1:=w.heap.size) (by simp) (.bool false) (.slice none 0 0) (.int .i64 0));obtain⟨r0,r1,r2,_,_,_,_⟩:=SY.az (g1:=w.heap.size) EF (by simp);exact bodyPost_ret (v:=.tuple #[.agg #[.bool false,.slice none 0 0,.int .i64 0],.int .i64 3]) (by simp[results,Tryz.results155,go_sem,r0,r1,r2]) rfl ⟨0,0,none,0,0,i,3,rfl,num_zero _ _,EF.out.st,EF.out.kp,by rw[HR.out];exact⟨by omega,rfl,rfl,rfl,rfl⟩⟩
def SumP(L:List Tk4)(i:Nat):Prop:=∀{w:World}{g B n c d:Nat}{A:Option Addr},StP w g A n c i d→RdK w B A n c L→MaxLen w→B≤g→n≤400→d≤64→Calls Tryz.prog 112 #[.pointer (some ⟨g,0,none⟩)] w (RetX w g A n c d (SUM (L.map tok) d i))
def ProP(L:List Tk4)(i:Nat):Prop:=∀{w:World}{g B n c d:Nat}{A:Option Addr},StP w g A n c i d→RdK w B A n c L→MaxLen w→B≤g→n≤400→d≤64→Calls Tryz.prog 125 #[.pointer (some ⟨g,0,none⟩)] w (RetX w g A n c d (PRO (L.map tok) d i))
def FacP(L:List Tk4)(i:Nat):Prop:=∀{w:World}{g B n c d:Nat}{A:Option Addr},StP w g A n c i d→RdK w B A n c L→MaxLen w→B≤g→n≤400→d≤64→Calls Tryz.prog 138 #[.pointer (some ⟨g,0,none⟩)] w (RetX w g A n c d (FAC (L.map tok) d i))
theorem pshut{w:World}{g B n c i d:Nat}{A:Option Addr}{L:List Tk4}(hs:StP w g A n c i d)(hr:RdK w B A n c L)(hm:MaxLen w)(hp:B≤g)(hn:n≤400)(hd:d≤64)(HC:SumP L i):Calls Tryz.prog 173 #[.pointer (some ⟨g,0,none⟩)] w (RetX w g A n c d (Rs.shut (L.map tok) (SUM (L.map tok) d i))):=by
 have hlen:=hr.len;have hgw:=hs.lt;have E:=Jh (sy_start hs hr hm hp);have hlt:∀j t b,SUM (L.map tok) d i=.inr (j,t,b)→b≤n:=fun j t b h=>by have:=(SUM_lt h rfl).2;rw[List.length_map] at this;omega
 have HLT:=Jh hlt;have HLEN:=Jh hlen;clear hs hr hm hlt hlen;go_enter Tryz.func173,Tryz.ntmps173;go_wp2_with fail;generalize hW:World.alloc w _=W1 at E ⊢;clear hW;refine(HC E.out.st E.out.rd E.out.mx hp hn hd).mono ?_;rintro e w9 ⟨x9,k9,A9,n9,c9,i9,e9,rfl,hnum9,hst9,hkp9,hout⟩;replace E:=Jh (SY.push (SY.call E.out hkp9 hst9) hnum9);clear hnum9 hst9 hkp9;cases hS:SUM (L.map tok) d i with
 | inl r=>
  obtain⟨z,b⟩:=r;rw[hS] at hout;obtain⟨hz,rfl,rfl,-,-⟩:=hout;have dz:((e9:Int) != 0)=true:=by rw[bne_iff_ne];omega
  have HO:Hid (Rs.shut (L.map tok) (SUM (L.map tok) d i)=.inl (e9,i9)):=by show _=_;rw[hS];rfl
  have EL:=Jh (SY.lay (g1:=w9.heap.size) (x0:=.bool (ngB x9)) (x1:=.slice A9 n9 c9) (x2:=.int .i64 (k9:Int)) (t:=36) E.out rfl);clear hS;obtain⟨r0,r1,r2,rf0,rf1,rf2,rlt⟩:=SY.az (g1:=w.heap.size) EL (by simp);go_wp2_with fail;clear r0 r1 r2 rf0 rf1 rf2 rlt;have EF:=Jh (SY.pz EL.out (g1:=w.heap.size) (by simp) (.bool false) (.slice none 0 0) (.int .i64 0));obtain⟨r0,r1,r2,_,_,_,_⟩:=SY.az (g1:=w.heap.size) EF (by simp);exact bodyPost_ret (v:=.tuple #[.agg #[.bool false,.slice none 0 0,.int .i64 0],.int .i64 (e9:Int)]) (by simp[results,Tryz.results173,go_sem,r0,r1,r2]) rfl ⟨0,0,none,0,0,i9,e9,rfl,num_zero _ _,EF.out.st,EF.out.kp,by rw[HO.out];exact⟨hz,rfl,rfl,rfl,rfl⟩⟩
 | inr r=>
  obtain⟨j,s,b⟩:=r;have hbn:=HLT.out _ _ _ hS;rw[hS] at hout;obtain⟨rfl,rfl,rfl,rfl⟩:=hout;have HS:=Jh hS;clear hS;go_wp2_with fail;replace E:=Jh (SY.lay (g1:=w9.heap.size) (x0:=.bool (ngB x9)) (x1:=.slice A9 n9 c9) (x2:=.int .i64 (k9:Int)) (t:=36) E.out rfl);obtain⟨g9,hg9⟩:∃g,w9.heap.size=g:=⟨_,rfl⟩;rw[hg9] at E ⊢;clear hg9;generalize hV:World.alloc w9 _=V9 at E ⊢;clear hV;rcases Nat.lt_or_ge i9 n with hin|hin
  ·obtain⟨t,ht⟩:∃t,L[i9]?=some t:=⟨_,List.getElem?_eq_getElem (by have:=HLEN.out;omega)⟩
   obtain⟨k,T,l,m⟩:=t;refine(pnext_some E.out.st E.out.rd (by have:=E.out.pl;have:=E.out.st.lt;omega) (by omega) ht).mono ?_;rintro e w10 ⟨rfl,hb⟩;replace E:=Jh (SY.step E.out hb);clear hb;unfold tk4;go_wp2_with fail;have SG:=Jh (sgn_one (World.alloc w10 (.cells #[.int .i64 k,.string T,.int .i64 l,.int .i64 m] 65)) ⟨#[41]⟩ 9 (q:=w10.heap.size+1) (by simp));have ES:=Jh ((SY.word (g1:=w10.heap.size) E.out k T l m (t:=65) rfl).alloc (.cells #[.string ⟨#[41]⟩] 9));clear E;obtain⟨g10,hg10⟩:∃g,w10.heap.size=g:=⟨_,rfl⟩;rw[hg10] at ES SG ⊢;clear hg10;generalize hV:World.alloc (World.alloc w10 _) _=V10 at ES SG ⊢;clear hV;cases hI:isAt (L.map tok) i9 41 with
   | true=>
    have HO:Hid (Rs.shut (L.map tok) (SUM (L.map tok) d i)=.inr (x9,k9,i9+1)):=by
     show _=_;rw[HS.out];unfold Rs.shut;dsimp only
     rw[if_pos hI]
    have HI:Hid (isgs (k,T) [⟨#[41]⟩]=true):=by
     show _=_;rw[isgs_one _ (x:=41) rfl,← hI,isAt_some ht]
    clear hI;refine(pissign SG.out HI.out l m).mono ?_;rintro e w11 ⟨rfl,hb⟩;have E:=Jh (SY.step ES.out hb);clear hb ES SG;obtain⟨i1,hi1⟩:∃i1,i9+1=i1:=⟨_,rfl⟩;have HI1:=Jh hi1;rw[hi1] at HO;clear hi1;go_wp2_with fail;refine(ppass E.out.st (by omega) i1 HI1.out).mono ?_;rintro e w12 ⟨rfl,rfl⟩;replace E:=Jh (SY.set1 E.out i1);obtain⟨q0,q1,q2,qf0,qf1,qf2,qlt⟩:=SY.ad x9 A9 n9 c9 k9 (g1:=g9) E (by simp);obtain⟨r0,r1,r2,rf0,rf1,rf2,rlt⟩:=SY.az (g1:=w.heap.size) E (by simp);go_wp2_with fail;clear q0 q1 q2 qf0 qf1 qf2 qlt;clear r0 r1 r2 rf0 rf1 rf2 rlt;have EF:=Jh (SY.pz E.out (g1:=w.heap.size) (by simp) (.bool (ngB x9)) (.slice A9 n9 c9) (.int .i64 (k9:Int)));obtain⟨r0,r1,r2,_,_,_,_⟩:=SY.ad x9 A9 n9 c9 k9 (g1:=w.heap.size) EF (by simp);exact bodyPost_ret (v:=.tuple #[.agg #[.bool (ngB x9),.slice A9 n9 c9,.int .i64 (k9:Int)],.int .i64 0]) (by simp[results,Tryz.results173,go_sem,r0,r1,r2]) rfl ⟨x9,k9,A9,n9,c9,i1,0,rfl,SY.got EF (by simp),EF.out.st,EF.out.kp,by rw[HO.out];exact⟨rfl,rfl,rfl,rfl⟩⟩
   | false=>
    have HO:Hid (Rs.shut (L.map tok) (SUM (L.map tok) d i)=.inl (3,i9)):=by
     show _=_;rw[HS.out];unfold Rs.shut;dsimp only
     rw[if_neg (by rw[hI];decide),if_pos (by rw[List.length_map];have:=HLEN.out;omega)]
    have HI:Hid (isgs (k,T) [⟨#[41]⟩]=false):=by
     show _=_;rw[isgs_one _ (x:=41) rfl,← hI,isAt_some ht]
    clear hI;refine(pissign SG.out HI.out l m).mono ?_;rintro e w11 ⟨rfl,hb⟩;have E:=Jh (SY.step ES.out hb);clear hb ES SG;obtain⟨r0,r1,r2,rf0,rf1,rf2,rlt⟩:=SY.az (g1:=w.heap.size) E (by simp);go_wp2_with fail;clear r0 r1 r2 rf0 rf1 rf2 rlt;have EF:=Jh (SY.pz E.out (g1:=w.heap.size) (by simp) (.bool false) (.slice none 0 0) (.int .i64 0));obtain⟨r0,r1,r2,_,_,_,_⟩:=SY.az (g1:=w.heap.size) EF (by simp);exact bodyPost_ret (v:=.tuple #[.agg #[.bool false,.slice none 0 0,.int .i64 0],.int .i64 3]) (by simp[results,Tryz.results173,go_sem,r0,r1,r2]) rfl ⟨0,0,none,0,0,i9,3,rfl,num_zero _ _,EF.out.st,EF.out.kp,by rw[HO.out];exact⟨by omega,rfl,rfl,rfl,rfl⟩⟩
  ·obtain rfl:i9=n:=by omega
   refine(pnext_end E.out.st rfl).mono ?_;rintro e w10 ⟨rfl,hb⟩;replace E:=Jh (SY.step E.out hb);clear hb;have EL:=Jh (SY.word (g1:=w10.heap.size) E.out 0 ⟨#[]⟩ 0 0 (t:=65) rfl);have HO:Hid (Rs.shut (L.map tok) (SUM (L.map tok) d i)=.inl (2,i9)):=by
    show _=_;rw[HS.out];unfold Rs.shut;dsimp only
    rw[isAt_none (by have:=HLEN.out;omega),if_neg (by decide),if_neg (by rw[List.length_map];have:=HLEN.out;omega)]
   obtain⟨r0,r1,r2,rf0,rf1,rf2,rlt⟩:=SY.az (g1:=w.heap.size) EL (by simp);go_wp2_with fail;clear r0 r1 r2 rf0 rf1 rf2 rlt;have EF:=Jh (SY.pz EL.out (g1:=w.heap.size) (by simp) (.bool false) (.slice none 0 0) (.int .i64 0));obtain⟨r0,r1,r2,_,_,_,_⟩:=SY.az (g1:=w.heap.size) EF (by simp);exact bodyPost_ret (v:=.tuple #[.agg #[.bool false,.slice none 0 0,.int .i64 0],.int .i64 2]) (by simp[results,Tryz.results173,go_sem,r0,r1,r2]) rfl ⟨0,0,none,0,0,i9,2,rfl,num_zero _ _,EF.out.st,EF.out.kp,by rw[HO.out];exact⟨by omega,rfl,rfl,rfl,rfl⟩⟩
theorem pbeh_open{w:World}{g B n c i d:Nat}{A:Option Addr}{L:List Tk4}(hs:StP w g A n c i d)(hr:RdK w B A n c L)(hm:MaxLen w)(hp:B≤g)(hn:n≤400)(hd:d≤64){R:Rs}(HC:∀w':World,StP w' g A n c i d→RdK w' B A n c L→MaxLen w'→Calls Tryz.prog 173 #[.pointer (some ⟨g,0,none⟩)] w' (RetX w' g A n c d R)){T:ByteArray}(hT:bs9 T=[40]):Calls Tryz.prog 156 #[.pointer (some ⟨g,0,none⟩),.string T] w (RetX w g A n c d R):=by
 have hlen:=hr.len;have hgw:=hs.lt;have E:=Jh (sy_start hs hr hm hp);have l40:(T.toList == [40])=true:=lit_yes (l:=[40]) hT;clear hs hr hm hT;go_enter Tryz.func156,Tryz.ntmps156;go_wp2_with fail;generalize hW:World.alloc w _=W1 at E ⊢;clear hW;refine(HC _ E.out.st E.out.rd E.out.mx).mono ?_;rintro e w9 ⟨x9,k9,A9,n9,c9,i9,e9,rfl,hnum9,hst9,hkp9,hout⟩;replace E:=Jh (SY.push (SY.call E.out hkp9 hst9) hnum9);clear hnum9 hst9 hkp9;have HO:=Jh hout;clear hout;obtain⟨r0,r1,r2,rf0,rf1,rf2,rlt⟩:=SY.az (g1:=w.heap.size) E (by simp);go_wp2_with fail;clear r0 r1 r2 rf0 rf1 rf2 rlt;have EF:=Jh (SY.pz E.out (g1:=w.heap.size) (by simp) (.bool (ngB x9)) (.slice A9 n9 c9) (.int .i64 (k9:Int)));obtain⟨r0,r1,r2,_,_,_,_⟩:=SY.ad x9 A9 n9 c9 k9 (g1:=w.heap.size) EF (by simp);exact bodyPost_ret (v:=.tuple #[.agg #[.bool (ngB x9),.slice A9 n9 c9,.int .i64 (k9:Int)],.int .i64 (e9:Int)]) (by simp[results,Tryz.results156,go_sem,r0,r1,r2]) rfl ⟨x9,k9,A9,n9,c9,i9,e9,rfl,SY.got EF (by simp),EF.out.st,EF.out.kp,HO.out⟩
theorem pbeh_plus{w:World}{g B n c i d:Nat}{A:Option Addr}{L:List Tk4}(hs:StP w g A n c i d)(hr:RdK w B A n c L)(hm:MaxLen w)(hp:B≤g)(hn:n≤400)(hd:d≤64){G:Nat→Nat→Int→Nat→Prop}(hL:Siz (L.map tok) G)(HC:FacP L i){T:ByteArray}(hT:bs9 T=[43]):Calls Tryz.prog 156 #[.pointer (some ⟨g,0,none⟩),.string T] w (RetX w g A n c d (Rs.neg false (FAC (L.map tok) d i))):=by
 have hlen:=hr.len;have hgw:=hs.lt;have E:=Jh (sy_start hs hr hm hp);have l40:(T.toList == [40])=false:=lit_not (l:=[40]) (by rw[hT];decide);have l43:(T.toList == [43])=true:=lit_yes (l:=[43]) hT;have HLEN:=Jh hlen;have HL:=Jh hL;clear hs hr hm hT hlen hL;go_enter Tryz.func156,Tryz.ntmps156;go_wp2_with fail;generalize hW:World.alloc w _=W1 at E ⊢;clear hW;refine(HC E.out.st E.out.rd E.out.mx hp hn hd).mono ?_;rintro e w9 ⟨x9,k9,A9,n9,c9,i9,e9,rfl,hnum9,hst9,hkp9,hout⟩;replace E:=Jh (SY.push (SY.call E.out hkp9 hst9) hnum9);clear hnum9 hst9 hkp9;cases hF:FAC (L.map tok) d i with
 | inl r=>
  obtain⟨z,b⟩:=r;rw[hF] at hout;obtain⟨hz,rfl,rfl,hx,hk⟩:=hout;have HX:=Jh hx;have HK:=Jh hk;have dz:((e9:Int) != 0)=true:=by rw[bne_iff_ne];omega
  have HO:Hid (Rs.neg false (FAC (L.map tok) d i)=.inl (e9,i9)):=by show _=_;rw[hF];rfl
  have EL:=Jh (SY.lay (g1:=w9.heap.size) (x0:=.bool (ngB x9)) (x1:=.slice A9 n9 c9) (x2:=.int .i64 (k9:Int)) (t:=36) E.out rfl);clear hF hx hk E;obtain⟨q0,q1,q2,qf0,qf1,qf2,qlt⟩:=SY.ad x9 A9 n9 c9 k9 (g1:=w9.heap.size) EL (by simp);obtain⟨r0,r1,r2,rf0,rf1,rf2,rlt⟩:=SY.az (g1:=w.heap.size) EL (by simp);go_wp2_with fail;clear q0 q1 q2 qf0 qf1 qf2 qlt;clear r0 r1 r2 rf0 rf1 rf2 rlt;have EF:=Jh (SY.pz EL.out (g1:=w.heap.size) (by simp) (.bool (ngB x9)) (.slice A9 n9 c9) (.int .i64 (k9:Int)));obtain⟨r0,r1,r2,_,_,_,_⟩:=SY.ad x9 A9 n9 c9 k9 (g1:=w.heap.size) EF (by simp);exact bodyPost_ret (v:=.tuple #[.agg #[.bool (ngB x9),.slice A9 n9 c9,.int .i64 (k9:Int)],.int .i64 (e9:Int)]) (by simp[results,Tryz.results156,go_sem,r0,r1,r2]) rfl ⟨x9,k9,A9,n9,c9,i9,e9,rfl,SY.got EF (by simp),EF.out.st,EF.out.kp,by rw[HO.out];exact⟨hz,rfl,rfl,HX.out,HK.out⟩⟩
 | inr r=>
  obtain⟨j,s,b⟩:=r;rw[hF] at hout;obtain⟨rfl,rfl,rfl,rfl⟩:=hout;have hfit:=HL.out.fits (HL.out.fac hF);have hn9:n9≤1000:=by have:=(SY.got E (A1:=A9) (n1:=n9) (c1:=c9) (x:=x9.natAbs) (by simp)).len;omega
  have hk9:k9≤4010:=hfit.2;have HO:Hid (Rs.neg false (FAC (L.map tok) d i)=.inr (x9,k9,i9)):=by show _=_;rw[hF];rfl
  clear hF hfit;have EL:=Jh (SY.lay (g1:=w9.heap.size) (x0:=.bool (ngB x9)) (x1:=.slice A9 n9 c9) (x2:=.int .i64 (k9:Int)) (t:=36) E.out rfl);clear E;obtain⟨q0,q1,q2,qf0,qf1,qf2,qlt⟩:=SY.ad x9 A9 n9 c9 k9 (g1:=w9.heap.size) EL (by simp);obtain⟨r0,r1,r2,rf0,rf1,rf2,rlt⟩:=SY.az (g1:=w.heap.size) EL (by simp);go_wp2_with fail;clear q0 q1 q2 qf0 qf1 qf2 qlt;clear r0 r1 r2 rf0 rf1 rf2 rlt;have EF:=Jh (SY.pz EL.out (g1:=w.heap.size) (by simp) (.bool (ngB x9)) (.slice A9 n9 c9) (.int .i64 (k9:Int)));obtain⟨r0,r1,r2,_,_,_,_⟩:=SY.ad x9 A9 n9 c9 k9 (g1:=w.heap.size) EF (by simp);exact bodyPost_ret (v:=.tuple #[.agg #[.bool (ngB x9),.slice A9 n9 c9,.int .i64 (k9:Int)],.int .i64 0]) (by simp[results,Tryz.results156,go_sem,r0,r1,r2]) rfl ⟨x9,k9,A9,n9,c9,i9,0,rfl,SY.got EF (by simp),EF.out.st,EF.out.kp,by rw[HO.out];exact⟨rfl,rfl,rfl,rfl⟩⟩
theorem pbeh_minus{w:World}{g B n c i d:Nat}{A:Option Addr}{L:List Tk4}(hs:StP w g A n c i d)(hr:RdK w B A n c L)(hm:MaxLen w)(hp:B≤g)(hn:n≤400)(hd:d≤64){G:Nat→Nat→Int→Nat→Prop}(hL:Siz (L.map tok) G)(HC:FacP L i){T:ByteArray}(hT:bs9 T=[45]):Calls Tryz.prog 156 #[.pointer (some ⟨g,0,none⟩),.string T] w (RetX w g A n c d (Rs.neg true (FAC (L.map tok) d i))):=by
 have hlen:=hr.len;have hgw:=hs.lt;have E:=Jh (sy_start hs hr hm hp);have l40:(T.toList == [40])=false:=lit_not (l:=[40]) (by rw[hT];decide);have l43:(T.toList == [43])=false:=lit_not (l:=[43]) (by rw[hT];decide);have HLEN:=Jh hlen;have HL:=Jh hL;clear hs hr hm hT hlen hL;go_enter Tryz.func156,Tryz.ntmps156;go_wp2_with fail;generalize hW:World.alloc w _=W1 at E ⊢;clear hW;refine(HC E.out.st E.out.rd E.out.mx hp hn hd).mono ?_;rintro e w9 ⟨x9,k9,A9,n9,c9,i9,e9,rfl,hnum9,hst9,hkp9,hout⟩;replace E:=Jh (SY.push (SY.call E.out hkp9 hst9) hnum9);clear hnum9 hst9 hkp9;cases hF:FAC (L.map tok) d i with
 | inl r=>
  obtain⟨z,b⟩:=r;rw[hF] at hout;obtain⟨hz,rfl,rfl,hx,hk⟩:=hout;have HX:=Jh hx;have HK:=Jh hk;have dz:((e9:Int) != 0)=true:=by rw[bne_iff_ne];omega
  have HO:Hid (Rs.neg true (FAC (L.map tok) d i)=.inl (e9,i9)):=by show _=_;rw[hF];rfl
  have EL:=Jh (SY.lay (g1:=w9.heap.size) (x0:=.bool (ngB x9)) (x1:=.slice A9 n9 c9) (x2:=.int .i64 (k9:Int)) (t:=36) E.out rfl);clear hF hx hk E;obtain⟨q0,q1,q2,qf0,qf1,qf2,qlt⟩:=SY.ad x9 A9 n9 c9 k9 (g1:=w9.heap.size) EL (by simp);obtain⟨r0,r1,r2,rf0,rf1,rf2,rlt⟩:=SY.az (g1:=w.heap.size) EL (by simp);go_wp2_with fail;clear q0 q1 q2 qf0 qf1 qf2 qlt;clear r0 r1 r2 rf0 rf1 rf2 rlt;have EF:=Jh (SY.pz EL.out (g1:=w.heap.size) (by simp) (.bool (ngB x9)) (.slice A9 n9 c9) (.int .i64 (k9:Int)));obtain⟨r0,r1,r2,_,_,_,_⟩:=SY.ad x9 A9 n9 c9 k9 (g1:=w.heap.size) EF (by simp);exact bodyPost_ret (v:=.tuple #[.agg #[.bool (ngB x9),.slice A9 n9 c9,.int .i64 (k9:Int)],.int .i64 (e9:Int)]) (by simp[results,Tryz.results156,go_sem,r0,r1,r2]) rfl ⟨x9,k9,A9,n9,c9,i9,e9,rfl,SY.got EF (by simp),EF.out.st,EF.out.kp,by rw[HO.out];exact⟨hz,rfl,rfl,HX.out,HK.out⟩⟩
 | inr r=>
  obtain⟨j,s,b⟩:=r;rw[hF] at hout;obtain⟨rfl,rfl,rfl,rfl⟩:=hout;have hfit:=HL.out.fits (HL.out.fac hF);have hn9:n9≤1000:=by have:=(SY.got E (A1:=A9) (n1:=n9) (c1:=c9) (x:=x9.natAbs) (by simp)).len;omega
  have hk9:k9≤4010:=hfit.2;have HO:Hid (Rs.neg true (FAC (L.map tok) d i)=.inr (-x9,k9,i9)):=by show _=_;rw[hF];rfl
  clear hF hfit;obtain⟨y8,hy8⟩:∃y,-x9=y:=⟨_,rfl⟩;rw[hy8] at HO;have HY:=Jh hy8;clear hy8;have EL:=Jh (SY.lay (g1:=w9.heap.size) (x0:=.bool (ngB x9)) (x1:=.slice A9 n9 c9) (x2:=.int .i64 (k9:Int)) (t:=36) E.out rfl);obtain⟨q0,q1,q2,qf0,qf1,qf2,qlt⟩:=SY.ad x9 A9 n9 c9 k9 (g1:=w9.heap.size) EL (by simp);go_wp2_with fail;clear q0 q1 q2 qf0 qf1 qf2 qlt;clear E;have E:=EL;clear EL;obtain⟨g9,hg9⟩:∃g,w9.heap.size=g:=⟨_,rfl⟩;rw[hg9] at E ⊢;clear hg9;generalize hV:World.alloc w9 _=V9 at E ⊢;clear hV;refine(neg_is5 (i:=x9) (s:=k9) (x:=y8) (SY.got E (A1:=A9) (n1:=n9) (c1:=c9) (by simp)) (by omega) (by omega) HY.out).mono ?_;rintro e w10 ⟨A8,n8,c8,rfl,hnum8,hb8⟩;replace E:=Jh (SY.push (SY.step E.out hb8) hnum8);clear hnum8 hb8;obtain⟨r0,r1,r2,rf0,rf1,rf2,rlt⟩:=SY.az (g1:=w.heap.size) E (by simp);go_wp2_with fail;clear r0 r1 r2 rf0 rf1 rf2 rlt;have EF:=Jh (SY.pz E.out (g1:=w.heap.size) (by simp) (.bool (ngB y8)) (.slice A8 n8 c8) (.int .i64 (k9:Int)));obtain⟨r0,r1,r2,_,_,_,_⟩:=SY.ad y8 A8 n8 c8 k9 (g1:=w.heap.size) EF (by simp);exact bodyPost_ret (v:=.tuple #[.agg #[.bool (ngB y8),.slice A8 n8 c8,.int .i64 (k9:Int)],.int .i64 0]) (by simp[results,Tryz.results156,go_sem,r0,r1,r2]) rfl ⟨y8,k9,A8,n8,c8,i9,0,rfl,SY.got EF (by simp),EF.out.st,EF.out.kp,by rw[HO.out];exact⟨rfl,rfl,rfl,rfl⟩⟩
theorem pfac_end{w:World}{g B n c i d:Nat}{A:Option Addr}{L:List Tk4}(hs:StP w g A n c i d)(hr:RdK w B A n c L)(hm:MaxLen w)(hp:B≤g)(hn:n≤400)(hd:d≤64)(hi:i=n):Calls Tryz.prog 138 #[.pointer (some ⟨g,0,none⟩)] w (RetX w g A n c d (FAC (L.map tok) d i)):=by
 have hlen:=hr.len;have hgw:=hs.lt;have E:=Jh (sy_start hs hr hm hp);have HO:Hid (FAC (L.map tok) d i=.inl (2,i)):=FAC_none (by rw[List.length_map];omega);clear hs hr hm hlen;go_enter Tryz.func138,Tryz.ntmps138;go_wp2_with fail;generalize hW:World.alloc w _=W1 at E ⊢;clear hW;refine(pnext_end E.out.st hi).mono ?_;rintro e w10 ⟨rfl,hb⟩;replace E:=Jh (SY.step E.out hb);clear hb;have EL:=Jh (SY.word (g1:=w10.heap.size) E.out 0 ⟨#[]⟩ 0 0 (t:=65) rfl);obtain⟨r0,r1,r2,rf0,rf1,rf2,rlt⟩:=SY.az (g1:=w.heap.size) EL (by simp);go_wp2_with fail;clear r0 r1 r2 rf0 rf1 rf2 rlt;have EF:=Jh (SY.pz EL.out (g1:=w.heap.size) (by simp) (.bool false) (.slice none 0 0) (.int .i64 0));obtain⟨r0,r1,r2,_,_,_,_⟩:=SY.az (g1:=w.heap.size) EF (by simp);exact bodyPost_ret (v:=.tuple #[.agg #[.bool false,.slice none 0 0,.int .i64 0],.int .i64 2]) (by simp[results,Tryz.results138,go_sem,r0,r1,r2]) rfl ⟨0,0,none,0,0,i,2,rfl,num_zero _ _,EF.out.st,EF.out.kp,by rw[HO.out];exact⟨by omega,rfl,rfl,rfl,rfl⟩⟩
theorem pfac_not{w:World}{g B n c i d:Nat}{A:Option Addr}{L:List Tk4}(hs:StP w g A n c i d)(hr:RdK w B A n c L)(hm:MaxLen w)(hp:B≤g)(hn:n≤400)(hd:d≤64){t:Tk4}(ht:L[i]?=some t)(hst:sta (tok t)=false):Calls Tryz.prog 138 #[.pointer (some ⟨g,0,none⟩)] w (RetX w g A n c d (FAC (L.map tok) d i)):=by
 have hlen:=hr.len;have hgw:=hs.lt;have E:=Jh (sy_start hs hr hm hp);obtain⟨k,T,l,m⟩:=t;have hk:k≠4:=fun e=>by have h:sta (k,T)=false:=hst;rw[e] at h;unfold sta at h;simp at h
 have HO:Hid (FAC (L.map tok) d i=.inl (3,i)):=FAC_not (t:=(k,T)) (by rw[List.getElem?_map,ht];rfl) hk hst;have HST:Hid (sta (k,T)=false):=hst;clear hst hk;have HT:=Jh ht;clear hs hr hm hlen;go_enter Tryz.func138,Tryz.ntmps138;go_wp2_with fail;generalize hW:World.alloc w _=W1 at E ⊢;clear hW;refine(pnext_some E.out.st E.out.rd (by have:=E.out.pl;have:=E.out.st.lt;omega) (by omega) ht).mono ?_;rintro e w10 ⟨rfl,hb⟩;replace E:=Jh (SY.step E.out hb);clear hb ht;unfold tk4;go_wp2_with fail;replace E:=Jh (SY.word (g1:=w10.heap.size) E.out k T l m (t:=65) rfl);obtain⟨g4,hg4⟩:∃g,w10.heap.size=g:=⟨_,rfl⟩;rw[hg4] at E ⊢;clear hg4;generalize hV:World.alloc w10 _=V10 at E ⊢;clear hV;refine(pstarts HST.out l m).mono ?_;rintro e w11 ⟨rfl,hb⟩;replace E:=Jh (SY.step E.out hb);clear hb;obtain⟨r0,r1,r2,rf0,rf1,rf2,rlt⟩:=SY.az (g1:=w.heap.size) E (by simp);go_wp2_with fail;clear r0 r1 r2 rf0 rf1 rf2 rlt;have EF:=Jh (SY.pz E.out (g1:=w.heap.size) (by simp) (.bool false) (.slice none 0 0) (.int .i64 0));obtain⟨r0,r1,r2,_,_,_,_⟩:=SY.az (g1:=w.heap.size) EF (by simp);exact bodyPost_ret (v:=.tuple #[.agg #[.bool false,.slice none 0 0,.int .i64 0],.int .i64 3]) (by simp[results,Tryz.results138,go_sem,r0,r1,r2]) rfl ⟨0,0,none,0,0,i,3,rfl,num_zero _ _,EF.out.st,EF.out.kp,by rw[HO.out];exact⟨by omega,rfl,rfl,rfl,rfl⟩⟩
theorem pfac_num{w:World}{g B n c i d:Nat}{A:Option Addr}{L:List Tk4}(hs:StP w g A n c i d)(hr:RdK w B A n c L)(hm:MaxLen w)(hp:B≤g)(hn:n≤400)(hd:d≤64){t:Tk4}(ht:L[i]?=some t)(hk:t.1=4)(hT:t.2.1.size≤6000):Calls Tryz.prog 138 #[.pointer (some ⟨g,0,none⟩)] w (RetX w g A n c d (FAC (L.map tok) d i)):=by
 have hlen:=hr.len;have hgw:=hs.lt;have E:=Jh (sy_start hs hr hm hp);obtain⟨k,T,l,m⟩:=t;have HO:Hid (FAC (L.map tok) d i=numR T i):=FAC_num (t:=(k,T)) (by rw[List.getElem?_map,ht];rfl) hk;have dk:(k == 4)=true:=by rw[beq_iff_eq];exact hk
 have HST:Hid (sta (k,T)=true):=by show sta (k,T)=true;unfold sta;rw[decide_eq_true (show(k,T).1=4 from hk)];rfl
 have hTs:T.size≤6000:=Nat.le_trans hT (by omega);have hi:i≤1000:=by have:=(List.getElem?_eq_some_iff.1 ht).1;omega
 clear hk hT;have HT:=Jh ht;clear hs hr hm hlen;go_enter Tryz.func138,Tryz.ntmps138;go_wp2_with fail;generalize hW:World.alloc w _=W1 at E ⊢;clear hW;refine(pnext_some E.out.st E.out.rd (by have:=E.out.pl;have:=E.out.st.lt;omega) (by omega) ht).mono ?_;rintro e w10 ⟨rfl,hb⟩;replace E:=Jh (SY.step E.out hb);clear hb ht;unfold tk4;go_wp2_with fail;replace E:=Jh (SY.word (g1:=w10.heap.size) E.out k T l m (t:=65) rfl);obtain⟨g4,hg4⟩:∃g,w10.heap.size=g:=⟨_,rfl⟩;rw[hg4] at E ⊢;clear hg4;generalize hV:World.alloc w10 _=V10 at E ⊢;clear hV;refine(pstarts HST.out l m).mono ?_;rintro e w11 ⟨rfl,hb⟩;replace E:=Jh (SY.step E.out hb);clear hb;obtain⟨t0,t1,t2,t3,tf0,tf1,tf2,tf3,tlt⟩:=SY.wat (k:=k) (T:=T) (p:=l) (q:=m) (g1:=g4) E (by simp);go_wp2_with fail;clear t0 t1 t2 t3 tf0 tf1 tf2 tf3 tlt;refine(pnumber E.out.st E.out.rd E.out.mx hp hi T hTs).mono ?_;rintro e w9 ⟨x9,k9,A9,n9,c9,i9,e9,rfl,hnum9,hst9,hkp9,hout⟩;replace E:=Jh (SY.push (SY.call E.out hkp9 hst9) hnum9);clear hnum9 hst9 hkp9;rw[← HO.out] at hout;have HO2:=Jh hout;clear hout;obtain⟨r0,r1,r2,rf0,rf1,rf2,rlt⟩:=SY.az (g1:=w.heap.size) E (by simp);go_wp2_with fail;clear r0 r1 r2 rf0 rf1 rf2 rlt;have EF:=Jh (SY.pz E.out (g1:=w.heap.size) (by simp) (.bool (ngB x9)) (.slice A9 n9 c9) (.int .i64 (k9:Int)));obtain⟨r0,r1,r2,_,_,_,_⟩:=SY.ad x9 A9 n9 c9 k9 (g1:=w.heap.size) EF (by simp);exact bodyPost_ret (v:=.tuple #[.agg #[.bool (ngB x9),.slice A9 n9 c9,.int .i64 (k9:Int)],.int .i64 (e9:Int)]) (by simp[results,Tryz.results138,go_sem,r0,r1,r2]) rfl ⟨x9,k9,A9,n9,c9,i9,e9,rfl,SY.got EF (by simp),EF.out.st,EF.out.kp,HO2.out⟩
theorem pfac_deep{w:World}{g B n c i d:Nat}{A:Option Addr}{L:List Tk4}(hs:StP w g A n c i d)(hr:RdK w B A n c L)(hm:MaxLen w)(hp:B≤g)(hn:n≤400)(hd:d≤64){t:Tk4}(ht:L[i]?=some t)(hk:t.1≠4)(hst:sta (tok t)=true)(h64:d=64):Calls Tryz.prog 138 #[.pointer (some ⟨g,0,none⟩)] w (RetX w g A n c d (FAC (L.map tok) d i)):=by
 have hlen:=hr.len;have hgw:=hs.lt;have E:=Jh (sy_start hs hr hm hp);obtain⟨k,T,l,m⟩:=t;have HO:Hid (FAC (L.map tok) d i=.inl (6,i)):=FAC_deep (t:=(k,T)) (by rw[List.getElem?_map,ht];rfl) hk hst (by omega);have dk:(k == 4)=false:=by rw[beq_eq_false_iff_ne];exact hk
 have d64:((d:Int) == 64)=true:=by rw[beq_iff_eq];omega
 have HST:Hid (sta (k,T)=true):=hst;clear hk hst h64;have HT:=Jh ht;clear hs hr hm hlen;go_enter Tryz.func138,Tryz.ntmps138;go_wp2_with fail;generalize hW:World.alloc w _=W1 at E ⊢;clear hW;refine(pnext_some E.out.st E.out.rd (by have:=E.out.pl;have:=E.out.st.lt;omega) (by omega) ht).mono ?_;rintro e w10 ⟨rfl,hb⟩;replace E:=Jh (SY.step E.out hb);clear hb ht;unfold tk4;go_wp2_with fail;replace E:=Jh (SY.word (g1:=w10.heap.size) E.out k T l m (t:=65) rfl);obtain⟨g4,hg4⟩:∃g,w10.heap.size=g:=⟨_,rfl⟩;rw[hg4] at E ⊢;clear hg4;generalize hV:World.alloc w10 _=V10 at E ⊢;clear hV;refine(pstarts HST.out l m).mono ?_;rintro e w11 ⟨rfl,hb⟩;replace E:=Jh (SY.step E.out hb);clear hb;obtain⟨t0,t1,t2,t3,tf0,tf1,tf2,tf3,tlt⟩:=SY.wat (k:=k) (T:=T) (p:=l) (q:=m) (g1:=g4) E (by simp);obtain⟨p0,p1,p2,pf0,pf1,pf2,plt⟩:=SY.facts E;obtain⟨r0,r1,r2,rf0,rf1,rf2,rlt⟩:=SY.az (g1:=w.heap.size) E (by simp);go_wp2_with fail;clear t0 t1 t2 t3 tf0 tf1 tf2 tf3 tlt;clear p0 p1 p2 pf0 pf1 pf2 plt;clear r0 r1 r2 rf0 rf1 rf2 rlt;have EF:=Jh (SY.pz E.out (g1:=w.heap.size) (by simp) (.bool false) (.slice none 0 0) (.int .i64 0));obtain⟨r0,r1,r2,_,_,_,_⟩:=SY.az (g1:=w.heap.size) EF (by simp);exact bodyPost_ret (v:=.tuple #[.agg #[.bool false,.slice none 0 0,.int .i64 0],.int .i64 6]) (by simp[results,Tryz.results138,go_sem,r0,r1,r2]) rfl ⟨0,0,none,0,0,i,6,rfl,num_zero _ _,EF.out.st,EF.out.kp,by rw[HO.out];exact⟨by omega,rfl,rfl,rfl,rfl⟩⟩
theorem pfac_go{w:World}{g B n c i d:Nat}{A:Option Addr}{L:List Tk4}(hs:StP w g A n c i d)(hr:RdK w B A n c L)(hm:MaxLen w)(hp:B≤g)(hn:n≤400)(hd:d≤64){t:Tk4}(ht:L[i]?=some t)(hk:t.1≠4)(hst:sta (tok t)=true)(h64:d<64){R:Rs}(hR:FAC (L.map tok) d i=R)(HC:∀w':World,StP w' g A n c (i+1) (d+1)→RdK w' B A n c L→MaxLen w'→Calls Tryz.prog 156 #[.pointer (some ⟨g,0,none⟩),.string t.2.1] w' (RetX w' g A n c (d+1) R)):Calls Tryz.prog 138 #[.pointer (some ⟨g,0,none⟩)] w (RetX w g A n c d (FAC (L.map tok) d i)):=by
 have hlen:=hr.len;have hgw:=hs.lt;have E:=Jh (sy_start hs hr hm hp);obtain⟨k,T,l,m⟩:=t;have HO:=Jh hR;have dk:(k == 4)=false:=by rw[beq_eq_false_iff_ne];exact hk
 have d64:((d:Int) == 64)=false:=by rw[beq_eq_false_iff_ne];omega
 have HST:Hid (sta (k,T)=true):=hst;have hi:i≤1000:=by have:=(List.getElem?_eq_some_iff.1 ht).1;omega
 obtain⟨i1,hi1⟩:∃i1,i+1=i1:=⟨_,rfl⟩;obtain⟨d1,hd1⟩:∃d1,d+1=d1:=⟨_,rfl⟩;have ed:(d:Int)+1=(d1:Int):=by omega
 have ed2:(d1:Int)-1=(d:Int):=by omega
 have hd11:d1≤64:=by omega
 rw[hi1,hd1] at HC;have HI:=Jh hi1;clear hk hst hR hi1 hd1;have HT:=Jh ht;clear hs hr hm hlen;go_enter Tryz.func138,Tryz.ntmps138;go_wp2_with fail;generalize hW:World.alloc w _=W1 at E ⊢;clear hW;refine(pnext_some E.out.st E.out.rd (by have:=E.out.pl;have:=E.out.st.lt;omega) (by omega) ht).mono ?_;rintro e w10 ⟨rfl,hb⟩;replace E:=Jh (SY.step E.out hb);clear hb ht;unfold tk4;go_wp2_with fail;replace E:=Jh (SY.word (g1:=w10.heap.size) E.out k T l m (t:=65) rfl);obtain⟨g4,hg4⟩:∃g,w10.heap.size=g:=⟨_,rfl⟩;rw[hg4] at E ⊢;clear hg4;generalize hV:World.alloc w10 _=V10 at E ⊢;clear hV;refine(pstarts HST.out l m).mono ?_;rintro e w11 ⟨rfl,hb⟩;replace E:=Jh (SY.step E.out hb);clear hb;obtain⟨t0,t1,t2,t3,tf0,tf1,tf2,tf3,tlt⟩:=SY.wat (k:=k) (T:=T) (p:=l) (q:=m) (g1:=g4) E (by simp);obtain⟨p0,p1,p2,pf0,pf1,pf2,plt⟩:=SY.facts E;go_wp2_with fail;clear t0 t1 t2 t3 tf0 tf1 tf2 tf3 tlt;clear p0 p1 p2 pf0 pf1 pf2 plt;refine(ppass E.out.st (by omega) i1 HI.out).mono ?_;rintro e w12 ⟨rfl,rfl⟩;replace E:=Jh (SY.set1 E.out i1);obtain⟨t0,t1,t2,t3,tf0,tf1,tf2,tf3,tlt⟩:=SY.wat (k:=k) (T:=T) (p:=l) (q:=m) (g1:=g4) E (by simp);obtain⟨p0,p1,p2,pf0,pf1,pf2,plt⟩:=SY.facts E;have ng:g≠g4:=by
  have h0:=(SY.facts E).c0;have h1:=(SY.wat (k:=k) (T:=T) (p:=l) (q:=m) (g1:=g4) E (by simp)).c0;rintro rfl;rw[h0] at h1;cases h1
 have ng2:g4≠g:=fun e=>ng e.symm
 generalize hV:World.setCell w11 _ _=V11 at E p0 p1 p2 pf0 pf1 pf2 plt t0 t1 t2 t3 tf0 tf1 tf2 tf3 tlt ⊢;clear hV;go_wp2_with fail;clear t0 t1 t2 t3 tf0 tf1 tf2 tf3 tlt;clear p0 p1 p2 pf0 pf1 pf2 plt;replace E:=Jh (SY.set2 E.out d1);generalize hV:World.setCell V11 _ _=V12 at E ⊢;clear hV;refine(HC _ E.out.st E.out.rd E.out.mx).mono ?_;rintro e w9 ⟨x9,k9,A9,n9,c9,i9,e9,rfl,hnum9,hst9,hkp9,hout⟩;replace E:=Jh (SY.push (SY.call E.out hkp9 hst9) hnum9);clear hnum9 hst9 hkp9;have HO2:=Jh hout;clear hout;have EL:=Jh (SY.lay (g1:=w9.heap.size) (x0:=.bool (ngB x9)) (x1:=.slice A9 n9 c9) (x2:=.int .i64 (k9:Int)) (t:=36) E.out rfl);have n1:g≠w9.heap.size:=by have:=E.out.st.lt;omega
 have n2:w9.heap.size≠g:=fun e=>n1 e.symm
 have n3:g≠w.heap.size:=by omega
 have n4:w.heap.size≠g:=by omega
 clear E;obtain⟨p0,p1,p2,pf0,pf1,pf2,plt⟩:=SY.facts EL;obtain⟨q0,q1,q2,qf0,qf1,qf2,qlt⟩:=SY.ad x9 A9 n9 c9 k9 (g1:=w9.heap.size) EL (by simp);obtain⟨r0,r1,r2,rf0,rf1,rf2,rlt⟩:=SY.az (g1:=w.heap.size) EL (by simp);go_wp2_with fail;clear p0 p1 p2 pf0 pf1 pf2 plt;clear q0 q1 q2 qf0 qf1 qf2 qlt;clear r0 r1 r2 rf0 rf1 rf2 rlt;have E:=Jh (SY.set2 EL.out d);have EF:=Jh (SY.pz E.out (g1:=w.heap.size) (by simp) (.bool (ngB x9)) (.slice A9 n9 c9) (.int .i64 (k9:Int)));obtain⟨r0,r1,r2,_,_,_,_⟩:=SY.ad x9 A9 n9 c9 k9 (g1:=w.heap.size) EF (by simp);exact bodyPost_ret (v:=.tuple #[.agg #[.bool (ngB x9),.slice A9 n9 c9,.int .i64 (k9:Int)],.int .i64 (e9:Int)]) (by simp[results,Tryz.results138,go_sem,r0,r1,r2]) rfl ⟨x9,k9,A9,n9,c9,i9,e9,rfl,SY.got EF (by simp),EF.out.st,EF.out.kp,by rw[HO.out];exact HO2.out⟩
theorem pfactor{L:List Tk4}{i:Nat}{G:Nat→Nat→Int→Nat→Prop}(hL:Siz (L.map tok) G)(hi:i≤L.length)(HS:i<L.length→SumP L (i+1))(HF:i<L.length→FacP L (i+1)):FacP L i:=by
 intro w g B n c d A hs hr hm hp hn hd;rcases Nat.lt_or_ge i L.length with h|h
 ·obtain⟨t,ht⟩:∃t,L[i]?=some t:=⟨_,List.getElem?_eq_getElem h⟩
  have hm1:tok t∈L.map tok:=List.mem_map_of_mem (List.mem_of_getElem? ht);have hg:(L.map tok)[i]?=some (tok t):=by rw[List.getElem?_map,ht];rfl
  cases hst:sta (tok t) with
  | false=>exact pfac_not hs hr hm hp hn hd ht hst
  | true=>
   by_cases hk:t.1=4
   ·exact pfac_num hs hr hm hp hn hd ht hk (hL.txt _ hm1)
   ·rcases Nat.lt_or_ge d 64 with h64|h64
    ·have hk10:t.1=10:=sta_ten hst hk
     cases ho:isg (tok t) 40 with
     | true=>
      have hT:bs9 t.2.1=[40]:=of_decide_eq_true (isg_txt (k:=t.1) (T:=t.2.1) ho hk10);exact pfac_go hs hr hm hp hn hd ht hk hst h64 (FAC_open hg hk hst h64 ho) fun w' hs' hr' hm'=>pbeh_open hs' hr' hm' hp hn (by omega) (fun w2 hs2 hr2 hm2=>pshut hs2 hr2 hm2 hp hn (by omega) (HS h)) hT
     | false=>
      cases hb:isg (tok t) 45 with
      | true=>
       have hT:bs9 t.2.1=[45]:=of_decide_eq_true (isg_txt (k:=t.1) (T:=t.2.1) hb hk10);exact pfac_go hs hr hm hp hn hd ht hk hst h64 ((FAC_sign hg hk hst h64 ho).trans (by rw[hb])) fun w' hs' hr' hm'=>pbeh_minus hs' hr' hm' hp hn (by omega) hL (HF h) hT
      | false=>
       have h43:isg (tok t) 43=true:=by
        unfold sta at hst;rw[hb,ho,decide_eq_false (show ¬(tok t).1=4 from hk)] at hst;simpa using hst
       have hT:bs9 t.2.1=[43]:=of_decide_eq_true (isg_txt (k:=t.1) (T:=t.2.1) h43 hk10);exact pfac_go hs hr hm hp hn hd ht hk hst h64 ((FAC_sign hg hk hst h64 ho).trans (by rw[hb])) fun w' hs' hr' hm'=>pbeh_plus hs' hr' hm' hp hn (by omega) hL (HF h) hT
    ·exact pfac_deep hs hr hm hp hn hd ht hk hst (by omega)
 ·exact pfac_end hs hr hm hp hn hd (by have:=hr.len;omega)
structure Chn (L:List Tok) (G:Nat→Nat→Int→Nat→Prop) (i:Nat) (P:Nat→Rs) (F:Int→Nat→Nat→Rs) (x y:Nat):Prop where
 sx:x=43∨x=45∨x=42∨x=47
 sy:y=43∨y=45∨y=42∨y=47
 fin:∀{v k a},isAt L a x=false→isAt L a y=false→F v k a=.inr (v,k,a)
 err:∀{v k a e},isAt L a x=true∨isAt L a y=true→P (a+1)=.inl e→F v k a=.inl e
 go:∀{v k a j t b z},z=x∨z=y→isAt L a z=true→P (a+1)=.inr (j,t,b)→(jnd z v k j t).2.2=0→F v k a=F (jnd z v k j t).1 (jnd z v k j t).2.1 b
 bad:∀{v k a j t b z},z=x∨z=y→isAt L a z=true→P (a+1)=.inr (j,t,b)→0<(jnd z v k j t).2.2→F v k a=.inl ((jnd z v k j t).2.2,a)∧(jnd z v k j t).1=0∧(jnd z v k j t).2.1=0
 grt:∀{v k a j t b z},z=x∨z=y→G i a v k→P (a+1)=.inr (j,t,b)→(jnd z v k j t).2.2=0→G i b (jnd z v k j t).1 (jnd z v k j t).2.1
 rng:∀{a b i k},G a b i k→a<b∧b≤L.length
 fits:∀{a b i k},G a b i k→(dg i.natAbs).length≤900∧k≤4010
 pgrt:∀{a j t b},P a=.inr (j,t,b)→G a b j t
 len:∀{v k a j t b},G i a v k→P (a+1)=.inr (j,t,b)→j≠0→(dg (quoQ v k j t).natAbs).length≤1000
def ChI(G:Nat→Nat→Int→Nat→Prop)(i:Nat)(F:Int→Nat→Nat→Rs)(S:Rs)(v:Int)(k a e:Nat):Prop:=
 (e=0∧S=F v k a∧G i a v k)∨(0<e∧OutX v k a e S)
def msp(g n:Nat)(iv:Value)(w:World):Nat:=if intOf iv=0 then n+1-(match w.cell? ⟨g,1,none⟩ with|some v=>(intOf v).toNat|none=>0) else 0
theorem msp_is{w:World}{g n c i d:Nat}{A:Option Addr}(h:StP w g A n c i d)(e:Nat):msp g n (.int .i64 (e:Int)) w=if e=0 then n+1-i else 0:=by
 have p:=h.bx;unfold msp;rw[p.c1];show(if (e:Int)=0 then n+1-((i:Int)).toNat else 0)=_;rw[Int.toNat_natCast];by_cases he:e=0
 ·subst he;simp
 ·rw[if_neg he,if_neg (by omega)]
theorem pchain{w:World}{fn:Nat}{P:Nat→Rs}{F:Int→Nat→Nat→Rs}{G:Nat→Nat→Int→Nat→Prop}{S:Rs}{x y q:Nat}{s1 s2:ByteArray}{g B n c i d:Nat}{A:Option Addr}{L:List Tk4}(hs:StP w g A n c i d)(hr:RdK w B A n c L)(hm:MaxLen w)(hp:B≤g)(hn:n≤400)(hd:d≤64)(hent:∀(args:Array Value) (W:World),(callFunc fn args).run Tryz.prog W=.ok (.enter fn args) W)(hi:i≤n)(CN:Chn (L.map tok) G i P F x y)(h1:bs9 s1=[x])(h2:bs9 s2=[y])(hsg:Sgn w q 2 2 [s1,s2])(hS:(∀e,P i=.inl e→S=.inl e)∧∀v k b,P i=.inr (v,k,b)→S=F v k b)
  (HP:∀a,i≤a→a≤n→∀w':World,StP w' g A n c a d→RdK w' B A n c L→MaxLen w'→Calls Tryz.prog fn #[.pointer (some ⟨g,0,none⟩)] w' (RetX w' g A n c d (P a))) :
  Calls Tryz.prog 124 #[.pointer (some ⟨g,0,none⟩),.func (.func fn) #[.pointer (some ⟨g,0,none⟩)] #[],.slice (some ⟨q,0,none⟩) 2 2] w (RetX w g A n c d S):=by
 have hlen:=hr.len;have hgw:=hs.lt;have E:=Jh (sy_start hs hr hm hp);have hqg:q≠g:=by
  have h0:=hsg.row 0 s1 rfl;have h3:=hs.bx.c0;rintro rfl;rw[h0] at h3;cases h3
 have SG:=Jh hsg;have HLEN:=Jh hlen;have HLL:Hid ((L.map tok).length≤400):=by show _≤_;rw[List.length_map];omega
 have HCN:=Jh CN;have HSS:=Jh hS;have H1:=Jh h1;have H2:=Jh h2;have HPP:=Jh HP;clear hs hr hm hlen hsg CN hS h1 h2 HP;go_enter Tryz.func124,Tryz.ntmps124;go_wp2_with fail;generalize hW:World.alloc w _=W1 at E ⊢;clear hW;refine(HPP.out i (Nat.le_refl _) hi _ E.out.st E.out.rd E.out.mx).mono ?_;rintro e w9 ⟨x9,k9,A9,n9,c9,i9,e9,rfl,hnum9,hst9,hkp9,hout⟩;replace E:=Jh (SY.push (SY.call E.out hkp9 hst9) hnum9);clear hnum9 hst9 hkp9;have I0:Hid (ChI G i F S x9 k9 i9 e9):=by
  show ChI _ _ _ _ _ _ _ _;cases hP:P i with
  | inl r=>
   obtain⟨z,b⟩:=r;rw[hP] at hout;exact .inr ⟨by have:=hout.1;have:=hout.2.1;omega,by rw[HSS.out.1 _ hP];exact hout⟩
  | inr r=>
   obtain⟨j,s,b⟩:=r;rw[hP] at hout;obtain⟨rfl,rfl,rfl,rfl⟩:=hout;exact .inl ⟨rfl,HSS.out.2 _ _ _ hP,HCN.out.pgrt hP⟩
 clear hout;have n5:w9.heap.size≠w.heap.size:=by have:=(SY.az (g1:=w.heap.size) E (by simp)).lt;omega
 go_wp2_with fail;replace E:=Jh (SY.lay (g1:=w9.heap.size) (x0:=.bool (ngB x9)) (x1:=.slice A9 n9 c9) (x2:=.int .i64 (k9:Int)) (t:=36) E.out rfl);obtain⟨g8,hg8⟩:∃g,w9.heap.size=g:=⟨_,rfl⟩;rw[hg8] at E n5 ⊢;clear hg8;generalize hV:World.alloc w9 _=V9 at E ⊢;clear hV;have n6:w.heap.size≠g8:=fun e=>n5 e.symm
 go_loopw [9] (fun iv wr=>∃(e:Nat) (v:Int) (k:Nat) (A1:Option Addr) (n1 c1 a:Nat),iv=.int .i64 (e:Int)∧SY w wr g B A n c L a d [(A1,n1,c1,v.natAbs)] [(g8,.bool (ngB v),.slice A1 n1 c1,.int .i64 (k:Int)),(w.heap.size,.bool false,.slice none 0 0,.int .i64 0)] []∧ChI G i F S v k a e) (fun iv wr=>msp g n iv wr)
 case atStart=>exact⟨e9,x9,k9,A9,n9,c9,i9,rfl,E.out,I0.out⟩
 case round=>
  obtain⟨e,v,k,A1,n1,c1,a,rfl,hE,hI⟩:=hrel;replace E:=Jh hE;have S0:=Jh hE.st;have I:=Jh hI;clear hE hI I0;rcases Nat.eq_zero_or_pos e with h0|h0
  ·subst h0
   have hI2:S=F v k a∧G i a v k:=by
    rcases I.out with⟨_,q1,q2⟩|⟨q1,_⟩
    ·exact⟨q1,q2⟩
    ·omega
   have HF:=Jh hI2.1;have HG:=Jh hI2.2;have ha:i≤a∧a≤n:=by have h:=HCN.out.rng hI2.2;rw[List.length_map] at h;have:=HLEN.out;omega
   have hfit:=HCN.out.fits hI2.2;have hn1:n1≤1000:=by have:=(SY.got E (A1:=A1) (n1:=n1) (c1:=c1) (x:=v.natAbs) (by simp)).len;omega
   have hk1:k≤4010:=hfit.2;clear hI2 hfit;obtain⟨p0,p1,p2,pf0,pf1,pf2,plt⟩:=SY.facts E;go_wp2_with fail;clear p0 p1 p2 pf0 pf1 pf2 plt;rcases Nat.lt_or_ge a n with han|han
   ·obtain⟨t,ht⟩:∃t,L[a]?=some t:=⟨_,List.getElem?_eq_getElem (by have:=HLEN.out;omega)⟩
    obtain⟨kk,T,l,m⟩:=t;refine(pnext_some E.out.st E.out.rd (by have:=E.out.pl;have:=E.out.st.lt;omega) (by omega) ht).mono ?_;rintro e w10 ⟨rfl,hb⟩;replace E:=Jh (SY.step E.out hb);clear hb;unfold tk4;go_wp2_with fail;have SG2:=Jh (SG.out.kp E.out.kp hqg);replace E:=Jh (SY.word (g1:=w10.heap.size) E.out kk T l m (t:=65) rfl);replace SG2:=Jh (SG2.out.on ((Below.refl _ w10).alloc (Nat.le_refl _) (.cells #[.int .i64 kk,.string T,.int .i64 l,.int .i64 m] 65)));obtain⟨g11,hg11⟩:∃g,w10.heap.size=g:=⟨_,rfl⟩;rw[hg11] at E ⊢;clear hg11;generalize hV:World.alloc w10 _=V10 at E SG2 ⊢;clear hV;obtain⟨bz,hbz⟩:∃bz,isgs (kk,T) [s1,s2]=bz:=⟨_,rfl⟩;have hbz2:(isg (kk,T) x||isg (kk,T) y)=bz:=by rw[← isgs_two _ H1.out H2.out];exact hbz
    have hxy:∀c,isAt (L.map tok) a c=isg (kk,T) c:=fun c=>isAt_some ht
    refine(pissign SG2.out hbz l m).mono ?_;rintro e w11 ⟨rfl,hb⟩;replace E:=Jh (SY.step E.out hb);clear hb hbz SG2;cases bz with
    | false=>
     rw[Bool.or_eq_false_iff] at hbz2;have HO:Hid (S=.inr (v,k,a)):=by
      show _=_;rw[HF.out];exact HCN.out.fin ((hxy _).trans hbz2.1) ((hxy _).trans hbz2.2)
     clear hbz2 hxy ht;obtain⟨q0,q1,q2,qf0,qf1,qf2,qlt⟩:=SY.ad v A1 n1 c1 k (g1:=g8) E (by simp);obtain⟨r0,r1,r2,rf0,rf1,rf2,rlt⟩:=SY.az (g1:=w.heap.size) E (by simp);go_wp2_with fail;clear q0 q1 q2 qf0 qf1 qf2 qlt;clear r0 r1 r2 rf0 rf1 rf2 rlt;have EF:=Jh (SY.pz E.out (g1:=w.heap.size) (by simp) (.bool (ngB v)) (.slice A1 n1 c1) (.int .i64 (k:Int)));obtain⟨r0,r1,r2,_,_,_,_⟩:=SY.ad v A1 n1 c1 k (g1:=w.heap.size) EF (by simp);exact bodyPost_ret (v:=.tuple #[.agg #[.bool (ngB v),.slice A1 n1 c1,.int .i64 (k:Int)],.int .i64 0]) (by simp[results,Tryz.results124,go_sem,r0,r1,r2]) rfl ⟨v,k,A1,n1,c1,a,0,rfl,SY.got EF (by simp),EF.out.st,EF.out.kp,by rw[HO.out];exact⟨rfl,rfl,rfl,rfl⟩⟩
    | true=>
     obtain⟨z,hz,hz1⟩:∃z,(z=x∨z=y)∧isg (kk,T) z=true:=by
      rcases Bool.or_eq_true_iff.1 hbz2 with h|h
      ·exact⟨x,.inl rfl,h⟩
      ·exact⟨y,.inr rfl,h⟩
     have hza:isAt (L.map tok) a z=true:=(hxy z).trans hz1;have hT:bs9 T=[z]:=by
      rw[isg_is,Bool.and_eq_true] at hz1;exact of_decide_eq_true hz1.2
     have hz4:z=43∨z=45∨z=42∨z=47:=by
      rcases hz with rfl|rfl
      ·exact HCN.out.sx
      ·exact HCN.out.sy
     have hxy2:isAt (L.map tok) a x=true∨isAt (L.map tok) a y=true:=by
      rcases hz with rfl|rfl
      ·exact .inl hza
      ·exact .inr hza
     have HZ:=Jh hz;have HZA:=Jh hza;have HT:=Jh hT;have HZ4:=Jh hz4;have HXY:=Jh hxy2;clear hbz2 hxy ht hz1 hz hza hT hz4 hxy2;obtain⟨a1,ha1⟩:∃a1,a+1=a1:=⟨_,rfl⟩;have HA1:=Jh ha1;have ha1n:i≤a1∧a1≤n:=by omega
     clear ha1;go_wp2_with fail;refine(ppass E.out.st (by omega) a1 HA1.out).mono ?_;rintro e w12 ⟨rfl,rfl⟩;replace E:=Jh (SY.set1 E.out a1);generalize hV:World.setCell w11 _ _=V11 at E ⊢;clear hV;go_wp2_with fail;refine(HPP.out a1 ha1n.1 ha1n.2 _ E.out.st E.out.rd E.out.mx).mono ?_;rintro e w7 ⟨x7,k7,A7,n7,c7,i7,e7,rfl,hnum7,hst7,hkp7,hout⟩;replace E:=Jh (SY.push (SY.call E.out hkp7 hst7) hnum7);clear hnum7 hst7 hkp7;cases hP:P a1 with
     | inl r=>
      obtain⟨z7,b7⟩:=r;rw[hP] at hout;obtain⟨hz7,rfl,rfl,-,-⟩:=hout;have dz:((e7:Int) != 0)=true:=by rw[bne_iff_ne];omega
      have HO:Hid (S=.inl (e7,i7)):=by
       show _=_;rw[HF.out];exact HCN.out.err HXY.out (by rw[HA1.out];exact hP)
      clear hP;have EL:=Jh (SY.lay (g1:=w7.heap.size) (x0:=.bool (ngB x7)) (x1:=.slice A7 n7 c7) (x2:=.int .i64 (k7:Int)) (t:=36) E.out rfl);clear E;obtain⟨r0,r1,r2,rf0,rf1,rf2,rlt⟩:=SY.az (g1:=w.heap.size) EL (by simp);go_wp2_with fail;clear r0 r1 r2 rf0 rf1 rf2 rlt;have EF:=Jh (SY.pz EL.out (g1:=w.heap.size) (by simp) (.bool false) (.slice none 0 0) (.int .i64 0));obtain⟨r0,r1,r2,_,_,_,_⟩:=SY.az (g1:=w.heap.size) EF (by simp);exact bodyPost_ret (v:=.tuple #[.agg #[.bool false,.slice none 0 0,.int .i64 0],.int .i64 (e7:Int)]) (by simp[results,Tryz.results124,go_sem,r0,r1,r2]) rfl ⟨0,0,none,0,0,i7,e7,rfl,num_zero _ _,EF.out.st,EF.out.kp,by rw[HO.out];exact⟨hz7,rfl,rfl,rfl,rfl⟩⟩
     | inr r=>
      obtain⟨j,s,b⟩:=r;rw[hP] at hout;obtain⟨rfl,rfl,rfl,rfl⟩:=hout;have hP2:P (a+1)=.inr (x7,k7,i7):=by rw[HA1.out];exact hP
      have hg7:=HCN.out.pgrt hP;have hfit7:=HCN.out.fits hg7;have hn7:n7≤1000:=by have:=(SY.got E (A1:=A7) (n1:=n7) (c1:=c7) (x:=x7.natAbs) (by simp)).len;omega
      have hk7:k7≤4010:=hfit7.2;have hai:a<i7:=by have:=(HCN.out.rng hg7).1;have:=HA1.out;omega
      have HQ:Hid (z=47→x7≠0→(dg (quoQ v k x7 k7).natAbs).length≤1000):=fun _ h=>HCN.out.len HG.out hP2 h
      obtain⟨r,hr⟩:∃r,jnd z v k x7 k7=r:=⟨_,rfl⟩;have HGO:Hid (r.2.2=0→S=F r.1 r.2.1 i7∧G i i7 r.1 r.2.1):=fun h=>by
       rw[← hr] at h ⊢;exact⟨HF.out.trans (HCN.out.go HZ.out HZA.out hP2 h),HCN.out.grt HZ.out HG.out hP2 h⟩
      have HBD:Hid (0<r.2.2→S=.inl (r.2.2,a)∧r.1=0∧r.2.1=0):=fun h=>by
       rw[← hr] at h ⊢;have h2:=HCN.out.bad HZ.out HZA.out hP2 h;exact⟨HF.out.trans h2.1,h2.2⟩
      have HR:=Jh hr;clear hP hP2 hg7 hfit7 hr;have EL:=Jh (SY.lay (g1:=w7.heap.size) (x0:=.bool (ngB x7)) (x1:=.slice A7 n7 c7) (x2:=.int .i64 (k7:Int)) (t:=36) E.out rfl);clear E;obtain⟨q0,q1,q2,qf0,qf1,qf2,qlt⟩:=SY.ad v A1 n1 c1 k (g1:=g8) EL (by simp);obtain⟨t0,t1,t2,t3,tf0,tf1,tf2,tf3,tlt⟩:=SY.wat (k:=kk) (T:=T) (p:=l) (q:=m) (g1:=g11) EL (by simp);go_wp2_with fail;clear q0 q1 q2 qf0 qf1 qf2 qlt;clear t0 t1 t2 t3 tf0 tf1 tf2 tf3 tlt;replace E:=EL;clear EL;generalize hV:World.alloc w7 _=V12 at E ⊢;clear hV;refine(pjoin (SY.got E (A1:=A1) (n1:=n1) (c1:=c1) (by simp)) (SY.got E (A1:=A7) (n1:=n7) (c1:=c7) (by simp)) hn1 hn7 hk1 hk7 HZ4.out HQ.out HT.out).mono ?_;rintro e w14 ⟨A2,n2,c2,rfl,hnum2,hb2⟩;rw[HR.out] at hnum2 ⊢;replace E:=Jh (SY.push (SY.step E.out hb2) hnum2);clear hnum2 hb2;have hgg:g≠g8:=by
       have h0:=(SY.facts E).c0;have h1:=(SY.ad v A1 n1 c1 k (g1:=g8) E (by simp)).c0;rintro rfl;rw[h0] at h1;cases h1
      have hgg2:g8≠g:=fun e=>hgg e.symm
      have EP:=Jh (SY.sub (l':=[(A2,n2,c2,r.1.natAbs)]) (bs':=[(g8,.bool (ngB r.1),.slice A2 n2 c2,.int .i64 (r.2.1:Int)),(w.heap.size,.bool false,.slice none 0 0,.int .i64 0)]) (ts':=[]) (SY.put E.out (g1:=g8) (b:=ngB v) (A1:=A1) (n1:=n1) (c1:=c1) (k1:=(k:Int)) (by simp) [(w.heap.size,.bool false,.slice none 0 0,.int .i64 0)] (fun q hq=>by simp at hq;subst hq;exact⟨by simp,n5⟩) (.bool (ngB r.1)) (.slice A2 n2 c2) (.int .i64 (r.2.1:Int))) (by simp) (by simp) (by simp));rcases Nat.eq_zero_or_pos r.2.2 with h0|h0
      ·have hgo:=HGO.out h0
       have dz:((r.2.2:Int) != 0)=false:=by rw[h0];rfl
       have J:Hid (ChI G i F S r.1 r.2.1 i7 r.2.2):=.inl ⟨h0,hgo⟩;have HZR:=Jh h0;clear hgo h0;obtain⟨q0,q1,q2,qf0,qf1,qf2,qlt⟩:=SY.ad v A1 n1 c1 k (g1:=g8) E (by simp);go_wp2_with fail;clear q0 q1 q2 qf0 qf1 qf2 qlt;go_roundw
       case rel=>exact⟨r.2.2,r.1,r.2.1,A2,n2,c2,i7,rfl,EP.out,J.out⟩
       case measure=>
        show msp g n (.int .i64 (r.2.2:Int)) _<msp g n (.int .i64 ((0:Nat):Int)) _;rw[msp_is EP.out.st,msp_is S0.out,if_pos HZR.out,if_pos rfl];omega
      ·have hbd:=HBD.out h0
       have dz:((r.2.2:Int) != 0)=true:=by rw[bne_iff_ne];omega
       have EQ:=Jh (SY.set1 EP.out a);have J:Hid (ChI G i F S r.1 r.2.1 a r.2.2):=.inr ⟨h0,by rw[hbd.1];exact⟨h0,rfl,rfl,hbd.2⟩⟩;have HZR:=Jh h0;clear hbd h0;obtain⟨q0,q1,q2,qf0,qf1,qf2,qlt⟩:=SY.ad v A1 n1 c1 k (g1:=g8) E (by simp);obtain⟨p0,p1,p2,pf0,pf1,pf2,plt⟩:=SY.facts E;go_wp2_with fail;clear q0 q1 q2 qf0 qf1 qf2 qlt;clear p0 p1 p2 pf0 pf1 pf2 plt;go_roundw
       case rel=>exact⟨r.2.2,r.1,r.2.1,A2,n2,c2,a,rfl,EQ.out,J.out⟩
       case measure=>
        show msp g n (.int .i64 (r.2.2:Int)) _<msp g n (.int .i64 ((0:Nat):Int)) _;rw[msp_is EQ.out.st,msp_is S0.out,if_neg (by have:=HZR.out;omega),if_pos rfl];omega
   ·obtain rfl:a=n:=by omega
    refine(pnext_end E.out.st rfl).mono ?_;rintro e w10 ⟨rfl,hb⟩;replace E:=Jh (SY.step E.out hb);clear hb;have HO:Hid (S=.inr (v,k,a)):=by
     show _=_;rw[HF.out];exact HCN.out.fin (isAt_none (by have:=HLEN.out;omega)) (isAt_none (by have:=HLEN.out;omega))
    have EL:=Jh (SY.word (g1:=w10.heap.size) E.out 0 ⟨#[]⟩ 0 0 (t:=65) rfl);clear E;obtain⟨q0,q1,q2,qf0,qf1,qf2,qlt⟩:=SY.ad v A1 n1 c1 k (g1:=g8) EL (by simp);obtain⟨r0,r1,r2,rf0,rf1,rf2,rlt⟩:=SY.az (g1:=w.heap.size) EL (by simp);go_wp2_with fail;clear q0 q1 q2 qf0 qf1 qf2 qlt;clear r0 r1 r2 rf0 rf1 rf2 rlt;have EF:=Jh (SY.pz EL.out (g1:=w.heap.size) (by simp) (.bool (ngB v)) (.slice A1 n1 c1) (.int .i64 (k:Int)));obtain⟨r0,r1,r2,_,_,_,_⟩:=SY.ad v A1 n1 c1 k (g1:=w.heap.size) EF (by simp);exact bodyPost_ret (v:=.tuple #[.agg #[.bool (ngB v),.slice A1 n1 c1,.int .i64 (k:Int)],.int .i64 0]) (by simp[results,Tryz.results124,go_sem,r0,r1,r2]) rfl ⟨v,k,A1,n1,c1,a,0,rfl,SY.got EF (by simp),EF.out.st,EF.out.kp,by rw[HO.out];exact⟨rfl,rfl,rfl,rfl⟩⟩
  ·have HO:Hid (OutX v k a e S):=by
    rcases I.out with⟨q1,_⟩|⟨_,q1⟩
    ·omega
    ·exact q1
   have dz:((e:Int) == 0)=false:=by rw[beq_eq_false_iff_ne];omega
   obtain⟨q0,q1,q2,qf0,qf1,qf2,qlt⟩:=SY.ad v A1 n1 c1 k (g1:=g8) E (by simp);obtain⟨r0,r1,r2,rf0,rf1,rf2,rlt⟩:=SY.az (g1:=w.heap.size) E (by simp);go_wp2_with fail;clear q0 q1 q2 qf0 qf1 qf2 qlt;clear r0 r1 r2 rf0 rf1 rf2 rlt;have EF:=Jh (SY.pz E.out (g1:=w.heap.size) (by simp) (.bool (ngB v)) (.slice A1 n1 c1) (.int .i64 (k:Int)));obtain⟨r0,r1,r2,_,_,_,_⟩:=SY.ad v A1 n1 c1 k (g1:=w.heap.size) EF (by simp);exact bodyPost_ret (v:=.tuple #[.agg #[.bool (ngB v),.slice A1 n1 c1,.int .i64 (k:Int)],.int .i64 (e:Int)]) (by simp[results,Tryz.results124,go_sem,r0,r1,r2]) rfl ⟨v,k,A1,n1,c1,a,e,rfl,SY.got EF (by simp),EF.out.st,EF.out.kp,HO.out⟩
end Go.Proofs.YtpbbolgnnegmlaaGreatDoor.Num
