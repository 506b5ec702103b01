/- Lemmas of the proof: AmoMathB, AmoMathC, HeaMath, AmoMathD, AmoMathE, HeaMathB, HeaMathC, HeaMathD, HeaMathE, AmoA, AmoB, HeaMathF, HeaD, HeaA, HeaMathG, AmoC, AmoD, AmoE, HeaMathH, HeaH. -/
import Derived.Test.YthpmaoimceojgaaGreatDoorAll37
import Derived.Test.YthpmaoimceojgaaGreatDoorAll38
import Derived.Test.YthpmaoimceojgaaGreatDoorAll36
import Derived.Test.YthpmaoimceojgaaGreatDoorAll29
import Derived.Test.YthpmaoimceojgaaGreatDoorAll32
import Derived.Test.YthpmaoimceojgaaGreatDoorAll15
import Derived.Deep.Cut
set_option linter.unusedVariables false
set_option linter.unusedSimpArgs false
set_option maxRecDepth 100000
set_option maxHeartbeats 32000000
open Go.Lib renaming hid→Jh
namespace Go.Proofs.YthpmaoimceojgaaGreatDoor.Num
open Go.RowKit
def untW(u:Un):List (Nat×List Nat):=(if u.has=true then tT u.i u.k else [])++[(3,bs9 u.cur)]
structure Pt where
 t:List Nat
 w:List (Nat×List Nat)
 f:Co→Co
def parts(c:Co):List Pt:=(if c.un.has=true∨bs9 c.un.cur≠[] then [⟨untT c.un,untW c.un,fun e=>⟨e.tot,c.un,e.day,e.lab⟩⟩] else [])++
 ((if dayT c.day≠[] then [⟨dayT c.day,[(1,dayT c.day)],fun e=>⟨e.tot,e.un,c.day,e.lab⟩⟩] else [])++
 (if bs9 c.lab≠[] then [⟨qt (bs9 c.lab),[(5,bs9 c.lab)],fun e=>⟨e.tot,e.un,e.day,c.lab⟩⟩] else []))
abbrev RH(α:Type):=(Nat×Nat)⊕(α×Nat)
def thn{α β:Type}:RH α→(α→Nat→RH β)→RH β
 | .inl e,_=>.inl e
 | .inr (x,b),f=>f x b
def tkw(L:List Tok)(a:Nat)(k:Int):RH ByteArray:=match L[a]? with
 | none=>.inl (2,a)
 | some t=>if t.1=k then .inr (t.2,a+1) else .inl (3,a)
def knd(L:List Tok)(a:Nat)(k:Int):Bool:=(L[a]?).any fun t=>decide (t.1=k)
def nmr(L:List Tok)(a:Nat):RH (Int×Nat):=match SUM L 0 a with
 | .inl e=>.inl e
 | .inr (i,k,b)=>.inr ((i,k),b)
def amr(L:List Tok)(a:Nat):RH (Int×Nat×ByteArray):=match amt L a with
 | .inl e=>.inl e
 | .inr (i,k,x,b)=>.inr ((i,k,x),b)
def curL(L:List Tok):Nat→Nat→RH (List ByteArray)
 | 0,a=>.inr ([],a)
 | f+1,a=>if isW L a [44]=true then thn (tkw L (a+1) 3) fun x b=>thn (curL L f b) fun xs c=>.inr (x::xs,c) else .inr ([],a)
def curs(L:List Tok)(a:Nat):RH (List ByteArray):=if knd L a 3=true then thn (tkw L a 3) fun x b=>thn (curL L L.length b) fun xs c=>.inr (x::xs,c) else .inr ([],a)
def wStrict:List Nat:=[83,84,82,73,67,84]
def wFifo:List Nat:=[70,73,70,79]
def wLifo:List Nat:=[76,73,70,79]
def wAverage:List Nat:=[65,86,69,82,65,71,69]
def wNone:List Nat:=[78,79,78,69]
def mthT:Nat→List Nat
 | 0=>wStrict
 | 1=>wFifo
 | 2=>wLifo
 | 3=>wAverage
 | 4=>wNone
 | _=>[]
def mth(x:List Nat):Option Nat:=if x=wStrict then some 0 else if x=wFifo then some 1 else if x=wLifo then some 2 else if x=wAverage then some 3 else if x=wNone then some 4 else none
def wOption:List Nat:=[111,112,116,105,111,110]
def wOpen:List Nat:=[111,112,101,110]
def wClose:List Nat:=[99,108,111,115,101]
def wCommodity:List Nat:=[99,111,109,109,111,100,105,116,121]
def wPrice:List Nat:=[112,114,105,99,101]
def wPad:List Nat:=[112,97,100]
def wBalance:List Nat:=[98,97,108,97,110,99,101]
def wNote:List Nat:=[110,111,116,101]
def wTxn:List Nat:=[116,120,110]
inductive Dr
 | opn (day:Int×Int×Int) (acc:ByteArray) (cs:List ByteArray) (book:Nat)
 | cls (day:Int×Int×Int) (acc:ByteArray)
 | com (day:Int×Int×Int) (cur:ByteArray)
 | prc (day:Int×Int×Int) (cur:ByteArray) (i:Int) (k:Nat) (x:ByteArray)
 | pad (day:Int×Int×Int) (acc oth:ByteArray)
 | bal (day:Int×Int×Int) (acc:ByteArray) (i:Int) (k:Nat) (tol:Option (Int×Nat)) (x:ByteArray)
 | txn (day:Int×Int×Int) (flag:Bool) (pay nar:ByteArray) (tags links:List ByteArray)
 | nte (day:Int×Int×Int) (acc text:ByteArray)
 | opt (name text:ByteArray)
def mthO(L:List Tok)(a:Nat):Option Nat:=(L[a]?).bind fun t=>mth (bs9 t.2)
def rOpen(L:List Tok)(d:Int×Int×Int)(a:Nat):RH Dr:=thn (tkw L a 2) fun ac a=>thn (curs L a) fun cs a=>
 if knd L a 5=true then (match mthO L a with|none=>.inl (3,a)|some m=>.inr (.opn d ac cs m,a+1)) else .inr (.opn d ac cs 0,a)
def rTol(L:List Tok)(a:Nat):RH (Option (Int×Nat)):=if isW L a [126]=true then thn (nmr L (a+1)) fun n a=>if n.1<0 then .inl (3,a-1) else .inr (some n,a) else .inr (none,a)
def rBal(L:List Tok)(d:Int×Int×Int)(a:Nat):RH Dr:=thn (tkw L a 2) fun ac a=>thn (nmr L a) fun n a=>thn (rTol L a) fun t a=>thn (tkw L a 3) fun x a=>.inr (.bal d ac n.1 n.2 t x,a)
def rTxt(L:List Tok)(a:Nat):(ByteArray×ByteArray)×Nat:=match L[a]? with
 | none=>((⟨#[]⟩,⟨#[]⟩),a)
 | some t=>if t.1=5 then (match L[a+1]? with
  | none=>((⟨#[]⟩,t.2),a+1)
  | some u=>if u.1=5 then ((t.2,u.2),a+2) else ((⟨#[]⟩,t.2),a+1)) else ((⟨#[]⟩,⟨#[]⟩),a)
def adds(l:List ByteArray)(s:ByteArray):List ByteArray:=if l.any (fun x=>decide (bs9 x=bs9 s))=true then l else l++[s]
def rTgs(L:List Tok):Nat→List ByteArray→List ByteArray→Nat→(List ByteArray×List ByteArray)×Nat
 | 0,T,K,a=>((T,K),a)
 | f+1,T,K,a=>match L[a]? with
  | none=>((T,K),a)
  | some t=>if t.1=6 then rTgs L f (adds T t.2) K (a+1) else if t.1=7 then rTgs L f T (adds K t.2) (a+1) else ((T,K),a)
def rTxn(L:List Tok)(d:Int×Int×Int)(flag:Bool)(a:Nat):RH Dr:=
 .inr (.txn d flag (rTxt L a).1.1 (rTxt L a).1.2 (rTgs L (L.length+1) [] [] (rTxt L a).2).1.1 (rTgs L (L.length+1) [] [] (rTxt L a).2).1.2,(rTgs L (L.length+1) [] [] (rTxt L a).2).2)
def rest15(L:List Tok)(d:Int×Int×Int)(w:List Nat)(a:Nat):RH Dr:=
 if w=wOpen then rOpen L d a
 else if w=wClose then thn (tkw L a 2) fun ac a=>.inr (.cls d ac,a)
 else if w=wCommodity then thn (tkw L a 3) fun c a=>.inr (.com d c,a)
 else if w=wPrice then thn (tkw L a 3) fun c a=>thn (amr L a) fun n a=>.inr (.prc d c n.1 n.2.1 n.2.2,a)
 else if w=wPad then thn (tkw L a 2) fun x a=>thn (tkw L a 2) fun y a=>.inr (.pad d x y,a)
 else if w=wBalance then rBal L d a
 else if w=wNote then thn (tkw L a 2) fun x a=>thn (tkw L a 5) fun y a=>.inr (.nte d x y,a)
 else if w=wTxn∨w=[42] then rTxn L d false a
 else if w=[33] then rTxn L d true a
 else .inl (3,a-1)
def fin15(L:List Tok)(r:RH Dr):RH Dr:=thn r fun d a=>if a<L.length then .inl (3,a) else .inr (d,a)
def hd(L:List Tok):RH Dr:=match L[0]? with
 | none=>.inl (2,0)
 | some t=>if t.1=8∧bs9 t.2=wOption then fin15 L (thn (tkw L 1 5) fun n a=>thn (tkw L a 5) fun x a=>.inr (.opt n x,a))
  else if t.1=1 then (if Dat.prOk t.2=true then (match L[1]? with
   | none=>.inl (2,1)
   | some u=>if u.1=8∨u.1=10 then fin15 L (rest15 L (pday t.2) (bs9 u.2) 2) else .inl (3,1)) else .inl (3,0))
  else .inl (3,0)
structure Pc where
 t:List Nat
 w:List (Nat×List Nat)
def jnB:List (List Nat)→List Nat
 | []=>[]
 | [x]=>x
 | x::y::r=>x++32::jnB (y::r)
def pW(k:Nat)(y:List Nat):Pc:=⟨YthpmaoimceojgaaGreatDoor.txt k y,[(k,y)]⟩
def pC(y:List Nat):Pc:=⟨y++[44],[(3,y),(10,[44])]⟩
def pN(i:Int)(k:Nat):Pc:=⟨Num.txtD i k,tT i k⟩
def pD(d:Int×Int×Int):Pc:=⟨dayT d,[(1,dayT d)]⟩
def curP:List ByteArray→List Pc
 | []=>[]
 | [x]=>[pW 3 (bs9 x)]
 | x::y::r=>pC (bs9 x)::curP (y::r)
def pcs:Dr→List Pc
 | .opn d a cs b=>pD d::pW 8 wOpen::pW 2 (bs9 a)::(curP cs++if b=0 then [] else [pW 5 (mthT b)])
 | .cls d a=>[pD d,pW 8 wClose,pW 2 (bs9 a)]
 | .com d c=>[pD d,pW 8 wCommodity,pW 3 (bs9 c)]
 | .prc d c i k x=>[pD d,pW 8 wPrice,pW 3 (bs9 c),pN i k,pW 3 (bs9 x)]
 | .pad d a o=>[pD d,pW 8 wPad,pW 2 (bs9 a),pW 2 (bs9 o)]
 | .bal d a i k t x=>pD d::pW 8 wBalance::pW 2 (bs9 a)::pN i k::((match t with|none=>[]|some n=>[pW 10 [126],pN n.1 n.2])++[pW 3 (bs9 x)])
 | .txn d f p n T K=>pD d::pW 10 (if f=true then [33] else [42])::((if bs9 p=[] then [] else [pW 5 (bs9 p)])++(pW 5 (bs9 n)::(T.map (fun x=>pW 6 (bs9 x))++K.map (fun x=>pW 7 (bs9 x)))))
 | .nte d a x=>[pD d,pW 8 wNote,pW 2 (bs9 a),pW 5 (bs9 x)]
 | .opt n x=>[pW 8 wOption,pW 5 (bs9 n),pW 5 (bs9 x)]
def drT(d:Dr):List Nat:=jnB ((pcs d).map (·.t))
theorem txtD_len{i:Int}{k K:Nat}(h:Sz i k K):(txtD i k).length≤K+k+3:=by
 have h1:nd (i.natAbs/10^k)≤K+1:=by
  refine nd_le_of_lt K ?_;unfold Sz at h;rw[Nat.pow_add] at h;refine Nat.lt_of_lt_of_le ((Nat.div_lt_iff_lt_mul (Nat.pow_pos (by omega))).2 h) (Nat.pow_le_pow_right (by omega) (by omega))
 have h2:(beh k i.natAbs).length≤k+1:=by
  unfold beh;split
  ·exact Nat.zero_le _
  ·rw[List.length_cons,pad_len];exact Nat.le_refl _
 have h3:(sgT i).length≤1:=by unfold sgT;split<;>decide
 have h4:(txt (i.natAbs/10^k)).length=nd (i.natAbs/10^k):=rfl;rw[txtD_bod,List.length_append];unfold bod;rw[List.length_append];omega
theorem sz_zero(k:Nat):Sz 0 0 k:=Nat.pow_pos (by omega)
theorem err_all(L:List Tok):∀f:Nat,
  (∀{d a e p},facF L f d a=.inl (e,p)→e≠0)∧(∀{d a e p},proF L f d a=.inl (e,p)→e≠0)∧(∀{d i k a e p},proL L f d i k a=.inl (e,p)→e≠0)∧
  (∀{d a e p},sumF L f d a=.inl (e,p)→e≠0)∧(∀{d i k a e p},sumL L f d i k a=.inl (e,p)→e≠0):=by
 intro f;induction f with
 | zero=>
  refine⟨fun h=>?_,fun h=>?_,fun h=>?_,fun h=>?_,fun h=>?_⟩
  ·rw[facF] at h;cases h;decide
  ·rw[proF] at h;cases h;decide
  ·rw[proL] at h;cases h;decide
  ·rw[sumF] at h;cases h;decide
  ·rw[sumL] at h;cases h;decide
 | succ f ih=>
  obtain⟨ih1,ih2,ih3,ih4,ih5⟩:=ih;refine⟨fun {d a e p} h=>?_,fun {d a e p} h=>?_,fun {d i k a e p} h=>?_,fun {d a e p} h=>?_,fun {d i k a e p} h=>?_⟩
  ·rw[facF] at h
   split at h
   ·cases h;decide
   ·split at h
    ·split at h
     ·cases h;decide
     ·cases h
    ·split at h
     ·cases h;decide
     ·split at h
      ·cases h;decide
      ·split at h
       ·cases hr:sumF L f (d+1) (a+1) with
        | inl q=>
         rw[hr] at h;obtain⟨x,y⟩:=q;cases h
         exact ih4 hr
        | inr q=>
         obtain⟨x,y,z⟩:=q;rw[hr] at h;unfold Rs.shut at h;dsimp only at h
         split at h
         ·cases h
         ·cases h
          split<;>decide
       ·cases hr:facF L f (d+1) (a+1) with
        | inl q=>
         rw[hr] at h;obtain⟨x,y⟩:=q;cases h
         exact ih1 hr
        | inr q=>
         obtain⟨x,y,z⟩:=q;rw[hr] at h;cases h
  ·rw[proF] at h
   split at h
   ·rename_i hr
    cases h
    exact ih1 hr
   ·exact ih3 h
  ·rw[proL] at h
   split at h
   ·split at h
    ·rename_i hr
     cases h
     exact ih1 hr
    ·exact ih3 h
   ·split at h
    ·split at h
     ·rename_i hr
      cases h
      exact ih1 hr
     ·split at h
      ·cases h;decide
      ·exact ih3 h
    ·cases h
  ·rw[sumF] at h
   split at h
   ·rename_i hr
    cases h
    exact ih2 hr
   ·exact ih5 h
  ·rw[sumL] at h
   split at h
   ·split at h
    ·rename_i hr
     cases h
     exact ih2 hr
    ·exact ih5 h
   ·split at h
    ·split at h
     ·rename_i hr
      cases h
      exact ih2 hr
     ·exact ih5 h
    ·cases h
theorem SUM_bad{L:List Tok}{d a e p:Nat}(h:SUM L d a=.inl (e,p)):e≠0:=(err_all L _).2.2.2.1 h
section
variable {L:List Tok}{a e p b:Nat}
theorem amt_bad(h:amt L a=.inl (e,p)):e≠0:=by
 unfold amt at h;split at h
 ·rename_i hs
  cases h
  exact SUM_bad hs
 ·split at h
  ·cases h;decide
  ·split at h
   ·cases h
   ·cases h;decide
end
theorem dg_none:(dg (0:Int).natAbs).length≤900:=Nat.le_trans (sz_zero 0).nine (by decide)
section
variable {L:List Tok}{a b:Nat}{k:Int}{x:ByteArray}
theorem mth_le{y:List Nat}{m:Nat}(h:mth y=some m):m≤4∧y=mthT m:=by
 unfold mth at h;split at h
 ·rename_i e;cases h;exact⟨by decide,e⟩
 split at h
 ·rename_i e;cases h;exact⟨by decide,e⟩
 split at h
 ·rename_i e;cases h;exact⟨by decide,e⟩
 split at h
 ·rename_i e;cases h;exact⟨by decide,e⟩
 split at h
 ·rename_i e;cases h;exact⟨by decide,e⟩
 ·cases h
end
end Go.Proofs.YthpmaoimceojgaaGreatDoor.Num
namespace Go.Proofs.YthpmaoimceojgaaGreatDoor.Num
open Go.RowKit
open Byt
def wgP(p:Pc):Nat:=(p.w.map fun u=>u.2.length+11).sum
def PC(p:Pc):Nat:=max (wgP p) (p.t.length+1)
end Go.Proofs.YthpmaoimceojgaaGreatDoor.Num
namespace Go.Proofs.YthpmaoimceojgaaGreatDoor.Num
open Go.RowKit
def wdsOf(l:List Nat):List Wd:=match WD D12 N12 0 l with
 | .inl _=>[]
 | .inr ts=>ts
theorem rdK_nil(w:World)(B:Nat):RdK w B none 0 0 []:=⟨rfl,Nat.le_refl _,Nat.zero_le _,.inl rfl⟩
def RetL(w:World)(ts:List Wd)(e:Ending)(w':World):Prop:=∃A n c,e=.returned (.slice A n c)∧RdK w' w'.heap.size A n c (tks 1 ts)∧Below w.heap.size w w'
end Go.Proofs.YthpmaoimceojgaaGreatDoor.Num
namespace Go.Proofs.YthpmaoimceojgaaGreatDoor.Num
open Go.RowKit
open Byt
def Dr.fit:Dr→Prop
 | .prc _ _ i k _=>(dg i.natAbs).length≤900∧k≤4010
 | .bal _ _ i k t _=>((dg i.natAbs).length≤900∧k≤4010)∧∀n,t=some n→(dg n.1.natAbs).length≤900∧n.2≤4010
 | _=>True
end Go.Proofs.YthpmaoimceojgaaGreatDoor.Num
namespace Go.Proofs.YthpmaoimceojgaaGreatDoor.Num
open Go.RowKit
structure FD where
 kind:Nat
 y:Int
 m:Int
 d:Int
 acc:ByteArray
 oth:ByteArray
 curs:List ByteArray
 book:Nat
 i:Int
 k:Nat
 cur:ByteArray
 hasTol:Bool
 ti:Int
 tk:Nat
 flag:ByteArray
 pay:ByteArray
 nar:ByteArray
 tags:List ByteArray
 links:List ByteArray
 name:ByteArray
 text:ByteArray
def FD.zero:FD:=⟨0,0,0,0,⟨#[]⟩,⟨#[]⟩,[],0,0,0,⟨#[]⟩,false,0,0,⟨#[]⟩,⟨#[]⟩,⟨#[]⟩,[],[],⟨#[]⟩,⟨#[]⟩⟩
def FD.at_(n:Nat)(x:Int×Int×Int):FD:={ FD.zero with kind:=n,y:=x.1,m:=x.2.1,d:=x.2.2 }
def fdOf:Option Dr→FD
 | none=>FD.zero
 | some (.opn x a cs b)=>{ FD.at_ 1 x with acc:=a,curs:=cs,book:=b }
 | some (.cls x a)=>{ FD.at_ 2 x with acc:=a }
 | some (.com x c)=>{ FD.at_ 3 x with curs:=[c] }
 | some (.prc x c i k u)=>{ FD.at_ 4 x with curs:=[c],i:=i,k:=k,cur:=u }
 | some (.pad x a b)=>{ FD.at_ 5 x with acc:=a,oth:=b }
 | some (.bal x a i k none u)=>{ FD.at_ 6 x with acc:=a,i:=i,k:=k,cur:=u }
 | some (.bal x a i k (some n) u)=>{ FD.at_ 6 x with acc:=a,i:=i,k:=k,cur:=u,hasTol:=true,ti:=n.1,tk:=n.2 }
 | some (.txn x f p n t l)=>{ FD.at_ 7 x with flag:=if f=true then ⟨#[33]⟩ else ⟨#[42]⟩,pay:=p,nar:=n,tags:=t,links:=l }
 | some (.nte x a u)=>{ FD.at_ 8 x with acc:=a,text:=u }
 | some (.opt n u)=>{ FD.zero with kind:=9,name:=n,text:=u }
structure DM where
 A:Option Addr
 n:Nat
 c:Nat
 At:Option Addr
 nt:Nat
 ct:Nat
 Ac:Option Addr
 nc:Nat
 cc:Nat
 Ag:Option Addr
 ng:Nat
 cg:Nat
 Al:Option Addr
 nl:Nat
 cl:Nat
 p:Int
 q:Int
def DM.zero:DM:=⟨none,0,0,none,0,0,none,0,0,none,0,0,none,0,0,0,0⟩
def cD(f:FD)(m:DM):Array Value:=#[.int .i64 (f.kind:Int),.int .i64 f.y,.int .i64 f.m,.int .i64 f.d,.string f.acc,.string f.oth,.slice m.Ac m.nc m.cc,.int .i64 (f.book:Int),.bool (ngB f.i),.slice m.A m.n m.c,.int .i64 (f.k:Int),.string f.cur,.bool f.hasTol,.bool (ngB f.ti),.slice m.At m.nt m.ct,.int .i64 (f.tk:Int),.string f.flag,.string f.pay,.string f.nar,.slice m.Ag m.ng m.cg,.slice m.Al m.nl m.cl,.slice none 0 0,.slice none 0 0,.string f.name,.string f.text,.int .i64 m.p,.int .i64 m.q]
structure MD (w:World) (f:FD) (m:DM):Prop where
 num:Num w w.heap.size m.A m.n m.c f.i.natAbs
 tol:Num w w.heap.size m.At m.nt m.ct f.ti.natAbs
 cur:RdP w m.Ac m.nc m.cc (f.curs.map bs9)
 tag:RdP w m.Ag m.ng m.cg (f.tags.map bs9)
 lnk:RdP w m.Al m.nl m.cl (f.links.map bs9)
theorem MD.on{w w':World}{f:FD}{m:DM}(h:MD w f m)(hb:Below w.heap.size w w'):MD w' f m:=⟨h.num.on hb,h.tol.on hb,h.cur.on hb,h.tag.on hb,h.lnk.on hb⟩
structure Far (lo:Nat) (m:DM):Prop where
 cur:∀a,m.Ac=some a→lo≤a.block
 tag:∀a,m.Ag=some a→lo≤a.block
 lnk:∀a,m.Al=some a→lo≤a.block
theorem RdP.row15{w:World}{A:Option Addr}{n c g:Nat}{cs:Array Value}{l:List (List Nat)}(h:RdP w A n c l)(hf:∀a,A=some a→a.block≠g):RdP (w.setRow g cs) A n c l:=by
 obtain⟨h1,h2,h3,h|⟨b,o,rfl,h5,h6⟩⟩:=h
 ·exact⟨h1,h2,h3,.inl h⟩
 ·have hne:b≠g:=hf ⟨b,o,none⟩ rfl
  exact⟨h1,h2,h3,.inr ⟨b,o,rfl,by simpa using h5,fun k u hu=>(cell_setRow_other w g cs ⟨b,o+k,none⟩ hne).trans (h6 k u hu)⟩⟩
theorem Lim.row15{w:World}{B n c g:Nat}{A:Option Addr}{ys:List Nat}{xs cs:Array Value}{t:TypeId}(h:Lim w B A n c ys)(hb:w.heap[g]?=some (.cells xs t (0,0)))(hc:∀x∈xs.toList,NoLimb x):Lim (w.setRow g cs) B A n c ys:=by
 refine⟨h.len,h.cap,h.room,h.fit,?_,h.addr⟩;rcases h.row with h' | ⟨b,o,rfl,hB,hr⟩
 ·exact .inl h'
 ·refine .inr ⟨b,o,rfl,hB,fun k u hu=>?_⟩
  have hj:=hr k u hu;by_cases hbg:b=g
  ·exfalso
   have hm:=List.mem_of_getElem? hu;unfold vals at hm;obtain⟨x,_,rfl⟩:=List.mem_map.1 hm;subst hbg;rw[cell_of_row w b (o+k) _ _ _ hb,← Array.getElem?_toList] at hj;exact hc _ (List.mem_of_getElem? hj) x rfl
  ·exact(cell_setRow_other w g cs ⟨b,o+k,none⟩ hbg).trans hj
theorem MD.row15{w:World}{f:FD}{m:DM}{g lo:Nat}{xs cs:Array Value}{t:TypeId}(h:MD w f m)(hf:Far lo m)(hg:g<lo)(hb:w.heap[g]?=some (.cells xs t (0,0)))(hc:∀x∈xs.toList,NoLimb x):MD (w.setRow g cs) f m:=
 ⟨(Lim.row15 h.num hb hc).more (by simp),(Lim.row15 h.tol hb hc).more (by simp),RdP.row15 h.cur fun a e=>by have:=hf.cur a e;omega,RdP.row15 h.tag fun a e=>by have:=hf.tag a e;omega,RdP.row15 h.lnk fun a e=>by have:=hf.lnk a e;omega⟩
theorem cD_zero_limb:∀x∈(cD FD.zero DM.zero).toList,NoLimb x:=by
 intro x hx;simp only[cD,List.mem_cons,List.not_mem_nil,or_false] at hx
 rcases hx with rfl|rfl|rfl|rfl|rfl|rfl|rfl|rfl|rfl|rfl|rfl|rfl|rfl|rfl|rfl|rfl|rfl|rfl|rfl|rfl|rfl|rfl|rfl|rfl|rfl|rfl|rfl<;>exact fun k h=>by cases h
theorem rdP_nil(w:World):RdP w none 0 0 []:=⟨rfl,Nat.le_refl _,Nat.zero_le _,.inl rfl⟩
theorem MD.nil(w:World):MD w FD.zero DM.zero:=⟨num_zero _ _,num_zero _ _,rdP_nil w,rdP_nil w,rdP_nil w⟩
def Mtds(w:World):Prop:=w.cell? ⟨0,0,none⟩=some (.string ⟨#[83,84,82,73,67,84]⟩)∧w.cell? ⟨0,1,none⟩=some (.string ⟨#[70,73,70,79]⟩)∧w.cell? ⟨0,2,none⟩=some (.string ⟨#[76,73,70,79]⟩)∧w.cell? ⟨0,3,none⟩=some (.string ⟨#[65,86,69,82,65,71,69]⟩)∧w.cell? ⟨0,4,none⟩=some (.string ⟨#[78,79,78,69]⟩)
theorem Mtds.on{w w':World}(h:Mtds w)(hb:Below w.heap.size w w'):Mtds w':=
 ⟨cell_on11 h.1 hb,cell_on11 h.2.1 hb,cell_on11 h.2.2.1 hb,cell_on11 h.2.2.2.1 hb,cell_on11 h.2.2.2.2 hb⟩
def Ok15(w:World):Prop:=Ok12 w∧Mtds w
theorem okw15:Okw Ok15:=fun h hb=>⟨okw12 h.1 hb,h.2.on hb⟩
def resH:RH Dr→Option Dr×Nat×Nat
 | .inl (e,p)=>(none,p,e)
 | .inr (d,p)=>(some d,p,0)
def RvH(w:World)(o:Option Dr)(p e:Nat)(en:Ending)(w':World):Prop:=∃m:DM,en=.returned (.tuple #[.agg (cD (fdOf o) m),.int .i64 (p:Int),.int .i64 (e:Int)])∧MD w' (fdOf o) m∧Far w.heap.size m∧Below w.heap.size w w'
def READH:Prop:=∀{w:World}{B n c:Nat}{A:Option Addr}{L:List Tk4}{G:Nat→Nat→Int→Nat→Prop}{o:Option Dr}{p e:Nat},RdK w B A n c L→B≤w.heap.size→n≤400→Siz (L.map tok) G→Ok15 w→resH (hd (L.map tok))=(o,p,e)→Calls Tryz.prog 7 #[.slice A n c] w (RvH w o p e)
def TEXTH:Prop:=∀{w:World}{m:DM}{d:Dr}{T:ByteArray},MD w (fdOf (some d)) m→d.fit→T.size≤4000→Ok15 w→drT d=bs9 T→Calls Tryz.prog 10 #[.agg (cD (fdOf (some d)) m)] w (Ret9 w (.string T))
def SAMEH:Prop:=∀{w:World}{m m':DM}{o o':Option Dr}{x:Bool},MD w (fdOf o) m→MD w (fdOf o') m'→Ok15 w→(x=true↔o=o')→Calls Tryz.prog 8 #[.agg (cD (fdOf o) m),.agg (cD (fdOf o') m')] w (Ret9 w (.bool x))
def mthI(s:ByteArray):Int:=match mth (bs9 s) with|none => -1|some m=>(m:Int)
def METH:Prop:=∀{w:World}{s:ByteArray}{x:Int},Ok15 w→mthI s=x→Calls Tryz.prog 11 #[.string s] w (Ret9 w (.int .i64 x))
def mthW(n:Int):List Nat:=if 0≤n∧n≤4 then mthT n.toNat else []
def MWORD:Prop:=∀{w:World}{n:Int}{s:ByteArray},Ok15 w→mthW n=bs9 s→Calls Tryz.prog 12 #[.int .i64 n] w (Ret9 w (.string s))
def AWK15:Prop:=∀w:World,Ok15 w→Calls Tryz.prog 5 #[] w (Ret9 w (.bool true))
structure S15 (w0 w:World) (ms:List (FD×DM)) (bs:List (Nat×Array Value×TypeId)):Prop where
 bel:Below w0.heap.size w0 w
 md:∀q∈ms,MD w q.1 q.2
 blk:∀q∈bs,w.heap[q.1]?=some (.cells q.2.1 q.2.2 (0,0))
section
variable {w0 w w':World}{ms:List (FD×DM)}{bs:List (Nat×Array Value×TypeId)}
theorem blk_lt{w:World}{g:Nat}{xs:Array Value}{t:TypeId}(h:w.heap[g]?=some (.cells xs t (0,0))):g<w.heap.size:=by
 rcases Nat.lt_or_ge g w.heap.size with h1|h1
 ·exact h1
 ·rw[Array.getElem?_eq_none h1] at h;cases h
theorem S15.start(w:World):S15 w w [] []:=⟨Below.refl _ _,fun q hq=>(by cases hq),fun q hq=>(by cases hq)⟩
theorem S15.step(h:S15 w0 w ms bs)(hb:Below w.heap.size w w'):S15 w0 w' ms bs:=⟨h.bel.trans (hb.mono h.bel.size),fun q hq=>(h.md q hq).on hb,fun q hq=>(hb.block _ (blk_lt (h.blk q hq))).trans (h.blk q hq)⟩
theorem S15.push(h:S15 w0 w ms bs)(hb:Below w.heap.size w w'){f:FD}{m:DM}(hm:MD w' f m):S15 w0 w' ((f,m)::ms) bs:=by
 have h2:=h.step hb;refine⟨h2.bel,fun q hq=>?_,h2.blk⟩;rcases List.mem_cons.1 hq with rfl|hq
 ·exact hm
 ·exact h2.md q hq
theorem S15.lay(h:S15 w0 w ms bs)(xs:Array Value)(t:TypeId){g:Nat}(hg:g=w.heap.size):S15 w0 (w.alloc (.cells xs t)) ms ((g,xs,t)::bs):=by
 have h2:=h.step ((Below.refl _ _).alloc (Nat.le_refl _) (.cells xs t));refine⟨h2.bel,h2.md,fun q hq=>?_⟩;rcases List.mem_cons.1 hq with rfl|hq
 ·subst hg;exact heap_alloc_new w _
 ·exact h2.blk q hq
theorem S15.at_{g:Nat}{xs:Array Value}{t:TypeId}(h:Hid (S15 w0 w ms bs))(hm:(g,xs,t)∈bs)(j:Nat):w.cell? ⟨g,j,none⟩=xs[j]?:=cell_of_row w g j _ _ _ (h.out.blk _ hm)
theorem S15.got{f:FD}{m:DM}(h:Hid (S15 w0 w ms bs))(hm:(f,m)∈ms):MD w f m:=h.out.md _ hm
end
theorem words15{w:World}{s:ByteArray}(hok:Ok15 w)(hs:s.size≤6000):Calls Tryz.prog 13 #[.string s] w (RetL w (wdsOf (bs9 s))):=by
 have HW:=Jh (lexwords_is okw12 dayok12 (fun _ h hs=>lexunquote_is h hs _) o08 o07 o11 1 s hs w hok.1);clear hok;unfold wdsOf;cases h:WD D12 N12 0 (bs9 s) with
 | inl p=>
  obtain⟨c0,x0⟩:=p;rw[h] at HW;go_enter Tryz.func13,Tryz.ntmps13;go_wp2_with fail;refine HW.out.mono ?_;rintro e v ⟨rfl,hb⟩;have E:=Jh hb;clear hb;go_wp2_with fail;go_ret;exact⟨_,_,_,rfl,rdK_nil _ _,E.out.alloc E.out.size _⟩
 | inr ts=>
  rw[h] at HW;go_enter Tryz.func13,Tryz.ntmps13;go_wp2_with fail;refine HW.out.mono ?_;rintro e v ⟨⟨A,c,rfl,hr⟩,hb⟩;have R1:=Jh hr;have E:=Jh hb;clear hr hb;go_wp2_with fail;go_ret;have hb2:=(Below.refl v.heap.size v).alloc (Nat.le_refl _) (.cells #[.int .i64 0,.int .i64 0,.int .i64 0] 28);exact⟨_,_,_,rfl,rdK_of (R1.out.on hb2),E.out.alloc E.out.size _⟩
def nxr{α:Type}(e a:Nat)(m:Nat→RH α):RH α:=if e=0 then m a else .inl (e,a)
def Aft{α:Type}(r:RH α)(a e:Nat)(P:α→Prop):Prop:=match r with
 | .inl (z,p)=>a=p∧e=z∧z≠0
 | .inr (x,b)=>a=b∧e=0∧P x
section
variable {α β:Type}{r:RH α}{f:α→Nat→RH β}{a e a' e':Nat}{v:α}{P Q:α→Prop}{R:β→Prop}{m:Nat→RH α}
theorem Aft.mono(h:Aft r a e P)(hq:∀x,P x→Q x):Aft r a e Q:=by
 rcases r with⟨z,p⟩|⟨x,b⟩
 ·exact h
 ·exact⟨h.1,h.2.1,hq _ h.2.2⟩
theorem Aft.thn(h:Aft r a e (· = v))(h2:Aft (nxr e a (f v)) a' e' R):Aft (thn r f) a' e' R:=by
 rcases r with⟨z,p⟩|⟨x,b⟩
 ·obtain⟨rfl,rfl,h3⟩:=h
  unfold nxr at h2;rw[if_neg h3] at h2;exact h2
 ·obtain⟨rfl,rfl,h3⟩:=h
  obtain rfl:x=v:=h3;unfold nxr at h2;rw[if_pos rfl] at h2;exact h2
theorem nxr_thn(e a:Nat)(m:Nat→RH α)(f:α→Nat→RH β):nxr e a (fun b=>Go.Proofs.YthpmaoimceojgaaGreatDoor.Num.thn (m b) f)=Go.Proofs.YthpmaoimceojgaaGreatDoor.Num.thn (nxr e a m) f:=by
 unfold nxr;by_cases h:e=0
 ·rw[if_pos h,if_pos h]
 ·rw[if_neg h,if_neg h];rfl
theorem Aft.go(h:Aft (nxr e a m) a' e' (· = v)){a2 e2:Nat}(h2:Aft (nxr e' a' (f v)) a2 e2 R):Aft (nxr e a (fun b=>Go.Proofs.YthpmaoimceojgaaGreatDoor.Num.thn (m b) f)) a2 e2 R:=by
 rw[nxr_thn];exact h.thn h2
theorem Aft.ret{x:β}(h:R x):Aft (nxr e a (fun b=>.inr (x,b))) a e R:=by
 unfold nxr;by_cases he:e=0
 ·rw[if_pos he];exact⟨rfl,he,h⟩
 ·rw[if_neg he];exact⟨rfl,rfl,he⟩
theorem Aft.ok(h:Aft r a 0 P):∃x,r=.inr (x,a)∧P x:=by
 rcases r with⟨z,p⟩|⟨x,b⟩
 ·exact absurd h.2.1.symm h.2.2
 ·obtain⟨rfl,-,h3⟩:=h;exact⟨x,rfl,h3⟩
theorem Aft.stay(he:e≠0):Aft (nxr e a m) a e P:=by
 unfold nxr;rw[if_neg he];exact⟨rfl,rfl,he⟩
theorem nxr_go(m:Nat→RH α)(a:Nat):nxr 0 a m=m a:=if_pos rfl
end
def tkwK(L:List Tok)(K:List Int)(a:Nat):RH ByteArray:=match L[a]? with
 | none=>.inl (2,a)
 | some t=>if K.any (fun k=>decide (t.1=k))=true then .inr (t.2,a+1) else .inl (3,a)
theorem tkwK_one(L:List Tok)(k:Int):tkwK L [k]=fun a=>tkw L a k:=by
 funext a
 unfold tkwK tkw;cases L[a]? with
 | none=>rfl
 | some t=>
  show(if (decide (t.1=k)||false)=true then _ else _)=if t.1=k then _ else _
  by_cases h:t.1=k
  ·rw[if_pos h,decide_eq_true h];rfl
  ·rw[if_neg h,decide_eq_false h];rfl
def psW(L:List Tok)(e a:Nat)(k:Int)(x:List Nat):Bool:=decide (e=0)&&(knd L a k&&(L[a]?).any fun t=>decide (bs9 t.2=x))
def isWd(L:List Tok)(e a:Nat)(k:Int):Bool:=decide (e=0)&&knd L a k
theorem psW_sign(L:List Tok)(a:Nat)(x:List Nat):psW L 0 a 10 x=isW L a x:=by
 unfold psW isW knd;cases L[a]? with
 | none=>rfl
 | some t=>rfl
def Dr.day(x:Int×Int×Int):Dr→Dr
 | .opn _ a c b=>.opn x a c b
 | .cls _ a=>.cls x a
 | .com _ c=>.com x c
 | .prc _ c i k u=>.prc x c i k u
 | .pad _ a b=>.pad x a b
 | .bal _ a i k t u=>.bal x a i k t u
 | .txn _ f p n t l=>.txn x f p n t l
 | .nte _ a u=>.nte x a u
 | .opt n u=>.opt n u
def mapR{α β:Type}(g:α→β):RH α→RH β
 | .inl e=>.inl e
 | .inr (x,b)=>.inr (g x,b)
theorem mapR_thn{α β γ:Type}(g:β→γ)(r:RH α)(f:α→Nat→RH β):mapR g (thn r f)=thn r fun x b=>mapR g (f x b):=by
 rcases r with e|⟨x,b⟩<;>rfl
theorem rest_day(L:List Tok)(d:Int×Int×Int)(w:List Nat)(a:Nat):rest15 L d w a=mapR (Dr.day d) (rest15 L (0,0,0) w a):=by
 unfold rest15;by_cases h1:w=wOpen
 ·rw[if_pos h1,if_pos h1]
  unfold rOpen;rw[mapR_thn];congr 1;funext ac b;rw[mapR_thn];congr 1;funext cs b;split
  ·split<;>rfl
  ·rfl
 rw[if_neg h1,if_neg h1];by_cases h2:w=wClose
 ·rw[if_pos h2,if_pos h2,mapR_thn];rfl
 rw[if_neg h2,if_neg h2];by_cases h3:w=wCommodity
 ·rw[if_pos h3,if_pos h3,mapR_thn];rfl
 rw[if_neg h3,if_neg h3];by_cases h4:w=wPrice
 ·rw[if_pos h4,if_pos h4,mapR_thn];congr 1;funext c b
  rw[mapR_thn];rfl
 rw[if_neg h4,if_neg h4];by_cases h5:w=wPad
 ·rw[if_pos h5,if_pos h5,mapR_thn];congr 1;funext c b
  rw[mapR_thn];rfl
 rw[if_neg h5,if_neg h5];by_cases h6:w=wBalance
 ·rw[if_pos h6,if_pos h6]
  unfold rBal;rw[mapR_thn];congr 1;funext c b;rw[mapR_thn];congr 1;funext c b;rw[mapR_thn];congr 1;funext c b;rw[mapR_thn];rfl
 rw[if_neg h6,if_neg h6];by_cases h7:w=wNote
 ·rw[if_pos h7,if_pos h7,mapR_thn];congr 1;funext c b
  rw[mapR_thn];rfl
 rw[if_neg h7,if_neg h7];by_cases h8:w=wTxn∨w=[42]
 ·rw[if_pos h8,if_pos h8];rfl
 rw[if_neg h8,if_neg h8];by_cases h9:w=[33]
 ·rw[if_pos h9,if_pos h9];rfl
 ·rw[if_neg h9,if_neg h9];rfl
def onceL(l:List ByteArray):List ByteArray:=l.foldl adds []
theorem onceL_push(l:List ByteArray)(s:ByteArray):onceL (l++[s])=adds (onceL l) s:=by unfold onceL;rw[List.foldl_append];rfl
def rTgP(L:List Tok):Nat→List ByteArray→List ByteArray→Nat→(List ByteArray×List ByteArray)×Nat
 | 0,T,K,a=>((T,K),a)
 | f+1,T,K,a=>match L[a]? with
  | none=>((T,K),a)
  | some t=>if t.1=6 then rTgP L f (T++[t.2]) K (a+1) else if t.1=7 then rTgP L f T (K++[t.2]) (a+1) else ((T,K),a)
theorem rTg_once(L:List Tok):∀(f:Nat) (T K:List ByteArray) (a:Nat),rTgs L f (onceL T) (onceL K) a=((onceL (rTgP L f T K a).1.1,onceL (rTgP L f T K a).1.2),(rTgP L f T K a).2)
 | 0,T,K,a=>rfl
 | f+1,T,K,a=>by
  unfold rTgs rTgP;cases L[a]? with
  | none=>rfl
  | some t=>
   dsimp only
   by_cases h6:t.1=6
   ·rw[if_pos h6,if_pos h6,← onceL_push];exact rTg_once L f _ _ _
   ·rw[if_neg h6,if_neg h6]
    by_cases h7:t.1=7
    ·rw[if_pos h7,if_pos h7,← onceL_push];exact rTg_once L f _ _ _
    ·rw[if_neg h7,if_neg h7]
def Bk(w:World)(g:Nat)(xs:Array Value)(t:TypeId):Prop:=w.heap[g]?=some (.cells xs t (0,0))
theorem Bk.lt{w:World}{g:Nat}{xs:Array Value}{t:TypeId}(h:Bk w g xs t):g<w.heap.size:=by
 rcases Nat.lt_or_ge g w.heap.size with h1|h1
 ·exact h1
 ·unfold Bk at h;rw[Array.getElem?_eq_none h1] at h;cases h
theorem Bk.on{w w':World}{g:Nat}{xs:Array Value}{t:TypeId}(h:Bk w g xs t)(hb:Below w.heap.size w w'):Bk w' g xs t:=(hb.block g h.lt).trans h
theorem Bk.cell{w:World}{g:Nat}{xs:Array Value}{t:TypeId}(h:Bk w g xs t)(j:Nat):w.cell? ⟨g,j,none⟩=xs[j]?:=cell_of_row w g j _ _ _ h
theorem Bk.new(v:World)(xs:Array Value)(t:TypeId){g:Nat}(h:g=v.heap.size):Bk (v.alloc (.cells xs t)) g xs t:=by subst h;exact heap_alloc_new v _
structure VU where
 b:Bool
 i:Int
 k:Nat
 s:ByteArray
structure VP where
 h:Bool
 t:Bool
 b:Bool
 i:Int
 k:Nat
 s:ByteArray
structure VC where
 h:Bool
 t:Bool
 b:Bool
 i:Int
 k:Nat
 s:ByteArray
 y:Int
 m:Int
 d:Int
 l:ByteArray
structure VA where
 i:Int
 k:Nat
 s:ByteArray
def resA:RA→VA×Nat×Nat
 | .inl (e,p)=>(⟨0,0,⟨#[]⟩⟩,p,e)
 | .inr (i,k,c,p)=>(⟨i,k,c⟩,p,0)
def RvA(w:World)(v:VA)(p e:Nat)(en:Ending)(w':World):Prop:=∃(A:Option Addr) (n c:Nat),en=.returned (.tuple #[.agg #[.bool (ngB v.i),.slice A n c,.int .i64 (v.k:Int),.string v.s],.int .i64 (p:Int),.int .i64 (e:Int)])∧Num w' w'.heap.size A n c v.i.natAbs∧Below w.heap.size w w'
structure S14 (w0 w:World) (l:List (Option Addr×Nat×Nat×Nat)) (bs:List (Nat×Array Value×TypeId)):Prop where
 bel:Below w0.heap.size w0 w
 num:∀q∈l,Num w w.heap.size q.1 q.2.1 q.2.2.1 q.2.2.2
 blk:∀q∈bs,Bk w q.1 q.2.1 q.2.2
section
variable {w0 w w':World}{l:List (Option Addr×Nat×Nat×Nat)}{bs:List (Nat×Array Value×TypeId)}
theorem S14.start(w:World):S14 w w [] []:=⟨Below.refl _ _,fun q hq=>(by cases hq),fun q hq=>(by cases hq)⟩
theorem S14.step(h:S14 w0 w l bs)(hb:Below w.heap.size w w'):S14 w0 w' l bs:=⟨h.bel.trans (hb.mono h.bel.size),fun q hq=>(h.num q hq).on hb,fun q hq=>(h.blk q hq).on hb⟩
theorem S14.push(h:S14 w0 w l bs)(hb:Below w.heap.size w w'){A:Option Addr}{n c a:Nat}(hn:Num w' w'.heap.size A n c a):S14 w0 w' ((A,n,c,a)::l) bs:=by
 have h2:=h.step hb;refine⟨h2.bel,fun q hq=>?_,h2.blk⟩;rcases List.mem_cons.1 hq with rfl|hq
 ·exact hn
 ·exact h2.num q hq
theorem S14.lay(h:S14 w0 w l bs)(xs:Array Value)(t:TypeId){g:Nat}(hg:g=w.heap.size):S14 w0 (w.alloc (.cells xs t)) l ((g,xs,t)::bs):=by
 have h2:=h.step ((Below.refl _ _).alloc (Nat.le_refl _) (.cells xs t));refine⟨h2.bel,h2.num,fun q hq=>?_⟩;rcases List.mem_cons.1 hq with rfl|hq
 ·exact Bk.new w xs t hg
 ·exact h2.blk q hq
theorem S14.got{A:Option Addr}{n c a:Nat}(h:Hid (S14 w0 w l bs))(hm:(A,n,c,a)∈l):Num w w.heap.size A n c a:=h.out.num _ hm
theorem S14.at_{g:Nat}{xs:Array Value}{t:TypeId}(h:Hid (S14 w0 w l bs))(hm:(g,xs,t)∈bs)(j:Nat):w.cell? ⟨g,j,none⟩=xs[j]?:=(h.out.blk _ hm).cell j
theorem S14.c4{g:Nat}{t:TypeId}{x0 x1 x2 x3:Value}(h:Hid (S14 w0 w l bs))(hm:(g,#[x0,x1,x2,x3],t)∈bs):w.cell? ⟨g,0,none⟩=some x0∧w.cell? ⟨g,1,none⟩=some x1∧w.cell? ⟨g,2,none⟩=some x2∧w.cell? ⟨g,3,none⟩=some x3:=⟨S14.at_ h hm 0,S14.at_ h hm 1,S14.at_ h hm 2,S14.at_ h hm 3⟩
theorem S14.c5{g:Nat}{t:TypeId}{x0 x1 x2 x3 x4:Value}(h:Hid (S14 w0 w l bs))(hm:(g,#[x0,x1,x2,x3,x4],t)∈bs):w.cell? ⟨g,0,none⟩=some x0∧w.cell? ⟨g,1,none⟩=some x1∧w.cell? ⟨g,2,none⟩=some x2∧w.cell? ⟨g,3,none⟩=some x3∧w.cell? ⟨g,4,none⟩=some x4:=⟨S14.at_ h hm 0,S14.at_ h hm 1,S14.at_ h hm 2,S14.at_ h hm 3,S14.at_ h hm 4⟩
theorem S14.c7{g:Nat}{t:TypeId}{x0 x1 x2 x3 x4 x5 x6:Value}(h:Hid (S14 w0 w l bs))(hm:(g,#[x0,x1,x2,x3,x4,x5,x6],t)∈bs):w.cell? ⟨g,0,none⟩=some x0∧w.cell? ⟨g,1,none⟩=some x1∧w.cell? ⟨g,2,none⟩=some x2∧w.cell? ⟨g,3,none⟩=some x3∧w.cell? ⟨g,4,none⟩=some x4∧w.cell? ⟨g,5,none⟩=some x5∧w.cell? ⟨g,6,none⟩=some x6:=⟨S14.at_ h hm 0,S14.at_ h hm 1,S14.at_ h hm 2,S14.at_ h hm 3,S14.at_ h hm 4,S14.at_ h hm 5,S14.at_ h hm 6⟩
theorem S14.c11{g:Nat}{t:TypeId}{x0 x1 x2 x3 x4 x5 x6 x7 x8 x9 x10:Value}(h:Hid (S14 w0 w l bs))(hm:(g,#[x0,x1,x2,x3,x4,x5,x6,x7,x8,x9,x10],t)∈bs):w.cell? ⟨g,0,none⟩=some x0∧w.cell? ⟨g,1,none⟩=some x1∧w.cell? ⟨g,2,none⟩=some x2∧w.cell? ⟨g,3,none⟩=some x3∧w.cell? ⟨g,4,none⟩=some x4∧w.cell? ⟨g,5,none⟩=some x5∧w.cell? ⟨g,6,none⟩=some x6∧w.cell? ⟨g,7,none⟩=some x7∧w.cell? ⟨g,8,none⟩=some x8∧w.cell? ⟨g,9,none⟩=some x9∧w.cell? ⟨g,10,none⟩=some x10:=⟨S14.at_ h hm 0,S14.at_ h hm 1,S14.at_ h hm 2,S14.at_ h hm 3,S14.at_ h hm 4,S14.at_ h hm 5,S14.at_ h hm 6,S14.at_ h hm 7,S14.at_ h hm 8,S14.at_ h hm 9,S14.at_ h hm 10⟩
end
def dayR(L:List Tok)(a:Nat):RH (Int×Int×Int):=thn (tkw L a 1) fun s b=>if Dat.prOk s=true then .inr (pday s,b) else .inl (3,b-1)
def curR(L:List Tok)(a:Nat):RH (List ByteArray):=thn (tkw L a 3) fun x b=>thn (curL L L.length b) fun xs c=>.inr (x::xs,c)
def mthR(L:List Tok)(a:Nat):RH Nat:=thn (tkw L a 5) fun s b=>match mth (bs9 s) with|none=>.inl (3,b-1)|some m=>.inr (m,b)
def tolR(L:List Tok)(a:Nat):RH (Int×Nat):=thn (nmr L a) fun n b=>if n.1<0 then .inl (3,b-1) else .inr (n,b)
theorem knd_some{L:List Tok}{a:Nat}{k:Int}(h:knd L a k=true):∃t,L[a]?=some t∧t.1=k:=by
 unfold knd at h;cases ht:L[a]? with
 | none=>rw[ht] at h;cases h
 | some t=>rw[ht] at h;exact⟨t,rfl,of_decide_eq_true h⟩
theorem tkw_some{L:List Tok}{a:Nat}{k:Int}{t:Tok}(h:L[a]?=some t)(hk:t.1=k):tkw L a k=.inr (t.2,a+1):=by unfold tkw;rw[h];exact if_pos hk
def opnR(L:List Tok)(a:Nat):RH Dr:=thn (tkw L a 2) fun ac a=>thn (if knd L a 3=true then curR L a else .inr ([],a)) fun cs a=>thn (if knd L a 5=true then mthR L a else .inr (0,a)) fun m a=>.inr (.opn (0,0,0) ac cs m,a)
theorem rOpen_eq(L:List Tok)(a:Nat):rOpen L (0,0,0) a=opnR L a:=by
 unfold rOpen opnR;congr 1;funext ac a
 show thn (curs L a) _=thn (curs L a) _;congr 1;funext cs a
 by_cases h:knd L a 5=true
 ·rw[if_pos h,if_pos h]
  obtain⟨t,ht,h5⟩:=knd_some h;unfold mthR mthO;rw[tkw_some ht h5,ht];show(match mth (bs9 t.2) with|none=>Sum.inl (3,a)|some m=>Sum.inr (Dr.opn (0,0,0) ac cs m,a+1))=thn (match mth (bs9 t.2) with|none=>Sum.inl (3,a+1-1)|some m=>Sum.inr (m,a+1)) _;cases mth (bs9 t.2)<;>rfl
 ·rw[if_neg h,if_neg h];rfl
def balR(L:List Tok)(a:Nat):RH Dr:=thn (tkw L a 2) fun ac a=>thn (nmr L a) fun n a=>thn (if isW L a [126]=true then thn (tolR L (a+1)) fun t b=>.inr (some t,b) else .inr (none,a)) fun t a=>thn (tkw L a 3) fun x a=>.inr (.bal (0,0,0) ac n.1 n.2 t x,a)
theorem rBal_eq(L:List Tok)(a:Nat):rBal L (0,0,0) a=balR L a:=by
 unfold rBal balR rTol;congr 1;funext ac a
 congr 1;funext n a
 congr 1
 by_cases h:isW L a [126]=true
 ·rw[if_pos h,if_pos h]
  unfold tolR;cases nmr L (a+1) with
  | inl e=>rfl
  | inr r=>
   obtain⟨n,b⟩:=r;show(if n.1<0 then _ else _)=thn (if n.1<0 then _ else _) _;by_cases h0:n.1<0
   ·rw[if_pos h0,if_pos h0];rfl
   ·rw[if_neg h0,if_neg h0];rfl
 ·rw[if_neg h,if_neg h]
def dirR(L:List Tok):RH Dr:=if psW L 0 0 8 wOption=true then thn (tkw L 1 5) fun n a=>thn (tkw L a 5) fun x a=>.inr (.opt n x,a) else thn (dayR L 0) fun d a=>thn (tkwK L [8,10] a) fun w a=>mapR (Dr.day d) (rest15 L (0,0,0) (bs9 w) a)
theorem hd_eq(L:List Tok):hd L=fin15 L (dirR L):=by
 unfold hd dirR;cases h0:L[0]? with
 | none=>
  have h1:psW L 0 0 8 wOption=false:=by unfold psW knd;rw[h0];rfl
  have h2:dayR L 0=.inl (2,0):=by unfold dayR tkw;rw[h0];rfl
  rw[h1,if_neg (by decide),h2];rfl
 | some t=>
  have h1:psW L 0 0 8 wOption=(decide (t.1=8)&&decide (bs9 t.2=wOption)):=by unfold psW knd;rw[h0];rfl
  dsimp only
  by_cases h8:t.1=8∧bs9 t.2=wOption
  ·rw[if_pos h8,if_pos (by rw[h1,decide_eq_true h8.1,decide_eq_true h8.2];rfl)]
  ·have hz:¬(psW L 0 0 8 wOption=true):=by rw[h1];intro q;rw[Bool.and_eq_true,decide_eq_true_iff,decide_eq_true_iff] at q;exact h8 q
   rw[if_neg h8,if_neg hz];by_cases h3:t.1=1
   ·rw[if_pos h3]
    by_cases hp:Dat.prOk t.2=true
    ·rw[if_pos hp]
     have h2:dayR L 0=.inr (pday t.2,1):=by unfold dayR;rw[tkw_some h0 h3];exact if_pos hp
     rw[h2];show _=fin15 L (thn (tkwK L [8,10] 1) fun w a=>mapR (Dr.day (pday t.2)) (rest15 L (0,0,0) (bs9 w) a));unfold tkwK;cases hu:L[1]? with
     | none=>rfl
     | some u=>
      have e:([8,10]:List Int).any (fun k=>decide (u.1=k))=(decide (u.1=8)||(decide (u.1=10)||false)):=rfl;dsimp only
      by_cases hk:u.1=8∨u.1=10
      ·rw[if_pos hk,if_pos (by rw[e];rcases hk with hk|hk<;>rw[hk]<;>rfl),rest_day];rfl
      ·rw[if_neg hk,if_neg (by rw[e,decide_eq_false (fun q=>hk (.inl q)),decide_eq_false (fun q=>hk (.inr q))];decide)];rfl
    ·rw[if_neg hp]
     have h2:dayR L 0=.inl (3,0):=by unfold dayR;rw[tkw_some h0 h3];exact if_neg hp
     rw[h2];rfl
   ·rw[if_neg h3]
    have h2:dayR L 0=.inl (3,0):=by unfold dayR tkw;rw[h0];show thn (if t.1=1 then _ else _) _=_;rw[if_neg h3];rfl
    rw[h2];rfl
theorem rTxt_none{L:List Tok}{a:Nat}(h:knd L a 5=false):rTxt L a=((⟨#[]⟩,⟨#[]⟩),a):=by
 unfold rTxt;unfold knd at h;cases ht:L[a]? with
 | none=>rfl
 | some t=>rw[ht] at h;dsimp only;exact if_neg (of_decide_eq_false h)
theorem rTxt_one{L:List Tok}{a:Nat}{t:Tok}(ht:L[a]?=some t)(h5:t.1=5)(h:knd L (a+1) 5=false):rTxt L a=((⟨#[]⟩,t.2),a+1):=by
 unfold rTxt;unfold knd at h;rw[ht];dsimp only;rw[if_pos h5];cases hu:L[a+1]? with
 | none=>rfl
 | some u=>rw[hu] at h;dsimp only;exact if_neg (of_decide_eq_false h)
theorem rTxt_two{L:List Tok}{a:Nat}{t u:Tok}(ht:L[a]?=some t)(h5:t.1=5)(hu:L[a+1]?=some u)(h6:u.1=5):rTxt L a=((t.2,u.2),a+2):=by
 unfold rTxt;rw[ht];dsimp only;rw[if_pos h5,hu];dsimp only;rw[if_pos h6]
theorem curL_stop{L:List Tok}{f a:Nat}(h:isW L a [44]=false):curL L f a=.inr ([],a):=by
 cases f with
 | zero=>rfl
 | succ f=>unfold curL;rw[if_neg (by rw[h];decide)]
theorem curL_go{L:List Tok}{f a:Nat}(h:isW L a [44]=true):curL L (f+1) a=thn (tkw L (a+1) 3) fun x b=>thn (curL L f b) fun xs c=>.inr (x::xs,c):=by
 rw[curL,if_pos h]
theorem thn_thn{α β γ:Type}(r:RH α)(f:α→Nat→RH β)(g:β→Nat→RH γ):thn (thn r f) g=thn r fun x b=>thn (f x b) g:=by
 rcases r with e|⟨x,b⟩<;>rfl
def curAcc(L:List Tok)(f:Nat)(acc:List ByteArray)(a:Nat):RH (List ByteArray):=thn (curL L f a) fun xs c=>.inr (acc++xs,c)
theorem curAcc_stop{L:List Tok}{f a:Nat}{acc:List ByteArray}(h:isW L a [44]=false):curAcc L f acc a=.inr (acc,a):=by
 unfold curAcc;rw[curL_stop h];show Sum.inr (acc++[],a)=_;rw[List.append_nil]
theorem curAcc_go{L:List Tok}{f a:Nat}{acc:List ByteArray}(h:isW L a [44]=true):curAcc L (f+1) acc a=thn (tkw L (a+1) 3) fun x b=>curAcc L f (acc++[x]) b:=by
 unfold curAcc;rw[curL_go h,thn_thn];congr 1;funext x b
 rw[thn_thn];congr 1;funext xs c
 show Sum.inr (acc++x::xs,c)=_;rw[List.append_assoc];rfl
theorem curR_acc(L:List Tok)(a:Nat):curR L a=thn (tkw L a 3) fun x b=>curAcc L L.length [x] b:=rfl
theorem mth_told{m:Nat}(h:m≤4):mth (mthT m)=some m:=by
 obtain rfl|rfl|rfl|rfl|rfl:m=0∨m=1∨m=2∨m=3∨m=4:=by omega
 all_goals kernel_rfl
theorem mthT_some{m:Nat}(h:m≤4):mthT m≠[]:=by
 obtain rfl|rfl|rfl|rfl|rfl:m=0∨m=1∨m=2∨m=3∨m=4:=by omega
 all_goals (intro h;cases h)
theorem mthT_byt(m:Nat):∀c∈mthT m,c<256:=by
 unfold mthT;split<;>decide
theorem meth15_law(ME:METH)(MW:MWORD)(AW:AWK15){w:World}{s:ByteArray}{n:Int}(hok:Ok15 w):Calls Tryz.prog 4 #[.string s,.int .i64 n] w (Ret9 w (.bool true)):=by
 have OK:Hid (∀{W:World},Below w.heap.size w W→Ok15 W):=fun hb=>okw15 hok hb
 have M1:Hid (∀{W:World}{x:Int},Ok15 W→mthI s=x→Calls Tryz.prog 11 #[.string s] W (Ret9 W (.int .i64 x))):=fun ho h=>ME ho h
 have E:=Jh (Below.refl w.heap.size w);obtain⟨T,hT⟩:∃T,mthW n=bs9 T:=⟨st9 (mthW n),(bs9_st9 (by unfold mthW;split;exact mthT_byt _;intro c h;cases h)).symm⟩;have M2:Hid (∀{W:World},Ok15 W→Calls Tryz.prog 12 #[.int .i64 n] W (Ret9 W (.string T))):=fun {W} ho=>MW ho hT
 have M3:Hid (∀{W:World},Ok15 W→0≤n∧n≤4→Calls Tryz.prog 11 #[.string T] W (Ret9 W (.int .i64 n))):=fun {W} ho h=>by
  refine ME ho ?_;unfold mthI;rw[← hT];unfold mthW;rw[if_pos h,mth_told (by omega)];show((n.toNat:Int))=n;omega
 have HT0:Hid ((T.toList == []) = !(decide (0≤n∧n≤4))):=by
  show _=_;have e:(T.toList == [])=decide (bs9 T=[]):=by
   have:=txt_eq (T:=T) (s:=⟨#[]⟩);have q1:(⟨#[]⟩:ByteArray).toList=[]:=by first|kernel_rfl|decide|(simp[ByteArray.toList,ByteArray.toList.loop])
   have q2:bs9 ⟨#[]⟩=[]:=by first|rfl|kernel_rfl
   rw[q1,q2] at this;exact this
  rw[e,← hT];unfold mthW;by_cases h:0≤n∧n≤4
  ·rw[if_pos h,decide_eq_true h]
   exact decide_eq_false (mthT_some (by omega))
  ·rw[if_neg h,decide_eq_false h];rfl
 clear hok hT;have hn3:n<0∨4<n∨(0≤n∧n≤4):=by omega
 cases hm:mth (bs9 s) with
 | none=>
  have hx:mthI s = -1:=by unfold mthI;rw[hm]
  rcases hn3 with hn|hn|hn
  ·go_enter Tryz.func4,Tryz.ntmps4
   go_wp2_with fail;refine(M1.out (OK.out E.out) hx).mono ?_;rintro e1 w1 ⟨rfl,hb⟩;replace E:=Jh (E.out.trans (hb.mono E.out.size));clear hb;go_wp2_with fail;refine(M2.out (OK.out E.out)).mono ?_;rintro e2 w2 ⟨rfl,hb⟩;replace E:=Jh (E.out.trans (hb.mono E.out.size));clear hb;have t0:(T.toList == [])=true:=by rw[HT0.out];rw[decide_eq_false (by omega)];rfl
   have a0:decide (n<0)=true:=decide_eq_true hn;go_wp2_with fail;refine(AW _ (OK.out E.out)).mono ?_;rintro e9 w9 ⟨rfl,hb⟩;replace E:=Jh (E.out.trans (hb.mono E.out.size));clear hb;go_wp2_with fail;go_ret;exact⟨rfl,E.out⟩
  ·go_enter Tryz.func4,Tryz.ntmps4
   go_wp2_with fail;refine(M1.out (OK.out E.out) hx).mono ?_;rintro e1 w1 ⟨rfl,hb⟩;replace E:=Jh (E.out.trans (hb.mono E.out.size));clear hb;go_wp2_with fail;refine(M2.out (OK.out E.out)).mono ?_;rintro e2 w2 ⟨rfl,hb⟩;replace E:=Jh (E.out.trans (hb.mono E.out.size));clear hb;have t0:(T.toList == [])=true:=by rw[HT0.out];rw[decide_eq_false (by omega)];rfl
   have a0:decide (n<0)=false:=decide_eq_false (by omega);have a1:decide (4<n)=true:=decide_eq_true hn;go_wp2_with fail;refine(AW _ (OK.out E.out)).mono ?_;rintro e9 w9 ⟨rfl,hb⟩;replace E:=Jh (E.out.trans (hb.mono E.out.size));clear hb;go_wp2_with fail;go_ret;exact⟨rfl,E.out⟩
  ·go_enter Tryz.func4,Tryz.ntmps4
   go_wp2_with fail;refine(M1.out (OK.out E.out) hx).mono ?_;rintro e1 w1 ⟨rfl,hb⟩;replace E:=Jh (E.out.trans (hb.mono E.out.size));clear hb;go_wp2_with fail;refine(M2.out (OK.out E.out)).mono ?_;rintro e2 w2 ⟨rfl,hb⟩;replace E:=Jh (E.out.trans (hb.mono E.out.size));clear hb;have t0:(T.toList == [])=false:=by rw[HT0.out];rw[decide_eq_true hn];rfl
   have a0:decide (n<0)=false:=decide_eq_false (by omega);have a1:decide (4<n)=false:=decide_eq_false (by omega);have a2:(n == n)=true:=beq_self_eq_true _;go_wp2_with fail;refine(M2.out (OK.out E.out)).mono ?_;rintro e3 w3 ⟨rfl,hb⟩;replace E:=Jh (E.out.trans (hb.mono E.out.size));clear hb;go_wp2_with fail;refine(M3.out (OK.out E.out) hn).mono ?_;rintro e4 w4 ⟨rfl,hb⟩;replace E:=Jh (E.out.trans (hb.mono E.out.size));clear hb;go_wp2_with fail;refine(AW _ (OK.out E.out)).mono ?_;rintro e9 w9 ⟨rfl,hb⟩;replace E:=Jh (E.out.trans (hb.mono E.out.size));clear hb;go_wp2_with fail;go_ret;exact⟨rfl,E.out⟩
 | some m=>
  obtain⟨hm4,hms⟩:=mth_le hm;have hx:mthI s=(m:Int):=by unfold mthI;rw[hm]
  have M4:Hid (∀{W:World},Ok15 W→Calls Tryz.prog 12 #[.int .i64 (m:Int)] W (Ret9 W (.string s))):=fun {W} ho=>MW ho (by unfold mthW;rw[if_pos ⟨by omega,by omega⟩,hms];rfl)
  have b0:decide ((0:Int)≤(m:Int))=true:=decide_eq_true (by omega);have b1:decide ((4:Int)<(m:Int))=false:=decide_eq_false (by omega);have B0:=Jh b0;have B1:=Jh b1;clear b0 b1 hm hms hm4;rcases hn3 with hn|hn|hn
  ·go_enter Tryz.func4,Tryz.ntmps4
   go_wp2_with fail;refine(M1.out (OK.out E.out) hx).mono ?_;rintro e1 w1 ⟨rfl,hb⟩;replace E:=Jh (E.out.trans (hb.mono E.out.size));clear hb;have b0:=B0.out;have b1:=B1.out;go_wp2_with fail;refine(M4.out (OK.out E.out)).mono ?_;rintro e5 w5 ⟨rfl,hb⟩;replace E:=Jh (E.out.trans (hb.mono E.out.size));clear hb;clear b0 b1;go_wp2_with fail;refine(M2.out (OK.out E.out)).mono ?_;rintro e2 w2 ⟨rfl,hb⟩;replace E:=Jh (E.out.trans (hb.mono E.out.size));clear hb;have t0:(T.toList == [])=true:=by rw[HT0.out];rw[decide_eq_false (by omega)];rfl
   have a0:decide (n<0)=true:=decide_eq_true hn;go_wp2_with fail;refine(AW _ (OK.out E.out)).mono ?_;rintro e9 w9 ⟨rfl,hb⟩;replace E:=Jh (E.out.trans (hb.mono E.out.size));clear hb;go_wp2_with fail;go_ret;exact⟨rfl,E.out⟩
  ·go_enter Tryz.func4,Tryz.ntmps4
   go_wp2_with fail;refine(M1.out (OK.out E.out) hx).mono ?_;rintro e1 w1 ⟨rfl,hb⟩;replace E:=Jh (E.out.trans (hb.mono E.out.size));clear hb;have b0:=B0.out;have b1:=B1.out;go_wp2_with fail;refine(M4.out (OK.out E.out)).mono ?_;rintro e5 w5 ⟨rfl,hb⟩;replace E:=Jh (E.out.trans (hb.mono E.out.size));clear hb;clear b0 b1;go_wp2_with fail;refine(M2.out (OK.out E.out)).mono ?_;rintro e2 w2 ⟨rfl,hb⟩;replace E:=Jh (E.out.trans (hb.mono E.out.size));clear hb;have t0:(T.toList == [])=true:=by rw[HT0.out];rw[decide_eq_false (by omega)];rfl
   have a0:decide (n<0)=false:=decide_eq_false (by omega);have a1:decide (4<n)=true:=decide_eq_true hn;go_wp2_with fail;refine(AW _ (OK.out E.out)).mono ?_;rintro e9 w9 ⟨rfl,hb⟩;replace E:=Jh (E.out.trans (hb.mono E.out.size));clear hb;go_wp2_with fail;go_ret;exact⟨rfl,E.out⟩
  ·go_enter Tryz.func4,Tryz.ntmps4
   go_wp2_with fail;refine(M1.out (OK.out E.out) hx).mono ?_;rintro e1 w1 ⟨rfl,hb⟩;replace E:=Jh (E.out.trans (hb.mono E.out.size));clear hb;have b0:=B0.out;have b1:=B1.out;go_wp2_with fail;refine(M4.out (OK.out E.out)).mono ?_;rintro e5 w5 ⟨rfl,hb⟩;replace E:=Jh (E.out.trans (hb.mono E.out.size));clear hb;clear b0 b1;go_wp2_with fail;refine(M2.out (OK.out E.out)).mono ?_;rintro e2 w2 ⟨rfl,hb⟩;replace E:=Jh (E.out.trans (hb.mono E.out.size));clear hb;have t0:(T.toList == [])=false:=by rw[HT0.out];rw[decide_eq_true hn];rfl
   have a0:decide (n<0)=false:=decide_eq_false (by omega);have a1:decide (4<n)=false:=decide_eq_false (by omega);have a2:(n == n)=true:=beq_self_eq_true _;go_wp2_with fail;refine(M2.out (OK.out E.out)).mono ?_;rintro e3 w3 ⟨rfl,hb⟩;replace E:=Jh (E.out.trans (hb.mono E.out.size));clear hb;go_wp2_with fail;refine(M3.out (OK.out E.out) hn).mono ?_;rintro e4 w4 ⟨rfl,hb⟩;replace E:=Jh (E.out.trans (hb.mono E.out.size));clear hb;go_wp2_with fail;refine(AW _ (OK.out E.out)).mono ?_;rintro e9 w9 ⟨rfl,hb⟩;replace E:=Jh (E.out.trans (hb.mono E.out.size));clear hb;go_wp2_with fail;go_ret;exact⟨rfl,E.out⟩
end Go.Proofs.YthpmaoimceojgaaGreatDoor.Num
