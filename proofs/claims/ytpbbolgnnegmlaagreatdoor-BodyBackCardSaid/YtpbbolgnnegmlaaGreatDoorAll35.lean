/- Lemmas of the proof: DatJ, DatK. -/
import Derived.Test.YtpbbolgnnegmlaaGreatDoorAll26
import Derived.Lib.ItoaLen
import Derived.Lib.Repeat
set_option linter.unusedVariables false
set_option linter.unusedSimpArgs false
set_option maxRecDepth 100000
set_option maxHeartbeats 32000000
open Go.Lib renaming hid→Jh
namespace Go.Proofs.YtpbbolgnnegmlaaGreatDoor.Dat
open Go.RowKit
def dg8(k:Nat):UInt8:=UInt8.ofNat (48+k)
def two8(n:Nat):List UInt8:=[dg8 (n/10%10),dg8 (n%10)]
def four8(n:Nat):List UInt8:=[dg8 (n/1000%10),dg8 (n/100%10),dg8 (n/10%10),dg8 (n%10)]
def st8(l:List UInt8):ByteArray:=⟨l.toArray⟩
def txt8(y m d:Nat):ByteArray:=st8 (four8 y++(45::(two8 m++(45::two8 d))))
theorem st8_size(l:List UInt8):(st8 l).size=l.length:=rfl
theorem st8_append(x y:List UInt8):st8 x++st8 y=st8 (x++y):=by
 unfold st8;rw[ByteArray.mk_append_mk];try simp
theorem st8_add{x y z:List UInt8}(hz:x++y=z)(h:x.length+y.length≤1000)(w:World):(Op.stringOp .add (st8 x) (st8 y)).run Tryz.prog w=.ok (.string (st8 z)) w:=by
 subst hz;rw[run_string_add_sum w _ _ (by rw[st8_size,st8_size];omega),st8_append]
theorem dec_len{n:Nat}(k:Nat)(h:n<10^(k+1)):(Lib.decDigits n).length≤k+1:=by
 induction k generalizing n with
 | zero=>rw[Lib.decDigits,dif_pos (by simpa using h)];simp
 | succ k ih=>
  by_cases h1:n<10
  ·rw[Lib.decDigits,dif_pos h1];simp
  ·rw[Lib.decDigits,dif_neg h1,List.length_append]
   have:=ih (n:=n/10) (by rw[Nat.pow_succ] at h;omega);simp;omega
theorem pad_two{n:Nat}(h:n<100):Lib.repeatL [48] (2-(Lib.decDigits n).length)++Lib.decDigits n=two8 n:=by
 by_cases h1:n<10
 ·rw[Lib.decDigits_one h1]
  have e1:n/10%10=0:=by omega
  have e2:n%10=n:=by omega
  unfold two8;rw[e1,e2];rfl
 ·rw[Lib.decDigits_two h1 h]
  have e1:n/10%10=n/10:=by omega
  unfold two8;rw[e1];rfl
theorem dec_step{n:Nat}(h:¬n<10):Lib.decDigits n=Lib.decDigits (n/10)++[dg8 (n%10)]:=by rw[Lib.decDigits,dif_neg h];rfl
theorem pad_four{n:Nat}(h:n<10000):Lib.repeatL [48] (4-(Lib.decDigits n).length)++Lib.decDigits n=four8 n:=by
 unfold four8;by_cases h1:n<10
 ·rw[Lib.decDigits_one h1]
  rw[show n/1000%10=0 by omega,show n/100%10=0 by omega,show n/10%10=0 by omega,show n%10=n by omega];rfl
 ·by_cases h2:n<100
  ·rw[Lib.decDigits_two h1 h2]
   rw[show n/1000%10=0 by omega,show n/100%10=0 by omega,show n/10%10=n/10 by omega];rfl
  ·by_cases h3:n<1000
   ·rw[dec_step h1,Lib.decDigits_two (i:=n/10) (by omega) (by omega)]
    rw[show n/1000%10=0 by omega,show n/100%10=n/10/10 by omega];rfl
   ·rw[dec_step h1,dec_step (n:=n/10) (by omega),Lib.decDigits_two (i:=n/10/10) (by omega) (by omega)]
    rw[show n/1000%10=n/10/10/10 by omega,show n/100%10=n/10/10%10 by omega];rfl
theorem itoa8(n:Nat)(w:World)(hT:Tabs w)(hn:n<10000):Calls Tryz.prog 100 #[.int .i64 (n:Int)] w (Ret8 w (.string (st8 (Lib.decDigits n)))):=by
 refine(Tryz.strconv_Itoa (n:Int) (by omega) (by omega) w hT.pow).mono fun e w' h=>?_
 obtain⟨h1,k,os,rfl⟩:=h;rw[Lib.itoa_nonneg] at h1;exact⟨h1,Lib.below_grow _ _ (Nat.le_refl _) _ _⟩
theorem repeat8(k:Nat)(w:World)(hk:k≤100):Calls Tryz.prog 101 #[.string ⟨#[48]⟩,.int .i64 (k:Int)] w (Ret8 w (.string (st8 (Lib.repeatL [48] k)))):=
 Tryz.strings_Repeat ⟨#[48]⟩ k w (by omega) (by show 1*k≤_;omega)
theorem max8{P:Program}{s:Nat}(ts:Array TypeId)(ty:TypeId)(W:World):(Builtin.max_ ts ty #[.int .i64 (s:Int),.int .i64 0]).run P W=.ok (.int .i64 (s:Int)) W:=by
 rw[run_max_int2];have e:(if (0:Int)>(s:Int) then (0:Int) else (s:Int))=(s:Int):=by split<;>omega
 rw[e]
theorem padded_is{n k:Nat}{T:List UInt8}{w:World}(hT:Tabs w)(hn:n<10000)(hk:k≤4)(hl:(Lib.decDigits n).length≤k)(h:Lib.repeatL [48] (k-(Lib.decDigits n).length)++Lib.decDigits n=T) :
  Calls Tryz.prog 80 #[.int .i64 (n:Int),.int .i64 (k:Int)] w (Ret8 w (.string (st8 T))):=by
 obtain⟨S,hS⟩:∃S,st8 (Lib.decDigits n)=S:=⟨_,rfl⟩;obtain⟨r,hr⟩:∃r,k-(Lib.decDigits n).length=r:=⟨_,rfl⟩;have hs:S.size=(Lib.decDigits n).length:=by rw[← hS];rfl
 have em:(k:Int)-(S.size:Int)=(r:Int):=by omega
 have sb:S.size≤4:=by omega
 have ha:∀w',(Op.stringOp .add (st8 (Lib.repeatL [48] r)) S).run Tryz.prog w'=.ok (.string (st8 T)) w':=fun w'=>by
  rw[← hS];exact st8_add (by rw[← hr];exact h) (by rw[Lib.repeatL_length];simp;omega) w'
 obtain⟨R,hR⟩:∃R,st8 (Lib.repeatL [48] r)=R:=⟨_,rfl⟩;rw[hR] at ha;have HC:Hid (∀w',Calls Tryz.prog 101 #[.string ⟨#[48]⟩,.int .i64 (r:Int)] w' (Ret8 w' (.string R))):=fun w'=>by rw[← hR];exact repeat8 r w' (by omega)
 have HI:Hid (Calls Tryz.prog 100 #[.int .i64 (n:Int)] w (Ret8 w (.string S))):=by rw[← hS];exact itoa8 n w hT hn
 have hmx:=max8 (P:=Tryz.prog) (s:=r);clear hS hr hs h hl hR hT;go_enter Tryz.func80,Tryz.ntmps80;go_wp2_with fail;refine HI.out.mono ?_;rintro e w1 ⟨rfl,hb1⟩;go_wp2_with fail;refine(HC.out _).mono ?_;rintro e w2 ⟨rfl,hb2⟩;go_wp2_with fail;go_ret;exact⟨rfl,hb1.trans (hb2.mono hb1.size)⟩
theorem text_not(y m d:Int)(hr:ok8 y m d=false)  (w:World) (hT:Tabs w):Calls Tryz.prog 52 #[.agg #[.int .i64 y,.int .i64 m,.int .i64 d]] w (Ret8 w (.string ⟨#[]⟩)):=by
 have HT:=Jh hT;clear hT;have HR:=Jh hr;clear hr;go_enter Tryz.func52,Tryz.ntmps52;go_wp2_with fail;generalize hW:World.alloc w _=W0;have E0:S8 w W0 [(w.heap.size,.int .i64 y,.int .i64 m,.int .i64 d)]:=by rw[← hW];exact((S8.start w HT.out).lay rfl)
 have E:=Jh E0;clear hW E0;obtain⟨p0,p1,p2,pf0,pf1,pf2,plt⟩:=(S8.at_ (x0:=.int .i64 y) (x1:=.int .i64 m) (x2:=.int .i64 d) (g:=w.heap.size) E (by simp));go_wp2_with fail;refine(right_is E.out.tab HR.out).mono ?_;rintro e w1 ⟨rfl,hb⟩;replace E:=Jh (S8.step E.out hb);clear hb;clear p0 p1 p2 pf0 pf1 pf2 plt;go_wp2_with fail;go_ret;exact⟨rfl,E.out.bel⟩
theorem text_yes(y m d:Nat)(hr:ok8 y m d=true)  (w:World) (hT:Tabs w):Calls Tryz.prog 52 #[.agg #[.int .i64 ((y:Int)),.int .i64 ((m:Int)),.int .i64 ((d:Int))]] w (Ret8 w (.string (txt8 y m d))):=by
 have HT:=Jh hT;clear hT;obtain⟨h1,h2,h3,h4,h5,h6⟩:=ok8_iff.1 hr;have hl:=len8_bd y m;have HR:=Jh hr;have HYB:Hid (y<10000):=by show _<_;omega
 have HMB:Hid (m<100):=by show _<_;omega
 have HDB:Hid (d<100):=by show _<_;omega
 obtain⟨P1,hP1⟩:∃S,st8 (four8 y)=S:=⟨_,rfl⟩;obtain⟨P2,hP2⟩:∃S,st8 (two8 m)=S:=⟨_,rfl⟩;obtain⟨P3,hP3⟩:∃S,st8 (two8 d)=S:=⟨_,rfl⟩;obtain⟨S1,hS1⟩:∃S,st8 (four8 y++[45])=S:=⟨_,rfl⟩;obtain⟨S2,hS2⟩:∃S,st8 (four8 y++[45]++two8 m)=S:=⟨_,rfl⟩;obtain⟨S3,hS3⟩:∃S,st8 (four8 y++[45]++two8 m++[45])=S:=⟨_,rfl⟩;obtain⟨S4,hS4⟩:∃S,st8 (four8 y++(45::(two8 m++(45::two8 d))))=S:=⟨_,rfl⟩;have ha1:∀w',(Op.stringOp .add P1 ⟨#[45]⟩).run Tryz.prog w'=.ok (.string S1) w':=fun w'=>by
  rw[← hP1,← hS1];exact st8_add (x:=four8 y) (y:=[45]) (by simp[two8,four8]) (by simp[four8,two8]) w'
 have ha2:∀w',(Op.stringOp .add S1 P2).run Tryz.prog w'=.ok (.string S2) w':=fun w'=>by
  rw[← hS1,← hP2,← hS2];exact st8_add (by simp[two8,four8]) (by simp[four8,two8]) w'
 have ha3:∀w',(Op.stringOp .add S2 ⟨#[45]⟩).run Tryz.prog w'=.ok (.string S3) w':=fun w'=>by
  rw[← hS2,← hS3];exact st8_add (x:=four8 y++[45]++two8 m) (y:=[45]) (by simp[two8,four8]) (by simp[four8,two8]) w'
 have ha4:∀w',(Op.stringOp .add S3 P3).run Tryz.prog w'=.ok (.string S4) w':=fun w'=>by
  rw[← hS3,← hP3,← hS4];exact st8_add (by simp[two8,four8]) (by simp[four8,two8]) w'
 have C1:Hid (∀w',Tabs w'→Calls Tryz.prog 80 #[.int .i64 (y:Int),.int .i64 4] w' (Ret8 w' (.string P1))):=fun w' h=>by rw[← hP1];exact padded_is (k:=4) h HYB.out (by omega) (dec_len 3 HYB.out) (pad_four HYB.out)
 have C2:Hid (∀w',Tabs w'→Calls Tryz.prog 80 #[.int .i64 (m:Int),.int .i64 2] w' (Ret8 w' (.string P2))):=fun w' h=>by rw[← hP2];exact padded_is (k:=2) h (by have:=HMB.out;omega) (by omega) (dec_len 1 HMB.out) (pad_two HMB.out)
 have C3:Hid (∀w',Tabs w'→Calls Tryz.prog 80 #[.int .i64 (d:Int),.int .i64 2] w' (Ret8 w' (.string P3))):=fun w' h=>by rw[← hP3];exact padded_is (k:=2) h (by have:=HDB.out;omega) (by omega) (dec_len 1 HDB.out) (pad_two HDB.out)
 have HS:Hid (S4=txt8 y m d):=hS4.symm;clear hr h1 h2 h3 h4 h5 h6 hl hP1 hP2 hP3 hS1 hS2 hS3 hS4;go_enter Tryz.func52,Tryz.ntmps52;go_wp2_with fail;generalize hW:World.alloc w _=W0;have E0:S8 w W0 [(w.heap.size,.int .i64 ((y:Int)),.int .i64 ((m:Int)),.int .i64 ((d:Int)))]:=by rw[← hW];exact((S8.start w HT.out).lay rfl)
 have E:=Jh E0;clear hW E0;obtain⟨p0,p1,p2,pf0,pf1,pf2,plt⟩:=(S8.at_ (x0:=.int .i64 ((y:Int))) (x1:=.int .i64 ((m:Int))) (x2:=.int .i64 ((d:Int))) (g:=w.heap.size) E (by simp));go_wp2_with fail;refine(right_is E.out.tab HR.out).mono ?_;rintro e w1 ⟨rfl,hb⟩;replace E:=Jh (S8.step E.out hb);clear hb;clear p0 p1 p2 pf0 pf1 pf2 plt;obtain⟨p0,p1,p2,pf0,pf1,pf2,plt⟩:=(S8.at_ (x0:=.int .i64 ((y:Int))) (x1:=.int .i64 ((m:Int))) (x2:=.int .i64 ((d:Int))) (g:=w.heap.size) E (by simp));go_wp2_with fail;clear p0 p1 p2 pf0 pf1 pf2 plt;replace E:=Jh (S8.drew E.out);go_region_held3 (fun v=>v.cell? ⟨w.heap.size,0,none⟩=some (.int .i64 ((y:Int)))∧v.cell? ⟨w.heap.size,1,none⟩=some (.int .i64 ((m:Int)))∧v.cell? ⟨w.heap.size,2,none⟩=some (.int .i64 ((d:Int)))) (with_reducible exact⟨(S8.at_ (x0:=.int .i64 ((y:Int))) (x1:=.int .i64 ((m:Int))) (x2:=.int .i64 ((d:Int))) (g:=w.heap.size) E (by simp)).c0,(S8.at_ (x0:=.int .i64 ((y:Int))) (x1:=.int .i64 ((m:Int))) (x2:=.int .i64 ((d:Int))) (g:=w.heap.size) E (by simp)).c1,(S8.at_ (x0:=.int .i64 ((y:Int))) (x1:=.int .i64 ((m:Int))) (x2:=.int .i64 ((d:Int))) (g:=w.heap.size) E (by simp)).c2⟩)
  ((first|(go_at_call 80;(with_reducible refine(C1.out _ E.out.tab).mono ?_);rintro e w2 ⟨rfl,hb⟩;replace E:=Jh (S8.step E.out hb);clear hb)|(go_at_call 80;(with_reducible refine(C2.out _ E.out.tab).mono ?_);rintro e w3 ⟨rfl,hb⟩;replace E:=Jh (S8.step E.out hb);clear hb)|(go_at_call 80;(with_reducible refine(C3.out _ E.out.tab).mono ?_);rintro e w4 ⟨rfl,hb⟩;replace E:=Jh (S8.step E.out hb);clear hb)))
 go_wp2_with fail;go_ret;exact⟨by rw[HS.out];rfl,E.out.bel⟩
theorem ok8_cast{y m d:Int}(h:ok8 y m d=true):∃Y M D:Nat,y=Y∧m=M∧d=D:=by
 obtain⟨h1,h2,h3,h4,h5,h6⟩:=ok8_iff.1 h;exact⟨y.toNat,m.toNat,d.toNat,by omega,by omega,by omega⟩
def text8(y m d:Int):ByteArray:=if ok8 y m d=true then txt8 y.toNat m.toNat d.toNat else ⟨#[]⟩
theorem text8_ok{y m d:Int}(h:ok8 y m d=true):text8 y m d=txt8 y.toNat m.toNat d.toNat:=if_pos h
theorem text8_not{y m d:Int}(h:ok8 y m d=false):text8 y m d=⟨#[]⟩:=if_neg (by rw[h];simp)
theorem text_is{y m d:Int}{S:ByteArray}{w:World}(hT:Tabs w)(hS:text8 y m d=S):Calls Tryz.prog 52 #[.agg #[.int .i64 y,.int .i64 m,.int .i64 d]] w (Ret8 w (.string S)):=by
 subst hS;cases hr:ok8 y m d with
 | false=>rw[text8_not hr];exact text_not y m d hr w hT
 | true=>
  rw[text8_ok hr];obtain⟨Y,M,D,rfl,rfl,rfl⟩:=ok8_cast hr;exact text_yes Y M D hr w hT
def isd8(c:UInt8):Bool:=decide (48≤c.toNat)&&decide (c.toNat≤57)
def nmv8(l:List UInt8):Nat:=l.foldl (fun v c=>v*10+(c.toNat-48)) 0
def nm8(l:List UInt8):Int:=if l.all isd8=true then (nmv8 l:Int) else -1
theorem nmv8_snoc(l:List UInt8)(c:UInt8):nmv8 (l++[c])=nmv8 l*10+(c.toNat-48):=by unfold nmv8;rw[List.foldl_append];rfl
theorem nmv8_lt:∀(k:Nat) (l:List UInt8),l.length=k→l.all isd8=true→nmv8 l<10^k
 | 0,l,h,_=>by obtain rfl:=List.eq_nil_of_length_eq_zero h;decide
 | k+1,l,h,ha=>by
  have hne:l≠[]:=fun e=>by rw[e] at h;simp at h
  obtain⟨l',c,rfl⟩:∃l' c,l=l'++[c]:=⟨l.dropLast,l.getLast hne,(List.dropLast_concat_getLast hne).symm⟩;rw[List.all_append,Bool.and_eq_true_iff] at ha;have:=nmv8_lt k l' (by simp at h;exact h) ha.1;have hc:isd8 c=true:=by simpa using ha.2
  unfold isd8 at hc;rw[Bool.and_eq_true_iff,decide_eq_true_iff,decide_eq_true_iff] at hc;rw[nmv8_snoc,Nat.pow_succ];omega
theorem mem8(s:ByteArray)(k:Nat)(h:k<s.size):s[k]∈s.data.toList:=Array.mem_toList_iff.2 (Array.getElem_mem h)
theorem take_snoc8(s:ByteArray)(k:Nat)(h:k<s.size):s.data.toList.take (k+1)=s.data.toList.take k++[s[k]]:=by
 rw[List.take_succ_eq_append_getElem (by simpa using h)];rfl
theorem number_any(s:ByteArray)(w:World)(hs:s.size≤10):Calls Tryz.prog 106 #[.string s] w fun e w'=>e=.returned (.int .i64 (nm8 s.data.toList))∧w'=w:=by
 have HL:Hid (∀k,k≤10→(10:Nat)^k≤10000000000):=fun k hk=>Nat.pow_le_pow_right (n:=10) (by omega) hk
 go_enter Tryz.func106,Tryz.ntmps106;go_wp2;go_loop [3,7] (fun n i=>∃k:Nat,k≤s.size∧i=.int .i64 (k:Int)∧(s.data.toList.take k).all isd8=true∧n=.int .i64 (nmv8 (s.data.toList.take k):Int)) (fun _ i=>s.size-(intOf i).toNat)
 case atStart=>exact⟨0,Nat.zero_le _,rfl,rfl,rfl⟩
 case round=>
  obtain⟨k,hk,rfl,hall,rfl⟩:=hrel;have hv:nmv8 (s.data.toList.take k)≤10000000000:=by
   have h1:=nmv8_lt _ _ rfl hall;have h2:(s.data.toList.take k).length≤10:=Nat.le_trans (List.length_take_le _ _) (by omega);have:=HL.out _ h2;omega
  have HA:=Jh hall;clear hall;by_cases hlt:k<s.size
  ·have hts:=take_snoc8 s k hlt
   obtain⟨c,hc⟩:∃c:Nat,(s[k]'hlt).toNat=c:=⟨_,rfl⟩;have HT:=Jh hts;clear hts;by_cases h1:c<48
   ·have HN:Hid (nm8 s.data.toList = -1):=by
     show _=_;unfold nm8;rw[if_neg];intro h;have h3:isd8 (s[k]'hlt)=true:=List.all_eq_true.1 h _ (mem8 s k hlt);unfold isd8 at h3;rw[hc] at h3;simp at h3;omega
    have d1:decide ((c:Int)<48)=true:=decide_eq_true (by omega);clear h1;go_wp2;go_ret;exact⟨ri8 HN.out.symm,rfl⟩
   ·by_cases h2:57<c
    ·have HN:Hid (nm8 s.data.toList = -1):=by
      show _=_;unfold nm8;rw[if_neg];intro h;have h3:isd8 (s[k]'hlt)=true:=List.all_eq_true.1 h _ (mem8 s k hlt);unfold isd8 at h3;rw[hc] at h3;simp at h3;omega
     go_wp2;go_ret;exact⟨ri8 HN.out.symm,rfl⟩
    ·have HS:Hid ((s.data.toList.take (k+1)).all isd8=true∧nmv8 (s.data.toList.take (k+1))=nmv8 (s.data.toList.take k)*10+(c-48)):=by
      show _∧_;rw[HT.out,nmv8_snoc,List.all_append,hc];refine⟨?_,rfl⟩;rw[HA.out];simp[isd8,hc];omega
     have e1:(c:Int)-48=((c-48:Nat):Int):=by omega
     obtain⟨q,hq⟩:∃q,c-48=q:=⟨_,rfl⟩;have q9:q≤9:=by omega
     rw[hq] at e1 HS;clear hq;go_wp2;go_round
     case rel=>exact⟨k+1,by omega,by go_num,HS.out.1,by rw[HS.out.2];go_num⟩
     case measure=>simp[intOf];omega
  ·have e:s.data.toList.take k=s.data.toList:=List.take_of_length_le (by simp;omega)
   have HN:Hid (nm8 s.data.toList=(nmv8 (s.data.toList.take k):Int)):=by
    show _=_;unfold nm8;have:=HA.out;rw[e] at this ⊢;rw[if_pos this]
   clear e;go_wp2;go_ret;exact⟨ri8 HN.out.symm,rfl⟩
def frm8(s:ByteArray):Bool:=if h:s.size=10 then decide ((s[4]'(by omega)).toNat=(s[7]'(by omega)).toNat∧((s[4]'(by omega)).toNat=45∨(s[4]'(by omega)).toNat=47)) else false
def prY(s:ByteArray):Int:=nm8 (s.extract 0 4).data.toList
def prM(s:ByteArray):Int:=nm8 (s.extract 5 7).data.toList
def prD(s:ByteArray):Int:=nm8 (s.extract 8 10).data.toList
def prOk(s:ByteArray):Bool:=frm8 s&&ok8 (prY s) (prM s) (prD s)
theorem ext_size(s:ByteArray)(a b:Nat):(s.extract a b).size≤b:=by rw[ByteArray.size_extract];omega
theorem parse_bad0(s:ByteArray)(hs:s.size≤6000)(h:s.size≠10)  (w:World) (hT:Tabs w):Calls Tryz.prog 86 #[.string s] w (Ret8 w (.tuple #[.agg #[.int .i64 (0),.int .i64 (0),.int .i64 (0)],.int .i64 3])):=by
 have HT:=Jh hT;clear hT;have n1:((s.size:Int) != 10)=true:=by simp;omega
 have n2:((s.size:Int) == 10)=false:=by simp;omega
 clear h;go_enter Tryz.func86,Tryz.ntmps86;go_wp2_with fail;generalize hW:World.alloc w _=W0;have E0:S8 w W0 [(w.heap.size,.int .i64 (0),.int .i64 (0),.int .i64 (0))]:=by rw[← hW];exact((S8.start w HT.out).lay rfl)
 have E:=Jh E0;clear hW E0;go_quiet ((fail))
 replace E:=Jh (S8.drewN E.out nq);obtain⟨p0,p1,p2,pf0,pf1,pf2,plt⟩:=(S8.at_ (x0:=.int .i64 (0)) (x1:=.int .i64 (0)) (x2:=.int .i64 (0)) (g:=w.heap.size) E (by simp));go_wp2_with fail;clear p0 p1 p2 pf0 pf1 pf2 plt;replace E:=Jh (S8.store E.out (g:=w.heap.size) (x0:=.int .i64 (0)) (x1:=.int .i64 (0)) (x2:=.int .i64 (0)) (by simp) (by omega) [] (fun q hq=>by simp at hq ⊢;(try rcases hq with rfl<;>simp)) (.int .i64 (0)) (.int .i64 (0)) (.int .i64 (0)) (fun w_ hb=>HT.out.on hb));obtain⟨e0,e1,e2,_,_,_,_⟩:=(S8.at_ (x0:=.int .i64 (0)) (x1:=.int .i64 (0)) (x2:=.int .i64 (0)) (g:=w.heap.size) E (by simp));exact bodyPost_ret (v:=.tuple #[.agg #[.int .i64 (0),.int .i64 (0),.int .i64 (0)],.int .i64 3]) (by simp[results,Tryz.results86,go_sem,e0,e1,e2]) rfl ⟨rfl,E.out.bel⟩
theorem parse_bad1(s:ByteArray)(hz:s.size=10)(h:(s[4]'(by omega)).toNat≠(s[7]'(by omega)).toNat)  (w:World) (hT:Tabs w):Calls Tryz.prog 86 #[.string s] w (Ret8 w (.tuple #[.agg #[.int .i64 (0),.int .i64 (0),.int .i64 (0)],.int .i64 3])):=by
 have HT:=Jh hT;clear hT;have hzi:(s.size:Int)=10:=by omega
 have i4:4<s.size:=by omega
 have i7:7<s.size:=by omega
 obtain⟨a,ha⟩:∃a:Nat,(s[4]'i4).toNat=a:=⟨_,rfl⟩;obtain⟨b,hb⟩:∃b:Nat,(s[7]'i7).toNat=b:=⟨_,rfl⟩;rw[ha,hb] at h;have n1:((a:Int) != (b:Int))=true:=by simp;omega
 have n2:((a:Int) == (b:Int))=false:=by simp;omega
 clear h hz;go_enter Tryz.func86,Tryz.ntmps86;go_wp2_with fail;generalize hW:World.alloc w _=W0;have E0:S8 w W0 [(w.heap.size,.int .i64 (0),.int .i64 (0),.int .i64 (0))]:=by rw[← hW];exact((S8.start w HT.out).lay rfl)
 have E:=Jh E0;clear hW E0;go_quiet ((fail))
 replace E:=Jh (S8.drewN E.out nq);obtain⟨p0,p1,p2,pf0,pf1,pf2,plt⟩:=(S8.at_ (x0:=.int .i64 (0)) (x1:=.int .i64 (0)) (x2:=.int .i64 (0)) (g:=w.heap.size) E (by simp));go_wp2_with fail;clear p0 p1 p2 pf0 pf1 pf2 plt;replace E:=Jh (S8.store E.out (g:=w.heap.size) (x0:=.int .i64 (0)) (x1:=.int .i64 (0)) (x2:=.int .i64 (0)) (by simp) (by omega) [] (fun q hq=>by simp at hq ⊢;(try rcases hq with rfl<;>simp)) (.int .i64 (0)) (.int .i64 (0)) (.int .i64 (0)) (fun w_ hb=>HT.out.on hb));obtain⟨e0,e1,e2,_,_,_,_⟩:=(S8.at_ (x0:=.int .i64 (0)) (x1:=.int .i64 (0)) (x2:=.int .i64 (0)) (g:=w.heap.size) E (by simp));exact bodyPost_ret (v:=.tuple #[.agg #[.int .i64 (0),.int .i64 (0),.int .i64 (0)],.int .i64 3]) (by simp[results,Tryz.results86,go_sem,e0,e1,e2]) rfl ⟨rfl,E.out.bel⟩
theorem parse_bad2(s:ByteArray)(hz:s.size=10)(h:(s[4]'(by omega)).toNat=(s[7]'(by omega)).toNat)(h1:(s[4]'(by omega)).toNat≠45)(h2:(s[4]'(by omega)).toNat≠47)  (w:World) (hT:Tabs w):Calls Tryz.prog 86 #[.string s] w (Ret8 w (.tuple #[.agg #[.int .i64 (0),.int .i64 (0),.int .i64 (0)],.int .i64 3])):=by
 have HT:=Jh hT;clear hT;have hzi:(s.size:Int)=10:=by omega
 have i4:4<s.size:=by omega
 have i7:7<s.size:=by omega
 obtain⟨a,ha⟩:∃a:Nat,(s[4]'i4).toNat=a:=⟨_,rfl⟩;rw[ha] at h h1 h2;have hb:(s[7]'i7).toNat=a:=h.symm;have n1:((a:Int) != 45)=true:=by simp;omega
 have n2:((a:Int) == 45)=false:=by simp;omega
 have n3:((a:Int) != 47)=true:=by simp;omega
 have n4:((a:Int) == 47)=false:=by simp;omega
 clear h h1 h2 hz;go_enter Tryz.func86,Tryz.ntmps86;go_wp2_with fail;generalize hW:World.alloc w _=W0;have E0:S8 w W0 [(w.heap.size,.int .i64 (0),.int .i64 (0),.int .i64 (0))]:=by rw[← hW];exact((S8.start w HT.out).lay rfl)
 have E:=Jh E0;clear hW E0;go_quiet ((fail))
 replace E:=Jh (S8.drewN E.out nq);obtain⟨p0,p1,p2,pf0,pf1,pf2,plt⟩:=(S8.at_ (x0:=.int .i64 (0)) (x1:=.int .i64 (0)) (x2:=.int .i64 (0)) (g:=w.heap.size) E (by simp));go_wp2_with fail;clear p0 p1 p2 pf0 pf1 pf2 plt;replace E:=Jh (S8.store E.out (g:=w.heap.size) (x0:=.int .i64 (0)) (x1:=.int .i64 (0)) (x2:=.int .i64 (0)) (by simp) (by omega) [] (fun q hq=>by simp at hq ⊢;(try rcases hq with rfl<;>simp)) (.int .i64 (0)) (.int .i64 (0)) (.int .i64 (0)) (fun w_ hb=>HT.out.on hb));obtain⟨e0,e1,e2,_,_,_,_⟩:=(S8.at_ (x0:=.int .i64 (0)) (x1:=.int .i64 (0)) (x2:=.int .i64 (0)) (g:=w.heap.size) E (by simp));exact bodyPost_ret (v:=.tuple #[.agg #[.int .i64 (0),.int .i64 (0),.int .i64 (0)],.int .i64 3]) (by simp[results,Tryz.results86,go_sem,e0,e1,e2]) rfl ⟨rfl,E.out.bel⟩
theorem parse_ok45(s:ByteArray)(Y M D':Int)(hz:s.size=10)(h:(s[4]'(by omega)).toNat=(s[7]'(by omega)).toNat)(h1:(s[4]'(by omega)).toNat=45)(eY:prY s=Y)(eM:prM s=M)(eD:prD s=D')(hr:ok8 Y M D'=true)  (w:World) (hT:Tabs w):Calls Tryz.prog 86 #[.string s] w (Ret8 w (.tuple #[.agg #[.int .i64 Y,.int .i64 M,.int .i64 D'],.int .i64 0])):=by
 have HT:=Jh hT;clear hT;have hzi:(s.size:Int)=10:=by omega
 have i4:4<s.size:=by omega
 have i7:7<s.size:=by omega
 have ha:(s[4]'i4).toNat=45:=h1;have hb:(s[7]'i7).toNat=45:=h.symm.trans h1;obtain⟨A,hA⟩:∃A,s.extract 0 4=A:=⟨_,rfl⟩;obtain⟨B,hB⟩:∃B,s.extract 5 7=B:=⟨_,rfl⟩;obtain⟨C,hC⟩:∃C,s.extract 8 10=C:=⟨_,rfl⟩;have f1:∀w',(Instr.slice 9 (.string s) none (some (.int .i64 4)) none).run Tryz.prog w'=.ok (.string A) w':=fun w'=>by rw[run_slice_string_h (ht:=Tryz.underlying9) (h0:=by omega) (h2:=by omega),← hA];rfl
 have f2:∀w',(Instr.slice 9 (.string s) (some (.int .i64 5)) (some (.int .i64 7)) none).run Tryz.prog w'=.ok (.string B) w':=fun w'=>by rw[run_slice_string w' _ s _ _ _ _ Tryz.underlying9 (by omega) (by omega) (by omega),← hB];rfl
 have f3:∀w',(Instr.slice 9 (.string s) (some (.int .i64 8)) none none).run Tryz.prog w'=.ok (.string C) w':=fun w'=>by rw[run_slice_string_l (ht:=Tryz.underlying9) (h0:=by omega) (h1:=by omega),← hC,hz];rfl
 have hY:nm8 A.data.toList=Y:=by rw[← hA];exact eY
 have hM:nm8 B.data.toList=M:=by rw[← hB];exact eM
 have hD:nm8 C.data.toList=D':=by rw[← hC];exact eD
 have CA:Hid (∀w',Calls Tryz.prog 106 #[.string A] w' fun e w''=>e=.returned (.int .i64 Y)∧w''=w'):=fun w'=>by rw[← hY];exact number_any A w' (by rw[← hA];have:=ext_size s 0 4;omega)
 have CB:Hid (∀w',Calls Tryz.prog 106 #[.string B] w' fun e w''=>e=.returned (.int .i64 M)∧w''=w'):=fun w'=>by rw[← hM];exact number_any B w' (by rw[← hB];have:=ext_size s 5 7;omega)
 have CC:Hid (∀w',Calls Tryz.prog 106 #[.string C] w' fun e w''=>e=.returned (.int .i64 D')∧w''=w'):=fun w'=>by rw[← hD];exact number_any C w' (by rw[← hC];have:=ext_size s 8 10;omega)
 have HR:=Jh hr;clear hr hz h h1 hA hB hC hY hM hD eY eM eD;go_enter Tryz.func86,Tryz.ntmps86;go_wp2_with fail;generalize hW:World.alloc w _=W0;have E0:S8 w W0 [(w.heap.size,.int .i64 (0),.int .i64 (0),.int .i64 (0))]:=by rw[← hW];exact((S8.start w HT.out).lay rfl)
 have E:=Jh E0;clear hW E0;go_quiet ((fail))
 replace E:=Jh (S8.drewN E.out nq);go_wp2_with fail;generalize hW2:World.drewN W0 nq=W1 at E ⊢;clear hW2;go_region_held3 (fun _=>True) (trivial)
  (first|(go_at_call 106;(with_reducible refine(CA.out _).mono ?_);rintro e w_ ⟨rfl,rfl⟩)|(go_at_call 106;(with_reducible refine(CB.out _).mono ?_);rintro e w_ ⟨rfl,rfl⟩)|(go_at_call 106;(with_reducible refine(CC.out _).mono ?_);rintro e w_ ⟨rfl,rfl⟩))
 all_goals
  go_wp2_with fail;replace E:=Jh (S8.lay (t:=40) (x0:=.int .i64 Y) (x1:=.int .i64 M) (x2:=.int .i64 D') (g:=W1.heap.size) E.out rfl);replace E:=Jh (S8.drew E.out);generalize hW2:World.drew (World.alloc W1 _)=W2 at E ⊢;clear hW2;refine(right_is E.out.tab HR.out).mono ?_;rintro e w1 ⟨rfl,hb⟩;replace E:=Jh (S8.step E.out hb);clear hb;obtain⟨p0,p1,p2,pf0,pf1,pf2,plt⟩:=(S8.at_ (x0:=.int .i64 Y) (x1:=.int .i64 M) (x2:=.int .i64 D') (g:=W1.heap.size) E (by simp));obtain⟨q0,q1,q2,qf0,qf1,qf2,qlt⟩:=(S8.at_ (x0:=.int .i64 (0)) (x1:=.int .i64 (0)) (x2:=.int .i64 (0)) (g:=w.heap.size) E (by simp));go_wp2_with fail;clear p0 p1 p2 pf0 pf1 pf2 plt q0 q1 q2 qf0 qf1 qf2 qlt;replace E:Hid (S8 w w1 [(w.heap.size,.int .i64 (0),.int .i64 (0),.int .i64 (0))]):=Jh (S8.sub E.out (fun q hq=>by simp at hq ⊢;(try rcases hq with rfl<;>simp)));replace E:=Jh (S8.store E.out (g:=w.heap.size) (x0:=.int .i64 (0)) (x1:=.int .i64 (0)) (x2:=.int .i64 (0)) (by simp) (by omega) [] (fun q hq=>by simp at hq ⊢;(try rcases hq with rfl<;>simp)) (.int .i64 Y) (.int .i64 M) (.int .i64 D') (fun w_ hb=>HT.out.on hb));obtain⟨e0,e1,e2,_,_,_,_⟩:=(S8.at_ (x0:=.int .i64 Y) (x1:=.int .i64 M) (x2:=.int .i64 D') (g:=w.heap.size) E (by simp));exact bodyPost_ret (v:=.tuple #[.agg #[.int .i64 Y,.int .i64 M,.int .i64 D'],.int .i64 0]) (by simp[results,Tryz.results86,go_sem,e0,e1,e2]) rfl ⟨rfl,E.out.bel⟩
theorem parse_no45(s:ByteArray)(Y M D':Int)(hz:s.size=10)(h:(s[4]'(by omega)).toNat=(s[7]'(by omega)).toNat)(h1:(s[4]'(by omega)).toNat=45)(eY:prY s=Y)(eM:prM s=M)(eD:prD s=D')(hr:ok8 Y M D'=false)  (w:World) (hT:Tabs w):Calls Tryz.prog 86 #[.string s] w (Ret8 w (.tuple #[.agg #[.int .i64 (0),.int .i64 (0),.int .i64 (0)],.int .i64 3])):=by
 have HT:=Jh hT;clear hT;have hzi:(s.size:Int)=10:=by omega
 have i4:4<s.size:=by omega
 have i7:7<s.size:=by omega
 have ha:(s[4]'i4).toNat=45:=h1;have hb:(s[7]'i7).toNat=45:=h.symm.trans h1;obtain⟨A,hA⟩:∃A,s.extract 0 4=A:=⟨_,rfl⟩;obtain⟨B,hB⟩:∃B,s.extract 5 7=B:=⟨_,rfl⟩;obtain⟨C,hC⟩:∃C,s.extract 8 10=C:=⟨_,rfl⟩;have f1:∀w',(Instr.slice 9 (.string s) none (some (.int .i64 4)) none).run Tryz.prog w'=.ok (.string A) w':=fun w'=>by rw[run_slice_string_h (ht:=Tryz.underlying9) (h0:=by omega) (h2:=by omega),← hA];rfl
 have f2:∀w',(Instr.slice 9 (.string s) (some (.int .i64 5)) (some (.int .i64 7)) none).run Tryz.prog w'=.ok (.string B) w':=fun w'=>by rw[run_slice_string w' _ s _ _ _ _ Tryz.underlying9 (by omega) (by omega) (by omega),← hB];rfl
 have f3:∀w',(Instr.slice 9 (.string s) (some (.int .i64 8)) none none).run Tryz.prog w'=.ok (.string C) w':=fun w'=>by rw[run_slice_string_l (ht:=Tryz.underlying9) (h0:=by omega) (h1:=by omega),← hC,hz];rfl
 have hY:nm8 A.data.toList=Y:=by rw[← hA];exact eY
 have hM:nm8 B.data.toList=M:=by rw[← hB];exact eM
 have hD:nm8 C.data.toList=D':=by rw[← hC];exact eD
 have CA:Hid (∀w',Calls Tryz.prog 106 #[.string A] w' fun e w''=>e=.returned (.int .i64 Y)∧w''=w'):=fun w'=>by rw[← hY];exact number_any A w' (by rw[← hA];have:=ext_size s 0 4;omega)
 have CB:Hid (∀w',Calls Tryz.prog 106 #[.string B] w' fun e w''=>e=.returned (.int .i64 M)∧w''=w'):=fun w'=>by rw[← hM];exact number_any B w' (by rw[← hB];have:=ext_size s 5 7;omega)
 have CC:Hid (∀w',Calls Tryz.prog 106 #[.string C] w' fun e w''=>e=.returned (.int .i64 D')∧w''=w'):=fun w'=>by rw[← hD];exact number_any C w' (by rw[← hC];have:=ext_size s 8 10;omega)
 have HR:=Jh hr;clear hr hz h h1 hA hB hC hY hM hD eY eM eD;go_enter Tryz.func86,Tryz.ntmps86;go_wp2_with fail;generalize hW:World.alloc w _=W0;have E0:S8 w W0 [(w.heap.size,.int .i64 (0),.int .i64 (0),.int .i64 (0))]:=by rw[← hW];exact((S8.start w HT.out).lay rfl)
 have E:=Jh E0;clear hW E0;go_quiet ((fail))
 replace E:=Jh (S8.drewN E.out nq);go_wp2_with fail;generalize hW2:World.drewN W0 nq=W1 at E ⊢;clear hW2;go_region_held3 (fun _=>True) (trivial)
  (first|(go_at_call 106;(with_reducible refine(CA.out _).mono ?_);rintro e w_ ⟨rfl,rfl⟩)|(go_at_call 106;(with_reducible refine(CB.out _).mono ?_);rintro e w_ ⟨rfl,rfl⟩)|(go_at_call 106;(with_reducible refine(CC.out _).mono ?_);rintro e w_ ⟨rfl,rfl⟩))
 all_goals
  go_wp2_with fail;replace E:=Jh (S8.lay (t:=40) (x0:=.int .i64 Y) (x1:=.int .i64 M) (x2:=.int .i64 D') (g:=W1.heap.size) E.out rfl);replace E:=Jh (S8.drew E.out);generalize hW2:World.drew (World.alloc W1 _)=W2 at E ⊢;clear hW2;refine(right_is E.out.tab HR.out).mono ?_;rintro e w1 ⟨rfl,hb⟩;replace E:=Jh (S8.step E.out hb);clear hb;obtain⟨p0,p1,p2,pf0,pf1,pf2,plt⟩:=(S8.at_ (x0:=.int .i64 Y) (x1:=.int .i64 M) (x2:=.int .i64 D') (g:=W1.heap.size) E (by simp));obtain⟨q0,q1,q2,qf0,qf1,qf2,qlt⟩:=(S8.at_ (x0:=.int .i64 (0)) (x1:=.int .i64 (0)) (x2:=.int .i64 (0)) (g:=w.heap.size) E (by simp));go_wp2_with fail;clear p0 p1 p2 pf0 pf1 pf2 plt q0 q1 q2 qf0 qf1 qf2 qlt;replace E:Hid (S8 w w1 [(w.heap.size,.int .i64 (0),.int .i64 (0),.int .i64 (0))]):=Jh (S8.sub E.out (fun q hq=>by simp at hq ⊢;(try rcases hq with rfl<;>simp)));replace E:=Jh (S8.store E.out (g:=w.heap.size) (x0:=.int .i64 (0)) (x1:=.int .i64 (0)) (x2:=.int .i64 (0)) (by simp) (by omega) [] (fun q hq=>by simp at hq ⊢;(try rcases hq with rfl<;>simp)) (.int .i64 (0)) (.int .i64 (0)) (.int .i64 (0)) (fun w_ hb=>HT.out.on hb));obtain⟨e0,e1,e2,_,_,_,_⟩:=(S8.at_ (x0:=.int .i64 (0)) (x1:=.int .i64 (0)) (x2:=.int .i64 (0)) (g:=w.heap.size) E (by simp));exact bodyPost_ret (v:=.tuple #[.agg #[.int .i64 (0),.int .i64 (0),.int .i64 (0)],.int .i64 3]) (by simp[results,Tryz.results86,go_sem,e0,e1,e2]) rfl ⟨rfl,E.out.bel⟩
theorem parse_ok47(s:ByteArray)(Y M D':Int)(hz:s.size=10)(h:(s[4]'(by omega)).toNat=(s[7]'(by omega)).toNat)(h1:(s[4]'(by omega)).toNat=47)(eY:prY s=Y)(eM:prM s=M)(eD:prD s=D')(hr:ok8 Y M D'=true)  (w:World) (hT:Tabs w):Calls Tryz.prog 86 #[.string s] w (Ret8 w (.tuple #[.agg #[.int .i64 Y,.int .i64 M,.int .i64 D'],.int .i64 0])):=by
 have HT:=Jh hT;clear hT;have hzi:(s.size:Int)=10:=by omega
 have i4:4<s.size:=by omega
 have i7:7<s.size:=by omega
 have ha:(s[4]'i4).toNat=47:=h1;have hb:(s[7]'i7).toNat=47:=h.symm.trans h1;obtain⟨A,hA⟩:∃A,s.extract 0 4=A:=⟨_,rfl⟩;obtain⟨B,hB⟩:∃B,s.extract 5 7=B:=⟨_,rfl⟩;obtain⟨C,hC⟩:∃C,s.extract 8 10=C:=⟨_,rfl⟩;have f1:∀w',(Instr.slice 9 (.string s) none (some (.int .i64 4)) none).run Tryz.prog w'=.ok (.string A) w':=fun w'=>by rw[run_slice_string_h (ht:=Tryz.underlying9) (h0:=by omega) (h2:=by omega),← hA];rfl
 have f2:∀w',(Instr.slice 9 (.string s) (some (.int .i64 5)) (some (.int .i64 7)) none).run Tryz.prog w'=.ok (.string B) w':=fun w'=>by rw[run_slice_string w' _ s _ _ _ _ Tryz.underlying9 (by omega) (by omega) (by omega),← hB];rfl
 have f3:∀w',(Instr.slice 9 (.string s) (some (.int .i64 8)) none none).run Tryz.prog w'=.ok (.string C) w':=fun w'=>by rw[run_slice_string_l (ht:=Tryz.underlying9) (h0:=by omega) (h1:=by omega),← hC,hz];rfl
 have hY:nm8 A.data.toList=Y:=by rw[← hA];exact eY
 have hM:nm8 B.data.toList=M:=by rw[← hB];exact eM
 have hD:nm8 C.data.toList=D':=by rw[← hC];exact eD
 have CA:Hid (∀w',Calls Tryz.prog 106 #[.string A] w' fun e w''=>e=.returned (.int .i64 Y)∧w''=w'):=fun w'=>by rw[← hY];exact number_any A w' (by rw[← hA];have:=ext_size s 0 4;omega)
 have CB:Hid (∀w',Calls Tryz.prog 106 #[.string B] w' fun e w''=>e=.returned (.int .i64 M)∧w''=w'):=fun w'=>by rw[← hM];exact number_any B w' (by rw[← hB];have:=ext_size s 5 7;omega)
 have CC:Hid (∀w',Calls Tryz.prog 106 #[.string C] w' fun e w''=>e=.returned (.int .i64 D')∧w''=w'):=fun w'=>by rw[← hD];exact number_any C w' (by rw[← hC];have:=ext_size s 8 10;omega)
 have HR:=Jh hr;clear hr hz h h1 hA hB hC hY hM hD eY eM eD;go_enter Tryz.func86,Tryz.ntmps86;go_wp2_with fail;generalize hW:World.alloc w _=W0;have E0:S8 w W0 [(w.heap.size,.int .i64 (0),.int .i64 (0),.int .i64 (0))]:=by rw[← hW];exact((S8.start w HT.out).lay rfl)
 have E:=Jh E0;clear hW E0;go_quiet ((fail))
 replace E:=Jh (S8.drewN E.out nq);go_wp2_with fail;generalize hW2:World.drewN W0 nq=W1 at E ⊢;clear hW2;go_region_held3 (fun _=>True) (trivial)
  (first|(go_at_call 106;(with_reducible refine(CA.out _).mono ?_);rintro e w_ ⟨rfl,rfl⟩)|(go_at_call 106;(with_reducible refine(CB.out _).mono ?_);rintro e w_ ⟨rfl,rfl⟩)|(go_at_call 106;(with_reducible refine(CC.out _).mono ?_);rintro e w_ ⟨rfl,rfl⟩))
 all_goals
  go_wp2_with fail;replace E:=Jh (S8.lay (t:=40) (x0:=.int .i64 Y) (x1:=.int .i64 M) (x2:=.int .i64 D') (g:=W1.heap.size) E.out rfl);replace E:=Jh (S8.drew E.out);generalize hW2:World.drew (World.alloc W1 _)=W2 at E ⊢;clear hW2;refine(right_is E.out.tab HR.out).mono ?_;rintro e w1 ⟨rfl,hb⟩;replace E:=Jh (S8.step E.out hb);clear hb;obtain⟨p0,p1,p2,pf0,pf1,pf2,plt⟩:=(S8.at_ (x0:=.int .i64 Y) (x1:=.int .i64 M) (x2:=.int .i64 D') (g:=W1.heap.size) E (by simp));obtain⟨q0,q1,q2,qf0,qf1,qf2,qlt⟩:=(S8.at_ (x0:=.int .i64 (0)) (x1:=.int .i64 (0)) (x2:=.int .i64 (0)) (g:=w.heap.size) E (by simp));go_wp2_with fail;clear p0 p1 p2 pf0 pf1 pf2 plt q0 q1 q2 qf0 qf1 qf2 qlt;replace E:Hid (S8 w w1 [(w.heap.size,.int .i64 (0),.int .i64 (0),.int .i64 (0))]):=Jh (S8.sub E.out (fun q hq=>by simp at hq ⊢;(try rcases hq with rfl<;>simp)));replace E:=Jh (S8.store E.out (g:=w.heap.size) (x0:=.int .i64 (0)) (x1:=.int .i64 (0)) (x2:=.int .i64 (0)) (by simp) (by omega) [] (fun q hq=>by simp at hq ⊢;(try rcases hq with rfl<;>simp)) (.int .i64 Y) (.int .i64 M) (.int .i64 D') (fun w_ hb=>HT.out.on hb));obtain⟨e0,e1,e2,_,_,_,_⟩:=(S8.at_ (x0:=.int .i64 Y) (x1:=.int .i64 M) (x2:=.int .i64 D') (g:=w.heap.size) E (by simp));exact bodyPost_ret (v:=.tuple #[.agg #[.int .i64 Y,.int .i64 M,.int .i64 D'],.int .i64 0]) (by simp[results,Tryz.results86,go_sem,e0,e1,e2]) rfl ⟨rfl,E.out.bel⟩
theorem parse_no47(s:ByteArray)(Y M D':Int)(hz:s.size=10)(h:(s[4]'(by omega)).toNat=(s[7]'(by omega)).toNat)(h1:(s[4]'(by omega)).toNat=47)(eY:prY s=Y)(eM:prM s=M)(eD:prD s=D')(hr:ok8 Y M D'=false)  (w:World) (hT:Tabs w):Calls Tryz.prog 86 #[.string s] w (Ret8 w (.tuple #[.agg #[.int .i64 (0),.int .i64 (0),.int .i64 (0)],.int .i64 3])):=by
 have HT:=Jh hT;clear hT;have hzi:(s.size:Int)=10:=by omega
 have i4:4<s.size:=by omega
 have i7:7<s.size:=by omega
 have ha:(s[4]'i4).toNat=47:=h1;have hb:(s[7]'i7).toNat=47:=h.symm.trans h1;obtain⟨A,hA⟩:∃A,s.extract 0 4=A:=⟨_,rfl⟩;obtain⟨B,hB⟩:∃B,s.extract 5 7=B:=⟨_,rfl⟩;obtain⟨C,hC⟩:∃C,s.extract 8 10=C:=⟨_,rfl⟩;have f1:∀w',(Instr.slice 9 (.string s) none (some (.int .i64 4)) none).run Tryz.prog w'=.ok (.string A) w':=fun w'=>by rw[run_slice_string_h (ht:=Tryz.underlying9) (h0:=by omega) (h2:=by omega),← hA];rfl
 have f2:∀w',(Instr.slice 9 (.string s) (some (.int .i64 5)) (some (.int .i64 7)) none).run Tryz.prog w'=.ok (.string B) w':=fun w'=>by rw[run_slice_string w' _ s _ _ _ _ Tryz.underlying9 (by omega) (by omega) (by omega),← hB];rfl
 have f3:∀w',(Instr.slice 9 (.string s) (some (.int .i64 8)) none none).run Tryz.prog w'=.ok (.string C) w':=fun w'=>by rw[run_slice_string_l (ht:=Tryz.underlying9) (h0:=by omega) (h1:=by omega),← hC,hz];rfl
 have hY:nm8 A.data.toList=Y:=by rw[← hA];exact eY
 have hM:nm8 B.data.toList=M:=by rw[← hB];exact eM
 have hD:nm8 C.data.toList=D':=by rw[← hC];exact eD
 have CA:Hid (∀w',Calls Tryz.prog 106 #[.string A] w' fun e w''=>e=.returned (.int .i64 Y)∧w''=w'):=fun w'=>by rw[← hY];exact number_any A w' (by rw[← hA];have:=ext_size s 0 4;omega)
 have CB:Hid (∀w',Calls Tryz.prog 106 #[.string B] w' fun e w''=>e=.returned (.int .i64 M)∧w''=w'):=fun w'=>by rw[← hM];exact number_any B w' (by rw[← hB];have:=ext_size s 5 7;omega)
 have CC:Hid (∀w',Calls Tryz.prog 106 #[.string C] w' fun e w''=>e=.returned (.int .i64 D')∧w''=w'):=fun w'=>by rw[← hD];exact number_any C w' (by rw[← hC];have:=ext_size s 8 10;omega)
 have HR:=Jh hr;clear hr hz h h1 hA hB hC hY hM hD eY eM eD;go_enter Tryz.func86,Tryz.ntmps86;go_wp2_with fail;generalize hW:World.alloc w _=W0;have E0:S8 w W0 [(w.heap.size,.int .i64 (0),.int .i64 (0),.int .i64 (0))]:=by rw[← hW];exact((S8.start w HT.out).lay rfl)
 have E:=Jh E0;clear hW E0;go_quiet ((fail))
 replace E:=Jh (S8.drewN E.out nq);go_wp2_with fail;generalize hW2:World.drewN W0 nq=W1 at E ⊢;clear hW2;go_region_held3 (fun _=>True) (trivial)
  (first|(go_at_call 106;(with_reducible refine(CA.out _).mono ?_);rintro e w_ ⟨rfl,rfl⟩)|(go_at_call 106;(with_reducible refine(CB.out _).mono ?_);rintro e w_ ⟨rfl,rfl⟩)|(go_at_call 106;(with_reducible refine(CC.out _).mono ?_);rintro e w_ ⟨rfl,rfl⟩))
 all_goals
  go_wp2_with fail;replace E:=Jh (S8.lay (t:=40) (x0:=.int .i64 Y) (x1:=.int .i64 M) (x2:=.int .i64 D') (g:=W1.heap.size) E.out rfl);replace E:=Jh (S8.drew E.out);generalize hW2:World.drew (World.alloc W1 _)=W2 at E ⊢;clear hW2;refine(right_is E.out.tab HR.out).mono ?_;rintro e w1 ⟨rfl,hb⟩;replace E:=Jh (S8.step E.out hb);clear hb;obtain⟨p0,p1,p2,pf0,pf1,pf2,plt⟩:=(S8.at_ (x0:=.int .i64 Y) (x1:=.int .i64 M) (x2:=.int .i64 D') (g:=W1.heap.size) E (by simp));obtain⟨q0,q1,q2,qf0,qf1,qf2,qlt⟩:=(S8.at_ (x0:=.int .i64 (0)) (x1:=.int .i64 (0)) (x2:=.int .i64 (0)) (g:=w.heap.size) E (by simp));go_wp2_with fail;clear p0 p1 p2 pf0 pf1 pf2 plt q0 q1 q2 qf0 qf1 qf2 qlt;replace E:Hid (S8 w w1 [(w.heap.size,.int .i64 (0),.int .i64 (0),.int .i64 (0))]):=Jh (S8.sub E.out (fun q hq=>by simp at hq ⊢;(try rcases hq with rfl<;>simp)));replace E:=Jh (S8.store E.out (g:=w.heap.size) (x0:=.int .i64 (0)) (x1:=.int .i64 (0)) (x2:=.int .i64 (0)) (by simp) (by omega) [] (fun q hq=>by simp at hq ⊢;(try rcases hq with rfl<;>simp)) (.int .i64 (0)) (.int .i64 (0)) (.int .i64 (0)) (fun w_ hb=>HT.out.on hb));obtain⟨e0,e1,e2,_,_,_,_⟩:=(S8.at_ (x0:=.int .i64 (0)) (x1:=.int .i64 (0)) (x2:=.int .i64 (0)) (g:=w.heap.size) E (by simp));exact bodyPost_ret (v:=.tuple #[.agg #[.int .i64 (0),.int .i64 (0),.int .i64 (0)],.int .i64 3]) (by simp[results,Tryz.results86,go_sem,e0,e1,e2]) rfl ⟨rfl,E.out.bel⟩
theorem frm8_iff{s:ByteArray}(hz:s.size=10):frm8 s=true↔(s[4]'(by omega)).toNat=(s[7]'(by omega)).toNat∧((s[4]'(by omega)).toNat=45∨(s[4]'(by omega)).toNat=47):=by
 unfold frm8;rw[dif_pos hz,decide_eq_true_iff]
theorem parse_is{s:ByteArray}{Y M D':Int}{w:World}(hT:Tabs w)(hf:frm8 s=true)(eY:prY s=Y)(eM:prM s=M)(eD:prD s=D')(hr:ok8 Y M D'=true):Calls Tryz.prog 86 #[.string s] w (Ret8 w (.tuple #[.agg #[.int .i64 Y,.int .i64 M,.int .i64 D'],.int .i64 0])):=by
 have hz:s.size=10:=by
  rcases Nat.decEq s.size 10 with h|h
  ·unfold frm8 at hf;rw[dif_neg h] at hf;cases hf
  ·exact h
 obtain⟨h,h1|h1⟩:=(frm8_iff hz).1 hf
 ·exact parse_ok45 s Y M D' hz h h1 eY eM eD hr w hT
 ·exact parse_ok47 s Y M D' hz h h1 eY eM eD hr w hT
theorem parse_no{s:ByteArray}{w:World}(hT:Tabs w)(hs:s.size≤6000)(h:prOk s=false):Calls Tryz.prog 86 #[.string s] w (Ret8 w (.tuple #[.agg #[.int .i64 0,.int .i64 0,.int .i64 0],.int .i64 3])):=by
 by_cases hz:s.size=10
 ·by_cases hf:frm8 s=true
  ·have hr:ok8 (prY s) (prM s) (prD s)=false:=by unfold prOk at h;rw[hf] at h;exact h
   obtain⟨h,h1|h1⟩:=(frm8_iff hz).1 hf
   ·exact parse_no45 s _ _ _ hz h h1 rfl rfl rfl hr w hT
   ·exact parse_no47 s _ _ _ hz h h1 rfl rfl rfl hr w hT
  ·rw[frm8_iff hz] at hf
   by_cases h4:(s[4]'(by omega)).toNat=(s[7]'(by omega)).toNat
   ·exact parse_bad2 s hz h4 (fun e=>hf ⟨h4,.inl e⟩) (fun e=>hf ⟨h4,.inr e⟩) w hT
   ·exact parse_bad1 s hz h4 w hT
 ·exact parse_bad0 s hs hz w hT
end Go.Proofs.YtpbbolgnnegmlaaGreatDoor.Dat
