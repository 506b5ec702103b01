/- Lemmas of the proof: LexT, LexU, LexUb, LexUc. -/
import Derived.Test.YthpmaoimceojgaaGreatDoorAll33
import Derived.Test.YthpmaoimceojgaaGreatDoorAll32
import Derived.Test.YthpmaoimceojgaaGreatDoorAll35
import Derived.Test.YthpmaoimceojgaaGreatDoorAll27
import Derived.Test.YthpmaoimceojgaaGreatDoorAll28
set_option linter.unusedVariables false
set_option linter.unusedSimpArgs false
set_option maxRecDepth 100000
set_option maxHeartbeats 32000000
namespace Go.Proofs.YthpmaoimceojgaaGreatDoor
open Go.RowKit
def Ok12(w:World):Prop:=Dat.Tabs w∧MaxLen w∧Roots w
theorem okw12:Okw Ok12:=fun h hb=>⟨h.1.on hb,h.2.1.on hb,h.2.2.on hb⟩
def D12(l:List Nat):Bool:=l.all (fun c=>decide (c<256))&&Dat.prOk (st9 l)
def N12(l:List Nat):Bool:=(Num.rst l != [])&&Num.frmB (Num.rst l)
theorem d12_is(s:ByteArray):D12 (bs9 s)=Dat.prOk s:=by
 unfold D12;rw[st9_bs9,List.all_eq_true.2 (fun c hc=>decide_eq_true (bs9_lt s c hc)),Bool.true_and]
theorem n12_yes{l:List Nat}(h:Num.rst l≠[])(hf:Num.frmB (Num.rst l)=true):N12 l=true:=by
 unfold N12;rw[hf,Bool.and_true,bne_iff_ne];exact h
theorem n12_no{l:List Nat}(h:Num.rst l=[]∨Num.frmB (Num.rst l)=false):N12 l=false:=by
 unfold N12;rcases h with h|h
 ·rw[h];rfl
 ·rw[h,Bool.and_false]
theorem o08:O08 D12 Ok12:=fun s w hok hs=>by
 cases hp:Dat.prOk s with
 | true=>
  have hp2:=hp;unfold Dat.prOk at hp2;rw[Bool.and_eq_true] at hp2;exact(Dat.parse_is hok.1 hp2.1 rfl rfl rfl hp2.2).mono fun e w' h=>⟨_,_,_,0,h.1,by rw[d12_is,hp];rfl,h.2⟩
 | false=>exact(Dat.parse_no hok.1 (Nat.le_trans hs (by decide)) hp).mono fun e w' h=>⟨0,0,0,3,h.1,by rw[d12_is,hp];rfl,h.2⟩
theorem read12{w:World}{s:ByteArray}{e:Ending}{w':World}(h:Num.RetRead w (Num.codes s) e w'):∃(b:Bool) (A:Option Addr) (n c:Nat) (k:Int) (z:Nat),e=.returned (.tuple #[.agg #[.bool b,.slice A n c,.int .i64 k],.int .i64 (z:Int)])∧N12 (bs9 s)=decide (z=0)∧Below w.heap.size w w':=by
 rcases h with⟨h1,h2⟩|⟨h1,h2,h3⟩|⟨h1,h2,A,n,c,h3,_,h4⟩
 ·exact⟨false,none,0,0,0,2,h2.1,n12_no (.inl h1),h2.2⟩
 ·exact⟨false,none,0,0,0,3,h3.1,n12_no (.inr h2),h3.2⟩
 ·exact⟨_,A,n,c,_,0,h3,n12_yes h1 h2,h4⟩
theorem o07:O07 N12 Ok12:=fun s w hok hs=>(Num.read_any s w hs hok.2.1).mono fun _ _ h=>read12 h
theorem o11:O11 Ok12:=fun _ _ hok hs=>account_is rfl (by omega) hok.2.1 hok.2.2
theorem nm8_digits{l:List UInt8}(h:1≤Dat.nm8 l):∀u∈l,48≤u.toNat:=by
 unfold Dat.nm8 at h;split at h
 ·rename_i ha
  intro u hu;have:=List.all_eq_true.1 ha u hu;unfold Dat.isd8 at this;rw[Bool.and_eq_true,decide_eq_true_iff] at this;exact this.1
 ·omega
theorem day_bytes{s:ByteArray}(h:Dat.prOk s=true):(bs9 s).length=10∧32∉bs9 s∧((bs9 s)[4]?=some 45∨(bs9 s)[4]?=some 47):=by
 unfold Dat.prOk at h;rw[Bool.and_eq_true] at h;obtain⟨hf,hr⟩:=h;have hz:s.size=10:=by
  rcases Nat.decEq s.size 10 with h|h
  ·unfold Dat.frm8 at hf;rw[dif_neg h] at hf;cases hf
  ·exact h
 obtain⟨h47,h4⟩:=(Dat.frm8_iff hz).1 hf;obtain⟨y1,_,m1,_,d1,_⟩:=Dat.ok8_iff.1 hr;have b4:=bs9_at s 4 (by omega);have b7:=bs9_at s 7 (by omega);have part:∀{a b j:Nat},1≤Dat.nm8 (s.extract a b).data.toList→a≤j→j<b→(bs9 s)[j]?≠some 32:=fun {a b j} h1 ha hb e=>by
  have e2:(bs9 (s.extract a b))[j-a]?=some 32:=by
   rw[bs9_extract,List.getElem?_take_of_lt (by omega),List.getElem?_drop,show a+(j-a)=j by omega];exact e
  obtain⟨u,hu,hu2⟩:=List.mem_map.1 (List.mem_of_getElem? e2);have:=nm8_digits h1 u hu;omega
 refine⟨by rw[bs9_len];exact hz,fun h32=>?_,?_⟩
 ·obtain⟨j,hj⟩:=List.mem_iff_getElem?.1 h32
  have hj10:j<10:=by
   have:=(List.getElem?_eq_some_iff.1 hj).1;rwa [bs9_len,hz] at this
  rcases Nat.lt_or_ge j 4 with h|h
  ·exact part (a:=0) (b:=4) y1 (Nat.zero_le _) h hj
  ·rcases Nat.lt_or_ge j 5 with g|g
   ·obtain rfl:j=4:=by omega
    rw[b4] at hj;have:=Option.some.inj hj;omega
   ·rcases Nat.lt_or_ge j 7 with k|k
    ·exact part (a:=5) (b:=7) m1 g k hj
    ·rcases Nat.lt_or_ge j 8 with q|q
     ·obtain rfl:j=7:=by omega
      rw[b7] at hj;have:=Option.some.inj hj;omega
     ·exact part (a:=8) (b:=10) d1 q hj10 hj
 ·rw[b4]
  rcases h4 with h4|h4
  ·exact .inl (by rw[h4])
  ·exact .inr (by rw[h4])
theorem dayok12:DayOk D12:=fun y h=>by
 unfold D12 at h;rw[Bool.and_eq_true,List.all_eq_true] at h;have hb:=bs9_st9 (l:=y) (fun c hc=>of_decide_eq_true (h.1 c hc));have:=day_bytes h.2;rwa [hb] at this
end Go.Proofs.YthpmaoimceojgaaGreatDoor
namespace Go.Proofs.YthpmaoimceojgaaGreatDoor
def bod(a s:Nat):List Nat:=Num.txt (a/10^s)++Num.beh s a
theorem txtD_bod(i:Int)(s:Nat):Num.txtD i s=Num.sgT i++bod i.natAbs s:=rfl
def tT(i:Int)(s:Nat):List (Nat×List Nat):=if i<0 then [(10,[45]),(4,bod i.natAbs s)] else [(4,bod i.natAbs s)]
end Go.Proofs.YthpmaoimceojgaaGreatDoor
