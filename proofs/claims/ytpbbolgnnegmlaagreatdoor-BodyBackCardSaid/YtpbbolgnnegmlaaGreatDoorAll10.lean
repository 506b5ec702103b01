/- Lemmas of the proof: DigP, DigH, DigT. -/
import Derived.Test.YtpbbolgnnegmlaaGreatDoorAll09
import Derived.Lib.OthersKept
import Derived.WalkSmall
import Derived.Laws.RangeAny
import Derived.Laws.RangeString
import Derived.Test.YtpbbolgnnegmlaaGreatDoorAll06
import Derived.Test.YtpbbolgnnegmlaaGreatDoorAll05
set_option linter.unusedVariables false
set_option linter.unusedSimpArgs false
set_option maxRecDepth 100000
set_option maxHeartbeats 32000000
open Go.Lib renaming hid→Jh
namespace Go.Proofs.YtpbbolgnnegmlaaGreatDoor.Num
open Go.RowKit
def PS(q N:Nat)(xs:List Nat):Prop:=
 (q=0∧limbs xs∧val xs=N)∨∃(j t y:Nat) (hi:List Nat),q=9*j+t∧1≤t∧t≤9∧xs=List.replicate j 0++y::hi∧limbs hi∧y<10^(9-t)∧N=y+10^(9-t)*val hi
theorem PS.start{q k:Nat}(hq:0<q)(hk:k=(q+8)/9):PS q 0 (List.replicate k 0):=by
 refine .inr ⟨(q-1)/9,q-9*((q-1)/9),0,[],by omega,by omega,by omega,?_,limbs_nil,Nat.pow_pos (by omega),by simp[val]⟩;rw[show k=(q-1)/9+1 by omega,List.replicate_succ']
theorem PS.fin{N:Nat}{xs:List Nat}(h:PS 0 N xs):limbs xs∧val xs=N:=by
 rcases h with⟨_,h1,h2⟩|⟨j,t,y,hi,h1,h2,_⟩
 ·exact⟨h1,h2⟩
 ·omega
theorem PS.gd_lt{q N:Nat}{xs:List Nat}(h:PS (q+1) N xs):q/9<xs.length∧gd xs (q/9)<100000000:=by
 rcases h with⟨h1,_⟩|⟨j,t,y,hi,h1,h2,h3,rfl,h5,h6,h7⟩
 ·omega
 ·obtain rfl:j=q/9:=by omega
  refine⟨by simp,?_⟩;rw[gd_append,List.length_replicate,if_neg (by omega),Nat.sub_self,gd_cons_zero];have:10^(9-t)≤10^8:=Nat.pow_le_pow_right (by omega) (by omega);omega
theorem PS.step{q N d:Nat}{xs:List Nat}(h:PS (q+1) N xs)(hd:d≤9):PS q (10*N+d) (xs.set (q/9) (gd xs (q/9)*10+d)):=by
 rcases h with⟨h1,_⟩|⟨j,t,y,hi,h1,h2,h3,rfl,h5,h6,h7⟩
 ·omega
 ·obtain rfl:j=q/9:=by omega
  have hg:gd (List.replicate (q/9) 0++y::hi) (q/9)=y:=by rw[gd_append,List.length_replicate,if_neg (by omega),Nat.sub_self,gd_cons_zero]
  have hs:(List.replicate (q/9) 0++y::hi).set (q/9) (y*10+d)=List.replicate (q/9) 0++(y*10+d)::hi:=by
   rw[List.set_append_right _ _ (by simp)];simp
  rw[hg,hs];rcases Nat.lt_or_ge 1 t with ht|ht
  ·refine .inr ⟨q/9,t-1,y*10+d,hi,by omega,by omega,by omega,rfl,h5,?_,?_⟩
   ·rw[show 9-(t-1)=9-t+1 by omega,Nat.pow_succ];omega
   ·rw[show 9-(t-1)=9-t+1 by omega,Nat.pow_succ,h7]
    generalize 10^(9-t)=P;generalize val hi=v;grind
  ·obtain rfl:t=1:=by omega
   have hy:y<100000000:=h6;have hv:10*N+d=val ((y*10+d)::hi):=by
    rw[val,h7];show 10*(y+100000000*val hi)+d=_;omega
   have hl:limbs ((y*10+d)::hi):=limbs_cons.2 ⟨by omega,h5⟩;rcases Nat.eq_zero_or_pos (q/9) with h0|h0
   ·refine .inl ⟨by omega,?_,?_⟩
    ·rw[h0];exact hl
    ·rw[h0,hv];rfl
   ·refine .inr ⟨q/9-1,9,0,(y*10+d)::hi,by omega,by omega,by omega,?_,hl,by simp,by rw[hv];simp⟩
    rw[show q/9=q/9-1+1 by omega,List.replicate_succ'];simp
def codes(s:ByteArray):List Nat:=s.data.toList.map UInt8.toNat
theorem codes_len(s:ByteArray):(codes s).length=s.size:=by
 show(s.data.toList.map _).length=s.data.size;rw[List.length_map,Array.length_toList]
theorem codes_get(s:ByteArray)(i:Nat)(h:i<s.size):gd (codes s) i=(s[i]'h).toNat:=by
 have h':i<s.data.toList.length:=by rw[Array.length_toList];exact h
 unfold gd codes;rw[List.getD_eq_getElem?_getD,List.getElem?_map,List.getElem?_eq_getElem h'];rfl
theorem codes_take(s:ByteArray)(i:Nat)(h:i<s.size):(codes s).take (i+1)=(codes s).take i++[(s[i]'h).toNat]:=by
 rw[← codes_get s i h,List.take_add_one,gd_of_lt (by rw[codes_len];exact h)];rfl
theorem str_codes(s:ByteArray):str (codes s)=s:=by
 unfold str codes;rw[List.map_map];have e:(UInt8.ofNat∘UInt8.toNat)=id:=by funext x;simp
 rw[e,List.map_id]
theorem codes_str{l:List Nat}(h:∀c∈l,c<256):codes (str l)=l:=by
 unfold str codes;rw[List.map_map];show List.map _ l=l;conv=>rhs;rw[← List.map_id l]
 refine List.map_congr_left fun c hc=>?_
 simp
 have:=h c hc;omega
theorem not_digs{s:ByteArray}{i:Nat}(h:i<s.size)(hc:(s[i]'h).toNat<48∨57<(s[i]'h).toNat):¬digs (codes s):=fun hd=>by
 have:=hd (s[i]'h).toNat (by
  unfold codes;refine List.mem_map.2 ⟨s[i]'h,?_,rfl⟩;exact Array.mem_toList_iff.2 (Array.getElem_mem (xs:=s.data) h))
 omega
def RetParse(W:World)(l:List Nat)(e:Ending)(w':World):Prop:=
 (digs l∧RetSub W (pv l) e w')∨(¬digs l∧RetVal W (.tuple #[.slice none 0 0,.int .i64 3]) e w')
theorem str_ne{s:ByteArray}(h:0<s.size):(s.toList == (ByteArray.mk #[]).toList)=false∧(s.toList == [])=false∧s.toList.isEmpty=false∧¬s.toList=[]:=by
 have hl:s.toList.length=s.size:=by rw[ByteArray.toList_eq,Array.length_toList];rfl
 have hne:s.toList≠[]:=fun h=>by rw[h] at hl;simp at hl;omega
 have he:(ByteArray.mk #[]).toList=[]:=by rw[ByteArray.toList_eq]
 rw[he];refine⟨by simpa using hne,by simpa using hne,by simpa using hne,hne⟩
theorem next_sign(s:ByteArray)(pos:Nat)(h:pos<s.size):(Utf8.decode s pos).1≤2147483647∧(((s[pos]'h).toNat<128∧(Utf8.decode s pos).1=(s[pos]'h).toNat∧(Utf8.decode s pos).2=1)∨(128≤(s[pos]'h).toNat∧128≤(Utf8.decode s pos).1)):=by
 refine⟨decode_le s pos,?_⟩;rcases Nat.lt_or_ge (s[pos]'h).toNat 128 with h1|h1
 ·rw[decode_ascii s pos h h1];exact .inl ⟨h1,rfl,rfl⟩
 ·exact .inr ⟨h1,(decode_high s pos h h1).1⟩
theorem parse_any(s:ByteArray)(w:World)(h0:0<s.size)(hs:s.size≤1000000):Calls Tryz.prog 91 #[.string s] w (RetParse w (codes s)):=by
 obtain⟨i0,hi,hz0,hz1,hz2⟩:=info_parts info_limb;obtain⟨he1,he2,he3,he4⟩:=str_ne h0;obtain⟨k,hk⟩:∃k,k=(s.size+8)/9:=⟨_,rfl⟩;have ek:((s.size:Int)+9-1)/9=(k:Int):=by omega
 have hk1:k≤1000000:=by omega
 have HK:=Jh hk;clear hk;go_enter Tryz.func91,Tryz.ntmps91;go_wp2_with (at_make;go_must (refine wpList_make_full _ rfl _ _ 33 rfl w.heap.size 163 i0 (.int .u32 0) 1 Tryz.underlying33 hi hz0 hz1 _ _ _ _ k rfl rfl (by omega) (by omega) (by rw[hz2];omega) (by unfold maxLen;omega) (Nat.le_refl _) ?_;intro w1 hown1 hgr1;have M1:Hid (Own w1 w.heap.size (List.replicate k 0)):=Own.of_made hown1;have HB1:Hid (Below w.heap.size w w1):=(Below.refl _ _).grown hgr1 (Nat.le_refl _) (fun k hk=>by cases hk);clear hown1 hgr1));have hr:w.heap.size<w1.heap.size:=M1.out.lt;obtain⟨r,hrr⟩:∃r,r=w1.heap.size:=⟨_,rfl⟩;rw[← hrr] at hr ⊢;have E0:Hid ((w1.iter s 0).heap[r]?=some (.stringIter s 0)∧Own (w1.iter s 0) w.heap.size (List.replicate k 0)∧Below w.heap.size w (w1.iter s 0)):=by
  subst hrr;refine⟨World.iter_heap w1 s 0,?_,HB1.out.alloc HB1.out.size _⟩;exact(Below.heap_alloc _ _ _ (by omega)).trans M1.out
 clear hrr M1 HB1;go_loopw [5] (fun _ wr=>∃(pos N:Nat) (xs:List Nat),pos≤s.size∧wr.heap[r]?=some (.stringIter s pos)∧Own wr w.heap.size xs∧Below w.heap.size w wr∧xs.length=k∧PS (s.size-pos) N xs∧N=pv ((codes s).take pos)∧digs ((codes s).take pos)) (fun _ wr=>s.size-wr.iterPos r)
 case atStart=>exact⟨0,0,_,Nat.zero_le _,E0.out.1,E0.out.2.1,E0.out.2.2,by simp,PS.start h0 HK.out,rfl,fun c hc=>by simp at hc⟩
 case round=>
  obtain⟨pos,N,xs,hpos,hit,hown,hb,hlen,hps,hN,hdg⟩:=hrel;clear E0;have hpos0:=Jh (iterPos_of hit);have HO:=Jh hown;have HB:=Jh hb;have HP:=Jh hps;have HN:=Jh hN;have HD:=Jh hdg;have HL:=Jh hlen;clear hown hb hps hN hdg hlen;rcases Nat.lt_or_ge pos s.size with hp|hp
  ·have hnx:∀ty,(Instr.next (.pointer (some ⟨r,0,none⟩)) true ty).run Tryz.prog wr=_:=fun ty=>Lib.run_next_any_at wr r s pos ty hit hp
   obtain⟨hmax,hsg⟩:=next_sign s pos hp;have hit2:=Jh (Lib.iterAt_heap wr r s pos (pos+(Utf8.decode s pos).2) hit);have HB2:=Jh (Lib.below_iterAt HB.out (k:=r) (by omega) s (pos+(Utf8.decode s pos).2));have HO2:Hid (Own (wr.iterAt r s (pos+(Utf8.decode s pos).2)) w.heap.size xs):=(Lib.iterAt_other wr r w.heap.size s _ (by omega)).trans HO.out;obtain⟨W1,hW1⟩:∃W1,W1=wr.iterAt r s (pos+(Utf8.decode s pos).2):=⟨_,rfl⟩;rw[← hW1] at hnx hit2 HB2 HO2;clear hW1 hit HO HB;by_cases hc:48≤(s[pos]'hp).toNat∧(s[pos]'hp).toNat≤57
   ·obtain⟨hc1,hc2⟩:=hc
    obtain⟨e1,e2⟩:(Utf8.decode s pos).1=(s[pos]'hp).toNat∧(Utf8.decode s pos).2=1:=by
     rcases hsg with⟨_,h1,h2⟩|⟨h1,_⟩
     ·exact⟨h1,h2⟩
     ·omega
    rw[e1] at hnx;rw[e2] at hit2;have HT:=Jh (codes_take s pos hp);obtain⟨ch,hch⟩:∃ch,ch=(s[pos]'hp).toNat:=⟨_,rfl⟩;rw[← hch] at hnx hc1 hc2 HT;clear hch hsg hmax e1 e2;obtain⟨q,hq⟩:∃q,s.size-pos=q+1:=⟨s.size-pos-1,by omega⟩;rw[hq] at HP;have hj:=HP.out.gd_lt;obtain⟨hj1,hj2⟩:=hj;have HS:=Jh (HP.out.step (d:=ch-48) (by omega));have eq1:((s.size:Int)-1-(pos:Int))/9=((q/9:Nat):Int):=by omega
    have eqb:(0:Int)≤(s.size:Int)-1-(pos:Int):=by omega
    rw[HL.out] at hj1;obtain⟨j,hjj⟩:∃j,j=q/9:=⟨_,rfl⟩;rw[← hjj] at hj1 hj2 HS eq1;have hcell:=HO2.out.cell (i:=j) (by rw[HL.out];exact hj1);have hfr:=HO2.out.frozen j;clear hjj HP;have hit3:∀u,(W1.setCell ⟨w.heap.size,j,none⟩ u).heap[r]?=some (.stringIter s (pos+1)):=fun u=>(heap_setCell_other W1 _ r u (show r≠w.heap.size by omega)).trans hit2.out
    have HI:=Jh hit3;clear hit3;go_wp2_with fail;go_roundw
    case rel=>
     refine⟨pos+1,10*N+(ch-48),_,by omega,HI.out _,HO2.out.store j (gd xs j*10+(ch-48)) _ (by omega),HB2.out.setCell (by simp) _,by rw[List.length_set];exact HL.out,?_,?_,?_⟩
     ·rw[show s.size-(pos+1)=q by omega];exact HS.out
     ·rw[HT.out,pv_snoc,HN.out]
     ·rw[HT.out];exact digs_append.2 ⟨HD.out,digs_one ⟨hc1,hc2⟩⟩
    case measure=>
     have:=hpos0.out;rw[iterPos_of (HI.out _),this];omega
   ·have hn:(Utf8.decode s pos).1<48∨57<(Utf8.decode s pos).1:=by
     rcases hsg with⟨_,h1,h2⟩|⟨h1,h2⟩<;>omega
    have HE:=Jh (not_digs hp (by omega));generalize (Utf8.decode s pos).1=R at *;clear hsg hc;rcases hn with hn|hn
    ·go_wp2_with fail
     go_ret2
     exact .inr ⟨HE.out,rfl,HB2.out⟩
    ·go_wp2_with fail
     go_ret2
     exact .inr ⟨HE.out,rfl,HB2.out⟩
  ·obtain rfl:pos=s.size:=by omega
   have hnx:∀ty,(Instr.next (.pointer (some ⟨r,0,none⟩)) true ty).run Tryz.prog wr=_:=fun ty=>Lib.run_next_end_at wr r s s.size ty hit (by omega)
   have HF:Hid (limbs xs∧val xs=N):=by have:=HP.out;rw[Nat.sub_self] at this;exact this.fin
   have hlim:=HO.out.lim HF.out.1 (by rw[HL.out];omega);rw[HL.out] at hlim;have HC:=Jh (trim_any _ _ _ _ _ hlim HF.out.1 (by omega));have HV:Hid (val xs=pv (codes s)∧digs (codes s)):=by
    have h1:=HN.out;have h2:=HD.out;rw[List.take_of_length_le (by rw[codes_len];exact Nat.le_refl _)] at h1 h2;exact⟨by rw[HF.out.2,h1],h2⟩
   clear hlim;go_wp2_with fail;refine HC.out.mono ?_;rintro e w2 ⟨A2,n2,c2,rfl,h2,hb2⟩;have H2:=Jh h2;have HB2:=Jh (HB.out.trans (hb2.mono HB.out.size));clear h2 hb2;go_wp2_with fail;go_ret2
   exact .inl ⟨HV.out.2,_,_,_,rfl,by rw[Num,← HV.out.1];exact H2.out,HB2.out⟩
theorem drop_is{A:Option Addr}{n c a k m:Nat}{v:Int}{w:World}(h:Num w w.heap.size A n c a)(hn:n≤1000000)(hk:k≤9223372036854775807)(hv:v=k)(hm:a/10^k=m) :
  Calls Tryz.prog 186 #[.slice A n c,.int .i64 v] w (RetSub w m):=by
 subst hv;subst hm;exact drop_any A n c a k w h hn hk
theorem noughts_is{A:Option Addr}{n c a B m:Nat}{w:World}(h:Num w B A n c a)(hn:n≤1000000)(hm:tz a=m) :
  Calls Tryz.prog 185 #[.slice A n c] w fun e w'=>e=.returned (.int .i64 (m:Nat))∧w=w':=by
 subst hm;exact noughts_any A n c a B w h hn
def t1:Nat:=1000000005
def t2:Nat:=1000000
theorem pow10_len{N k:Nat}(h:N<9*k):(dg (10^N)).length≤k:=by
 refine dg_len_le ?_;rw[pow9];exact Nat.pow_lt_pow_right (by omega) h
end Go.Proofs.YtpbbolgnnegmlaaGreatDoor.Num
