/- Lemmas of the proof: DivA, DigA, DivB. -/
import Derived.Test.YtpbbolgnnegmlaaGreatDoorAll06
import Derived.Test.YtpbbolgnnegmlaaGreatDoorAll00
import Derived.OwnWalk
import Derived.Test.YtpbbolgnnegmlaaGreatDoorAll05
set_option linter.unusedVariables false
set_option linter.unusedSimpArgs false
set_option maxRecDepth 100000
set_option maxHeartbeats 32000000
open Go.Lib renaming hid→Jh
namespace Go.Proofs.YtpbbolgnnegmlaaGreatDoor.Num
open Go.RowKit
theorem sound_is{A:Option Addr}{n c a B:Nat}{w:World}(h:Num w B A n c a) :
  Calls Tryz.prog 200 #[.slice A n c] w fun e w'=>e=.returned (.slice A n c)∧w=w':=by
 have C:=Jh (right_any A n c B (dg a) w h);have hr:=right_dg a;clear h;go_enter Tryz.func200,Tryz.ntmps200;go_wp2_with fail;refine C.out.mono ?_;rintro e w' ⟨rfl,rfl⟩;rw[hr];go_wp2_with fail;go_ret;exact⟨rfl,rfl⟩
def RetDiv(W:World)(q r:Nat)(e:Ending)(w':World):Prop:=
 ∃A n c A' n' c',e=.returned (.tuple #[.slice A n c,.slice A' n' c',.int .i64 0])∧Num w' w'.heap.size A n c q∧Num w' w'.heap.size A' n' c' r∧Below W.heap.size W w'
def RetSmall(W:World)(q r:Nat)(e:Ending)(w':World):Prop:=
 ∃A n c,e=.returned (.tuple #[.slice A n c,.int .u32 r,.int .i64 0])∧Num w' w'.heap.size A n c q∧Below W.heap.size W w'
def RetSmallF(W:World)(q r:Nat)(e:Ending)(w':World):Prop:=
 ∃A n c,e=.returned (.tuple #[.slice A n c,.int .u32 r,.int .i64 0])∧Num w' w'.heap.size A n c q∧(∀ad,A=some ad→W.heap.size≤ad.block)∧Below W.heap.size W w'
theorem trim_new{A:Option Addr}{n c m:Nat}{xs:List Nat}{w:World}(h:Lim w w.heap.size A n c xs)(hx:limbs xs)(hn:n≤1000000000)(hm:val xs=m) :
  Calls Tryz.prog 110 #[.slice A n c] w (RetNew w m):=by
 subst hm;refine(trim_own A n c xs w h hx hn).mono fun _ _ ⟨A',n',c',he,ho,hb⟩=>⟨A',n',c',he,Lim.of_own ho (fun x hx=>by have:=limbs_dg _ x hx;omega),fun ad hA=>?_,hb⟩
 subst hA;exact(ho.lt _ rfl).1
theorem udiv_cast(t N:Nat)(h:t/N<1000000000):∃q,t/N=q∧((t:Nat):Int)/(N:Int)%4294967296=(q:Int):=by
 refine⟨t/N,rfl,?_⟩;rw[← Int.natCast_ediv];generalize t/N=q at *;omega
theorem dsmall_fresh(A:Option Addr)(n c a N:Nat)(w:World)(h:Num w w.heap.size A n c a)(hn:n≤100000000)(hN0:0<N)(hN:N<4294967296) :
  Calls Tryz.prog 192 #[.slice A n c,.int .u32 N] w (RetSmallF w (a/N) (a%N)):=by
 obtain⟨i0,hi,hz0,hz1,hz2⟩:=info_parts info_limb;have hm:=h.room;have hcap:=h.cap;unfold maxLen at hm;have H:=Jh h;have C:=Jh (sound_is h);clear h;go_enter Tryz.func192,Tryz.ntmps192;go_wp2_with fail;refine C.out.mono ?_;rintro e w' ⟨rfl,rfl⟩;go_wp2_with (at_make;go_must (refine wpList_make_full _ rfl _ _ 34 rfl w.heap.size 163 i0 (.int .u32 0) 1 Tryz.underlying34 hi hz0 hz1 _ _ _ _ n rfl rfl (by omega) (by omega) (by rw[hz2];omega) (by unfold maxLen;omega) (Nat.le_refl _) ?_;intro w1 hown1 hgr1;have M1:Hid (Own w1 w.heap.size (List.replicate n 0)):=Own.of_made hown1;have HB1:Hid (Below w.heap.size w w1):=(Below.refl _ _).grown hgr1 (Nat.le_refl _) (fun k hk=>by cases hk);clear hown1 hgr1));clear C;go_loopw [8,9] (fun rv iv wr=>∃(k r:Nat) (zs:List Nat),k≤n∧iv=.int .i64 ((k:Int)-1)∧rv=.int .u64 r∧r<N∧zs.length=n∧limbs zs∧(∀j,j<k→gd zs j=0)∧a=N*val zs+1000000000^k*r+val ((dg a).take k)∧Own wr w.heap.size zs∧Below w.heap.size w wr) (fun _ iv _=>(intOf iv+1).toNat)
 case atStart=>
  exact⟨n,0,List.replicate n 0,Nat.le_refl _,rfl,rfl,hN0,by simp,zeros_limbs _,fun j _=>gd_zeros _ _,by rw[val_zeros,List.take_of_length_le (by rw[H.out.len];exact Nat.le_refl _),val_dg];simp,M1.out,HB1.out⟩
 case round=>
  obtain⟨k,r,zs,hk,rfl,rfl,hr,hlen,hlim,hzero,hval,hown,hb⟩:=hrel;clear M1 HB1;have OW:=Jh hown;have HL:=Jh hlim;have HV:=Jh hval;have HB:=Jh hb;have LN:=Jh hlen;have HZ:=Jh hzero;clear hown hlim hval hb hlen hzero;rcases Nat.eq_zero_or_pos k with h0|h0
  ·subst h0
   have LZ:=OW.out.lim HL.out (by rw[LN.out];omega);rw[LN.out] at LZ;have HE:Hid (val zs=a/N∧r=a%N):=by
    have:=HV.out;rw[List.take_zero,val,Nat.pow_zero,Nat.one_mul,Nat.add_zero] at this;exact sdiv_end this hr
   have HC:=Jh (trim_new LZ HL.out (by omega) HE.out.1);clear LZ;go_wp2_with fail;refine HC.out.mono ?_;rintro e w2 ⟨A2,n2,c2,rfl,h2,hf2,hb2⟩;have H2:=Jh h2;have HF2:Hid (∀ad,A2=some ad→w.heap.size≤ad.block):=fun ad hA=>Nat.le_trans HB.out.size (hf2 ad hA)
   have HB2:=Jh (HB.out.trans (hb2.mono HB.out.size));clear h2 hf2 hb2;go_wp2_with fail;go_ret3
   exact⟨_,_,_,by rw[HE.out.2];rfl,H2.out,HF2.out,HB2.out⟩
  ·obtain⟨i,rfl⟩:∃i,k=i+1:=⟨k-1,by omega⟩
   have eK:((i+1:Nat):Int)-1=(i:Int):=by omega
   rw[eK];clear eK;obtain⟨b,o,rfl,_,hc⟩:=(H.out.below HB.out).at_ (show i<n by omega);have hcell:=OW.out.cell (i:=i) (by rw[LN.out];omega);have hfr:=OW.out.frozen i;have hg:=gd_lt (limbs_dg a) i;have ht:=sdiv_t hr hN hg;have ht2:=ht.2;go_wp2_with fail;go_roundw
   case rel=>
    obtain⟨q,hq,hq2⟩:=udiv_cast (r*1000000000+gd (dg a) i) N ht.1;have ev:((r:Int)*1000000000+(gd (dg a) i:Nat))=((r*1000000000+gd (dg a) i:Nat):Int):=by omega
    have em:(((r*1000000000+gd (dg a) i:Nat):Int))%(N:Int)=(((r*1000000000+gd (dg a) i)%N:Nat):Int):=(Int.natCast_emod _ _).symm;have HS:=sdiv_step HV.out (by rw[LN.out];omega) (HZ.out i (by omega));rw[ev,em,hq2];rw[hq] at HS;exact⟨i,(r*1000000000+gd (dg a) i)%N,zs.set i q,by omega,rfl,rfl,Nat.mod_lt _ hN0,by rw[List.length_set];exact LN.out,limbs_set HL.out _ (by rw[← hq];exact ht.1),sdiv_zero HZ.out (by rw[LN.out];omega),HS,OW.out.store i q _ rfl,HB.out.setCell (Nat.le_refl _) _⟩
   case measure=>simp[intOf]
theorem dsmall_any(A:Option Addr)(n c a N:Nat)(w:World)(h:Num w w.heap.size A n c a)(hn:n≤100000000)(hN0:0<N)(hN:N<4294967296) :
  Calls Tryz.prog 192 #[.slice A n c,.int .u32 N] w (RetSmall w (a/N) (a%N)):=
 (dsmall_fresh A n c a N w h hn hN0 hN).mono fun _ _ ⟨A',n',c',he,hl,_,hb⟩=>⟨A',n',c',he,hl,hb⟩
theorem dsmall_is{A:Option Addr}{n c a N q r:Nat}{v:Int}{w:World}(h:Num w w.heap.size A n c a)(hn:n≤100000000)(hN0:0<N)(hN:N<4294967296)(hv:v=N)(hq:a/N=q)(hr:a%N=r) :
  Calls Tryz.prog 192 #[.slice A n c,.int .u32 v] w (RetSmall w q r):=by
 subst hv;subst hq;subst hr;exact dsmall_any A n c a N w h hn hN0 hN
theorem nd_le_len{a n:Nat}(h:(dg a).length=n):nd a≤9*n+1:=by
 refine nd_le_of_lt (9*n) (Nat.lt_of_lt_of_le (lt_pow_dg a) ?_);rw[h,pow9];exact Nat.pow_le_pow_right (by omega) (by omega)
theorem gd_take'{xs:List Nat}{i j:Nat}(h:j<i):gd (xs.take i) j=gd xs j:=by
 unfold gd;rw[List.getD_eq_getElem?_getD,List.getD_eq_getElem?_getD,List.getElem?_take_of_lt h]
theorem tz_start{a i:Nat}(hz:∀j,j<i→gd (dg a) j=0)(hx:gd (dg a) i≠0):tz a=9*i+tz (gd (dg a) i):=by
 have h1:=(val_take_mod a i);have h0:a%1000000000^i=0:=by
  rw[← h1.1];refine val_of_gd_zero fun j=>?_
  rcases Nat.lt_or_ge j i with hj|hj
  ·rw[gd_take' hj,hz j hj]
  ·exact gd_of_ge (by rw[List.length_take];omega)
 have h2:=val_drop (dg a) i;rw[h1.2] at h2;have hg:=gd_lt (limbs_dg a) i;have hm:a/1000000000^i%1000000000=gd (dg a) i:=by
  generalize gd (dg a) i=x at *;generalize val ((dg a).drop (i+1))=y at *;omega
 have hb:0<a/1000000000^i:=by omega
 have e:a=a/1000000000^i*10^(9*i):=by
  rw[← pow9];have:=Nat.div_add_mod a (1000000000^i);rw[h0,Nat.add_zero,Nat.mul_comm] at this;exact this.symm
 have e2:=tz_mul hb (9*i);rw[← e] at e2;rw[e2,tz_limb (b:=a/1000000000^i) (by omega),hm];omega
theorem noughts_any(A:Option Addr)(n c a B:Nat)(w:World)(h:Num w B A n c a)(hn:n≤1000000) :
  Calls Tryz.prog 185 #[.slice A n c] w fun e w'=>e=.returned (.int .i64 (tz a:Nat))∧w=w':=by
 have hm:=h.room;have hcap:=h.cap;unfold maxLen at hm;have H:=Jh h;have NL:tz a≤9000001:=by
  rcases Nat.eq_zero_or_pos a with h0|h0
  ·subst h0;rw[tz_zero];omega
  ·have:=tz_lt h0
   have:=nd_le_len h.len;omega
 clear h;go_enter Tryz.func185,Tryz.ntmps185;go_wp2;go_loop [8] (fun iv=>∃i:Nat,i≤n∧iv=.int .i64 i∧∀j,j<i→gd (dg a) j=0) (fun iv=>n-(intOf iv).toNat)
 case atStart=>exact⟨0,Nat.zero_le _,rfl,fun j hj=>absurd hj (by omega)⟩
 case round=>
  obtain⟨i,hi,rfl,hz⟩:=hrel;have HZ:=Jh hz;clear hz;rcases Nat.lt_or_ge i n with hlt|hge
  ·obtain⟨b,o,rfl,_,hc⟩:=H.out.at_ hlt
   have hg:=gd_lt (limbs_dg a) i;obtain⟨x,hx⟩:∃x,x=gd (dg a) i:=⟨_,rfl⟩;have HX:=Jh hx;rw[← hx] at hc hg;clear hx;rcases Nat.eq_zero_or_pos x with h0|h0
   ·subst h0
    go_wp2;go_round
    case rel=>exact⟨i+1,by omega,by go_num,fun j hj=>by rcases Nat.lt_or_ge j i with h|h;(· exact HZ.out j h);(· obtain rfl:j=i:=(by omega);exact HX.out.symm)⟩
    case measure=>simp[intOf];omega
   ·have hne:((x:Int) == 0)=false:=by simp;omega
    have hT:=tz_start HZ.out (by rw[← HX.out];omega);rw[← HX.out] at hT;have HT:=Jh hT;have hb:9*i≤tz a:=by omega
    clear hT;go_wp2;go_loop [4,5] (fun xv cv=>∃C y:Nat,cv=.int .i64 C∧xv=.int .u32 y∧0<y∧y<1000000000∧tz a=C+tz y) (fun xv _=>(intOf xv).toNat)
    case atStart=>exact⟨9*i,x,by go_num,rfl,h0,hg,HT.out⟩
    case round=>
     obtain⟨C,y,rfl,rfl,hy0,hy,hC⟩:=hrel;have HC:=Jh hC;have hCT:C≤tz a:=by omega
     clear hC;by_cases hr:y%10=0
     ·have HS:=Jh (tz_yes hy0 hr)
      have hr':(y:Int)%10=0:=by omega
      clear hr;go_wp2;go_round
      case rel=>exact⟨C+1,y/10,by go_num,by go_num,by omega,by omega,by have:=HC.out;rw[HS.out] at this;omega⟩
      case measure=>simp[intOf];omega
     ·have HS:=Jh (tz_no hr)
      have hr':(((y:Int)%10) == 0)=false:=by simp;omega
      have HE:Hid (C=tz a):=by have:=HC.out;rw[HS.out] at this;exact this.symm
      clear hr;go_wp2;go_ret;exact⟨by rw[HE.out];rfl,rfl⟩
  ·have HE:Hid (tz a=0):=by
    have:a=0:=by
     rw[← val_dg a];refine val_of_gd_zero fun j=>?_
     rcases Nat.lt_or_ge j i with hj|hj
     ·exact HZ.out j hj
     ·exact gd_of_ge (by rw[H.out.len];omega)
    show _=_;rw[this,tz_zero]
   go_wp2;go_ret;exact⟨by rw[HE.out];rfl,rfl⟩
theorem drop_any(A:Option Addr)(n c a k:Nat)(w:World)(h:Num w w.heap.size A n c a)(hn:n≤1000000)(hk:k≤9223372036854775807) :
  Calls Tryz.prog 186 #[.slice A n c,.int .i64 k] w (RetSub w (a/10^k)):=by
 have hm:=h.room;have hcap:=h.cap;unfold maxLen at hm;obtain⟨q,hq⟩:∃q,q=k/9:=⟨_,rfl⟩;obtain⟨r,hr⟩:∃r,r=k%9:=⟨_,rfl⟩;have e1:(k:Int)/9=(q:Int):=by omega
 have e2:(k:Int)%9=(r:Int):=by omega
 have hr9:r<9:=by omega
 have EK:Hid (k=9*q+r):=by show _=_;omega
 clear hq hr;rcases Nat.lt_or_ge q n with hlt|hge
 ·obtain⟨b,o,rfl,hb,_⟩:=h.at_ hlt
  have HD:=Jh (h.rest (Nat.le_of_lt hlt) (some ⟨b,o+q,none⟩) (fun _=>rfl) (fun h=>by cases h));have HK:Hid (a/1000000000^q/10^r=a/10^k):=by
   show _=_;rw[EK.out,pow9,Nat.div_div_eq_div_mul,← Nat.pow_add]
  have HN:Hid (Num w w.heap.size (some ⟨b,o+q,none⟩) (n-q) (c-q) (a/1000000000^q)):=by
   have:=HD.out;rw[dg_rest] at this;exact this
  clear h HD EK;go_enter Tryz.func186,Tryz.ntmps186;go_wp2;go_loop [7,21] (fun tv iv=>∃j:Nat,j≤r∧iv=.int .i64 j∧tv=.int .u32 (10^j:Nat)) (fun _ iv=>r-(intOf iv).toNat)
  case atStart=>exact⟨0,Nat.zero_le _,rfl,rfl⟩
  case round=>
   obtain⟨j,hj,rfl,rfl⟩:=hrel;have hp:=ten_le (show j≤8 by omega);have hp0:0<10^j:=Nat.pow_pos (by omega);obtain⟨P,hP⟩:∃P,P=10^j:=⟨_,rfl⟩;rw[← hP] at hp hp0 ⊢;have HP:=Jh hP;clear hP;rcases Nat.lt_or_ge j r with h1|h1
   ·go_wp2
    go_round
    case rel=>exact⟨j+1,by omega,by go_num,by rw[Nat.pow_succ,← HP.out];go_num⟩
    case measure=>simp[intOf];omega
   ·obtain rfl:j=r:=by omega
    go_wp2_with fail;refine(dsmall_is (q:=a/10^k) (r:=a/1000000000^q%P) HN.out (by omega) hp0 (by omega) rfl (by rw[HP.out];exact HK.out) rfl).mono ?_;rintro e w2 ⟨A2,n2,c2,rfl,h2,hb2⟩;have H2:=Jh h2;have HB2:=Jh hb2;clear h2 hb2;go_wp2_with fail;go_ret2
    exact⟨_,_,_,rfl,H2.out,HB2.out⟩
 ·have HZ:Hid (a/10^k=0):=by
   show _=_;refine Nat.div_eq_of_lt (Nat.lt_of_lt_of_le (lt_pow_dg a) ?_);rw[h.len,pow9];exact Nat.pow_le_pow_right (by omega) (by have:=EK.out;omega)
  clear h EK;go_enter Tryz.func186,Tryz.ntmps186;go_wp2;go_ret2
  exact⟨none,0,0,rfl,by rw[Num,HZ.out,dg_zero];exact Lim.nil,Below.refl _ _⟩
def RetTake(W:World)(g len m Z C:Nat)(zs:List Nat)(e:Ending)(w':World):Prop:=
 ∃(cy:Nat) (ys:List Nat),e=.returned (.bool (decide (0<cy)))∧Own w' g ys∧ys.length=len∧limbs ys∧Above m zs ys∧val ys+C=Z+cy*1000000000^m∧Kept g W w'
theorem take_any(A':Option Addr)(g i n' c' m l b cr:Nat)(zs:List Nat)(w:World)(ho:Hid (Own w g zs))(hl:Hid (limbs zs))(hm:zs.length=m)(him:i+n'+1≤m)(hmm:m≤1000000000)
  (h':Num w g A' n' c' b) (hlim:l<1000000000) (hcr:n'+1≤cr) :
  Calls Tryz.prog 205 #[.slice (some ⟨g,i,none⟩) (n'+1) cr,.slice A' n' c',.int .u32 l] w (RetTake w g m (i+(n'+1)) (val zs) (1000000000^i*(l*b)) zs):=by
 have hm':=h'.room;have hn':=h'.cap;unfold maxLen at hm';have H':=Jh h';have HM:=Jh hm;clear h' hm;go_enter Tryz.func205,Tryz.ntmps205;go_wp2;go_loopw [7,12] (fun cv iv wr=>∃(k cy:Nat) (ys:List Nat),k≤n'+1∧iv=.int .i64 k∧cv=.int .u64 cy∧cy≤1000000000∧ys.length=m∧limbs ys∧Above (i+(n'+1)) zs ys∧val ys+1000000000^i*(l*b)=val zs+1000000000^(i+k)*(cy+l*val ((dg b).drop k))∧Own wr g ys∧Kept g w wr) (fun _ iv _=>n'+1-(intOf iv).toNat)
 case atStart=>
  exact⟨0,0,zs,Nat.zero_le _,rfl,rfl,by omega,HM.out,hl.out,Above.refl _ _,by rw[List.drop_zero,val_dg,Nat.add_zero,Nat.zero_add],ho.out,Kept.refl _ _⟩
 case round=>
  obtain⟨k,cy,ys,hk,rfl,rfl,hcy,hlen,hly,hab,hval,hown,hkp⟩:=hrel;have OW:=Jh hown;have HL:=Jh hly;have HV:=Jh hval;have HK:=Jh hkp;have LN:=Jh hlen;have HA:=Jh hab;clear hown hly hval hkp hlen hab;rcases Nat.lt_or_ge k (n'+1) with hkn|hkn
  ·have hcell:=OW.out.cell (i:=i+k) (by rw[LN.out];omega)
   have hfr:=OW.out.frozen (i+k);have hx:=gd_lt HL.out (i+k);rcases Nat.lt_or_ge k n' with hkn' | hkn'
   ·obtain⟨b2,o2,rfl,_,hc2⟩:=(H'.out.below (HK.out.below (Nat.le_refl _))).at_ hkn'
    have hy:=gd_lt (limbs_dg b) k;have hp:=row_mul_le hy hlim;have E:Hid (((gd (dg b) k:Nat):Int)*(l:Nat)=((gd (dg b) k*l:Nat):Int)):=by show _=_;rw[Int.natCast_mul]
    have hp0:0≤((gd (dg b) k:Nat):Int)*(l:Nat):=by rw[E.out];omega
    have hp1:((gd (dg b) k:Nat):Int)*(l:Nat)≤999999998000000001:=by rw[E.out];omega
    clear hp;rcases Nat.lt_or_ge (gd ys (i+k)) ((cy+gd (dg b) k*l)%1000000000) with hs|hs
    ·have hd:decide (((gd ys (i+k):Nat):Int)<(((cy:Nat):Int)+((gd (dg b) k:Nat):Int)*(l:Nat))%1000000000)=true:=by rw[decide_eq_true_iff,E.out];omega
     have HS:=Jh hs;clear hs;go_wp2;go_roundw
     case rel=>
      have ev:((cy:Int)+((gd (dg b) k:Nat):Int)*(l:Nat))=((cy+gd (dg b) k*l:Nat):Int):=by rw[E.out];omega
      rw[ev];have HR:=fun cy' v h=>take_step (cy':=cy') (v:=v) HV.out (show i+k<ys.length by rw[LN.out];omega) h
      have hs:=HS.out;have hpn:gd (dg b) k*l≤999999998000000001:=row_mul_le hy hlim;generalize cy+gd (dg b) k*l=t at *;have hv:((gd ys (i+k):Nat):Int)+1000000000=((gd ys (i+k)+1000000000:Nat):Int):=by omega
      have hv2:((gd ys (i+k):Nat):Int)+1000000000-((t:Nat):Int)%1000000000=((gd ys (i+k)+1000000000-t%1000000000:Nat):Int):=by omega
      have h2:=(OW.out.store (i+k) _ _ hv).store (i+k) _ _ hv2;rw[List.set_set] at h2;exact⟨k+1,t/1000000000+1,ys.set (i+k) (gd ys (i+k)+1000000000-t%1000000000),by omega,by go_num,rfl,by omega,by rw[List.length_set];exact LN.out,limbs_set HL.out _ (by omega),HA.out.set (by omega) (by rw[LN.out];omega),HR _ _ (by omega),h2,(HK.out.setCell _ _).setCell _ _⟩
     case measure=>simp[intOf];omega
    ·have hd:decide (((gd ys (i+k):Nat):Int)<(((cy:Nat):Int)+((gd (dg b) k:Nat):Int)*(l:Nat))%1000000000)=false:=by rw[decide_eq_false_iff_not,E.out];omega
     have HS:=Jh hs;clear hs;go_wp2;go_roundw
     case rel=>
      have ev:((cy:Int)+((gd (dg b) k:Nat):Int)*(l:Nat))=((cy+gd (dg b) k*l:Nat):Int):=by rw[E.out];omega
      rw[ev];have HR:=fun cy' v h=>take_step (cy':=cy') (v:=v) HV.out (show i+k<ys.length by rw[LN.out];omega) h
      have hs:=HS.out;have hpn:gd (dg b) k*l≤999999998000000001:=row_mul_le hy hlim;generalize cy+gd (dg b) k*l=t at *;have hv2:(((gd ys (i+k):Nat):Int)-((t:Nat):Int)%1000000000)%4294967296=((gd ys (i+k)-t%1000000000:Nat):Int):=by omega
      exact⟨k+1,t/1000000000,ys.set (i+k) (gd ys (i+k)-t%1000000000),by omega,by go_num,rfl,by omega,by rw[List.length_set];exact LN.out,limbs_set HL.out _ (by omega),HA.out.set (by omega) (by rw[LN.out];omega),HR _ _ (by omega),OW.out.store (i+k) _ _ hv2,HK.out.setCell _ _⟩
     case measure=>simp[intOf];omega
   ·have hy0:gd (dg b) k=0:=gd_of_ge (by rw[H'.out.len];exact hkn')
    have HY:=Jh hy0;clear hy0;rcases Nat.lt_or_ge (gd ys (i+k)) (cy%1000000000) with hs|hs
    ·have hd:decide (((gd ys (i+k):Nat):Int)<((cy:Nat):Int)%1000000000)=true:=by rw[decide_eq_true_iff];omega
     have HS:=Jh hs;clear hs;go_wp2;go_roundw
     case rel=>
      have HR:=fun cy' v h=>take_step (cy':=cy') (v:=v) HV.out (show i+k<ys.length by rw[LN.out];omega) h
      have hs:=HS.out;rw[HY.out,Nat.zero_mul,Nat.add_zero] at HR;have hv:((gd ys (i+k):Nat):Int)+1000000000=((gd ys (i+k)+1000000000:Nat):Int):=by omega
      have hv2:((gd ys (i+k):Nat):Int)+1000000000-((cy:Nat):Int)%1000000000=((gd ys (i+k)+1000000000-cy%1000000000:Nat):Int):=by omega
      have h2:=(OW.out.store (i+k) _ _ hv).store (i+k) _ _ hv2;rw[List.set_set] at h2;exact⟨k+1,cy/1000000000+1,ys.set (i+k) (gd ys (i+k)+1000000000-cy%1000000000),by omega,by go_num,rfl,by omega,by rw[List.length_set];exact LN.out,limbs_set HL.out _ (by omega),HA.out.set (by omega) (by rw[LN.out];omega),HR _ _ (by omega),h2,(HK.out.setCell _ _).setCell _ _⟩
     case measure=>simp[intOf];omega
    ·have hd:decide (((gd ys (i+k):Nat):Int)<((cy:Nat):Int)%1000000000)=false:=by rw[decide_eq_false_iff_not];omega
     have HS:=Jh hs;clear hs;go_wp2;go_roundw
     case rel=>
      have HR:=fun cy' v h=>take_step (cy':=cy') (v:=v) HV.out (show i+k<ys.length by rw[LN.out];omega) h
      have hs:=HS.out;rw[HY.out,Nat.zero_mul,Nat.add_zero] at HR;have hv2:(((gd ys (i+k):Nat):Int)-((cy:Nat):Int)%1000000000)%4294967296=((gd ys (i+k)-cy%1000000000:Nat):Int):=by omega
      exact⟨k+1,cy/1000000000,ys.set (i+k) (gd ys (i+k)-cy%1000000000),by omega,by go_num,rfl,by omega,by rw[List.length_set];exact LN.out,limbs_set HL.out _ (by omega),HA.out.set (by omega) (by rw[LN.out];omega),HR _ _ (by omega),OW.out.store (i+k) _ _ hv2,HK.out.setCell _ _⟩
     case measure=>simp[intOf];omega
  ·obtain rfl:k=n'+1:=by omega
   go_wp2;go_ret;have HE:=take_end HV.out (by rw[H'.out.len];omega);rw[Nat.mul_comm _ cy] at HE;exact⟨cy,ys,rfl,OW.out,LN.out,HL.out,HA.out,HE,HK.out⟩
def RetPut(W:World)(g len m T:Nat)(zs:List Nat)(e:Ending)(w':World):Prop:=
 ∃(cy:Nat) (ys:List Nat),e=.returned (.tuple #[])∧Own w' g ys∧ys.length=len∧limbs ys∧Above m zs ys∧val ys+cy*1000000000^m=T∧Kept g W w'
theorem putBack_any(A':Option Addr)(g i n' c' m b cr:Nat)(zs:List Nat)(w:World)(ho:Hid (Own w g zs))(hl:Hid (limbs zs))(hm:zs.length=m)(him:i+n'+1≤m)(hmm:m≤1000000000)
  (h':Num w g A' n' c' b) (hcr:n'+1≤cr) :
  Calls Tryz.prog 206 #[.slice (some ⟨g,i,none⟩) (n'+1) cr,.slice A' n' c'] w (RetPut w g m (i+(n'+1)) (val zs+1000000000^i*b) zs):=by
 have hm':=h'.room;have hn':=h'.cap;unfold maxLen at hm';have H':=Jh h';have HM:=Jh hm;clear h' hm;go_enter Tryz.func206,Tryz.ntmps206;go_wp2;go_loopw [4,9] (fun cv iv wr=>∃(k cy:Nat) (ys:List Nat),k≤n'+1∧iv=.int .i64 k∧cv=.int .u32 cy∧cy≤1∧ys.length=m∧limbs ys∧Above (i+(n'+1)) zs ys∧val ys+1000000000^(i+k)*(cy+val ((dg b).drop k))=val zs+1000000000^i*b∧Own wr g ys∧Kept g w wr) (fun _ iv _=>n'+1-(intOf iv).toNat)
 case atStart=>
  exact⟨0,0,zs,Nat.zero_le _,rfl,rfl,by omega,HM.out,hl.out,Above.refl _ _,by rw[List.drop_zero,val_dg,Nat.add_zero,Nat.zero_add],ho.out,Kept.refl _ _⟩
 case round=>
  obtain⟨k,cy,ys,hk,rfl,rfl,hcy,hlen,hly,hab,hval,hown,hkp⟩:=hrel;have OW:=Jh hown;have HL:=Jh hly;have HV:=Jh hval;have HK:=Jh hkp;have LN:=Jh hlen;have HA:=Jh hab;clear hown hly hval hkp hlen hab;rcases Nat.lt_or_ge k (n'+1) with hkn|hkn
  ·have hcell:=OW.out.cell (i:=i+k) (by rw[LN.out];omega)
   have hfr:=OW.out.frozen (i+k);have hx:=gd_lt HL.out (i+k);rcases Nat.lt_or_ge k n' with hkn' | hkn'
   ·obtain⟨b2,o2,rfl,_,hc2⟩:=(H'.out.below (HK.out.below (Nat.le_refl _))).at_ hkn'
    have hy:=gd_lt (limbs_dg b) k;go_wp2;go_roundw
    case rel=>
     have ev:(((gd ys (i+k):Nat):Int)+(cy:Nat)+((gd (dg b) k:Nat):Int))=((gd ys (i+k)+cy+gd (dg b) k:Nat):Int):=by omega
     rw[ev];have HR:=sum_step HV.out (show i+k<ys.length by rw[LN.out];omega);generalize gd ys (i+k)+cy+gd (dg b) k=t at *;have ht:t<2000000000:=by omega
     exact⟨k+1,t/1000000000,ys.set (i+k) (t%1000000000),by omega,by go_num,rfl,by omega,by rw[List.length_set];exact LN.out,limbs_set HL.out _ (by omega),HA.out.set (by omega) (by rw[LN.out];omega),HR,OW.out.store (i+k) (t%1000000000) _ rfl,HK.out.setCell _ _⟩
    case measure=>simp[intOf];omega
   ·have hy0:gd (dg b) k=0:=gd_of_ge (by rw[H'.out.len];exact hkn')
    have HY:=Jh hy0;clear hy0;go_wp2;go_roundw
    case rel=>
     have ev:(((gd ys (i+k):Nat):Int)+(cy:Nat))=((gd ys (i+k)+cy:Nat):Int):=by omega
     rw[ev];have HR:=sum_step HV.out (show i+k<ys.length by rw[LN.out];omega);rw[HY.out,Nat.add_zero] at HR;generalize gd ys (i+k)+cy=t at *;have ht:t<2000000000:=by omega
     exact⟨k+1,t/1000000000,ys.set (i+k) (t%1000000000),by omega,by go_num,rfl,by omega,by rw[List.length_set];exact LN.out,limbs_set HL.out _ (by omega),HA.out.set (by omega) (by rw[LN.out];omega),HR,OW.out.store (i+k) (t%1000000000) _ rfl,HK.out.setCell _ _⟩
    case measure=>simp[intOf];omega
  ·obtain rfl:k=n'+1:=by omega
   go_wp2;go_end0
   have HE:=HV.out;rw[List.drop_of_length_le (by rw[H'.out.len];omega),val,show cy+0=cy from rfl,Nat.mul_comm _ cy] at HE;exact⟨cy,ys,rfl,OW.out,LN.out,HL.out,HA.out,HE,HK.out⟩
end Go.Proofs.YtpbbolgnnegmlaaGreatDoor.Num
