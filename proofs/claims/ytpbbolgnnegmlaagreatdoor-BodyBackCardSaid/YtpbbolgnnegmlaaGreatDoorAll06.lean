/- Lemmas of the proof: MulE, MulH, MulR, MulS, MulT. -/
import Derived.Test.YtpbbolgnnegmlaaGreatDoorAll05
import Derived.Lib.BitFns
import Derived.Lib.Small
import Derived.Lib.Walk
set_option linter.unusedVariables false
set_option linter.unusedSimpArgs false
set_option maxRecDepth 100000
set_option maxHeartbeats 32000000
open Go.Lib renaming hid→Jh
namespace Go.Proofs.YtpbbolgnnegmlaaGreatDoor.Num
open Go.RowKit
theorem len64_small(x:Int)(h0:0≤x)(hx:x≤255)(w:World) :
  Calls Tryz.prog 161 #[.int .u64 x] w fun e w'=>e=.returned (.int .i64 (Lib.bitLen x.toNat:Nat))∧w=w':=by
 go_enter Tryz.func161,Tryz.ntmps161;go_wp2;all_goals (go_ret;refine⟨congrArg Ending.returned (congrArg (Value.int IntKind.i64) ?_),rfl⟩)
 rw[Lib.len8_of x h0 hx];have l:=Lib.bitLen_le8' x h0 hx;unfold wrap64;omega
theorem dg_shift{m low:Nat}(hm:0<m):dg (1000000000^low*m)=List.replicate low 0++dg m:=by
 have e:val (List.replicate low 0++dg m)=1000000000^low*m:=by
  rw[val_append,val_zeros,val_dg,List.length_replicate,Nat.zero_add]
 rw[← e];refine dg_val (limbs_append.2 ⟨zeros_limbs _,limbs_dg m⟩) ?_;rw[List.getLast?_append];intro h;cases hd:(dg m).getLast? with
 | none=>rw[List.getLast?_eq_none_iff,dg_eq_nil] at hd;omega
 | some v=>
  rw[hd] at h;exact dg_last m (by rw[hd];exact h)
theorem shift_num(a n:Nat):a*10^n=1000000000^(n/9)*(a*10^(n%9)):=by
 rw[pow9,Nat.mul_left_comm,← Nat.pow_add];congr 2
 omega
theorem shift_splice(low:Nat)(xs:List Nat):splice (List.replicate (low+xs.length) 0) low xs=List.replicate low 0++xs:=by
 simp[splice,List.drop_replicate,List.take_replicate]
theorem ten_le{j:Nat}(hj:j≤8):10^j≤100000000:=Nat.le_trans (Nat.pow_le_pow_right (by omega) hj) (by decide)
theorem shift_any(A:Option Addr)(n c a k:Nat)(w:World)(h:Num w w.heap.size A n c a)(hn:n≤1000000)(hk:k≤1000000) :
  Calls Tryz.prog 188 #[.slice A n c,.int .i64 k] w (RetSub w (a*10^k)):=by
 obtain⟨i0,hi,hz0,hz1,hz2⟩:=info_parts info_limb;have H:=Jh h;clear h;go_enter Tryz.func188,Tryz.ntmps188;go_wp2;go_loop [6,14] (fun tv iv=>∃j t:Nat,j≤k%9∧iv=.int .i64 j∧tv=.int .u32 t∧t≤100000000∧Hid (t=10^j)) (fun _ iv=>k%9-(intOf iv).toNat)
 case atStart=>exact⟨0,1,Nat.zero_le _,rfl,rfl,by omega,rfl⟩
 case round=>
  obtain⟨j,t,hj,rfl,rfl,ht,HT⟩:=hrel;rcases Nat.lt_or_ge j (k%9) with hjk|hjk
  ·have ht2:t≤10000000:=by have:=HT.out;rw[this];exact Nat.le_trans (Nat.pow_le_pow_right (by omega) (show j≤7 by omega)) (by decide)
   go_wp2;go_round
   case rel=>exact⟨j+1,t*10,by omega,by go_num,by go_num,by omega,by show _=_;rw[Nat.pow_succ,HT.out]⟩
   case measure=>simp[intOf];omega
  ·obtain rfl:j=k%9:=by omega
   have HP:Hid (t≤1000000000):=by show _≤_;omega
   go_wp2_with fail;refine(times_is (m:=a*t) H.out (by omega) (by omega) rfl).mono ?_;rintro e w1 ⟨A1,n1,c1,rfl,h1,hb1⟩;have hm1:=h1.room;have hc1:=h1.cap;unfold maxLen at hm1;have HV:Hid (a*10^k=1000000000^(k/9)*(a*t)):=by show _=_;rw[HT.out];exact shift_num a k
   have hn1:n1≤n+1:=by
    have:=dg_len_mul a t;have h2:(dg t).length≤1:=dg_len_le (by omega);have h3:=h1.len;have h4:=H.out.len;omega
   have H1:=Jh h1;have HB1:=Jh hb1;clear h1 hb1 HT hjk hj ht;rcases Nat.eq_zero_or_pos n1 with h0|h0
   ·subst h0
    have hz:a*t=0:=dg_eq_nil.1 (List.eq_nil_of_length_eq_zero H1.out.len);have HZ:Hid (a*10^k=0):=by show _=_;rw[HV.out,hz,Nat.mul_zero]
    clear hz;go_wp2_with fail;go_ret2
    exact⟨_,_,_,rfl,by rw[HZ.out,Num,dg_zero];exact Lim.nil,HB1.out⟩
   ·have hpos:0<a*t:=by
     rcases Nat.eq_zero_or_pos (a*t) with h2|h2
     ·have:=H1.out.len;rw[h2,dg_zero] at this;simp at this;omega
     ·exact h2
    have HS:Hid (splice (List.replicate (k/9+n1) 0) (k/9) (dg (a*t))=dg (a*10^k)):=by
     show _=_;rw[HV.out,dg_shift hpos,← H1.out.len];exact shift_splice _ _
    clear hpos;have hk9:k/9≤1000000:=by omega
    have hk0:0≤((k:Int)/9):=by omega
    have hk1:((k:Int)/9)≤1000000:=by omega
    ·go_wp2_with (first|(at_make;go_must (refine wpList_make_full _ rfl _ _ 34 rfl w1.heap.size 163 i0 (.int .u32 0) 1 Tryz.underlying34 hi hz0 hz1 _ _ _ _ (k/9+n1) (by first|rfl|(exact congrArg (Value.int IntKind.i64) (by omega))) (by first|rfl|(exact congrArg (Value.int IntKind.i64) (by omega))) (by omega) (by omega) (by rw[hz2];omega) (by unfold maxLen;omega) (Nat.le_refl _) ?_;intro w2 hown1 hgr1;have O2:Hid (Own w2 w1.heap.size (List.replicate (k/9+n1) 0)):=Own.of_made hown1;have HB2:Hid (Below w1.heap.size w1 w2):=(Below.refl _ _).grown hgr1 (Nat.le_refl _) (fun k hk=>by cases hk);clear hown1 hgr1))|((with_reducible show wpList _ _ _ (⟨some 36,_,_,_,_,_⟩::_) _ _);go_must (refine wpList_copy_splice rfl (.tmp 34) (.tmp 35) 34 34 rfl 163 Tryz.underlying34 info_one _ _ _ _ _ _ rfl rfl w1.heap.size (k/9) (vals (List.replicate (k/9+n1) 0)) 163 O2.out (vals (dg (a*t))) (copy_ok (L:=List.replicate (k/9+n1) 0) (off:=k/9) H1.out (show n1≤k/9+n1-k/9 by omega) (by rw[List.length_replicate];omega)).1 (fun hp=>⟨rfl,lim_src (H1.out.below HB2.out) hp⟩) (copy_ok (L:=List.replicate (k/9+n1) 0) (off:=k/9) H1.out (show n1≤k/9+n1-k/9 by omega) (by rw[List.length_replicate];omega)).2 (vals_one _) w1.heap.size w1 HB2.out (Nat.le_refl _) ?_;intro w3 hg2 hb2;have O3:=own_spliced hg2;have HB3:=Jh hb2;clear hg2 hb2)))
     go_ret2
     have O4:=O3.out;rw[HS.out] at O4;have hl4:(dg (a*10^k)).length=k/9+n1:=by rw[← HS.out,length_splice _ _ _ (by rw[H1.out.len];simp),List.length_replicate]
     exact⟨_,_,_,rfl,own_lim_is O4 (limbs_dg _) hl4 (by omega),HB1.out.trans (HB3.out.mono HB1.out.size)⟩
theorem shift_is{A:Option Addr}{n c a k m:Nat}{v:Int}{w:World}(h:Num w w.heap.size A n c a)(hn:n≤1000000)(hk:k≤1000000)(hv:v=k)(hm:a*10^k=m) :
  Calls Tryz.prog 188 #[.slice A n c,.int .i64 v] w (RetSub w m):=by
 subst hm;subst hv;exact shift_any A n c a k w h hn hk
def p1:Nat:=999999999
def p2:Nat:=999999998000000001
def p3:Nat:=18446744073709551616
def p4:Nat:=10000000000
def p5:Nat:=7000
def valsI(xs:List Nat):List Value:=xs.map (fun(x:Nat)=>Value.int .i64 (x:Int))
structure Dig (w:World) (B:Nat) (A:Option Addr) (n c:Nat) (xs:List Nat):Prop where
 len:xs.length=n
 cap:n≤c
 room:c≤maxLen
 row:Row w B A (valsI xs)
 addr:A=none→c=0
end Go.Proofs.YtpbbolgnnegmlaaGreatDoor.Num
