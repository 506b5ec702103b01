/- Lemmas of the proof: NatA, NatB. -/
import Derived.Test.YtpbbolgnnegmlaaGreatDoorAll02
import Derived.Test.YtpbbolgnnegmlaaGreatDoorChecked
import Derived.KernelRfl
import Derived.Deep.QuietTactic
import Derived.BigQuiet
import Derived.Outline
import Derived.WalkMore
import Derived.Deep.LoopGhost
set_option linter.unusedVariables false
set_option linter.unusedSimpArgs false
set_option maxRecDepth 100000
set_option maxHeartbeats 32000000
open Go.Lib renaming hid→Jh
namespace Go.Proofs.YtpbbolgnnegmlaaGreatDoor.Num
open Go.RowKit
theorem right_last{xs:List Nat}{n:Nat}(hl:xs.length=n)(h:limbs xs):rightB xs=decide (n=0∨gd xs (n-1)≠0):=by
 subst hl;rw[Bool.eq_iff_iff,rightB_iff,decide_eq_true_iff,List.getLast?_eq_getElem?];rcases Nat.eq_zero_or_pos xs.length with h0|h0
 ·obtain rfl:xs=[]:=List.eq_nil_of_length_eq_zero h0
  simp[limbs_nil]
 ·rw[gd_of_lt (by omega)]
  simp only[h,true_and,ne_eq,Option.some.injEq]
  constructor
  ·intro hh;exact .inr hh
  ·rintro(hh|hh)
   ·omega
   ·exact hh
theorem right_no{xs:List Nat}{k:Nat}(h:1000000000≤gd xs k):rightB xs=false:=by
 rw[Bool.eq_false_iff];intro hr;have:=gd_lt (rightB_iff.1 hr).1 k;omega
theorem limbs_of_gd{xs:List Nat}(h:∀j,j<xs.length→gd xs j<1000000000):limbs xs:=by
 intro x hx;obtain⟨j,hj,rfl⟩:=List.getElem_of_mem hx;have:=h j hj;unfold gd at this;rwa [List.getD_eq_getElem?_getD,List.getElem?_eq_getElem hj] at this
theorem all_succ{xs:List Nat}{k:Nat}(h:∀j,j<k→gd xs j<1000000000)(hk:gd xs k<1000000000):∀j,j<k+1→gd xs j<1000000000:=by
 intro j hj;rcases Nat.lt_or_ge j k with h1|h1
 ·exact h j h1
 ·obtain rfl:j=k:=by omega
  exact hk
theorem ret_bool{a b:Bool}(h:a=b):Ending.returned (.bool a)=.returned (.bool b):=by rw[h]
theorem ret_int{k:IntKind}{a b:Int}(h:a=b):Ending.returned (.int k a)=.returned (.int k b):=by rw[h]
theorem right_any(A:Option Addr)(n c B:Nat)(xs:List Nat)(w:World)(h:Lim w B A n c xs) :
  Calls Tryz.prog 203 #[.slice A n c] w fun e w'=>e=.returned (.bool (rightB xs))∧w=w':=by
 have hm:=h.room;have hn:=h.cap;unfold maxLen at hm;go_enter Tryz.func203,Tryz.ntmps203;go_wp2;go_loop [7] (fun i=>∃k:Nat,k≤n∧i=.int .i64 k∧∀j,j<k→gd xs j<1000000000) (fun i=>n-(intOf i).toNat)
 case atStart=>exact⟨0,Nat.zero_le _,rfl,fun j hj=>absurd hj (by omega)⟩
 case round=>
  obtain⟨k,hk,rfl,hall⟩:=hrel;have HALL:=Jh hall;clear hall;by_cases hkn:k<n
  ·obtain⟨b,o,rfl,_,hc⟩:=h.at_ hkn
   have hg:=h.gd_lt k;have H:=Jh h;clear h;by_cases hbig:(1000000000:Int)≤(gd xs k:Nat)
   ·have E:=Jh (right_no (xs:=xs) (k:=k) (by omega))
    go_wp2;go_ret;exact⟨ret_bool E.out.symm,rfl⟩
   ·go_wp2
    go_round
    case rel=>exact⟨k+1,by omega,by go_num,all_succ HALL.out (by omega)⟩
    case measure=>simp[intOf];omega
  ·obtain rfl:k=n:=by omega
   have hl:=h.len;have hlim:limbs xs:=limbs_of_gd (fun j hj=>HALL.out j (by omega));have E:=Jh (right_last hl hlim);clear hl hlim HALL;rcases Nat.eq_zero_or_pos k with h0|h0
   ·subst h0
    clear h;go_wp2;go_ret;exact⟨ret_bool (by rw[E.out];simp),rfl⟩
   ·obtain⟨b,o,rfl,_,hc⟩:=h.at_ (show k-1<k by omega)
    clear h;go_wp2;go_ret;exact⟨ret_bool (by rw[E.out,Bool.eq_iff_iff];simp),rfl⟩
theorem even_any(A:Option Addr)(n c B a:Nat)(w:World)(h:Num w B A n c a) :
  Calls Tryz.prog 195 #[.slice A n c] w fun e w'=>e=.returned (.bool (decide (a%2=0)))∧w=w':=by
 have E:=Jh (even_dg a);rcases Nat.eq_zero_or_pos n with h0|h0
 ·subst h0
  have hz:=Jh (dg_eq_nil.1 (List.eq_nil_of_length_eq_zero h.len));clear h;go_enter Tryz.func195,Tryz.ntmps195;go_wp2;go_ret;exact⟨ret_bool (by rw[hz.out];rfl),rfl⟩
 ·obtain⟨b,o,rfl,_,hc⟩:=h.at_ h0
  have hg:=h.gd_lt 0;clear h;rw[Nat.add_zero] at hc;go_enter Tryz.func195,Tryz.ntmps195;go_wp2;go_ret;refine⟨ret_bool ?_,rfl⟩;rw[Bool.eq_iff_iff,decide_eq_true_iff,← E.out];simp
  omega
theorem cmp_lt_at{a b:Nat}{k:Nat}(hall:∀j,k<j→gd (dg a) j=gd (dg b) j)(h:gd (dg a) k<gd (dg b) k):cmpN a b = -1:=by
 have:=val_lt_of_gd (limbs_dg a) hall h;rw[val_dg,val_dg] at this;exact cmpN_lt this
theorem cmp_gt_at{a b:Nat}{k:Nat}(hall:∀j,k<j→gd (dg a) j=gd (dg b) j)(h:gd (dg b) k<gd (dg a) k):cmpN a b=1:=by
 have:=val_lt_of_gd (limbs_dg b) (fun j hj=>(hall j hj).symm) h;rw[val_dg,val_dg] at this;exact cmpN_gt this
theorem cmp_eq_at{a b:Nat}(hall:∀j,0≤j→gd (dg a) j=gd (dg b) j):cmpN a b=0:=by
 have:=val_eq_of_gd (dg a) (dg b) (fun j=>hall j (Nat.zero_le _));rw[val_dg,val_dg] at this;exact cmpN_eq this
theorem all_pred{xs ys:List Nat}{k:Nat}(h:∀j,k≤j→gd xs j=gd ys j)(hk:gd xs (k-1)=gd ys (k-1)):∀j,k-1≤j→gd xs j=gd ys j:=by
 intro j hj;rcases Nat.lt_or_ge j k with h1|h1
 ·obtain rfl:j=k-1:=by omega
  exact hk
 ·exact h j h1
theorem cmp_any(A A':Option Addr)(n c n' c' a b:Nat)(w:World)(h:Num w w.heap.size A n c a)(h':Num w w.heap.size A' n' c' b) :
  Calls Tryz.prog 104 #[.slice A n c,.slice A' n' c'] w (RetVal w (.int .i64 (cmpN a b))):=by
 have hm:=h.room;have hn:=h.cap;have hm':=h'.room;have hn':=h'.cap;unfold maxLen at hm hm';rcases Nat.lt_trichotomy n n' with hlt|heq|hgt
 ·have E:=Jh (val_lt_of_length (limbs_dg a) (dg_last b) (by rw[h.len,h'.len];exact hlt))
  clear h h';go_enter Tryz.func104,Tryz.ntmps104;go_wp2;go_step3
  go_wp2;try rw[Exit.noGoto_ret]
  go_ret;exact⟨ret_int (by have:=E.out;rw[val_dg,val_dg] at this;rw[cmpN_lt this]),Below.refl _ _⟩
 ·subst heq
  have hg:=h.gd_lt;have hg':=h'.gd_lt;have GA:Hid (∀k,gd (dg a) k<4294967296):=hg;have GB:Hid (∀k,gd (dg b) k<4294967296):=hg';clear hg hg';have O:Hid (∀j,n≤j→gd (dg a) j=gd (dg b) j):=fun j hj=>by rw[gd_of_ge (by rw[h.len];exact hj),gd_of_ge (by rw[h'.len];exact hj)]
  have H:=Jh h;have H':=Jh h';clear h h';go_enter Tryz.func104,Tryz.ntmps104;go_wp2;go_step3
  go_wp2;go_step3
  go_wp2;go_loopw [5,6] (fun order i wr=>∃k:Nat,k≤n∧order=.int .i64 0∧i=.int .i64 ((k:Int)-1)∧(∀j,k≤j→gd (dg a) j=gd (dg b) j)∧Below w.heap.size w wr) (fun _ i _=>(intOf i+1).toNat)
  case atStart=>exact⟨n,Nat.le_refl _,rfl,rfl,O.out,Below.refl _ _⟩
  case round=>
   obtain⟨k,hk,rfl,rfl,hall,hb⟩:=hrel;have HALL:=Jh hall;clear hall O;rcases Nat.eq_zero_or_pos k with h0|h0
   ·subst h0
    go_wp2;try rw[Exit.noGoto_ret]
    go_ret;exact⟨ret_int (by rw[cmp_eq_at HALL.out]),hb⟩
   ·obtain⟨b1,o1,rfl,_,hc⟩:=(H.out.below hb).at_ (k:=k-1) (by omega)
    obtain⟨b2,o2,rfl,_,hc'⟩:=(H'.out.below hb).at_ (k:=k-1) (by omega);have ga:=GA.out (k-1);have gb:=GB.out (k-1);have HB:=Jh hb;clear hb;rcases Nat.lt_trichotomy (gd (dg a) (k-1)) (gd (dg b) (k-1)) with hlt|he|hgt
    ·go_wp2
     go_region
     go_wp2;try rw[Exit.noGoto_ret]
     go_ret;exact⟨ret_int (by rw[cmp_lt_at (fun j hj=>HALL.out j (by omega)) hlt]),HB.out.drew⟩
    ·have HE:=Jh he
     have he':¬((gd (dg a) (k-1):Nat):Int)<(gd (dg b) (k-1):Nat):=by omega
     have he'':¬((gd (dg b) (k-1):Nat):Int)<(gd (dg a) (k-1):Nat):=by omega
     clear he;go_wp2;go_region
     go_wp2;go_region
     go_wp2;go_roundw
     case rel=>exact⟨k-1,by omega,rfl,by go_num,all_pred HALL.out HE.out,HB.out.drew.drew⟩
     case measure=>simp[intOf];omega
    ·go_wp2
     go_region
     go_wp2;go_region
     go_wp2;try rw[Exit.noGoto_ret]
     go_ret;exact⟨ret_int (by rw[cmp_gt_at (fun j hj=>HALL.out j (by omega)) hgt]),HB.out.drew.drew⟩
 ·have E:=Jh (val_lt_of_length (limbs_dg b) (dg_last a) (by rw[h.len,h'.len];exact hgt))
  clear h h';go_enter Tryz.func104,Tryz.ntmps104;go_wp2;go_step3
  go_wp2;try rw[Exit.noGoto_ret]
  go_ret;exact⟨ret_int (by have:=E.out;rw[val_dg,val_dg] at this;rw[cmpN_gt this]),Below.refl _ _⟩
theorem same_any(A A':Option Addr)(n c n' c' a b:Nat)(w:World)(h:Num w w.heap.size A n c a)(h':Num w w.heap.size A' n' c' b) :
  Calls Tryz.prog 83 #[.slice A n c,.slice A' n' c'] w (RetVal w (.bool (decide (a=b)))):=by
 have H:=Jh h;have H':=Jh h';clear h h';go_enter Tryz.func83,Tryz.ntmps83;go_wp2_with (go_at_call 104;refine(cmp_any A A' n c n' c' a b _ H.out H'.out).mono ?_;rintro e w' ⟨rfl,hb⟩);go_ret;exact⟨ret_bool (by rw[Bool.eq_iff_iff,decide_eq_true_iff,← cmpN_zero];simp),by assumption⟩
end Go.Proofs.YtpbbolgnnegmlaaGreatDoor.Num
