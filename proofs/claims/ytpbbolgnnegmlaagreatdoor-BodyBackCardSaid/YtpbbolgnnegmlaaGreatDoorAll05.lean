/- Lemmas of the proof: NatD, NatE, MulA, NatG, NatH, MulB, MulC, DigMath, DecMath, TxtMath, MulD, NatI. -/
import Derived.Test.YtpbbolgnnegmlaaGreatDoorAll04
import Derived.Laws.CopyOwn
import Derived.Test.YtpbbolgnnegmlaaGreatDoorAll00
set_option linter.unusedVariables false
set_option linter.unusedSimpArgs false
set_option maxRecDepth 100000
set_option maxHeartbeats 32000000
open Go.Lib renaming hid→Jh
namespace Go.Proofs.YtpbbolgnnegmlaaGreatDoor.Num
open Go.RowKit
def Own(w:World)(g:Nat)(zs:List Nat):Prop:=w.heap[g]?=some (.cells (vals zs).toArray 163 (0,0))
theorem Own.cell{w:World}{g:Nat}{zs:List Nat}(h:Own w g zs){i:Nat}(hi:i<zs.length):w.cell? ⟨g,i,none⟩=some (.int .u32 (gd zs i:Nat)):=by
 rw[cell_of_row w g i _ _ (0,0) h];simpa using vals_get hi
theorem Own.frozen{w:World}{g:Nat}{zs:List Nat}(h:Own w g zs)(i:Nat):w.frozen? ⟨g,i,none⟩=false:=frozen_of_row w g i _ _ h
theorem Own.lt{w:World}{g:Nat}{zs:List Nat}(h:Own w g zs):g<w.heap.size:=by
 rcases Nat.lt_or_ge g w.heap.size with hlt|hge
 ·exact hlt
 ·unfold Own at h;rw[Array.getElem?_eq_none hge] at h;cases h
theorem Own.store{w:World}{g:Nat}{zs:List Nat}(h:Own w g zs)(i:Nat)(x:Nat)(v:Int)(hv:v=x):Own (w.setCell ⟨g,i,none⟩ (.int .u32 v)) g (zs.set i x):=by
 subst hv;unfold Own at h ⊢;rw[heap_setCell_same w g i _ _ _ h,vals_set];simp
theorem Own.lim{w:World}{g:Nat}{zs:List Nat}(h:Own w g zs)(hz:limbs zs)(hl:zs.length≤1000000000000):Lim w w.heap.size (some ⟨g,0,none⟩) zs.length zs.length zs:=by
 refine⟨rfl,Nat.le_refl _,by unfold maxLen;omega,fun x hx=>by have:=hz x hx;omega,.inr ⟨g,0,rfl,h.lt,fun j u hu=>?_⟩,fun h=>by cases h⟩;rw[cell_of_row w g (0+j) _ _ (0,0) h,Nat.zero_add];simpa using hu
theorem Own.drew{w:World}{g:Nat}{zs:List Nat}(h:Own w g zs):Own w.drew g zs:=h
theorem Own.of_made{w:World}{base n:Nat}(h:w.ownsRow base 163 1 (.slice (some ⟨base,0,none⟩) n n) n (madeCells (Value.int .u32 0).cells (n*1)).toList):Own w base (List.replicate n 0):=by
 have e:(madeCells (Value.int .u32 0).cells (n*1)).toList=vals (List.replicate n 0):=by
  rw[Nat.mul_one];show(madeCells #[Value.int .u32 0] n).toList=_;rw[toList_madeCells_one];simp[vals]
 rw[e] at h;rcases h.2 with⟨h1,_⟩|⟨g,cap,cur,hv,_,hh,_,_,hsz,htk⟩
 ·cases h1
 ·injection hv with h1 h2 h3
  injection h1 with h1
  injection h1 with h1
  subst h1;subst h3;unfold Own;rw[hh,← htk,List.take_of_length_le (by simp;omega)]
theorem splice_vals(n:Nat)(xs:List Nat)(_h:xs.length≤n):splice (vals (List.replicate n 0)) 0 (vals xs)=vals (xs++List.replicate (n-xs.length) 0):=by
 simp[splice,vals,List.map_append,List.drop_replicate]
theorem add_step{zs ys:List Nat}{i v cy cy' T:Nat}(h:val zs+cy*1000000000^i+1000000000^i*val (ys.drop i)=T)(hi:i<zs.length)(hv:gd zs i+gd ys i+cy=v+cy'*1000000000) :
  val (zs.set i v)+cy'*1000000000^(i+1)+1000000000^(i+1)*val (ys.drop (i+1))=T:=by
 have e1:=val_set zs i v hi;have e2:=val_drop ys i;generalize hP:1000000000^i=P at *;have e3:P*(gd zs i+gd ys i+cy)=P*(v+cy'*1000000000):=by rw[hv]
 rw[Nat.pow_succ,hP];rw[e2] at h;have e4:P*(cy'*1000000000)=cy'*(P*1000000000):=by rw[Nat.mul_left_comm]
 have e5:P*(1000000000*val (ys.drop (i+1)))=P*1000000000*val (ys.drop (i+1)):=by rw[Nat.mul_assoc]
 rw[Nat.mul_add,e5] at h;rw[Nat.mul_add,Nat.mul_add,Nat.mul_add,e4] at e3;rw[Nat.mul_comm cy P] at h;omega
theorem add_end{zs ys:List Nat}{i cy a b n:Nat}(h:val zs+cy*1000000000^i+1000000000^i*val (ys.drop i)=a+b)(hz:limbs zs)(hlen:zs.length=n+1)(hi:i=n+1)(hy:ys.length≤n)(ha:a<1000000000^n)(hb:b<1000000000^n):val zs=a+b:=by
 have hl:=hlen;subst hi;rw[List.drop_of_length_le (by omega),val,Nat.mul_zero] at h;have:=val_lt hz;rw[hl] at this;rw[Nat.pow_succ] at h this;rcases Nat.eq_zero_or_pos cy with h0|h0
 ·subst h0;omega
 ·have:1*(1000000000^n*1000000000)≤cy*(1000000000^n*1000000000):=Nat.mul_le_mul_right _ h0
  omega
theorem add_break{zs ys:List Nat}{i T:Nat}(h:val zs+0*1000000000^i+1000000000^i*val (ys.drop i)=T)(hy:ys.length≤i):val zs=T:=by
 rw[List.drop_of_length_le hy,val,Nat.mul_zero,Nat.zero_mul] at h;omega
theorem pow_of_len{a n m:Nat}(h:(dg a).length=n)(hm:n≤m):a<1000000000^m:=
 Nat.lt_of_lt_of_le (by have:=lt_pow_dg a;rwa [h] at this) (Nat.pow_le_pow_right (by omega) hm)
theorem lim_src{w:World}{B n c:Nat}{A:Option Addr}{xs:List Nat}(h:Lim w B A n c xs)(hp:0<(vals xs).length):∃ad,A=some ad∧∀j v,(vals xs)[j]?=some v→w.cell? (ad.add j)=some v:=by
 rcases h.row with h0|⟨b,o,rfl,_,hc⟩
 ·rw[h0] at hp;simp at hp
 ·exact⟨_,rfl,fun j v hv=>by rw[Addr.add_lit];exact hc j v hv⟩
theorem copy_len{w:World}{B n c k:Nat}{A:Option Addr}{xs:List Nat}(h:Lim w B A n c xs)(hk:n≤k):(vals xs).length=Nat.min n k∧0+(vals xs).length≤(vals (List.replicate k 0)).length:=by
 rw[vals_len,vals_len,h.len,List.length_replicate];exact⟨(Nat.min_eq_left hk).symm,by omega⟩
theorem own_copied{w w':World}{B g n c k:Nat}{A:Option Addr}{xs:List Nat}(h:Lim w B A n c xs)(hk:n≤k)(hg:Hid (w'.heap[g]?=some (.cells (splice (vals (List.replicate k 0)) 0 (vals xs)).toArray 163 (0,0)))):Own w' g (xs++List.replicate (k-n) 0):=by
 have:=hg.out;rw[splice_vals k xs (by rw[h.len];exact hk),h.len] at this;exact this
theorem info_one:(Tryz.prog.info? 163).map (·.size)=some 1:=by kernel_rfl
theorem add_both(A A':Option Addr)(n c n' c' a b:Nat)(w:World)(h:Num w w.heap.size A n c a)(h':Num w w.heap.size A' n' c' b)(hn:n≤1000000000)(args:Array Value)
  (hargs:(args=#[.slice A n c,.slice A' n' c']∧n'≤n)∨(args=#[.slice A' n' c',.slice A n c]∧n'<n)) :
  Calls Tryz.prog 167 args w (RetNum w (a+b)):=by
 obtain⟨i0,hi,hz0,hz1,hz2⟩:=info_parts info_limb;have PA:=Jh (pow_of_len h.len (Nat.le_refl _));have H:=Jh h;have H':=Jh h';rcases hargs with⟨rfl,hle⟩|⟨rfl,hle⟩
 all_goals
  have PB:=Jh (pow_of_len h'.len (show n'≤n by omega));clear h h';go_enter Tryz.func167,Tryz.ntmps167;go_wp2;go_step3
  go_wp2_with (first|(at_make;go_must (refine wpList_make_full _ rfl _ _ 34 rfl w.heap.size 163 i0 (.int .u32 0) 1 Tryz.underlying34 hi hz0 hz1 _ _ _ _ (n+1) rfl rfl (by omega) (by omega) (by rw[hz2];omega) (by unfold maxLen;omega) (Nat.le_refl _) ?_;intro w1 hown1 hgr1;have M1:Hid (Own w1 w.heap.size (List.replicate (n+1) 0)):=Own.of_made hown1;have HB1:Hid (Below w.heap.size w w1):=(Below.refl _ _).grown hgr1 (Nat.le_refl _) (fun k hk=>by cases hk);clear hown1 hgr1))|((with_reducible show wpList _ _ _ (⟨some 21,_,_,_,_,_⟩::_) _ _);go_must (refine wpList_copy_splice rfl (.tmp 19) (.tmp 20) 34 34 rfl 163 Tryz.underlying34 info_one _ _ _ _ _ _ rfl rfl w.heap.size 0 (vals (List.replicate (n+1) 0)) 163 M1.out (vals (dg a)) (copy_len H.out (show n≤n+1 by omega)).1 (fun hp=>⟨rfl,lim_src (H.out.below HB1.out) hp⟩) (copy_len H.out (show n≤n+1 by omega)).2 (vals_one _) w.heap.size w HB1.out (Nat.le_refl _) ?_;intro w2 hg2 hb2;have O2:=Jh (own_copied H.out (show n≤n+1 by omega) hg2);have HB2:=Jh hb2;clear hg2 hb2)));go_step3
  go_wp2;have e0:val (dg a++List.replicate (n+1-n) 0)=a:=by rw[val_append,val_zeros,val_dg,Nat.mul_zero,Nat.add_zero]
  have hz0:limbs (dg a++List.replicate (n+1-n) 0):=limbs_append.2 ⟨limbs_dg a,fun x hx=>by rw[(List.mem_replicate.1 hx).2];omega⟩;have hl0:(dg a++List.replicate (n+1-n) 0).length=n+1:=by rw[List.length_append,List.length_replicate,H.out.len];omega
  have E0:=Jh e0;have Z0:=Jh hz0;have L0:=Jh hl0;clear e0 hz0 hl0;go_loopw [6,24] (fun cv iv wr=>∃(i cy:Nat) (zs:List Nat),i≤n+1∧iv=.int .i64 i∧cv=.int .u32 cy∧cy≤1∧zs.length=n+1∧limbs zs∧val zs+cy*1000000000^i+1000000000^i*val ((dg b).drop i)=a+b∧Own wr w.heap.size zs∧Below w.heap.size w wr) (fun _ iv _=>n+1-(intOf iv).toNat)
  case atStart=>
   exact⟨0,0,_,Nat.zero_le _,rfl,rfl,Nat.zero_le _,L0.out,Z0.out,by rw[E0.out,List.drop_zero,val_dg];omega,O2.out,HB2.out⟩
  case round=>
   obtain⟨i,cy,zs,hi1,rfl,rfl,hcy,hlen,hlim,hval,hown,hb⟩:=hrel;clear O2 E0 Z0 L0 M1 HB1 HB2;have OW:=Jh hown;have HL:=Jh hlim;have HV:=Jh hval;have HB:=Jh hb;have LN:=Jh hlen;clear hown hlim hval hb hlen;rcases Nat.lt_or_ge i (n+1) with hin|hin
   ·have hcell:=OW.out.cell (i:=i) (by rw[LN.out];exact hin)
    have hfr:=OW.out.frozen i;have hz:=gd_lt HL.out i;rcases Nat.lt_or_ge i n' with him|him
    ·obtain⟨b2,o2,rfl,_,hc2⟩:=(H'.out.below HB.out).at_ him
     have hy:=gd_lt (limbs_dg b) i;rcases Nat.lt_or_ge (gd zs i+gd (dg b) i+cy) 1000000000 with hs|hs
     ·have HS:=Jh hs
      have hd:decide ((1000000000:Int)≤(gd zs i:Nat)+((gd (dg b) i:Nat)+(cy:Nat)))=false:=by rw[decide_eq_false_iff_not];omega
      clear hs;go_wp2;go_region
      go_wp2;go_roundw
      case rel=>
       have hv:((gd zs i:Nat):Int)+((gd (dg b) i:Nat)+(cy:Nat))=((gd zs i+gd (dg b) i+cy:Nat):Int):=by omega
       exact⟨i+1,0,zs.set i (gd zs i+gd (dg b) i+cy),by omega,by go_num,rfl,Nat.zero_le _,by rw[List.length_set];exact LN.out,limbs_set HL.out i HS.out,add_step HV.out (by rw[LN.out];exact hin) (by omega),(OW.out.store i _ _ hv).drew,(HB.out.setCell (Nat.le_refl _) _).drew⟩
      case measure=>simp[intOf];omega
     ·have HS:=Jh hs
      have hd:decide ((1000000000:Int)≤(gd zs i:Nat)+((gd (dg b) i:Nat)+(cy:Nat)))=true:=by rw[decide_eq_true_iff];omega
      clear hs;go_wp2;go_region
      go_wp2;go_roundw
      case rel=>
       have hv:((gd zs i:Nat):Int)+((gd (dg b) i:Nat)+(cy:Nat))=((gd zs i+gd (dg b) i+cy:Nat):Int):=by omega
       have hv2:(((gd zs i:Nat):Int)+((gd (dg b) i:Nat)+(cy:Nat))-1000000000)%4294967296=((gd zs i+gd (dg b) i+cy-1000000000:Nat):Int):=by have:=HS.out;omega
       have h2:=(OW.out.store i _ _ hv).store i _ _ hv2;rw[List.set_set] at h2;exact⟨i+1,1,zs.set i (gd zs i+gd (dg b) i+cy-1000000000),by omega,by go_num,rfl,Nat.le_refl _,by rw[List.length_set];exact LN.out,limbs_set HL.out i (by omega),add_step HV.out (by rw[LN.out];exact hin) (by have:=HS.out;omega),h2.drew,((HB.out.setCell (Nat.le_refl _) _).setCell (Nat.le_refl _) _).drew⟩
      case measure=>simp[intOf];omega
    ·have hyz:gd (dg b) i=0:=gd_of_ge (by rw[H'.out.len];exact him)
     have HY:=Jh hyz;clear hyz;rcases Nat.eq_zero_or_pos cy with h0|h0
     ·subst h0
      have LZ:=OW.out.lim HL.out (by rw[LN.out];omega);rw[LN.out] at LZ;have HLZ:=Jh LZ;clear LZ;have eab:=add_break HV.out (show(dg b).length≤i by rw[H'.out.len];exact him);have EAB:=Jh eab;clear eab;go_wp2_with (go_at_call 122;refine(cut_any _ _ _ _ _ _ HLZ.out HL.out).mono ?_;rintro e w' ⟨⟨A2,n2,c2,rfl,hn2,h2⟩,rfl⟩;have H2:=Jh h2;clear h2);try rw[Exit.noGoto_ret]
      go_ret;exact⟨_,_,_,rfl,by rw[← EAB.out];exact H2.out,HB.out⟩
     ·obtain rfl:cy=1:=by omega
      rcases Nat.lt_or_ge (gd zs i+1) 1000000000 with hs|hs
      ·have HS:=Jh hs
       have hd:decide ((1000000000:Int)≤(gd zs i:Nat)+1)=false:=by rw[decide_eq_false_iff_not];omega
       clear hs;go_wp2;go_roundw
       case rel=>
        have hv:((gd zs i:Nat):Int)+1=((gd zs i+1:Nat):Int):=by omega
        exact⟨i+1,0,zs.set i (gd zs i+1),by omega,by go_num,rfl,Nat.zero_le _,by rw[List.length_set];exact LN.out,limbs_set HL.out i HS.out,add_step HV.out (by rw[LN.out];exact hin) (by have:=HY.out;omega),OW.out.store i _ _ hv,HB.out.setCell (Nat.le_refl _) _⟩
       case measure=>simp[intOf];omega
      ·have HS:=Jh hs
       have hd:decide ((1000000000:Int)≤(gd zs i:Nat)+1)=true:=by rw[decide_eq_true_iff];omega
       clear hs;go_wp2;go_roundw
       case rel=>
        have hv:((gd zs i:Nat):Int)+1=((gd zs i+1:Nat):Int):=by omega
        have hv2:(((gd zs i:Nat):Int)+1-1000000000)%4294967296=((gd zs i+1-1000000000:Nat):Int):=by have:=HS.out;omega
        have h2:=(OW.out.store i _ _ hv).store i _ _ hv2;rw[List.set_set] at h2;exact⟨i+1,1,zs.set i (gd zs i+1-1000000000),by omega,by go_num,rfl,Nat.le_refl _,by rw[List.length_set];exact LN.out,limbs_set HL.out i (by omega),add_step HV.out (by rw[LN.out];exact hin) (by have:=HS.out;have:=HY.out;omega),h2,(HB.out.setCell (Nat.le_refl _) _).setCell (Nat.le_refl _) _⟩
       case measure=>simp[intOf];omega
   ·obtain rfl:i=n+1:=by omega
    have LZ:=OW.out.lim HL.out (by rw[LN.out];omega);rw[LN.out] at LZ;have HLZ:=Jh LZ;clear LZ;have eab:=add_end HV.out HL.out LN.out rfl (by rw[H'.out.len];omega) PA.out PB.out;have EAB:=Jh eab;clear eab;go_wp2_with (go_at_call 122;refine(cut_any _ _ _ _ _ _ HLZ.out HL.out).mono ?_;rintro e w' ⟨⟨A2,n2,c2,rfl,hn2,h2⟩,rfl⟩;have H2:=Jh h2;clear h2);try rw[Exit.noGoto_ret]
    go_ret;exact⟨_,_,_,rfl,by rw[← EAB.out];exact H2.out,HB.out⟩
theorem add_any(A A':Option Addr)(n c n' c' a b:Nat)(w:World)(h:Num w w.heap.size A n c a)(h':Num w w.heap.size A' n' c' b)(hn:n≤1000000000)(hn':n'≤1000000000) :
  Calls Tryz.prog 167 #[.slice A n c,.slice A' n' c'] w (RetNum w (a+b)):=by
 rcases Nat.lt_or_ge n n' with hlt|hge
 ·rw[Nat.add_comm]
  exact add_both A' A n' c' n c b a w h' h hn' _ (.inr ⟨rfl,hlt⟩)
 ·exact add_both A A' n c n' c' a b w h h' hn _ (.inl ⟨rfl,hge⟩)
def RetSub(W:World)(m:Nat)(e:Ending)(w':World):Prop:=
 ∃A n c,e=.returned (.tuple #[.slice A n c,.int .i64 0])∧Num w' w'.heap.size A n c m∧Below W.heap.size W w'
theorem sub_ge(A A':Option Addr)(n c n' c' a b:Nat)(w:World)(h:Num w w.heap.size A n c a)(h':Num w w.heap.size A' n' c' b)(hn:n≤1000000000)(hab:b≤a) :
  Calls Tryz.prog 168 #[.slice A n c,.slice A' n' c'] w (RetSub w (a-b)):=by
 obtain⟨i0,hi,hz0,hz1,hz2⟩:=info_parts info_limb;have HAB:=Jh hab;have hnn:n'≤n:=by have:=dg_len_mono hab;rw[h.len,h'.len] at this;exact this
 have H:=Jh h;have H':=Jh h';have C:=cmp_any A A' n c n' c' a b w h h';have hc:0≤cmpN a b:=by
  rcases Int.lt_or_le (cmpN a b) 0 with h1|h1
  ·rw[cmpN_neg] at h1;omega
  ·exact h1
 clear h h' hab;have CC:=Jh C;clear C;generalize cmpN a b=s at *;go_enter Tryz.func168,Tryz.ntmps168;go_wp2;go_step3
 go_wp2_with (first|(go_at_call 104;refine CC.out.mono ?_;rintro e w1 ⟨rfl,hb1⟩;have HB1:=Jh hb1;clear hb1)|(at_make;go_must (refine wpList_make_full _ rfl _ _ 34 rfl w1.heap.size 163 i0 (.int .u32 0) 1 Tryz.underlying34 hi hz0 hz1 _ _ _ _ n rfl rfl (by omega) (by omega) (by rw[hz2];omega) (by unfold maxLen;omega) (Nat.le_refl _) ?_;intro w2 hown1 hgr1;have M1:Hid (Own w2 w1.heap.size (List.replicate n 0)):=Own.of_made hown1;have HB2:Hid (Below w.heap.size w w2):=HB1.out.grown hgr1 HB1.out.size (fun k hk=>by cases hk);clear hown1 hgr1))|((with_reducible show wpList _ _ _ (⟨some 19,_,_,_,_,_⟩::_) _ _);go_must (refine wpList_copy_splice rfl (.tmp 17) (.tmp 18) 34 34 rfl 163 Tryz.underlying34 info_one _ _ _ _ _ _ rfl rfl w1.heap.size 0 (vals (List.replicate n 0)) 163 M1.out (vals (dg a)) (copy_len H.out (Nat.le_refl n)).1 (fun hp=>⟨rfl,lim_src (H.out.below HB2.out) hp⟩) (copy_len H.out (Nat.le_refl n)).2 (vals_one _) w.heap.size w HB2.out HB1.out.size ?_;intro w3 hg2 hb2;have O2:=Jh (own_copied H.out (Nat.le_refl n) hg2);have HB3:=Jh hb2;clear hg2 hb2)));go_step3
 go_wp2;have SZ:=HB1.out.size;have e0:val (dg a++List.replicate (n-n) 0)=a:=by rw[val_append,val_zeros,val_dg,Nat.mul_zero,Nat.add_zero]
 have hz0:limbs (dg a++List.replicate (n-n) 0):=limbs_append.2 ⟨limbs_dg a,fun x hx=>by rw[(List.mem_replicate.1 hx).2];omega⟩;have hl0:(dg a++List.replicate (n-n) 0).length=n:=by rw[List.length_append,List.length_replicate,H.out.len];omega
 have E0:=Jh e0;have Z0:=Jh hz0;have L0:=Jh hl0;clear e0 hz0 hl0 hc;go_loopw [7,22] (fun cv iv wr=>∃(i bw:Nat) (zs:List Nat),i≤n∧iv=.int .i64 i∧cv=.int .u32 bw∧bw≤1∧zs.length=n∧limbs zs∧val zs+b=a+bw*1000000000^i+1000000000^i*val ((dg b).drop i)∧Own wr w1.heap.size zs∧Below w.heap.size w wr) (fun _ iv _=>n-(intOf iv).toNat)
 case atStart=>
  exact⟨0,0,_,Nat.zero_le _,rfl,rfl,Nat.zero_le _,L0.out,Z0.out,by rw[E0.out,List.drop_zero,val_dg];omega,O2.out,HB3.out⟩
 case round=>
  obtain⟨i,bw,zs,hi1,rfl,rfl,hbw,hlen,hlim,hval,hown,hb⟩:=hrel;clear O2 E0 Z0 L0 M1 HB2 HB3;have OW:=Jh hown;have HL:=Jh hlim;have HV:=Jh hval;have HB:=Jh hb;have LN:=Jh hlen;clear hown hlim hval hb hlen;rcases Nat.lt_or_ge i n with hin|hin
  ·have hcell:=OW.out.cell (i:=i) (by rw[LN.out];exact hin)
   have hfr:=OW.out.frozen i;have hz:=gd_lt HL.out i;rcases Nat.lt_or_ge i n' with him|him
   ·obtain⟨b2,o2,rfl,_,hc2⟩:=(H'.out.below HB.out).at_ him
    have hy:=gd_lt (limbs_dg b) i;rcases Nat.lt_or_ge (gd zs i) (bw+gd (dg b) i) with hs|hs
    ·have HS:=Jh hs
     have hd:decide (((gd zs i:Nat):Int)<(bw:Nat)+(gd (dg b) i:Nat))=true:=by rw[decide_eq_true_iff];omega
     clear hs;go_wp2;go_roundw
     case rel=>
      have hv:((gd zs i:Nat):Int)+1000000000=((gd zs i+1000000000:Nat):Int):=by omega
      have hv2:((gd zs i:Nat):Int)+1000000000-((bw:Nat)+(gd (dg b) i:Nat))=((gd zs i+1000000000-(bw+gd (dg b) i):Nat):Int):=by omega
      have h2:=(OW.out.store i _ _ hv).store i _ _ hv2;rw[List.set_set] at h2;exact⟨i+1,1,zs.set i (gd zs i+1000000000-(bw+gd (dg b) i)),by omega,by go_num,rfl,Nat.le_refl _,by rw[List.length_set];exact LN.out,limbs_set HL.out i (by have:=HS.out;omega),sub_step HV.out (by rw[LN.out];exact hin) (by omega),h2,(HB.out.setCell SZ _).setCell SZ _⟩
     case measure=>simp[intOf];omega
    ·have HS:=Jh hs
     have hd:decide (((gd zs i:Nat):Int)<(bw:Nat)+(gd (dg b) i:Nat))=false:=by rw[decide_eq_false_iff_not];omega
     clear hs;go_wp2;go_roundw
     case rel=>
      have hv2:(((gd zs i:Nat):Int)-((bw:Nat)+(gd (dg b) i:Nat)))%4294967296=((gd zs i-(bw+gd (dg b) i):Nat):Int):=by have:=HS.out;omega
      exact⟨i+1,0,zs.set i (gd zs i-(bw+gd (dg b) i)),by omega,by go_num,rfl,Nat.zero_le _,by rw[List.length_set];exact LN.out,limbs_set HL.out i (by omega),sub_step HV.out (by rw[LN.out];exact hin) (by have:=HS.out;omega),OW.out.store i _ _ hv2,HB.out.setCell SZ _⟩
     case measure=>simp[intOf];omega
   ·have hyz:gd (dg b) i=0:=gd_of_ge (by rw[H'.out.len];exact him)
    have HY:=Jh hyz;clear hyz;rcases Nat.eq_zero_or_pos bw with h0|h0
    ·subst h0
     have LZ:=OW.out.lim HL.out (by rw[LN.out];omega);rw[LN.out] at LZ;have HLZ:=Jh LZ;clear LZ;have eab:=sub_break HV.out (show(dg b).length≤i by rw[H'.out.len];exact him);have EAB:=Jh eab;clear eab;go_wp2_with (go_at_call 122;refine(cut_any _ _ _ _ _ _ HLZ.out HL.out).mono ?_;rintro e w' ⟨⟨A2,n2,c2,rfl,hn2,h2⟩,rfl⟩;have H2:=Jh h2;clear h2);try rw[Exit.noGoto_ret]
     go_ret2
     exact⟨_,_,_,rfl,by rw[← EAB.out];exact H2.out,HB.out⟩
    ·obtain rfl:bw=1:=by omega
     rcases Nat.lt_or_ge (gd zs i) 1 with hs|hs
     ·have HS:=Jh hs
      have hd:decide (((gd zs i:Nat):Int)<1)=true:=by rw[decide_eq_true_iff];omega
      clear hs;go_wp2;go_roundw
      case rel=>
       have hv:((gd zs i:Nat):Int)+1000000000=((gd zs i+1000000000:Nat):Int):=by omega
       have hv2:((gd zs i:Nat):Int)+1000000000-1=((gd zs i+1000000000-1:Nat):Int):=by omega
       have h2:=(OW.out.store i _ _ hv).store i _ _ hv2;rw[List.set_set] at h2;exact⟨i+1,1,zs.set i (gd zs i+1000000000-1),by omega,by go_num,rfl,Nat.le_refl _,by rw[List.length_set];exact LN.out,limbs_set HL.out i (by have:=HS.out;omega),sub_step HV.out (by rw[LN.out];exact hin) (by have:=HY.out;omega),h2,(HB.out.setCell SZ _).setCell SZ _⟩
      case measure=>simp[intOf];omega
     ·have HS:=Jh hs
      have hd:decide (((gd zs i:Nat):Int)<1)=false:=by rw[decide_eq_false_iff_not];omega
      clear hs;go_wp2;go_roundw
      case rel=>
       have hv2:(((gd zs i:Nat):Int)-1)%4294967296=((gd zs i-1:Nat):Int):=by have:=HS.out;omega
       exact⟨i+1,0,zs.set i (gd zs i-1),by omega,by go_num,rfl,Nat.zero_le _,by rw[List.length_set];exact LN.out,limbs_set HL.out i (by omega),sub_step HV.out (by rw[LN.out];exact hin) (by have:=HS.out;have:=HY.out;omega),OW.out.store i _ _ hv2,HB.out.setCell SZ _⟩
      case measure=>simp[intOf];omega
  ·obtain rfl:i=n:=by omega
   have LZ:=OW.out.lim HL.out (by rw[LN.out];omega);rw[LN.out] at LZ;have HLZ:=Jh LZ;clear LZ;have eab:=sub_end HV.out HL.out LN.out rfl (by rw[H'.out.len];omega) HAB.out;have EAB:=Jh eab;clear eab;go_wp2_with (go_at_call 122;refine(cut_any _ _ _ _ _ _ HLZ.out HL.out).mono ?_;rintro e w' ⟨⟨A2,n2,c2,rfl,hn2,h2⟩,rfl⟩;have H2:=Jh h2;clear h2);try rw[Exit.noGoto_ret]
   go_ret2
   exact⟨_,_,_,rfl,by rw[← EAB.out];exact H2.out,HB.out⟩
structure Kept (g:Nat) (w w':World):Prop where
 os:w'.os=w.os
 tape:w'.tape=w.tape
 output:w'.output=w.output
 size:w'.heap.size=w.heap.size
 block:∀k,k≠g→w'.heap[k]?=w.heap[k]?
theorem Kept.refl(g:Nat)(w:World):Kept g w w:=⟨rfl,rfl,rfl,rfl,fun _ _=>rfl⟩
theorem Kept.trans{g:Nat}{a b c:World}(h:Kept g a b)(k:Kept g b c):Kept g a c:=
 ⟨k.os.trans h.os,k.tape.trans h.tape,k.output.trans h.output,k.size.trans h.size,fun i hi=>(k.block i hi).trans (h.block i hi)⟩
theorem Kept.drew{g:Nat}{a w:World}(h:Kept g a w):Kept g a w.drew:=⟨h.os,h.tape,h.output,h.size,h.block⟩
theorem Kept.setCell{g:Nat}{a w:World}(h:Kept g a w)(o:Nat)(u:Value):Kept g a (w.setCell ⟨g,o,none⟩ u):=
 h.trans ⟨rfl,rfl,rfl,by simp[World.setCell],fun k hk=>Below.heap_setCell _ _ _ _ hk⟩
theorem Kept.below{g B:Nat}{a w:World}(h:Kept g a w)(hB:B≤g):Below B a w:=⟨h.os,h.tape,h.output,Nat.le_of_eq h.size.symm,fun k hk=>h.block k (by omega)⟩
theorem Kept.cell{g:Nat}{w w':World}(h:Kept g w w'){p:Addr}(hp:p.block≠g):w'.cell? p=w.cell? p:=World.cell?_of_block (w:=w) (h.block p.block hp)
def Off(g:Nat)(A:Option Addr):Prop:=∀ad,A=some ad→ad.block≠g
theorem Lim.off{w:World}{B n c g:Nat}{A:Option Addr}{xs:List Nat}(h:Lim w B A n c xs)(hB:B≤g)(hn:0<n):Off g A:=by
 intro ad hA;obtain⟨b,o,he,hb,_⟩:=h.at_ hn;rw[hA] at he;injection he with he
 subst he;show b≠g;omega
theorem Lim.kept{w w':World}{B n c g:Nat}{A:Option Addr}{xs:List Nat}(h:Lim w B A n c xs)(ho:0<n→Off g A)(k:Kept g w w'):Lim w' B A n c xs:=by
 refine⟨h.len,h.cap,h.room,h.fit,?_,h.addr⟩;rcases Nat.eq_zero_or_pos n with h0|h0
 ·subst h0;left;rw[List.eq_nil_of_length_eq_zero h.len];rfl
 replace ho:=ho h0;rcases h.row with h0|⟨b,o,rfl,hb,hc⟩
 ·exact .inl h0
 ·exact .inr ⟨b,o,rfl,hb,fun j u hu=>(k.cell (p:=⟨b,o+j,none⟩) (ho ⟨b,o,none⟩ rfl)).trans (hc j u hu)⟩
def cutV(A:Option Addr)(n:Nat):Value:=if n=0 then .slice none 0 0 else .slice A n n
theorem cutV_lim{A:Option Addr}{n c B:Nat}{xs:List Nat}{w:World}(h:Lim w B A n c xs)(hx:limbs xs):∃A' n' c',cutV A (dg (val xs)).length=.slice A' n' c'∧n'≤n∧(A'=none∨A'=A)∧Lim w B A' n' c' (dg (val xs)):=by
 have hlen:(dg (val xs)).length≤n:=by
  have:=dg_len_le (val_lt hx);rwa [h.len] at this
 unfold cutV;by_cases h0:(dg (val xs)).length=0
 ·rw[if_pos h0,List.eq_nil_of_length_eq_zero h0]
  exact⟨none,0,0,rfl,Nat.zero_le _,.inl rfl,Lim.nil⟩
 ·rw[if_neg h0]
  have e:dg (val xs)=xs.take (dg (val xs)).length:=by
   have hz:∀j,(dg (val xs)).length≤j→gd xs j=0:=by
    intro j hj;have e:=val_take_drop xs (dg (val xs)).length (by rw[h.len];exact hlen);have hd:val (xs.drop (dg (val xs)).length)=0:=by
     rcases Nat.eq_zero_or_pos (val (xs.drop (dg (val xs)).length)) with h1|h1
     ·exact h1
     ·have h2:=lt_pow_dg (val xs)
      have h3:1000000000^(dg (val xs)).length*1≤1000000000^(dg (val xs)).length*val (xs.drop (dg (val xs)).length):=Nat.mul_le_mul_left _ h1;generalize 1000000000^(dg (val xs)).length=P at *;omega
    have:∀k ys,val ys=0→gd ys k=0:=by
     intro k;induction k with
     | zero=>intro ys hy;have:=val_drop ys 0;rw[List.drop_zero] at this;omega
     | succ k ih=>
      intro ys hy;have:=val_drop ys 0;rw[List.drop_zero,Nat.zero_add] at this;have:=ih (ys.drop 1) (by omega);rwa [gd_drop,Nat.add_comm 1 k] at this
    have h4:=this (j-(dg (val xs)).length) _ hd;rwa [gd_drop,Nat.add_sub_cancel' hj] at h4
   refine dg_cut hx hz (.inr ?_) (by rw[h.len];exact hlen);intro hl;have e1:=val_take_drop xs ((dg (val xs)).length-1) (by rw[h.len];omega);have hz2:val (xs.drop ((dg (val xs)).length-1))=0:=by
    have:∀k i,xs.length-i=k→(dg (val xs)).length-1≤i→val (xs.drop i)=0:=by
     intro k;induction k with
     | zero=>intro i hk _;rw[List.drop_of_length_le (by omega)];rfl
     | succ k ih=>
      intro i hk hi;rw[val_drop,ih (i+1) (by omega) (by omega)];rcases Nat.eq_or_lt_of_le hi with h5|h5
      ·rw[← h5,hl]
      ·rw[hz i (by omega)]
    exact this _ _ rfl (Nat.le_refl _)
   rw[hz2,Nat.mul_zero,Nat.add_zero] at e1;have h6:=val_lt (limbs_take hx ((dg (val xs)).length-1));rw[← e1,List.length_take,h.len,Nat.min_eq_left (by omega)] at h6;have:=dg_len_le h6;omega
  have ht:=h.take hlen;rw[← e] at ht;exact⟨A,_,_,rfl,hlen,.inr rfl,⟨ht.len,Nat.le_refl _,Nat.le_trans ht.cap ht.room,ht.fit,ht.row,fun hA=>by have:=ht.addr hA;have:=ht.cap;omega⟩⟩
theorem cut_len{xs:List Nat}{n:Nat}(hx:limbs xs)(hz:∀j,n≤j→gd xs j=0)(hn:n=0∨gd xs (n-1)≠0)(hle:n≤xs.length):(dg (val xs)).length=n:=by
 rw[dg_cut hx hz hn hle,List.length_take];omega
theorem mcut_q(A:Option Addr)(n c B:Nat)(xs:List Nat)(w:World)(h:Lim w B A n c xs)(hx:limbs xs) :
  Calls Tryz.prog 181 #[.slice A n c] w fun e w'=>e=.returned (cutV A (dg (val xs)).length)∧w'=w:=by
 have hm:=h.room;have hn:=h.cap;unfold maxLen at hm;have Z:Hid (∀j,n≤j→gd xs j=0):=fun j hj=>gd_of_ge (by rw[h.len];exact hj)
 go_enter Tryz.func181,Tryz.ntmps181;go_wp2;go_loop [3] (fun i=>∃k:Nat,k≤n∧i=.int .i64 k∧∀j,k≤j→gd xs j=0) (fun i=>(intOf i).toNat)
 case atStart=>exact⟨n,Nat.le_refl _,rfl,Z.out⟩
 case round=>
  obtain⟨k,hk,rfl,hall⟩:=hrel;have HALL:=Jh hall;have H:=Jh h;have hg:=h.gd_lt (k-1);clear hall Z;rcases Nat.eq_zero_or_pos k with h0|h0
  ·subst h0
   clear h hg;go_wp2;go_ret;exact⟨by rw[cut_len hx HALL.out (.inl rfl) (Nat.zero_le _)];rfl,rfl⟩
  ·obtain⟨b,o,rfl,_,hc⟩:=h.at_ (show k-1<n by omega)
   clear h;by_cases hz:gd xs (k-1)=0
   ·go_wp2
    go_round
    case rel=>
     refine⟨k-1,by omega,by go_num,fun j hj=>?_⟩;rcases Nat.lt_or_ge j k with h1|h1
     ·obtain rfl:j=k-1:=by omega
      exact hz
     ·exact HALL.out j h1
    case measure=>simp[intOf];omega
   ·go_wp2
    go_ret;exact⟨by rw[cut_len hx HALL.out (.inr hz) (by have:=H.out.len;omega),cutV,if_neg (by omega)];rfl,rfl⟩
theorem mcut_any(A:Option Addr)(n c B:Nat)(xs:List Nat)(w:World)(h:Lim w B A n c xs)(hx:limbs xs) :
  Calls Tryz.prog 181 #[.slice A n c] w fun e w'=>(∃A' n' c',e=.returned (.slice A' n' c')∧n'≤n∧(A'=none∨A'=A)∧Lim w B A' n' c' (dg (val xs)))∧w=w':=by
 refine(mcut_q A n c B xs w h hx).mono ?_;rintro e w' ⟨rfl,rfl⟩;obtain⟨A',n',c',he,h1,h2,h3⟩:=cutV_lim h hx;exact⟨⟨A',n',c',by rw[he],h1,h2,h3⟩,rfl⟩
theorem row_step{zs bs:List Nat}{i k l cy T:Nat}(h:val zs+1000000000^(i+k)*(cy+l*val (bs.drop k))=T)(hk:i+k<zs.length) :
  val (zs.set (i+k) ((gd zs (i+k)+gd bs k*l+cy)%1000000000))+1000000000^(i+(k+1))*((gd zs (i+k)+gd bs k*l+cy)/1000000000+l*val (bs.drop (k+1)))=T:=by
 rw[← Nat.add_assoc i k 1];refine acc_step h hk ?_;rw[val_drop bs k,Nat.mul_add,Nat.mul_comm l (gd bs k),Nat.mul_left_comm l 1000000000];omega
theorem row_end{zs bs:List Nat}{i k l cy T:Nat}(h:val zs+1000000000^(i+k)*(cy+l*val (bs.drop k))=T)(hk:i+k<zs.length)(hb:bs.length≤k)(hz:gd zs (i+k)=0) :
  val (zs.set (i+k) cy)=T:=by
 have:=acc_step (v:=cy) (R':=0) h hk (by rw[hz,List.drop_of_length_le hb];simp[val]);rw[Nat.mul_zero,Nat.add_zero] at this;exact this
theorem row_mul_le{y l:Nat}(hy:y<1000000000)(hl:l<1000000000):y*l≤999999998000000001:=
 Nat.le_trans (Nat.mul_le_mul (show y≤999999999 by omega) (show l≤999999999 by omega)) (by omega)
def RetRoom(W:World)(g len v:Nat)(e:Ending)(w':World):Prop:=
 ∃zs,e=.returned (.tuple #[])∧Own w' g zs∧zs.length=len∧limbs zs∧val zs=v∧Kept g W w'
theorem addRow_any(A':Option Addr)(g i n' c' m l b:Nat)(zs:List Nat)(w:World)(ho:Hid (Own w g zs))(hl:Hid (limbs zs))(hm:zs.length=m)(him:i+n'+1≤m)(_hmm:m≤1000000000)(hz:gd zs (i+n')=0)
  (h':Num w g A' n' c' b) (hlim:l<1000000000) :
  Calls Tryz.prog 189 #[.slice (some ⟨g,i,none⟩) (n'+1) (n'+1),.slice A' n' c',.int .u32 l] w (RetRoom w g m (val zs+1000000000^i*(l*b))):=by
 have hm':=h'.room;have hn':=h'.cap;unfold maxLen at hm';have H':=Jh h';have HM:=Jh hm;have HZ:=Jh hz;clear h' hm hz;go_enter Tryz.func189,Tryz.ntmps189;go_wp2;go_loopw [6,11] (fun cv iv wr=>∃(k cy:Nat) (ys:List Nat),k≤n'∧iv=.int .i64 k∧cv=.int .u64 cy∧cy<1000000000∧ys.length=m∧limbs ys∧gd ys (i+n')=0∧val ys+1000000000^(i+k)*(cy+l*val ((dg b).drop k))=val zs+1000000000^i*(l*b)∧Own wr g ys∧Kept g w wr) (fun _ iv _=>n'-(intOf iv).toNat)
 case atStart=>
  exact⟨0,0,zs,Nat.zero_le _,rfl,rfl,by omega,HM.out,hl.out,HZ.out,by rw[List.drop_zero,val_dg,Nat.add_zero,Nat.zero_add],ho.out,Kept.refl _ _⟩
 case round=>
  obtain⟨k,cy,ys,hk,rfl,rfl,hcy,hlen,hly,hzy,hval,hown,hkp⟩:=hrel;have OW:=Jh hown;have HL:=Jh hly;have HV:=Jh hval;have HK:=Jh hkp;have LN:=Jh hlen;have HZY:=Jh hzy;clear hown hly hval hkp hlen hzy;rcases Nat.lt_or_ge k n' with hkn|hkn
  ·have hcell:=OW.out.cell (i:=i+k) (by rw[LN.out];omega)
   have hfr:=OW.out.frozen (i+k);have hx:=gd_lt HL.out (i+k);obtain⟨b2,o2,rfl,_,hc2⟩:=(H'.out.below (HK.out.below (Nat.le_refl _))).at_ hkn;have hy:=gd_lt (limbs_dg b) k;have hp:=row_mul_le hy hlim;have E:Hid (((gd (dg b) k:Nat):Int)*(l:Nat)=((gd (dg b) k*l:Nat):Int)):=by show _=_;rw[Int.natCast_mul]
   have hp0:0≤((gd (dg b) k:Nat):Int)*(l:Nat):=by rw[E.out];omega
   have hp1:((gd (dg b) k:Nat):Int)*(l:Nat)≤999999998000000001:=by rw[E.out];omega
   clear hp;go_wp2;go_region
   go_wp2;go_roundw
   case rel=>
    have hpn:gd (dg b) k*l≤999999998000000001:=row_mul_le hy hlim;have ev:((gd ys (i+k):Nat):Int)+((gd (dg b) k:Nat):Int)*(l:Nat)+(cy:Nat)=((gd ys (i+k)+gd (dg b) k*l+cy:Nat):Int):=by rw[E.out];omega
    rw[ev];have HR:=row_step HV.out (show i+k<ys.length by rw[LN.out];omega);generalize gd ys (i+k)+gd (dg b) k*l+cy=t at *;have ht:t<1000000000000000000:=by omega
    exact⟨k+1,t/1000000000,ys.set (i+k) (t%1000000000),by omega,by go_num,rfl,by omega,by rw[List.length_set];exact LN.out,limbs_set HL.out _ (by omega),by rw[gd_set _ _ _ _ (by rw[LN.out];omega),if_neg (by omega)];exact HZY.out,HR,(OW.out.store (i+k) (t%1000000000) _ rfl).drew,(HK.out.setCell _ _).drew⟩
   case measure=>simp[intOf];omega
  ·obtain rfl:k=n':=by omega
   have hcell:=OW.out.cell (i:=i+k) (by rw[LN.out];omega);have hfr:=OW.out.frozen (i+k);go_wp2;go_end0
   exact⟨ys.set (i+k) cy,rfl,OW.out.store (i+k) cy _ (by omega),by rw[List.length_set];exact LN.out,limbs_set HL.out _ hcy,row_end HV.out (by rw[LN.out];omega) (by rw[H'.out.len];exact Nat.le_refl _) HZY.out,HK.out.setCell _ _⟩
theorem sum_step{zs xs:List Nat}{o k cy T:Nat}(h:val zs+1000000000^(o+k)*(cy+val (xs.drop k))=T)(hk:o+k<zs.length) :
  val (zs.set (o+k) ((gd zs (o+k)+cy+gd xs k)%1000000000))+1000000000^(o+(k+1))*((gd zs (o+k)+cy+gd xs k)/1000000000+val (xs.drop (k+1)))=T:=by
 rw[← Nat.add_assoc o k 1];refine acc_step h hk ?_;rw[val_drop xs k];omega
theorem sum_end{zs xs:List Nat}{k j T:Nat}(h:val zs+1000000000^j*(0+val (xs.drop k))=T)(hk:xs.length≤k):val zs=T:=by
 rw[List.drop_of_length_le hk,val,Nat.add_zero,Nat.mul_zero] at h;exact h
theorem madd_any(A A':Option Addr)(g o r n' c' m a B:Nat)(zs:List Nat)(w:World)(ho:Hid (Own w g zs))(hl:Hid (limbs zs))(hm:zs.length=m)(hor:o+r=m)(hmm:m≤1000000000)(hA:0<r→A=some ⟨g,o,none⟩)
  (h':Num w B A' n' c' a) (hoff:0<n'→Off g A') (hfit:val zs+1000000000^o*a<1000000000^m) (cr:Nat) (hcr:r≤cr) :
  Calls Tryz.prog 180 #[.slice A r cr,.slice A' n' c'] w (RetRoom w g m (val zs+1000000000^o*a)):=by
 have hm':=h'.room;have hn':=h'.cap;unfold maxLen at hm';have H':=Jh h';have HM:=Jh hm;have HF:=Jh hfit;have HO:=Jh hoff;have HA:=Jh hA;clear h' hm hfit hoff hA;go_enter Tryz.func180,Tryz.ntmps180;go_wp2;go_loopw [4,9] (fun cv iv wr=>∃(k cy:Nat) (ys:List Nat),k≤r∧iv=.int .i64 k∧cv=.int .u32 cy∧cy≤1∧ys.length=m∧limbs ys∧val ys+1000000000^(o+k)*(cy+val ((dg a).drop k))=val zs+1000000000^o*a∧Own wr g ys∧Kept g w wr) (fun _ iv _=>r-(intOf iv).toNat)
 case atStart=>
  exact⟨0,0,zs,Nat.zero_le _,rfl,rfl,by omega,HM.out,hl.out,by rw[List.drop_zero,val_dg,Nat.add_zero,Nat.zero_add],ho.out,Kept.refl _ _⟩
 case round=>
  obtain⟨k,cy,ys,hk,rfl,rfl,hcy,hlen,hly,hval,hown,hkp⟩:=hrel;have OW:=Jh hown;have HL:=Jh hly;have HV:=Jh hval;have HK:=Jh hkp;have LN:=Jh hlen;clear hown hly hval hkp hlen;rcases Nat.lt_or_ge k r with hkr|hkr
  ·obtain rfl:=HA.out (by omega)
   have hcell:=OW.out.cell (i:=o+k) (by rw[LN.out];omega);have hfr:=OW.out.frozen (o+k);have hx:=gd_lt HL.out (o+k);rcases Nat.lt_or_ge k n' with hkn|hkn
   ·obtain⟨b2,o2,rfl,_,hc2⟩:=(H'.out.kept HO.out HK.out).at_ hkn
    have hy:=gd_lt (limbs_dg a) k;go_wp2;go_roundw
    case rel=>
     have ev:(((gd ys (o+k):Nat):Int)+(cy:Nat)+((gd (dg a) k:Nat):Int))=((gd ys (o+k)+cy+gd (dg a) k:Nat):Int):=by omega
     rw[ev];have HR:=sum_step HV.out (show o+k<ys.length by rw[LN.out];omega);generalize gd ys (o+k)+cy+gd (dg a) k=t at *;have ht:t<2000000000:=by omega
     exact⟨k+1,t/1000000000,ys.set (o+k) (t%1000000000),by omega,by go_num,rfl,by omega,by rw[List.length_set];exact LN.out,limbs_set HL.out _ (by omega),HR,OW.out.store (o+k) (t%1000000000) _ rfl,HK.out.setCell _ _⟩
    case measure=>simp[intOf];omega
   ·rcases Nat.eq_zero_or_pos cy with h0|h0
    ·subst h0
     go_wp2;refine bodyPost_ret (results_none rfl _ _ _) rfl ?_;have hT:=sum_end HV.out (show(dg a).length≤k by rw[H'.out.len];exact hkn);exact⟨ys,rfl,OW.out,LN.out,HL.out,hT,HK.out⟩
    ·obtain rfl:cy=1:=by omega
     go_wp2;go_roundw
     case rel=>
      have ev:(((gd ys (o+k):Nat):Int)+1)=((gd ys (o+k)+1:Nat):Int):=by omega
      rw[ev];have HR:=sum_step HV.out (show o+k<ys.length by rw[LN.out];omega);have hz:gd (dg a) k=0:=gd_of_ge (by rw[H'.out.len];exact hkn);rw[hz,Nat.add_zero] at HR;clear hz;generalize gd ys (o+k)+1=t at *;have ht:t<2000000000:=by omega
      exact⟨k+1,t/1000000000,ys.set (o+k) (t%1000000000),by omega,by go_num,rfl,by omega,by rw[List.length_set];exact LN.out,limbs_set HL.out _ (by omega),HR,OW.out.store (o+k) (t%1000000000) _ rfl,HK.out.setCell _ _⟩
     case measure=>simp[intOf];omega
  ·obtain rfl:k=r:=by omega
   go_wp2;go_end0
   have hT:=acc_end HV.out (by rw[hor];exact HF.out);exact⟨ys,rfl,OW.out,LN.out,HL.out,hT,HK.out⟩
def Env(w0 w:World)(l:List (Option Addr×Nat×Nat×Nat)):Prop:=
 Below w0.heap.size w0 w∧∀q∈l,Num w w.heap.size q.1 q.2.1 q.2.2.1 q.2.2.2
theorem Env.get{w0 w:World}{l:List (Option Addr×Nat×Nat×Nat)}(h:Hid (Env w0 w l)){A:Option Addr}{n c a:Nat}(hm:(A,n,c,a)∈l):Num w w.heap.size A n c a:=h.out.2 _ hm
theorem Env.step{w0 w w':World}{l:List (Option Addr×Nat×Nat×Nat)}(h:Hid (Env w0 w l))(hb:Below w.heap.size w w'):Hid (Env w0 w' l):=
 ⟨h.out.1.trans (hb.mono h.out.1.size),fun q hq=>((h.out.2 q hq).below hb).more hb.size⟩
theorem Env.push{w0 w w':World}{l:List (Option Addr×Nat×Nat×Nat)}(h:Hid (Env w0 w l))(hb:Below w.heap.size w w'){A:Option Addr}{n c a:Nat}(hn:Num w' w'.heap.size A n c a):Hid (Env w0 w' ((A,n,c,a)::l)):=by
 have h2:=Env.step h hb;refine⟨h2.out.1,fun q hq=>?_⟩;rcases List.mem_cons.1 hq with rfl|hq
 ·exact hn
 ·exact h2.out.2 q hq
theorem mk_any(N:Nat)(v:Int)(hv:v=N)(hN:N<18446744073709551616)(w:World):Calls Tryz.prog 196 #[.int .u64 v] w (RetNum w N):=by
 subst hv;exact make_any N hN w
theorem cmp_is{s:Int}{A A':Option Addr}{n c n' c' a b:Nat}{w:World}(h:Num w w.heap.size A n c a)(h':Num w w.heap.size A' n' c' b)(hs:cmpN a b=s) :
  Calls Tryz.prog 104 #[.slice A n c,.slice A' n' c'] w (RetVal w (.int .i64 s)):=by
 subst hs;exact cmp_any A A' n c n' c' a b w h h'
theorem even_is{A:Option Addr}{n c a B:Nat}{w:World}{t:Bool}(h:Num w B A n c a)(hs:decide (a%2=0)=t) :
  Calls Tryz.prog 195 #[.slice A n c] w fun e w'=>e=.returned (.bool t)∧w=w':=by
 subst hs;exact even_any A n c B a w h
theorem add_is{A A':Option Addr}{n c n' c' a b m:Nat}{w:World}(h:Num w w.heap.size A n c a)(h':Num w w.heap.size A' n' c' b)(hn:n≤1000000000)(hn':n'≤1000000000)(hm:a+b=m) :
  Calls Tryz.prog 167 #[.slice A n c,.slice A' n' c'] w (RetNum w m):=by
 subst hm;exact add_any A A' n c n' c' a b w h h' hn hn'
theorem sub_is{A A':Option Addr}{n c n' c' a b m:Nat}{w:World}(h:Num w w.heap.size A n c a)(h':Num w w.heap.size A' n' c' b)(hn:n≤1000000000)(hab:b≤a)(hm:a-b=m) :
  Calls Tryz.prog 168 #[.slice A n c,.slice A' n' c'] w (RetSub w m):=by
 subst hm;exact sub_ge A A' n c n' c' a b w h h' hn hab
theorem trim_is{A:Option Addr}{n c m:Nat}{xs:List Nat}{w:World}(h:Lim w w.heap.size A n c xs)(hx:limbs xs)(hn:n≤1000000000)(hm:val xs=m) :
  Calls Tryz.prog 110 #[.slice A n c] w (RetNum w m):=by
 subst hm;exact trim_any A n c xs w h hx hn
def n1:Nat:=1000000005
def n2:Nat:=999999999
def n3:Nat:=2000000004
def RetFresh(W:World)(xs:List Nat)(e:Ending)(w':World):Prop:=
 ∃A n c,e=.returned (.slice A n c)∧Lim w' w'.heap.size A n c xs∧(∀ad,A=some ad→W.heap.size≤ad.block)∧Below W.heap.size W w'
abbrev RetNew(W:World)(a:Nat)(e:Ending)(w':World):Prop:=RetFresh W (dg a) e w'
theorem RetFresh.lim{W:World}{xs:List Nat}{e:Ending}{w':World}(h:RetFresh W xs e w'):RetLim W xs e w':=by
 obtain⟨A,n,c,he,hl,_,hb⟩:=h;exact⟨A,n,c,he,hl,hb⟩
theorem zeros_limbs(n:Nat):limbs (List.replicate n 0):=fun x hx=>by rw[(List.mem_replicate.1 hx).2];omega
theorem addRow_is{A':Option Addr}{g i n' c' m l b p V:Nat}{zs:List Nat}{w:World}(ho:Hid (Own w g zs))(hl:Hid (limbs zs))(hm:zs.length=m)(him:i+n'+1≤m)(hmm:m≤1000000000)(hv:val zs<1000000000^(i+n'))
  (h':Num w g A' n' c' b) (hlim:l<1000000000) (hp:p=n'+1) (hV:val zs+1000000000^i*(l*b)=V) :
  Calls Tryz.prog 189 #[.slice (some ⟨g,i,none⟩) p p,.slice A' n' c',.int .u32 l] w (RetRoom w g m V):=by
 subst hp;subst hV;exact addRow_any A' g i n' c' m l b zs w ho hl hm him hmm (gd_of_val_lt hv) h' hlim
theorem mul_both(A A':Option Addr)(n c n' c' a b:Nat)(w:World)(h:Num w w.heap.size A n c a)(h':Num w w.heap.size A' n' c' b)(hn:n≤10000000)(hn':n'≤10000000)(args:Array Value)
  (hargs:(args=#[.slice A n c,.slice A' n' c']∧n≤n')∨(args=#[.slice A' n' c',.slice A n c]∧n<n')) :
  Calls Tryz.prog 178 args w (RetNew w (a*b)):=by
 obtain⟨i0,hi,hz0,hz1,hz2⟩:=info_parts info_limb;have PB:=Jh (pow_of_len h'.len (Nat.le_refl _));have hmA:=h.room;have hcA:=h.cap;have hmB:=h'.room;have hcB:=h'.cap;unfold maxLen at hmA hmB;have H:=Jh h;have H':=Jh h';clear h h';rcases hargs with⟨rfl,hle⟩|⟨rfl,hle⟩
 all_goals
  go_enter Tryz.func178,Tryz.ntmps178;go_wp2_with (at_make;go_must (refine wpList_make_full _ rfl _ _ 34 rfl w.heap.size 163 i0 (.int .u32 0) 1 Tryz.underlying34 hi hz0 hz1 _ _ _ _ (n+n') rfl rfl (by omega) (by omega) (by rw[hz2];omega) (by unfold maxLen;omega) (Nat.le_refl _) ?_;intro w1 hown1 hgr1;have M1:Hid (Own w1 w.heap.size (List.replicate (n+n') 0)):=Own.of_made hown1;have HB1:Hid (Below w.heap.size w w1):=(Below.refl _ _).grown hgr1 (Nat.le_refl _) (fun k hk=>by cases hk);clear hown1 hgr1));go_loopw [24] (fun iv wr=>∃(i:Nat) (zs:List Nat),i≤n∧iv=.int .i64 i∧zs.length=n+n'∧limbs zs∧val zs=val ((dg a).take i)*b∧Own wr w.heap.size zs∧Below w.heap.size w wr) (fun iv _=>n-(intOf iv).toNat)
  case atStart=>
   exact⟨0,List.replicate (n+n') 0,Nat.zero_le _,rfl,by simp,zeros_limbs _,by rw[val_zeros,List.take_zero,val,Nat.zero_mul],M1.out,HB1.out⟩
  case round=>
   obtain⟨i,zs,hi1,rfl,hlen,hlim,hval,hown,hb⟩:=hrel;clear M1 HB1;have OW:=Jh hown;have HL:=Jh hlim;have HV:=Jh hval;have HB:=Jh hb;have LN:=Jh hlen;clear hown hlim hval hb hlen;rcases Nat.lt_or_ge i n with hin|hin
   ·obtain⟨b1,o1,rfl,_,hc1⟩:=(H.out.below HB.out).at_ hin
    have hx:=gd_lt (limbs_dg a) i;have hrow:=mul_row_lt (i:=i) (limbs_dg a) (show i≤(dg a).length by rw[H.out.len];omega) PB.out;rw[← HV.out] at hrow;have HC:=Jh (addRow_is (V:=val ((dg a).take (i+1))*b) (p:=i+n'+1-i) OW HL LN.out (by omega) (by omega) hrow (H'.out.below HB.out) hx (by omega) (mul_row HV.out rfl));clear hrow;go_wp2_with fail;refine HC.out.mono ?_;rintro e w2 ⟨ys,rfl,hown2,hlen2,hlim2,hval2,hk2⟩;have OW2:=Jh hown2;have HL2:=Jh hlim2;have HV2:=Jh hval2;have HB2:=Jh (HB.out.trans (hk2.below (Nat.le_refl _)));have LN2:=Jh hlen2;clear hown2 hlim2 hval2 hk2 hlen2;go_wp2;go_roundw
    case rel=>exact⟨i+1,ys,by omega,by go_num,LN2.out,HL2.out,HV2.out,OW2.out,HB2.out⟩
    case measure=>simp[intOf];omega
   ·obtain rfl:i=n:=by omega
    have LZ:=OW.out.lim HL.out (by rw[LN.out];omega);rw[LN.out] at LZ;have HLZ:=Jh LZ;clear LZ;have HE:Hid (val zs=a*b):=by have:=HV.out;rwa [List.take_of_length_le (by rw[H.out.len];exact Nat.le_refl _),val_dg] at this
    go_wp2_with (go_at_call 181;refine(mcut_any _ _ _ _ _ _ HLZ.out HL.out).mono ?_;rintro e w' ⟨⟨A2,n2,c2,rfl,hn2,hA2,h2⟩,rfl⟩;have H2:=Jh h2;have HA2:=Jh hA2;clear h2 hA2);go_ret;refine⟨_,_,_,rfl,by rw[← HE.out];exact H2.out,fun ad hA=>?_,HB.out⟩;rcases HA2.out with h0|h0
    ·rw[h0] at hA;cases hA
    ·rw[h0] at hA;injection hA with hA;subst hA;exact Nat.le_refl _
theorem mul_any(A A':Option Addr)(n c n' c' a b:Nat)(w:World)(h:Num w w.heap.size A n c a)(h':Num w w.heap.size A' n' c' b)(hn:n≤10000000)(hn':n'≤10000000) :
  Calls Tryz.prog 178 #[.slice A n c,.slice A' n' c'] w (RetNew w (a*b)):=by
 rcases Nat.lt_or_ge n' n with hlt|hge
 ·rw[Nat.mul_comm]
  exact mul_both A' A n' c' n c b a w h' h hn' hn _ (.inr ⟨rfl,hlt⟩)
 ·exact mul_both A A' n c n' c' a b w h h' hn hn' _ (.inl ⟨rfl,hge⟩)
theorem mul_is{A A':Option Addr}{n c n' c' a b m:Nat}{w:World}(h:Num w w.heap.size A n c a)(h':Num w w.heap.size A' n' c' b)(hn:n≤10000000)(hn':n'≤10000000)(hm:a*b=m) :
  Calls Tryz.prog 178 #[.slice A n c,.slice A' n' c'] w (RetNum w m):=by
 subst hm;exact(mul_any A A' n c n' c' a b w h h' hn hn').mono fun _ _ h=>h.lim
theorem len_of_u64{N:Nat}(h:N<18446744073709551616):(dg N).length≤3:=dg_len_le (by omega)
theorem times_is{A:Option Addr}{n c a l m:Nat}{w:World}(h:Num w w.heap.size A n c a)(hn:n≤10000000)(hl:l<4294967296)(hm:a*l=m) :
  Calls Tryz.prog 193 #[.slice A n c,.int .u32 l] w (RetNum w m):=by
 have H:=Jh h;have HM:=Jh hm;clear h hm;go_enter Tryz.func193,Tryz.ntmps193;go_wp2_with fail;refine(mk_any l _ rfl (by omega) _).mono ?_;rintro e w1 ⟨A1,n1,c1,rfl,h1,hb1⟩;have hn1:n1≤3:=by have:=len_of_u64 (show l<18446744073709551616 by omega);rwa [h1.len] at this
 have HB1:=Jh hb1;have H1:=Jh h1;clear h1 hb1;go_wp2_with fail;refine(mul_is ((H.out.below HB1.out).more HB1.out.size) H1.out hn (by omega) HM.out).mono ?_;rintro e w2 ⟨A2,n2,c2,rfl,h2,hb2⟩;have HB2:=Jh (HB1.out.trans (hb2.mono HB1.out.size));have H2:=Jh h2;clear h2 hb2;go_wp2_with fail;go_ret;exact⟨_,_,_,rfl,H2.out,HB2.out⟩
theorem Lim.quiet{w:World}{B n c k:Nat}{A:Option Addr}{xs:List Nat}(h:Lim w B A n c xs):Lim (w.drewN k) B A n c xs:=h.below (below_drewN (Below.refl _ _) k)
theorem val_take_mod(a k:Nat):val ((dg a).take k)=a%1000000000^k∧val ((dg a).drop k)=a/1000000000^k:=by
 have hp:0<1000000000^k:=Nat.pow_pos (by omega);have hlt:val ((dg a).take k)<1000000000^k:=by
  refine Nat.lt_of_lt_of_le (val_lt (limbs_take (limbs_dg a) k)) (Nat.pow_le_pow_right (by omega) ?_);rw[List.length_take];omega
 have e:a=val ((dg a).take k)+1000000000^k*val ((dg a).drop k):=by
  rcases Nat.lt_or_ge (dg a).length k with h|h
  ·rw[List.take_of_length_le (by omega),List.drop_of_length_le (by omega),val_dg];rfl
  ·rw[← val_take_drop _ _ h,val_dg]
 generalize 1000000000^k=P at *;generalize val ((dg a).take k)=x at *;generalize val ((dg a).drop k)=y at *;subst e;constructor
 ·rw[Nat.add_mul_mod_self_left,Nat.mod_eq_of_lt hlt]
 ·rw[Nat.add_mul_div_left _ _ hp,Nat.div_eq_of_lt hlt,Nat.zero_add]
theorem Lim.rest{w:World}{B n c b o k:Nat}{xs:List Nat}(h:Lim w B (some ⟨b,o,none⟩) n c xs)(hk:k≤n)(A:Option Addr)(hA:k<n→A=some ⟨b,o+k,none⟩)(hA':A=none→c-k=0):Lim w B A (n-k) (c-k) (xs.drop k):=by
 refine⟨by rw[List.length_drop,h.len],by have:=h.cap;omega,by have:=h.room;omega,fun x hx=>h.fit x (List.mem_of_mem_drop hx),?_,hA'⟩;rcases Nat.lt_or_ge k n with hlt|hge
 ·obtain rfl:=hA hlt
  rcases h.row with h0|⟨b',o',he,hb,hc⟩
  ·left
   have:=congrArg List.length h0;rw[vals_len,h.len] at this;simp at this;omega
  ·injection he with he
   injection he with he1 he2
   subst he1;subst he2;refine .inr ⟨b,o+k,rfl,hb,fun j u hu=>?_⟩;rw[Nat.add_assoc];refine hc (k+j) u ?_;rw[vals,List.map_drop,List.getElem?_drop] at hu;exact hu
 ·left
  rw[List.drop_of_length_le (by rw[h.len];exact hge)];rfl
def RetHalves(W:World)(x y:Nat)(e:Ending)(w':World):Prop:=
 ∃A1 n1 c1 A2 n2 c2,e=.returned (.tuple #[.slice A1 n1 c1,.slice A2 n2 c2])∧Num w' w'.heap.size A1 n1 c1 x∧Num w' w'.heap.size A2 n2 c2 y∧Below W.heap.size W w'
theorem halves_ret{W:World}{x y k n1 n2:Nat}{V1 V2:Value}{xs ys:List Nat}{A1 A2:Option Addr}(hv:val xs=x∧val ys=y)
  (h1:∃A' n' c',V1=.slice A' n' c'∧n'≤n1∧(A'=none∨A'=A1)∧Lim W W.heap.size A' n' c' (dg (val xs))) (h2:∃A' n' c',V2=.slice A' n' c'∧n'≤n2∧(A'=none∨A'=A2)∧Lim W W.heap.size A' n' c' (dg (val ys))) :
  RetHalves W x y (.returned (.tuple #[V1,V2])) (W.drewN k):=by
 obtain⟨rfl,rfl⟩:=hv;obtain⟨A1,n1,c1,rfl,_,_,l1⟩:=h1;obtain⟨A2,n2,c2,rfl,_,_,l2⟩:=h2;exact⟨A1,n1,c1,A2,n2,c2,rfl,l1.quiet,l2.quiet,below_drewN (Below.refl _ _) k⟩
theorem halves_any(A:Option Addr)(n c a k:Nat)(w:World)(h:Num w w.heap.size A n c a)(hn0:0<n)(hk0:0<k)(hk:k≤1000000000) :
  Calls Tryz.prog 179 #[.slice A n c,.int .i64 k] w (RetHalves w (a%1000000000^k) (a/1000000000^k)):=by
 have hm:=h.room;have hcap:=h.cap;unfold maxLen at hm;obtain⟨m,hmk,hmn,hm0,htk,hdr,hmm⟩:∃m,m≤k∧m≤n∧0<m∧(dg a).take m=(dg a).take k∧(dg a).drop m=(dg a).drop k∧((n<k∧m=n)∨(k≤n∧m=k)):=by
  rcases Nat.lt_or_ge n k with h1|h1
  ·refine⟨n,by omega,by omega,hn0,?_,?_,.inl ⟨h1,rfl⟩⟩
   ·rw[List.take_of_length_le (by rw[h.len];exact Nat.le_refl _),List.take_of_length_le (by rw[h.len];omega)]
   ·rw[List.drop_of_length_le (by rw[h.len];exact Nat.le_refl _),List.drop_of_length_le (by rw[h.len];omega)]
  ·exact⟨k,by omega,h1,hk0,rfl,rfl,.inr ⟨h1,rfl⟩⟩
 obtain⟨b,o,rfl,hb,_⟩:=h.at_ hn0;have HT:Hid (Lim w w.heap.size (some ⟨b,o,none⟩) m m ((dg a).take k)):=by
  have:=h.take hmn;rw[htk] at this;exact⟨this.len,Nat.le_refl _,Nat.le_trans this.cap this.room,this.fit,this.row,fun hA=>by cases hA⟩
 have HD:Hid (∀A' p q (v:World),p=n-m→q=c-m→(m<n→A'=some ⟨b,o+m,none⟩)→(A'=none→c-m=0)→Below w.heap.size w v→Lim v w.heap.size A' p q ((dg a).drop k)):=by
  intro A' p q v hp hq h1 h2 hv;subst hp;subst hq;have:=h.rest hmn A' h1 h2;rw[hdr] at this;exact this.below hv
 have ET:=Jh (val_take_mod a k);have LT:=Jh (limbs_take (limbs_dg a) k);have LD:=Jh (limbs_drop (limbs_dg a) k);clear h htk hdr;rcases hmm with⟨h1,h2⟩|⟨h1,h2⟩
 all_goals
  first|obtain rfl:n=m:=h2.symm|obtain rfl:k=m:=h2.symm
  rcases Nat.eq_or_lt_of_le (show _≤c from Nat.le_trans hmn hcap) with hmc|hmc
  all_goals
   try subst hmc
   go_enter Tryz.func179,Tryz.ntmps179;go_wp2;go_quiet ((go_at_call 181;first|exact Calls.quiet_of_same (mcut_q _ _ _ _ ((dg a).take k) _ HT.out.quiet LT.out)|exact Calls.quiet_of_same (mcut_q _ _ _ _ ((dg a).drop k) _ (HD.out _ _ _ _ (by omega) (by omega) (fun _=>by first|rfl|omega) (fun h=>by cases h) (below_drewN (Below.refl _ _) _)) LD.out)))
   go_wp2;go_ret2
   exact halves_ret ET.out (cutV_lim HT.out LT.out) (cutV_lim (HD.out _ _ _ _ rfl rfl (fun _=>by first|rfl|omega) (fun h=>by cases h) (Below.refl _ _)) LD.out)
end Go.Proofs.YtpbbolgnnegmlaaGreatDoor.Num
namespace Go.Proofs.YtpbbolgnnegmlaaGreatDoor.Num
def pad:Nat→Nat→List Nat
 | 0,_=>[]
 | k+1,a=>pad k (a/10)++[48+a%10]
def txt(a:Nat):List Nat:=if h:a<10 then [48+a] else txt (a/10)++[48+a%10]
termination_by a
decreasing_by omega
def nd(a:Nat):Nat:=(txt a).length
def pv(l:List Nat):Nat:=l.foldl (fun v c=>10*v+(c-48)) 0
def digs(l:List Nat):Prop:=∀c∈l,48≤c∧c≤57
def tz(a:Nat):Nat:=if h:a=0 then 0 else if a%10=0 then tz (a/10)+1 else 0
termination_by a
decreasing_by omega
theorem txt_lt{a:Nat}(h:a<10):txt a=[48+a]:=by rw[txt,dif_pos h]
theorem txt_ge{a:Nat}(h:10≤a):txt a=txt (a/10)++[48+a%10]:=by rw[txt,dif_neg (by omega)]
theorem txt_zero:txt 0=[48]:=txt_lt (by omega)
theorem nd_lt{a:Nat}(h:a<10):nd a=1:=by unfold nd;rw[txt_lt h];rfl
theorem nd_ge{a:Nat}(h:10≤a):nd a=nd (a/10)+1:=by unfold nd;rw[txt_ge h,List.length_append];rfl
theorem nd_pos(a:Nat):0<nd a:=by
 rcases Nat.lt_or_ge a 10 with h|h
 ·rw[nd_lt h];omega
 ·rw[nd_ge h];omega
theorem txt_ne(a:Nat):txt a≠[]:=fun h=>by have:=nd_pos a;unfold nd at this;rw[h] at this;simp at this
theorem pad_len(k:Nat):∀a,(pad k a).length=k:=by
 induction k with
 | zero=>intro a;rfl
 | succ k ih=>intro a;rw[pad,List.length_append,ih];rfl
theorem pad_cons(k:Nat):∀a,pad (k+1) a=(48+a/10^k%10)::pad k a:=by
 induction k with
 | zero=>intro a;simp[pad]
 | succ k ih=>
  intro a;rw[pad,ih (a/10),Nat.div_div_eq_div_mul,Nat.mul_comm 10,← Nat.pow_succ];rfl
theorem digs_append{x y:List Nat}:digs (x++y)↔digs x∧digs y:=by
 unfold digs;constructor
 ·exact fun h=>⟨fun c hc=>h c (List.mem_append_left _ hc),fun c hc=>h c (List.mem_append_right _ hc)⟩
 ·rintro⟨h1,h2⟩ c hc
  rcases List.mem_append.1 hc with h|h
  ·exact h1 c h
  ·exact h2 c h
theorem digs_one{c:Nat}(h:48≤c∧c≤57):digs [c]:=fun x hx=>by
 rw[List.mem_singleton] at hx;subst hx;exact h
theorem digs_digit(a:Nat):digs [48+a%10]:=digs_one ⟨by omega,by omega⟩
theorem digs_pad(k:Nat):∀a,digs (pad k a):=by
 induction k with
 | zero=>intro a c hc;cases hc
 | succ k ih=>intro a;exact digs_append.2 ⟨ih _,digs_digit a⟩
theorem digs_txt(a:Nat):digs (txt a):=by
 induction a using Nat.strongRecOn with
 | _ a ih=>
  rcases Nat.lt_or_ge a 10 with h|h
  ·rw[txt_lt h];exact digs_one ⟨by omega,by omega⟩
  ·rw[txt_ge h];exact digs_append.2 ⟨ih _ (by omega),digs_digit a⟩
theorem txt_pad(k:Nat):∀{a:Nat},10^k≤a→a<10^(k+1)→txt a=pad (k+1) a:=by
 induction k with
 | zero=>
  intro a h1 h2;have h2':a<10:=by simpa using h2
  rw[txt_lt h2',pad,pad,Nat.mod_eq_of_lt h2'];rfl
 | succ k ih=>
  intro a h1 h2;have p:10^(k+1)=10*10^k:=by rw[Nat.pow_succ,Nat.mul_comm]
  have p2:10^(k+1+1)=10*10^(k+1):=by rw[Nat.pow_succ,Nat.mul_comm]
  have hp:0<10^k:=Nat.pow_pos (by omega);rw[txt_ge (by omega),pad,ih (a:=a/10) (by omega) (by omega)]
def lz(l:List Nat):List Nat:=l.dropWhile (fun c=>c == 48)
theorem lz_cons_yes(l:List Nat):lz (48::l)=lz l:=by simp[lz]
theorem lz_cons_no{c:Nat}(l:List Nat)(h:c≠48):lz (c::l)=c::l:=by
 unfold lz;rw[List.dropWhile_cons_of_neg (by simpa using h)]
theorem lz_pad(k:Nat):∀{a:Nat},a<10^k→lz (pad k a)=if a=0 then [] else txt a:=by
 induction k with
 | zero=>
  intro a h;have:a=0:=by simpa using h
  subst this;rfl
 | succ k ih=>
  intro a h;rcases Nat.lt_or_ge a (10^k) with h1|h1
  ·rw[pad_cons,Nat.div_eq_of_lt h1]
   show lz (48::pad k a)=_;rw[lz_cons_yes,ih h1]
  ·have hp:0<10^k:=Nat.pow_pos (by omega)
   have ht:=txt_pad k h1 h;rw[if_neg (by omega),ht,pad_cons];refine lz_cons_no _ ?_;have e1:1≤a/10^k:=(Nat.le_div_iff_mul_le hp).2 (by omega);have e2:a/10^k<10:=Nat.div_lt_of_lt_mul (by rw[Nat.pow_succ,Nat.mul_comm] at h;omega);omega
theorem pv_snoc(l:List Nat)(c:Nat):pv (l++[c])=10*pv l+(c-48):=by
 unfold pv;rw[List.foldl_append];rfl
theorem pv_nil:pv []=0:=rfl
theorem pv_txt(a:Nat):pv (txt a)=a:=by
 induction a using Nat.strongRecOn with
 | _ a ih=>
  rcases Nat.lt_or_ge a 10 with h|h
  ·rw[txt_lt h]
   have:=pv_snoc [] (48+a);rw[pv_nil,List.nil_append] at this;omega
  ·rw[txt_ge h,pv_snoc,ih _ (by omega)];omega
theorem pv_foldl(l:List Nat):∀v,l.foldl (fun v c=>10*v+(c-48)) v=10^l.length*v+pv l:=by
 induction l with
 | nil=>intro v;simp[pv]
 | cons c l ih=>
  intro v;have e:=ih (10*0+(c-48));have e':pv (c::l)=l.foldl (fun v c=>10*v+(c-48)) (10*0+(c-48)):=rfl;rw[List.foldl_cons,ih,e',e,List.length_cons,Nat.pow_succ];generalize 10^l.length=P;generalize pv l=z;generalize c-48=d;grind
theorem pv_cons(c:Nat)(l:List Nat):pv (c::l)=10^l.length*(c-48)+pv l:=by
 show l.foldl (fun v c=>10*v+(c-48)) (10*0+(c-48))=_;rw[pv_foldl,Nat.mul_zero,Nat.zero_add]
theorem pv_lt{l:List Nat}(h:digs l):pv l<10^l.length:=by
 induction l with
 | nil=>simp[pv]
 | cons c l ih=>
  have h1:=h c (List.mem_cons_self ..);have h2:=ih (fun x hx=>h x (List.mem_cons_of_mem _ hx));rw[pv_cons,List.length_cons,Nat.pow_succ];have e:10^l.length*(c-48)≤10^l.length*9:=Nat.mul_le_mul_left _ (by omega);omega
theorem take_txt(n:Nat):∀a,n<nd a→(txt a).take (nd a-n)=txt (a/10^n):=by
 induction n with
 | zero=>intro a _;unfold nd;simp
 | succ n ih=>
  intro a h;have h10:10≤a:=by
   rcases Nat.lt_or_ge a 10 with h1|h1
   ·rw[nd_lt h1] at h;omega
   ·exact h1
  have e:=nd_ge h10;have i:=ih (a/10) (by omega);rw[txt_ge h10,e,show nd (a/10)+1-(n+1)=nd (a/10)-n by omega,List.take_append_of_le_length (by unfold nd;omega),i,Nat.div_div_eq_div_mul,Nat.mul_comm 10,← Nat.pow_succ]
theorem nd_le_of_lt{a:Nat}(k:Nat)(h:a<10^(k+1)):nd a≤k+1:=by
 induction k generalizing a with
 | zero=>rw[nd_lt (by simpa using h)];omega
 | succ k ih=>
  rcases Nat.lt_or_ge a 10 with h1|h1
  ·rw[nd_lt h1];omega
  ·rw[nd_ge h1]
   have:=ih (a:=a/10) (by rw[Nat.pow_succ] at h;omega);omega
theorem lt_pow_nd(a:Nat):a<10^nd a:=by
 have:=pv_lt (digs_txt a);rwa [pv_txt] at this
theorem div_ge_nd{a n:Nat}(h:nd a≤n):a/10^n=0:=Nat.div_eq_of_lt (Nat.lt_of_lt_of_le (lt_pow_nd a) (Nat.pow_le_pow_right (by omega) h))
theorem nd_div(k:Nat):∀{a:Nat},0<a/10^k→nd a=nd (a/10^k)+k:=by
 induction k with
 | zero=>intro a _;simp
 | succ k ih=>
  intro a h;have e:a/10^(k+1)=a/10/10^k:=by rw[Nat.div_div_eq_div_mul,Nat.mul_comm 10,← Nat.pow_succ]
  rw[e] at h ⊢;have h10:10≤a:=by
   rcases Nat.lt_or_ge a 10 with h1|h1
   ·rw[Nat.div_eq_of_lt h1] at h;simp at h
   ·exact h1
  rw[nd_ge h10,ih h];omega
theorem tz_zero:tz 0=0:=by rw[tz];simp
theorem tz_yes{a:Nat}(h0:0<a)(h:a%10=0):tz a=tz (a/10)+1:=by rw[tz,dif_neg (by omega),if_pos h]
theorem tz_no{a:Nat}(h:a%10≠0):tz a=0:=by rw[tz,dif_neg (by intro e;subst e;exact h rfl),if_neg h]
theorem tz_lt{a:Nat}(h:0<a):tz a<nd a:=by
 induction a using Nat.strongRecOn with
 | _ a ih=>
  by_cases h1:a%10=0
  ·rw[tz_yes h h1,nd_ge (by omega)]
   have:=ih (a/10) (by omega) (by omega);omega
  ·rw[tz_no h1];exact nd_pos a
theorem tz_mul{a:Nat}(h:0<a)(n:Nat):tz (a*10^n)=tz a+n:=by
 induction n with
 | zero=>simp
 | succ n ih=>
  have hp:0<10^n:=Nat.pow_pos (by omega);have hm:0<a*10^n:=Nat.mul_pos h hp;have e:a*10^(n+1)=10*(a*10^n):=by rw[Nat.pow_succ,← Nat.mul_assoc,Nat.mul_comm]
  rw[e,tz_yes (by omega) (by omega),Nat.mul_div_cancel_left _ (by omega),ih];omega
theorem tz_limb{b:Nat}(h:b%1000000000≠0):tz b=tz (b%1000000000):=by
 suffices H:∀k b,b%10^k≠0→tz b=tz (b%10^k) from H 9 b h
 intro k;induction k with
 | zero=>intro b h;exact absurd (Nat.mod_one b) h
 | succ k ih=>
  intro b h;have hp:0<10^k:=Nat.pow_pos (by omega);have e1:b%10^(k+1)%10=b%10:=by rw[Nat.pow_succ];exact Nat.mod_mod_of_dvd _ (Nat.dvd_mul_left _ _)
  have e2:b%10^(k+1)/10=b/10%10^k:=by
   rw[Nat.pow_succ,Nat.mul_comm (10^k),Nat.mod_mul_right_div_self]
  by_cases hz:b%10=0
  ·have h0:0<b%10^(k+1):=Nat.pos_of_ne_zero h
   have hb:0<b:=by rcases Nat.eq_zero_or_pos b with h1|h1;(· subst h1;simp at h);exact h1
   have hq:b/10%10^k≠0:=by rw[← e2];omega
   rw[tz_yes hb hz,tz_yes h0 (by omega),e2,ih _ hq]
  ·rw[tz_no hz,tz_no (by omega)]
theorem dg_rest(a k:Nat):(dg a).drop k=dg (a/1000000000^k):=by
 rw[← (val_take_mod a k).2];refine(dg_val (limbs_drop (limbs_dg a) k) ?_).symm;rw[List.getLast?_drop];split
 ·simp
 ·exact dg_last a
theorem limb_digit{a i r:Nat}(hr:r<9):gd (dg a) i/10^r%10=a/10^(9*i+r)%10:=by
 have e:gd (dg a) i=a/10^(9*i)%10^9:=by
  have h1:=val_drop (dg a) i;rw[(val_take_mod a i).2] at h1;have hg:=gd_lt (limbs_dg a) i;rw[pow9] at h1;generalize gd (dg a) i=x at *;generalize val ((dg a).drop (i+1))=y at *;omega
 rw[e,Nat.pow_add,← Nat.div_div_eq_div_mul];generalize a/10^(9*i)=b;rw[show 9=r+((8-r)+1) by omega,Nat.pow_add,Nat.mod_mul_right_div_self,Nat.pow_succ];exact Nat.mod_mod_of_dvd _ (Nat.dvd_mul_left _ _)
def ngB(i:Int):Bool:=decide (i<0)
def sgn(b:Bool)(a:Nat):Int:=if b then -(a:Int) else a
theorem ng_sgn(b:Bool)(a:Nat):ngB (sgn b a)=(b&&decide (0<a)):=by
 unfold ngB sgn;cases b<;>by_cases h:0<a<;>simp[h]<;>omega
theorem abs_sgn(b:Bool)(a:Nat):(sgn b a).natAbs=a:=by
 unfold sgn;cases b<;>simp
theorem sgn_ng(i:Int):sgn (ngB i) i.natAbs=i:=by
 unfold sgn ngB;by_cases h:i<0<;>simp[h]<;>omega
theorem sgn_not(i:Int):sgn (!ngB i) i.natAbs = -i:=by
 unfold sgn ngB;by_cases h:i<0<;>simp[h]<;>omega
theorem sgn_false(a:Nat):sgn false a=a:=rfl
def beh(s a:Nat):List Nat:=if s=0 then [] else 46::pad s a
def sgT(i:Int):List Nat:=if i<0 then [45] else []
def txtD(i:Int)(s:Nat):List Nat:=sgT i++(txt (i.natAbs/10^s)++beh s i.natAbs)
def grp:List Nat→List Nat
 | []=>[]
 | c::l=>if l=[] then [c] else if l.length%3=0 then c::44::grp l else c::grp l
def ahd(l:List Nat):List Nat:=l.takeWhile (fun c=>c != 46)
def bhd(l:List Nat):List Nat:=(l.dropWhile (fun c=>c != 46)).drop 1
def nocom(l:List Nat):List Nat:=l.filter (fun c=>c != 44)
def gok:List Nat→Bool
 | []=>true
 | c::l=>((c == 44) == decide ((l.length+1)%4=0))&&gok l
def ungB(l:List Nat):Bool:=if l.contains 44 then (l.head? != some 44)&&gok l else true
def dgB(l:List Nat):Bool:=l.all fun c=>decide (48≤c)&&decide (c≤57)
def sgnB(l:List Nat):Bool:=l.head? == some 45
def rst(l:List Nat):List Nat:=if l.head?=some 45∨l.head?=some 43 then l.drop 1 else l
def digsOf(l:List Nat):List Nat:=nocom (ahd l)++bhd l
def frmB(l:List Nat):Bool:=(ahd l != []) && !(l.contains 46&&bhd l == [])&&ungB (ahd l)&&dgB (digsOf l)
def numD(l:List Nat):Int:=if sgnB l then -(pv (digsOf (rst l)):Int) else pv (digsOf (rst l))
theorem dgB_iff{l:List Nat}:dgB l=true↔digs l:=by
 unfold dgB digs;rw[List.all_eq_true];constructor
 ·intro h c hc;have:=h c hc;simp at this;exact this
 ·intro h c hc;have:=h c hc;simp;exact this
theorem digs_cons{c:Nat}{l:List Nat}:digs (c::l)↔(48≤c∧c≤57)∧digs l:=by
 unfold digs;simp
theorem nocom_digs{l:List Nat}(h:digs l):nocom l=l:=by
 unfold nocom;rw[List.filter_eq_self];intro c hc;have:=h c hc;simp;omega
theorem nocom_cons_no{c:Nat}{l:List Nat}(h:c≠44):nocom (c::l)=c::nocom l:=by unfold nocom;rw[List.filter_cons_of_pos (by simpa using h)]
theorem nocom_cons_yes{l:List Nat}:nocom (44::l)=nocom l:=by unfold nocom;rw[List.filter_cons_of_neg (by simp)]
theorem nocom_grp:∀l:List Nat,digs l→nocom (grp l)=l
 | [],_=>rfl
 | c::l,h=>by
  obtain⟨hc,hl⟩:=digs_cons.1 h;have ih:=nocom_grp l hl;have n1:c≠44:=by omega
  unfold grp;by_cases h1:l=[]
  ·subst h1;rw[if_pos rfl,nocom_cons_no n1];rfl
  ·rw[if_neg h1]
   by_cases h2:l.length%3=0
   ·rw[if_pos h2,nocom_cons_no n1,nocom_cons_yes,ih]
   ·rw[if_neg h2,nocom_cons_no n1,ih]
theorem grp_len:∀l:List Nat,(grp l).length=l.length+(l.length-1)/3
 | []=>rfl
 | c::l=>by
  have ih:=grp_len l;unfold grp;by_cases h1:l=[]
  ·subst h1;simp
  ·rw[if_neg h1]
   have hp:0<l.length:=List.length_pos_iff.2 h1;by_cases h2:l.length%3=0
   ·rw[if_pos h2];simp only[List.length_cons,ih];omega
   ·rw[if_neg h2];simp only[List.length_cons,ih];omega
theorem gok_grp:∀l:List Nat,digs l→gok (grp l)=true
 | [],_=>rfl
 | c::l,h=>by
  obtain⟨hc,hl⟩:=digs_cons.1 h;have ih:=gok_grp l hl;have n1:(c == 44)=false:=by simp;omega
  have hg:=grp_len l;unfold grp;by_cases h1:l=[]
  ·subst h1;simp[gok,n1]
  ·rw[if_neg h1]
   have hp:0<l.length:=List.length_pos_iff.2 h1;by_cases h2:l.length%3=0
   ·rw[if_pos h2]
    simp only[gok,n1,ih,List.length_cons,hg,Bool.and_true]
    have a1:¬(l.length+(l.length-1)/3+1+1)%4=0:=by omega
    have a2:(l.length+(l.length-1)/3+1)%4=0:=by omega
    rw[decide_eq_false a1,decide_eq_true a2];rfl
   ·rw[if_neg h2]
    simp only[gok,n1,ih,hg,Bool.and_true]
    have a1:¬(l.length+(l.length-1)/3+1)%4=0:=by omega
    rw[decide_eq_false a1];rfl
theorem grp_head{l:List Nat}(h:digs l):(grp l).head?≠some 44:=by
 cases l with
 | nil=>simp[grp]
 | cons c l=>
  obtain⟨hc,-⟩:=digs_cons.1 h;unfold grp;split
  ·simp;omega
  ·split<;>(simp;omega)
theorem grp_ne{l:List Nat}(h:l≠[]):grp l≠[]:=by
 cases l with
 | nil=>exact absurd rfl h
 | cons c l => 
  unfold grp;split
  ·simp
  ·split<;>simp
theorem ungB_grp{l:List Nat}(h:digs l):ungB (grp l)=true:=by
 unfold ungB;split
 ·rw[gok_grp l h];simp;exact grp_head h
 ·rfl
theorem ungB_digs{l:List Nat}(h:digs l):ungB l=true:=by
 unfold ungB;rw[if_neg];intro hc;have:=List.contains_iff_mem.1 hc;have:=h 44 this;omega
theorem grp_nodot:∀l:List Nat,digs l→∀c∈grp l,c≠46
 | [],_=>fun c hc=>by cases hc
 | c::l,h=>fun x hx=>by
  obtain⟨hc,hl⟩:=digs_cons.1 h;have ih:=grp_nodot l hl;unfold grp at hx;split at hx
  ·simp at hx;omega
  ·split at hx
   ·simp at hx
    rcases hx with rfl|rfl|hx
    ·omega
    ·omega
    ·exact ih x hx
   ·simp at hx
    rcases hx with rfl|hx
    ·omega
    ·exact ih x hx
theorem digs_nodot{l:List Nat}(h:digs l):∀c∈l,c≠46:=fun c hc=>by have:=h c hc;omega
theorem tw_all{x:List Nat}(h:∀c∈x,c≠46):∀y,(x++y).takeWhile (fun c=>c != 46)=x++y.takeWhile (fun c=>c != 46)∧(x++y).dropWhile (fun c=>c != 46)=y.dropWhile (fun c=>c != 46):=by
 intro y;have h':∀c∈x,(c != 46)=true:=fun c hc=>by simp;exact h c hc
 exact⟨List.takeWhile_append_of_pos h',List.dropWhile_append_of_pos h'⟩
theorem ahd_beh{x:List Nat}(h:∀c∈x,c≠46)(s a:Nat):ahd (x++beh s a)=x:=by
 unfold ahd;rw[(tw_all h _).1];unfold beh;split<;>simp
theorem bhd_beh{x:List Nat}(h:∀c∈x,c≠46)(s a:Nat):bhd (x++beh s a)=pad s a:=by
 unfold bhd;rw[(tw_all h _).2];unfold beh;split
 ·rename_i hs;subst hs;simp[pad]
 ·simp
theorem dot_beh{x:List Nat}(h:∀c∈x,c≠46)(s a:Nat):(x++beh s a).contains 46=decide (s≠0):=by
 rw[Bool.eq_iff_iff,List.contains_iff_mem,List.mem_append,decide_eq_true_iff];unfold beh;constructor
 ·rintro(h1|h1)
  ·exact absurd rfl (h 46 h1)
  ·split at h1
   ·cases h1
   ·assumption
 ·intro h1;right;rw[if_neg h1];simp
theorem pv_append(x y:List Nat):pv (x++y)=10^y.length*pv x+pv y:=by
 induction x with
 | nil=>simp[pv_nil]
 | cons c x ih=>
  rw[List.cons_append,pv_cons,ih,pv_cons,List.length_append,Nat.pow_add];generalize 10^x.length=P;generalize 10^y.length=Q;generalize c-48=d;grind
theorem pv_pad(k:Nat):∀a,pv (pad k a)=a%10^k:=by
 induction k with
 | zero=>intro a;simp[pad,pv_nil,Nat.mod_one]
 | succ k ih=>
  intro a;rw[pad,pv_snoc,ih,Nat.pow_succ,Nat.mul_comm (10^k),Nat.mod_mul];omega
theorem pv_whole(a s:Nat):pv (txt (a/10^s)++pad s a)=a:=by
 rw[pv_append,pv_txt,pv_pad,pad_len];exact Nat.div_add_mod a (10^s)
theorem sgT_rst{i:Int}{x:List Nat}(hh:x.head?≠some 45∧x.head?≠some 43):rst (sgT i++x)=x∧sgnB (sgT i++x)=decide (i<0):=by
 unfold sgT rst sgnB;split
 ·rename_i hi;simp[hi]
 ·rename_i hi;simp[hh,hi]
theorem head_txt(a:Nat)(y:List Nat):(txt a++y).head?≠some 45∧(txt a++y).head?≠some 43:=by
 have h:=txt_ne a;have hd:=digs_txt a;cases hx:txt a with
 | nil=>exact absurd hx h
 | cons c l=>
  rw[hx] at hd;have:=(digs_cons.1 hd).1;simp;omega
theorem head_grp(a:Nat)(y:List Nat):(grp (txt a)++y).head?≠some 45∧(grp (txt a)++y).head?≠some 43:=by
 have h:=txt_ne a;have hd:=digs_txt a;cases hx:txt a with
 | nil=>exact absurd hx h
 | cons c l=>
  rw[hx] at hd;have:=(digs_cons.1 hd).1;unfold grp;split
  ·simp;omega
  ·split<;>(simp;omega)
theorem told{i:Int}{s:Nat}{x:List Nat}(hx:x=txt (i.natAbs/10^s)∨x=grp (txt (i.natAbs/10^s))) :
  rst (sgT i++(x++beh s i.natAbs))=x++beh s i.natAbs∧rst (sgT i++(x++beh s i.natAbs))≠[]∧frmB (x++beh s i.natAbs)=true∧numD (sgT i++(x++beh s i.natAbs))=i∧(bhd (x++beh s i.natAbs)).length=s:=by
 have hd:=digs_txt (i.natAbs/10^s);have hne:x≠[]:=by rcases hx with rfl|rfl<;>first|exact txt_ne _|exact grp_ne (txt_ne _)
 have hdot:∀c∈x,c≠46:=by rcases hx with rfl|rfl<;>first|exact digs_nodot hd|exact grp_nodot _ hd
 have hno:nocom x=txt (i.natAbs/10^s):=by rcases hx with rfl|rfl<;>first|exact nocom_digs hd|exact nocom_grp _ hd
 have hun:ungB x=true:=by rcases hx with rfl|rfl<;>first|exact ungB_digs hd|exact ungB_grp hd
 have hhd:(x++beh s i.natAbs).head?≠some 45∧(x++beh s i.natAbs).head?≠some 43:=by rcases hx with rfl|rfl<;>first|exact head_txt _ _|exact head_grp _ _
 have hne2:x++beh s i.natAbs≠[]:=by simp[hne]
 obtain⟨h1,h2⟩:=sgT_rst (i:=i) hhd;have hA:=ahd_beh hdot s i.natAbs;have hB:=bhd_beh hdot s i.natAbs;have hdo:digsOf (x++beh s i.natAbs)=txt (i.natAbs/10^s)++pad s i.natAbs:=by unfold digsOf;rw[hA,hB,hno]
 refine⟨h1,by rw[h1];exact hne2,?_,?_,by rw[hB,pad_len]⟩
 ·unfold frmB
  rw[hA,hB,hdo,hun,dot_beh hdot,dgB_iff.2 (digs_append.2 ⟨hd,digs_pad _ _⟩)];have e1:(x != [])=true:=by simp[hne]
  rw[e1];by_cases hs:s=0
  ·simp[hs]
  ·have:pad s i.natAbs≠[]:=fun h=>hs (by have:=pad_len s i.natAbs;rw[h] at this;simpa using this.symm)
   simp[this]
 ·unfold numD
  rw[h1,h2,hdo,pv_whole];by_cases hi:i<0
  ·simp[hi];omega
  ·simp[hi];omega
theorem txt_eq_pad(a:Nat):txt a=pad (nd a) a:=by
 induction a using Nat.strongRecOn with
 | _ a ih=>
  rcases Nat.lt_or_ge a 10 with h|h
  ·rw[nd_lt h,txt_lt h,pad,pad,Nat.mod_eq_of_lt h];rfl
  ·rw[nd_ge h,txt_ge h,pad,← ih _ (by omega)]
theorem pad_drop(k s a:Nat):(pad (k+s) a).drop k=pad s a:=by
 induction k with
 | zero=>rw[Nat.zero_add];rfl
 | succ k ih=>rw[show k+1+s=(k+s)+1 by omega,pad_cons,List.drop_succ_cons,ih]
theorem txt_drop{a s:Nat}(h:s≤nd a):(txt a).drop (nd a-s)=pad s a:=by
 rw[txt_eq_pad];have e:pad (nd a) a=pad ((nd a-s)+s) a:=by rw[Nat.sub_add_cancel h]
 rw[e,pad_drop]
theorem pad_zeros(k a:Nat):pad (k+nd a) a=List.replicate k 48++txt a:=by
 induction k with
 | zero=>rw[Nat.zero_add,← txt_eq_pad];rfl
 | succ k ih=>
  have h:a/10^(k+nd a)=0:=Nat.div_eq_of_lt (Nat.lt_of_lt_of_le (lt_pow_nd a) (Nat.pow_le_pow_right (by omega) (by omega)));rw[show k+1+nd a=(k+nd a)+1 by omega,pad_cons,ih,h,List.replicate_succ,List.cons_append]
theorem beh_small{s a:Nat}(h:nd a≤s):beh s a=46::(List.replicate (s-nd a) 48++txt a)∧txt (a/10^s)=[48]:=by
 have h0:=nd_pos a;constructor
 ·unfold beh
  rw[if_neg (by omega),← pad_zeros,Nat.sub_add_cancel h]
 ·rw[div_ge_nd h,txt_zero]
theorem beh_large{s a:Nat}(h:s<nd a)(h0:0<s):beh s a=46::(txt a).drop (nd a-s):=by
 unfold beh;rw[if_neg (by omega),txt_drop (by omega)]
theorem beh_lt(s a:Nat):∀c∈beh s a,c<256:=by
 intro c hc;unfold beh at hc;split at hc
 ·cases hc
 ·rcases List.mem_cons.1 hc with rfl|hc
  ·omega
  ·have:=digs_pad s a c hc;omega
theorem sgT_lt(i:Int):∀c∈sgT i,c<256:=by
 intro c hc;unfold sgT at hc;split at hc
 ·rw[List.mem_singleton.1 hc];omega
 ·cases hc
theorem app_lt{x y:List Nat}(hx:∀c∈x,c<256)(hy:∀c∈y,c<256):∀c∈x++y,c<256:=fun c hc=>by
 rcases List.mem_append.1 hc with h|h
 ·exact hx c h
 ·exact hy c h
theorem txt_bytes(a:Nat):∀c∈txt a,c<256:=fun c hc=>by have:=digs_txt a c hc;omega
theorem txtD_lt(i:Int)(s:Nat):∀c∈txtD i s,c<256:=app_lt (sgT_lt i) (app_lt (txt_bytes _) (beh_lt _ _))
theorem gok_at{l:List Nat}{c:Nat}:gok (c::l)=(((c == 44) == decide ((l.length+1)%4=0))&&gok l):=rfl
end Go.Proofs.YtpbbolgnnegmlaaGreatDoor.Num
namespace Go.Proofs.YtpbbolgnnegmlaaGreatDoor.Num
open Go.RowKit
theorem fast_small(A A':Option Addr)(n c n' c' a b:Nat)(w:World)(h:Num w w.heap.size A n c a)(h':Num w w.heap.size A' n' c' b)(hn:n≤1000000)(hn':n'≤1000000)(hs:n<40∨n'<40) :
  Calls Tryz.prog 170 #[.slice A n c,.slice A' n' c'] w (RetNew w (a*b)):=by
 have H:=Jh h;have H':=Jh h';have C:=Jh (mul_any A A' n c n' c' a b w h h' (by omega) (by omega));clear h h';obtain⟨hlt,hs⟩|⟨hlt,hs⟩:(n'<n∧n'<40)∨(n≤n'∧n<40):=by omega
 all_goals
  go_enter Tryz.func170,Tryz.ntmps170;go_wp2_with fail;refine C.out.mono ?_;rintro e w1 ⟨A1,n1,c1,rfl,h1,hf1,hb1⟩;have H1:=Jh h1;have HF:=Jh hf1;have HB:=Jh hb1;clear h1 hf1 hb1;go_wp2_with fail;go_ret;exact⟨_,_,_,rfl,H1.out,HF.out,HB.out⟩
theorem fast_facts{a b n m h:Nat}(hn:(dg a).length=n)(hm:(dg b).length=m)(h1:n≤2*h)(h2:m≤2*h)(h3:2*h≤n+m) :
  ∃la ha lb hb,a%1000000000^h=la∧a/1000000000^h=ha∧b%1000000000^h=lb∧b/1000000000^h=hb∧
   (dg la).length≤h∧(dg ha).length≤n-h∧(dg lb).length≤h∧(dg hb).length≤m-h∧(dg (la+ha)).length≤h+1∧(dg (lb+hb)).length≤h+1∧
   (dg (la*lb)).length≤2*h∧(dg (ha*hb)).length≤n+m-2*h∧la*lb≤(la+ha)*(lb+hb)∧ha*hb≤(la+ha)*(lb+hb)-la*lb∧
   (la*lb+1000000000^(2*h)*(ha*hb))+1000000000^h*((la+ha)*(lb+hb)-la*lb-ha*hb)=a*b:=
 ⟨_,_,_,_,rfl,rfl,rfl,rfl,mod_len a h,div_len hn,mod_len b h,div_len hm,half_len hn h1,half_len hm h2,low_len,high_len hn hm h3,mid_le1 a b h,mid_le2 a b h,kara a b h⟩
theorem Env.two{w:World}{A1 A2:Option Addr}{n1 n2 c1 c2 a b:Nat}(h1:Num w w.heap.size A1 n1 c1 a)(h2:Num w w.heap.size A2 n2 c2 b):Hid (Env w w [(A1,n1,c1,a),(A2,n2,c2,b)]):=by
 refine⟨Below.refl _ _,fun q hq=>?_⟩;rcases List.mem_cons.1 hq with rfl|hq
 ·exact h1
 ·rcases List.mem_cons.1 hq with rfl|hq
  ·exact h2
  ·cases hq
theorem halves_is{A:Option Addr}{n c a k x y:Nat}{v:Int}{w:World}(h:Num w w.heap.size A n c a)(hn0:0<n)(hk0:0<k)(hk:k≤1000000000)(hv:v=k)(hx:a%1000000000^k=x)(hy:a/1000000000^k=y) :
  Calls Tryz.prog 179 #[.slice A n c,.int .i64 v] w (RetHalves w x y):=by
 subst hv;subst hx;subst hy;exact halves_any A n c a k w h hn0 hk0 hk
theorem vals_splice(L cs:List Nat)(off:Nat):splice (vals L) off (vals cs)=vals (splice L off cs):=by
 simp[splice,vals,List.map_append,List.map_take,List.map_drop]
theorem own_spliced{w:World}{g off:Nat}{L cs:List Nat}(h:Hid (w.heap[g]?=some (.cells (splice (vals L) off (vals cs)).toArray 163 (0,0)))):Hid (Own w g (splice L off cs)):=by
 have:=h.out;rw[vals_splice] at this;exact this
theorem copy_ok{w:World}{B n c k off:Nat}{A:Option Addr}{xs L:List Nat}(h:Lim w B A n c xs)(hk:n≤k)(hl:off+k≤L.length):(vals xs).length=Nat.min n k∧off+(vals xs).length≤(vals L).length:=by
 rw[vals_len,vals_len,h.len];exact⟨(Nat.min_eq_left hk).symm,by omega⟩
theorem madd_is{A':Option Addr}{g n' c' m a B V:Nat}{zs:List Nat}{w:World}(o r:Nat)(ho:Hid (Own w g zs))(hl:Hid (limbs zs))(hm:zs.length=m)(hor:o+r=m)(hmm:m≤1000000000)
  (h':Num w B A' n' c' a) (hoff:0<n'→Off g A') {cr:Nat}(hcr:r≤cr) (hV:val zs+1000000000^o*a=V) (hfit:V<1000000000^m) :
  Calls Tryz.prog 180 #[.slice (some ⟨g,o,none⟩) r cr,.slice A' n' c'] w (RetRoom w g m V):=by
 subst hV;exact madd_any (some ⟨g,o,none⟩) A' g o r n' c' m a B zs w ho hl hm hor hmm (fun _=>rfl) h' hoff hfit cr hcr
theorem own_lim_is{w:World}{g m:Nat}{zs:List Nat}(h:Own w g zs)(hz:limbs zs)(hl:zs.length=m)(hm:m≤1000000000000):Lim w w.heap.size (some ⟨g,0,none⟩) m m zs:=by
 subst hl;exact h.lim hz hm
theorem two_laid{N p x y:Nat}(h1:(dg x).length≤p)(h2:p+(dg y).length≤N) :
  (splice (splice (List.replicate N 0) 0 (dg x)) p (dg y)).length=N∧limbs (splice (splice (List.replicate N 0) 0 (dg x)) p (dg y))∧val (splice (splice (List.replicate N 0) 0 (dg x)) p (dg y))=x+1000000000^p*y:=by
 have e1:0+(dg x).length≤(List.replicate N 0).length:=by simp;omega
 have e2:p+(dg y).length≤(splice (List.replicate N 0) 0 (dg x)).length:=by
  rw[splice,len_splice e1];simp;omega
 refine⟨?_,?_,?_⟩
 ·rw[splice,len_splice e2,splice,len_splice e1];simp
 ·exact limbs_splice (limbs_splice (zeros_limbs _) (limbs_dg x)) (limbs_dg y)
 ·rw[splice,val_splice e2,splice,val_splice e1,val_zeros,val_dg,val_dg]
  ·simp
  ·intro j _;exact gd_zeros _ _
  ·intro j hj;exact gd_splice e1 (fun j _=>gd_zeros _ _) j (by omega)
def FastTo(k:Nat):Prop:=∀(A A':Option Addr) (n c n' c' a b m:Nat) (w:World),Num w w.heap.size A n c a→Num w w.heap.size A' n' c' b→n≤k→n'≤k→a*b=m→Calls Tryz.prog 170 #[.slice A n c,.slice A' n' c'] w (RetNew w m)
theorem fast_big(k:Nat)(ih:Hid (FastTo k))(hk:k<1000000)(A A':Option Addr)(n c n' c' a b:Nat)(w:World)(h:Num w w.heap.size A n c a)(h':Num w w.heap.size A' n' c' b)(hn:n≤k+1)(hn':n'≤k+1)(hb1:40≤n)(hb2:40≤n') :
  Calls Tryz.prog 170 #[.slice A n c,.slice A' n' c'] w (RetNew w (a*b)):=by
 obtain⟨i0,hi,hz0,hz1,hz2⟩:=info_parts info_limb;have E:=Env.two h h';have LA:=Jh h.len;have LB:=Jh h'.len;clear h h';obtain⟨half,hh1,hh2,hh3,hh4,hh5,hh⟩:∃half,n≤2*half∧n'≤2*half∧2*half<n+n'∧half+1≤k∧0<half∧((n<n'∧n≤n'∧half=(n'+1)/2)∨(n'<n∧n'≤n∧half=(n+1)/2)∨(n≤n'∧n'≤n∧half=(n+1)/2)):=by
  rcases Nat.lt_trichotomy n n' with h1|h1|h1
  ·exact⟨(n'+1)/2,by omega,by omega,by omega,by omega,by omega,.inl ⟨h1,by omega,rfl⟩⟩
  ·exact⟨(n+1)/2,by omega,by omega,by omega,by omega,by omega,.inr (.inr ⟨by omega,by omega,rfl⟩)⟩
  ·exact⟨(n+1)/2,by omega,by omega,by omega,by omega,by omega,.inr (.inl ⟨h1,by omega,rfl⟩)⟩
 obtain⟨la,ha,lb,hb,ea1,ea2,eb1,eb2,k1,k2,k3,k4,k5,k6,k7,k8,k9,k10,k11⟩:=fast_facts LA.out LB.out hh1 hh2 (by omega);have K1:=Jh k1;have K2:=Jh k2;have K3:=Jh k3;have K4:=Jh k4;have K5:=Jh k5;have K6:=Jh k6;have K7:=Jh k7;have K8:=Jh k8;have K9:=Jh k9;have K10:=Jh k10;have K11:=Jh k11;have EA1:=Jh ea1;have EA2:=Jh ea2;have EB1:=Jh eb1;have EB2:=Jh eb2;clear k1 k2 k3 k4 k5 k6 k7 k8 k9 k10 k11 ea1 ea2 eb1 eb2;rcases hh with⟨hlt,hlt2,hh⟩|⟨hlt,hlt2,hh⟩|⟨hlt,hlt2,hh⟩
 all_goals
  have HH:=Jh hh;clear hh;go_enter Tryz.func170,Tryz.ntmps170;go_wp2_with fail;first
   | rw[show((n':Int)+1)/2=(half:Int) from by have:=HH.out;omega]
   | rw[show((n:Int)+1)/2=(half:Int) from by have:=HH.out;omega]
  refine(halves_is (k:=half) (Env.get E (A:=A) (n:=n) (c:=c) (a:=a) (by simp)) (by omega) (by omega) (by omega) rfl EA1.out EA2.out).mono ?_;rintro e w1 ⟨A1,n1,c1,A2,n2,c2,rfl,h1,h2,hb⟩;replace E:=Env.push E hb h1;replace E:=Env.push E (Below.refl _ _) h2;clear h1 h2 hb;go_wp2_with fail;refine(halves_is (k:=half) (Env.get E (A:=A') (n:=n') (c:=c') (a:=b) (by simp)) (by omega) (by omega) (by omega) rfl EB1.out EB2.out).mono ?_;rintro e w2 ⟨A3,n3,c3,A4,n4,c4,rfl,h1,h2,hb⟩;replace E:=Env.push E hb h1;replace E:=Env.push E (Below.refl _ _) h2;have L1:=(Env.get E (A:=A1) (n:=n1) (c:=c1) (a:=la) (by simp)).len;have L2:=(Env.get E (A:=A2) (n:=n2) (c:=c2) (a:=ha) (by simp)).len;have M1:n1≤half:=by have:=K1.out;omega
  have M2:n2≤n-half:=by have:=K2.out;omega
  have M3:n3≤half:=by have:=K3.out;have:=h1.len;omega
  have M4:n4≤n'-half:=by have:=K4.out;have:=h2.len;omega
  clear h1 h2 hb L1 L2;go_wp2_with fail;refine(ih.out A1 A3 n1 c1 n3 c3 la lb (la*lb) _ (Env.get E (by simp)) (Env.get E (by simp)) (by omega) (by omega) rfl).mono ?_;rintro e w3 ⟨A5,n5,c5,rfl,h1,hf,hb⟩;replace E:=Env.push E hb h1;have M5:n5≤2*half:=by have:=K7.out;have:=h1.len;omega
  clear h1 hf hb;go_wp2_with fail;refine(ih.out A2 A4 n2 c2 n4 c4 ha hb (ha*hb) _ (Env.get E (by simp)) (Env.get E (by simp)) (by omega) (by omega) rfl).mono ?_;rintro e w4 ⟨A6,n6,c6,rfl,h1,hf,hb⟩;replace E:=Env.push E hb h1;have M6:n6≤n+n'-2*half:=by have:=K8.out;have:=h1.len;omega
  clear h1 hf hb;go_wp2_with fail;refine(add_is (a:=la) (b:=ha) (m:=la+ha) (Env.get E (A:=A1) (n:=n1) (c:=c1) (by simp)) (Env.get E (by simp)) (by omega) (by omega) rfl).mono ?_;rintro e w5 ⟨A7,n7,c7,rfl,h1,hb⟩;replace E:=Env.push E hb h1;have M7:n7≤half+1:=by have:=K5.out;have:=h1.len;omega
  clear h1 hb;go_wp2_with fail;refine(add_is (a:=lb) (b:=hb) (m:=lb+hb) (Env.get E (A:=A3) (n:=n3) (c:=c3) (by simp)) (Env.get E (by simp)) (by omega) (by omega) rfl).mono ?_;rintro e w6 ⟨A8,n8,c8,rfl,h1,hbb⟩;replace E:=Env.push E hbb h1;have M8:n8≤half+1:=by have:=K6.out;have:=h1.len;omega
  clear h1 hbb;go_wp2_with fail;refine(ih.out A7 A8 n7 c7 n8 c8 (la+ha) (lb+hb) ((la+ha)*(lb+hb)) _ (Env.get E (by simp)) (Env.get E (by simp)) (by omega) (by omega) rfl).mono ?_;rintro e w7 ⟨A9,n9,c9,rfl,h1,hf,hbb⟩;replace E:=Env.push E hbb h1;have M9:n9≤2*half+2:=by have:=dg_len_mul (la+ha) (lb+hb);have:=K5.out;have:=K6.out;have:=h1.len;omega
  clear h1 hf hbb;go_wp2_with fail;refine(sub_is (a:=(la+ha)*(lb+hb)) (b:=la*lb) (m:=(la+ha)*(lb+hb)-la*lb) (Env.get E (A:=A9) (n:=n9) (c:=c9) (by simp)) (Env.get E (A:=A5) (n:=n5) (c:=c5) (by simp)) (by omega) K9.out rfl).mono ?_;rintro e w8 ⟨A10,n10,c10,rfl,h1,hbb⟩;replace E:=Env.push E hbb h1;have M10:n10≤2*half+2:=by have:=dg_len_mono (Nat.sub_le ((la+ha)*(lb+hb)) (la*lb));have:=dg_len_mul (la+ha) (lb+hb);have:=K5.out;have:=K6.out;have:=h1.len;omega
  clear h1 hbb;go_wp2_with fail;refine(sub_is (a:=(la+ha)*(lb+hb)-la*lb) (b:=ha*hb) (m:=(la+ha)*(lb+hb)-la*lb-ha*hb) (Env.get E (A:=A10) (n:=n10) (c:=c10) (by simp)) (Env.get E (A:=A6) (n:=n6) (c:=c6) (by simp)) (by omega) K10.out rfl).mono ?_;rintro e w9 ⟨A11,n11,c11,rfl,h1,hbb⟩;replace E:=Env.push E hbb h1;have OFF:Hid (0<n11→Off w9.heap.size A11):=fun hp=>h1.off (Nat.le_refl _) hp
  clear h1 hbb;have PAB:=Jh (mul_lt_pow (pow_of_len LA.out (Nat.le_refl _)) (pow_of_len LB.out (Nat.le_refl _)));have S5:=Jh (Env.get E (A:=A5) (n:=n5) (c:=c5) (a:=la*lb) (by simp));have S6:=Jh (Env.get E (A:=A6) (n:=n6) (c:=c6) (a:=ha*hb) (by simp));have S11:=Jh (Env.get E (A:=A11) (n:=n11) (c:=c11) (a:=(la+ha)*(lb+hb)-la*lb-ha*hb) (by simp));have HB0:=Jh E.out.1;have HSZ:=Jh E.out.1.size;clear E;have TL:=Jh (two_laid (N:=n+n') (p:=2*half) (x:=la*lb) (y:=ha*hb) K7.out (by have:=K8.out;omega));have hN:2*half<n+n':=hh3;have L11:Hid ((splice (List.replicate (n+n') 0) 0 (dg (la*lb))).length=n+n'):=by show _=_;rw[length_splice];simp;have:=K7.out;simp;omega
  go_wp2_with (first|(at_make;go_must (refine wpList_make_full _ rfl _ _ 34 rfl w9.heap.size 163 i0 (.int .u32 0) 1 Tryz.underlying34 hi hz0 hz1 _ _ _ _ (n+n') rfl rfl (by omega) (by omega) (by rw[hz2];omega) (by unfold maxLen;omega) (Nat.le_refl _) ?_;intro w10 hown1 hgr1;have O10:Hid (Own w10 w9.heap.size (List.replicate (n+n') 0)):=Own.of_made hown1;have HB10:Hid (Below w9.heap.size w9 w10):=(Below.refl _ _).grown hgr1 (Nat.le_refl _) (fun k hk=>by cases hk);clear hown1 hgr1))|((with_reducible show wpList _ _ _ (⟨some 84,_,_,_,_,_⟩::_) _ _);go_must (refine wpList_copy_splice rfl (.tmp 82) (.tmp 83) 34 34 rfl 163 Tryz.underlying34 info_one _ _ _ _ _ _ rfl rfl w9.heap.size 0 (vals (List.replicate (n+n') 0)) 163 O10.out (vals (dg (la*lb))) (copy_ok (L:=List.replicate (n+n') 0) (off:=0) S5.out M5 (by simp;omega)).1 (fun hp=>⟨rfl,lim_src (S5.out.below HB10.out) hp⟩) (copy_ok (L:=List.replicate (n+n') 0) (off:=0) S5.out M5 (by simp;omega)).2 (vals_one _) w9.heap.size w9 HB10.out (Nat.le_refl _) ?_;intro w11 hg2 hb2;have O11:=own_spliced hg2;have HB11:=Jh hb2;clear hg2 hb2))|((with_reducible show wpList _ _ _ (⟨some 90,_,_,_,_,_⟩::_) _ _);go_must (refine wpList_copy_splice rfl (.tmp 88) (.tmp 89) 34 34 rfl 163 Tryz.underlying34 info_one _ _ _ _ _ _ rfl rfl w9.heap.size (2*half) (vals (splice (List.replicate (n+n') 0) 0 (dg (la*lb)))) 163 O11.out (vals (dg (ha*hb))) (copy_ok (L:=splice (List.replicate (n+n') 0) 0 (dg (la*lb))) (off:=2*half) S6.out M6 (by rw[L11.out];omega)).1 (fun hp=>⟨rfl,lim_src (S6.out.below HB11.out) hp⟩) (copy_ok (L:=splice (List.replicate (n+n') 0) 0 (dg (la*lb))) (off:=2*half) S6.out M6 (by rw[L11.out];omega)).2 (vals_one _) w9.heap.size w9 HB11.out (Nat.le_refl _) ?_;intro w12 hg2 hb2;have O12:=own_spliced hg2;have HB12:=Jh hb2;clear hg2 hb2;have HC:=Jh (madd_is (half) (n+n'-half) O12 TL.out.2.1 TL.out.1 (by omega) (by omega) (S11.out.below HB12.out) OFF.out (Nat.le_refl _) (by rw[TL.out.2.2];exact K11.out) PAB.out)))|(go_at_call 180;go_must (refine HC.out.mono ?_;rintro e w13 ⟨zs,rfl,hown,hlen,hlim,hval,hkp⟩;have OZ:=Jh hown;have LZ:=Jh hlen;have HL:=Jh hlim;have HV:=Jh hval;have HB13:=Jh (HB12.out.trans (hkp.below (Nat.le_refl _)));clear hown hlen hlim hval hkp;have LL:=Jh (own_lim_is OZ.out HL.out LZ.out (by omega))))|(go_at_call 181;go_must (refine(mcut_any _ _ _ _ _ _ LL.out HL.out).mono ?_;rintro e w' ⟨⟨A12,n12,c12,rfl,hn12,hA12,h12⟩,rfl⟩;have H12:=Jh h12;have HA12:=Jh hA12;clear h12 hA12)));go_ret;refine⟨_,_,_,rfl,by rw[← HV.out];exact H12.out,fun ad hA=>?_,HB0.out.trans (HB13.out.mono HSZ.out)⟩;rcases HA12.out with h0|h0
  ·rw[h0] at hA;cases hA
  ·rw[h0] at hA;injection hA with hA;subst hA;exact HSZ.out
theorem fast_to(k:Nat)(hk:k≤1000000):FastTo k:=by
 induction k with
 | zero=>
  intro A A' n c n' c' a b m w h h' hn hn' hm;subst hm;exact fast_small A A' n c n' c' a b w h h' (by omega) (by omega) (by omega)
 | succ k ih=>
  intro A A' n c n' c' a b m w h h' hn hn' hm;subst hm;by_cases hs:n<40∨n'<40
  ·exact fast_small A A' n c n' c' a b w h h' (by omega) (by omega) hs
  ·exact fast_big k (ih (by omega)) (by omega) A A' n c n' c' a b w h h' hn hn' (by omega) (by omega)
theorem fast_is{A A':Option Addr}{n c n' c' a b m:Nat}{w:World}(h:Num w w.heap.size A n c a)(h':Num w w.heap.size A' n' c' b)(hn:n≤1000000)(hn':n'≤1000000)(hm:a*b=m) :
 Calls Tryz.prog 170 #[.slice A n c,.slice A' n' c'] w (RetNew w m):=fast_to 1000000 (Nat.le_refl _) A A' n c n' c' a b m w h h' hn hn' hm
end Go.Proofs.YtpbbolgnnegmlaaGreatDoor.Num
