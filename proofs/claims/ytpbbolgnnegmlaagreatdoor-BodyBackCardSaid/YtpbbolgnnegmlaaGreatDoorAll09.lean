/- Lemmas of the proof: DigB, DigC. -/
import Derived.Test.YtpbbolgnnegmlaaGreatDoorAll07
import Derived.Laws.BytesArg
set_option linter.unusedVariables false
set_option linter.unusedSimpArgs false
set_option maxRecDepth 100000
set_option maxHeartbeats 32000000
open Go.Lib renaming hid→Jh
namespace Go.Proofs.YtpbbolgnnegmlaaGreatDoor.Num
open Go.RowKit
def bvals(ys:List Nat):List Value:=ys.map (fun(y:Nat)=>Value.int .u8 (y:Int))
theorem bvals_len(ys:List Nat):(bvals ys).length=ys.length:=by simp[bvals]
theorem bvals_get{ys:List Nat}{j:Nat}(h:j<ys.length):(bvals ys)[j]?=some (.int .u8 (gd ys j:Nat)):=by
 unfold bvals;rw[List.getElem?_map,gd_of_lt h];rfl
theorem bvals_set(ys:List Nat)(i x:Nat):bvals (ys.set i x)=(bvals ys).set i (.int .u8 (x:Int)):=by simp[bvals,List.map_set]
def str(l:List Nat):ByteArray:=⟨(l.map UInt8.ofNat).toArray⟩
theorem strOfNums_str(l:List Nat):strOfNums (l.map fun(y:Nat)=>(y:Int))=str l:=by
 unfold strOfNums str;rw[List.map_map];congr 2
structure Byt (w:World) (B:Nat) (A:Option Addr) (n c:Nat) (ys:List Nat):Prop where
 len:ys.length=n
 cap:n≤c
 room:c≤maxLen
 row:Row w B A (bvals ys)
 addr:A=none→c=0
theorem Byt.nil{w:World}{B:Nat}:Byt w B none 0 0 []:=⟨rfl,Nat.le_refl _,by simp[maxLen],.inl rfl,fun _=>rfl⟩
theorem Byt.at_{w:World}{B n c:Nat}{A:Option Addr}{ys:List Nat}(h:Byt w B A n c ys)(hk:0<n):∃b o,A=some ⟨b,o,none⟩∧b<B∧∀j,j<n→w.cell? ⟨b,o+j,none⟩=some (.int .u8 (gd ys j:Nat)):=by
 rcases h.row with h0|⟨b,o,rfl,hb,hc⟩
 ·have:=congrArg List.length h0
  rw[bvals_len,h.len] at this;simp at this;omega
 ·exact⟨b,o,rfl,hb,fun j hj=>hc j _ (bvals_get (by rw[h.len];exact hj))⟩
theorem Byt.tail{w:World}{B n c b o y:Nat}{ys:List Nat}(h:Byt w B (some ⟨b,o,none⟩) (n+1) c (y::ys))(A:Option Addr)(hA:0<n→A=some ⟨b,o+1,none⟩)(hA':A=none→c-1=0):Byt w B A n (c-1) ys:=by
 have hl:=h.len;rw[List.length_cons] at hl;refine⟨by omega,by have:=h.cap;omega,by have:=h.room;omega,?_,hA'⟩;rcases Nat.eq_zero_or_pos n with h0|h0
 ·left
  rw[List.eq_nil_of_length_eq_zero (show ys.length=0 by omega)];rfl
 ·obtain rfl:=hA h0
  rcases h.row with h1|⟨b',o',he,hb,hc⟩
  ·simp[bvals] at h1
  ·injection he with he;injection he with h2 h3
   subst h2;subst h3;refine .inr ⟨b,o+1,rfl,hb,fun j u hu=>?_⟩;have:=hc (j+1) u (by simpa [bvals] using hu);rwa [← Nat.add_assoc,Nat.add_right_comm] at this
theorem lz_nil:lz []=[]:=rfl
theorem trimByte_any(A:Option Addr)(n c B:Nat)(ys:List Nat)(w:World)(h:Byt w B A n c ys) :
  Calls Tryz.prog 139 #[.slice A n c,.int .u8 48] w fun e w'=>(∃A' n' c',e=.returned (.slice A' n' c')∧Hid (Byt w B A' n' c' (lz ys)))∧w=w':=by
 have H:=Jh h;clear h;go_enter Tryz.func139,Tryz.ntmps139;go_wp2;go_loop [0] (fun v=>∃(A':Option Addr) (n' c':Nat) (zs:List Nat),v=.slice A' n' c'∧Byt w B A' n' c' zs∧lz zs=lz ys) (fun v=>match v with | .slice _ n' _=>n' | _=>0)
 case atStart=>exact⟨A,n,c,ys,rfl,H.out,rfl⟩
 case round=>
  obtain⟨A',n',c',zs,rfl,hz,hl⟩:=hrel;have hm:=hz.room;have hcap:=hz.cap;unfold maxLen at hm;have HL:=Jh hl;have HZ:=Jh hz;clear hz hl;rcases Nat.eq_zero_or_pos n' with h0|h0
  ·subst h0
   have HE:Hid (lz ys=[]):=by
    have:=HL.out;rw[List.eq_nil_of_length_eq_zero HZ.out.len,lz_nil] at this;exact this.symm
   go_wp2;go_ret;exact⟨⟨none,0,0,rfl,by show Byt _ _ _ _ _ _;rw[HE.out];exact Byt.nil⟩,rfl⟩
  ·obtain⟨m,rfl⟩:∃m,n'=m+1:=⟨n'-1,by omega⟩
   obtain⟨y,zs,rfl⟩:∃y r,zs=y::r:=by
    match zs,HZ.out.len with
    | y::r,_=>exact⟨y,r,rfl⟩
   obtain⟨b,o,rfl,_,hc⟩:=HZ.out.at_ h0;have hc0:=hc 0 h0;rw[Nat.add_zero,gd_cons_zero] at hc0;clear hc;by_cases hy:y=48
   ·subst hy
    rcases Nat.eq_or_lt_of_le (show 1≤c' by omega) with h1|h1
    ·subst h1
     obtain rfl:m=0:=by omega
     go_wp2;go_round
     case rel=>exact⟨_,_,_,zs,rfl,HZ.out.tail _ (fun h=>absurd h (by omega)) (fun h=>by cases h),by have:=HL.out;rwa [lz_cons_yes] at this⟩
     case measure=>simp
    ·go_wp2
     go_round
     case rel=>exact⟨_,_,_,zs,by go_num,HZ.out.tail _ (fun _=>rfl) (fun h=>by cases h),by have:=HL.out;rwa [lz_cons_yes] at this⟩
     case measure=>simp
   ·have hy':((y:Int) == 48)=false:=by simp;omega
    have HE:Hid (lz ys=y::zs):=by
     have:=HL.out;rw[lz_cons_no _ hy] at this;exact this.symm
    clear hy;go_wp2;go_ret;exact⟨⟨_,_,_,rfl,by show Byt _ _ _ _ _ _;rw[HE.out];exact HZ.out⟩,rfl⟩
def OwnB(w:World)(g:Nat)(ys:List Nat):Prop:=w.heap[g]?=some (.cells (bvals ys).toArray 5 (0,0))
theorem OwnB.frozen{w:World}{g:Nat}{ys:List Nat}(h:OwnB w g ys)(i:Nat):w.frozen? ⟨g,i,none⟩=false:=frozen_of_row w g i _ _ h
theorem OwnB.cell{w:World}{g:Nat}{ys:List Nat}(h:OwnB w g ys){i:Nat}(hi:i<ys.length):w.cell? ⟨g,i,none⟩=some (.int .u8 (gd ys i:Nat)):=by
 rw[cell_of_row w g i _ _ (0,0) h];simpa using bvals_get hi
theorem OwnB.store{w:World}{g:Nat}{ys:List Nat}(h:OwnB w g ys)(i:Nat)(x:Nat)(v:Int)(hv:v=x):OwnB (w.setCell ⟨g,i,none⟩ (.int .u8 v)) g (ys.set i x):=by
 subst hv;unfold OwnB at h ⊢;rw[heap_setCell_same w g i _ _ _ h,bvals_set];simp
theorem OwnB.lt{w:World}{g:Nat}{ys:List Nat}(h:OwnB w g ys):g<w.heap.size:=by
 rcases Nat.lt_or_ge g w.heap.size with hlt|hge
 ·exact hlt
 ·unfold OwnB at h;rw[Array.getElem?_eq_none hge] at h;cases h
theorem OwnB.byt{w:World}{g n:Nat}{ys:List Nat}(h:OwnB w g ys)(hn:ys.length=n)(hl:n≤1000000000000):Byt w w.heap.size (some ⟨g,0,none⟩) n n ys:=by
 subst hn;refine⟨rfl,Nat.le_refl _,by unfold maxLen;omega,.inr ⟨g,0,rfl,h.lt,fun j u hu=>?_⟩,fun h=>by cases h⟩;rw[cell_of_row w g (0+j) _ _ (0,0) h,Nat.zero_add];simpa using hu
theorem OwnB.of_made{w:World}{base n:Nat}(h:w.ownsRow base 5 1 (.slice (some ⟨base,0,none⟩) n n) n (madeCells (Value.int .u8 0).cells (n*1)).toList):OwnB w base (List.replicate n 0):=by
 have e:(madeCells (Value.int .u8 0).cells (n*1)).toList=bvals (List.replicate n 0):=by
  rw[Nat.mul_one];show(madeCells #[Value.int .u8 0] n).toList=_;rw[toList_madeCells_one];simp[bvals]
 rw[e] at h;rcases h.2 with⟨h1,_⟩|⟨g,cap,cur,hv,_,hh,_,_,hsz,htk⟩
 ·cases h1
 ·injection hv with h1 h2 h3
  injection h1 with h1
  injection h1 with h1
  subst h1;subst h3;unfold OwnB;rw[hh,← htk,List.take_of_length_le (by simp;omega)]
theorem info_byte:(Tryz.prog.info? 5).map (fun i=>(i.zero,i.size,i.bytes))=some (some (.int .u8 0),1,1):=by kernel_rfl
theorem trimLeft_any(A:Option Addr)(n c B:Nat)(ys:List Nat)(w:World)(h:Byt w B A n c ys) :
  Calls Tryz.prog 126 #[.slice A n c,.string ⟨#[48]⟩] w fun e w'=>(∃A' n' c',e=.returned (.slice A' n' c')∧Hid (Byt w B A' n' c' (lz ys)))∧w=w':=by
 have H:=Jh h;have hm:=h.room;have hcap:=h.cap;unfold maxLen at hm;clear h;rcases Nat.eq_zero_or_pos n with h0|h0
 ·subst h0
  have HE:Hid (lz ys=[]):=by show _=_;rw[List.eq_nil_of_length_eq_zero H.out.len,lz_nil]
  go_enter Tryz.func126,Tryz.ntmps126;go_wp2;go_ret;exact⟨⟨none,0,0,rfl,by show Byt _ _ _ _ _ _;rw[HE.out];exact Byt.nil⟩,rfl⟩
 ·have C:=Jh (trimByte_any A n c B ys w H.out)
  go_enter Tryz.func126,Tryz.ntmps126;go_wp2_with fail;refine C.out.mono ?_;rintro e w' ⟨⟨A',n',c',rfl,HB⟩,rfl⟩;go_wp2_with fail;go_ret;exact⟨⟨_,_,_,rfl,HB⟩,rfl⟩
theorem text_set{t k d a n:Nat}(h:t=n+1)(hd:d=48+a/10^k%10):(List.replicate t 0++pad k a).set n d=List.replicate n 0++pad (k+1) a:=by
 subst h;subst hd;rw[pad_cons,List.set_append_left _ _ (by simp),List.replicate_succ',List.set_append_right _ _ (by simp)];simp
theorem text_end{n a:Nat}(h:(dg a).length=n):lz (pad (9*n) a)=if a=0 then [] else txt a:=by
 refine lz_pad _ ?_;have:=lt_pow_dg a;rwa [h,pow9] at this
theorem text_conv{w:World}{B n c:Nat}{A:Option Addr}{a:Nat}(h:Byt w B A n c (txt a))(dst:TypeId)(hd:Tryz.prog.underlying dst=some .string):(convert 104 dst (.slice A n c)).run Tryz.prog w=.ok (.string (str (txt a))) w:=by
 have hn:0<n:=by rw[← h.len];exact nd_pos a
 obtain⟨b,o,rfl,_,hc⟩:=h.at_ hn;rw[run_convert_bytes_arg w 104 5 Tryz.underlying104 Tryz.underlying5 b o n c ((txt a).map fun(y:Nat)=>(y:Int)) (by rw[List.length_map];exact h.len) (fun i hi=>?_) dst hd,strOfNums_str];rw[hc i hi];unfold gd;rw[List.getD_eq_getElem?_getD,List.getD_eq_getElem?_getD,List.getElem?_map,List.getElem?_eq_getElem (by rw[h.len];exact hi)];rfl
theorem text_any(A:Option Addr)(n c a B:Nat)(w:World)(h:Num w B A n c a)(hB:B≤w.heap.size)(hn:n≤1000000) :
  Calls Tryz.prog 114 #[.slice A n c] w (RetVal w (.string (str (txt a)))):=by
 obtain⟨i0,hi,hz0,hz1,hz2⟩:=info_parts info_byte;have hm:=h.room;have hcap:=h.cap;unfold maxLen at hm;have H:=Jh h;clear h;go_enter Tryz.func114,Tryz.ntmps114;go_wp2_with (at_make;go_must (refine wpList_make_full _ rfl _ _ 104 rfl w.heap.size 5 i0 (.int .u8 0) 1 Tryz.underlying104 hi hz0 hz1 _ _ _ _ (9*n) rfl rfl (by omega) (by omega) (by rw[hz2];omega) (by unfold maxLen;omega) (Nat.le_refl _) ?_;intro w1 hown1 hgr1;have M1:Hid (OwnB w1 w.heap.size (List.replicate (9*n) 0)):=OwnB.of_made hown1;have HB1:Hid (Below w.heap.size w w1):=(Below.refl _ _).grown hgr1 (Nat.le_refl _) (fun k hk=>by cases hk);clear hown1 hgr1));go_loopw [4,15] (fun tv iv wr=>∃i t:Nat,i≤n∧t+9*i=9*n∧iv=.int .i64 i∧tv=.int .i64 t∧OwnB wr w.heap.size (List.replicate t 0++pad (9*i) a)∧Below w.heap.size w wr) (fun _ iv _=>n-(intOf iv).toNat)
 case atStart=>exact⟨0,9*n,Nat.zero_le _,by omega,rfl,by go_num,by rw[pad,List.append_nil];exact M1.out,HB1.out⟩
 case round=>
  obtain⟨i,t,hin,ht,rfl,rfl,ho,hb⟩:=hrel;clear M1 HB1;have HO:=Jh ho;have HB:=Jh hb;clear ho hb;rcases Nat.lt_or_ge i n with hlt|hge
  ·obtain⟨b,o,rfl,hbB,hc⟩:=H.out.at_ hlt
   have hcw:wr.cell? ⟨b,o+i,none⟩=some (.int .u32 (gd (dg a) i:Nat)):=(HB.out.cell (p:=⟨b,o+i,none⟩) (by show b<_;omega)).trans hc;have hg:=gd_lt (limbs_dg a) i;have HX:Hid (∀r,r<9→gd (dg a) i/10^r%10=a/10^(9*i+r)%10):=fun r hr=>limb_digit hr
   generalize gd (dg a) i=x at hcw hg HX;clear hc;go_wp2_with fail;obtain⟨wo,rfl⟩:∃wo:World,wo=wr:=⟨_,rfl⟩;go_loopw [4,6,19] (fun tv xv rv wr2=>∃r t2:Nat,r≤9∧t2+r=t∧rv=.int .i64 r∧tv=.int .i64 t2∧xv=.int .u32 (x/10^r:Nat)∧OwnB wr2 w.heap.size (List.replicate t2 0++pad (9*i+r) a)∧Below w.heap.size w wr2) (fun _ _ rv _=>9-(intOf rv).toNat)
   case atStart=>exact⟨0,t,by omega,by omega,rfl,rfl,by rw[Nat.pow_zero,Nat.div_one],HO.out,HB.out⟩
   case round=>
    obtain⟨r,t2,hr9,ht2,rfl,rfl,rfl,ho2,hb2⟩:=hrel;clear HO HB;have HO:=Jh ho2;have HB:=Jh hb2;clear ho2 hb2;rcases Nat.lt_or_ge r 9 with h1|h1
    ·obtain⟨t3,rfl⟩:∃t3,t2=t3+1:=⟨t2-1,by omega⟩
     have hL:(List.replicate (t3+1) 0++pad (9*i+r) a).length=9*n:=by rw[List.length_append,List.length_replicate,pad_len];omega
     have hcell:=HO.out.cell (i:=t3) (by rw[hL];omega);have hfr:=HO.out.frozen t3;have hx:x/10^r<1000000000:=Nat.lt_of_le_of_lt (Nat.div_le_self _ _) hg;have HS:Hid (x/10^(r+1)=x/10^r/10):=by show _=_;rw[Nat.pow_succ,Nat.div_div_eq_div_mul]
     have HXr:=Jh (HX.out r h1);obtain⟨y,hy⟩:∃y,y=x/10^r:=⟨_,rfl⟩;rw[← hy] at hx HS HXr ⊢;clear hy hL;have et:((t3+1:Nat):Int)-1=(t3:Int):=by omega
     rw[show((t3+1:Nat):Int)=(t3:Int)+1 by omega];clear et;go_wp2_with fail;go_roundw
     case rel=>
      refine⟨r+1,t3,by omega,by omega,by go_num,by go_num,by rw[HS.out];go_num,?_,?_⟩
      ·have:=HO.out.store t3 (48+y%10) (48+(y:Int)%10) (by omega)
       rw[text_set rfl (by rw[HXr.out])] at this;exact this
      ·exact HB.out.setCell (by simp) _
     case measure=>simp[intOf];omega
    ·obtain rfl:r=9:=by omega
     go_wp2_with fail;go_roundw
     case rel=>exact⟨i+1,t2,by omega,by omega,by go_num,rfl,by have:=HO.out;rwa [show 9*i+9=9*(i+1) by omega] at this,HB.out⟩
     case measure=>simp[intOf];omega
  ·obtain rfl:i=n:=by omega
   obtain rfl:t=0:=by omega
   have HY:Hid (Byt wr wr.heap.size (some ⟨w.heap.size,0,none⟩) (9*i) (9*i) (pad (9*i) a)):=by
    have:=HO.out;rw[List.replicate_zero,List.nil_append] at this;exact this.byt (pad_len _ _) (by omega)
   have HC:=Jh (trimLeft_any _ _ _ _ _ _ HY.out);have HE:=Jh (text_end H.out.len);rw[HE.out] at HC;clear HE HY HO;go_wp2_with fail;refine HC.out.mono ?_;rintro e w' ⟨⟨A',n',c',rfl,HY⟩,rfl⟩;clear HC;by_cases h0:a=0
   ·subst h0
    rw[if_pos rfl] at HY;obtain rfl:n'=0:=HY.out.len.symm;go_wp2_with fail;go_ret;exact⟨by rw[txt_zero];rfl,HB.out⟩
   ·rw[if_neg h0] at HY
    have hn':0<n':=by rw[← HY.out.len];exact nd_pos a
    have hne:((n':Int) == 0)=false:=by simp;omega
    have hcv:=text_conv HY.out;go_wp2_with fail;go_ret;exact⟨rfl,HB.out⟩
end Go.Proofs.YtpbbolgnnegmlaaGreatDoor.Num
