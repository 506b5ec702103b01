/- Lemmas of the proof: NatC, NatF. -/
import Derived.Test.YtpbbolgnnegmlaaGreatDoorAll03
import Derived.Laws.AppendOwnNone
import Derived.Deep.DeepMust
set_option linter.unusedVariables false
set_option linter.unusedSimpArgs false
set_option maxRecDepth 100000
set_option maxHeartbeats 32000000
open Go.Lib renaming hid→Jh
namespace Go.Proofs.YtpbbolgnnegmlaaGreatDoor.Num
open Go.RowKit
theorem append_types{P:Program}{w:World}{t tx ty e e':TypeId}{i:TypeInfo}(ht:P.underlying t=some (.slice e))(htx:P.underlying tx=some (.slice e'))(hi:P.info? e=some i)(A:Option Addr)(n c:Nat)(x:Value) :
  (Builtin.append_ #[t,tx] ty #[.slice A n c,x]).run P w=(Builtin.append_ #[t,t] ty #[.slice A n c,x]).run P w:=by
 simp[Builtin.append_,run_underlying ht,run_underlying htx,sizeOf,typeInfo,hi]
theorem own_shape{w:World}{base e:Nat}{v:Value}{n:Nat}{xs:List Value}(h:w.ownsRow base e 1 v n xs):∃A c,v=.slice A n c:=by
 rcases h.2 with⟨rfl,rfl⟩|⟨g,cap,cur,rfl,_⟩
 ·exact⟨_,_,rfl⟩
 ·exact⟨_,_,rfl⟩
theorem wpList_append_lim{P:Program}{w:World}{ops:Array Oper}{rest:List Oper}{o:Oper}{a:Act}{Q:Exit→Act→World→Prop}(hgd:o.guard=none)(s x:Operand)(t tx:TypeId)
  (ho:o.op=.call { callee:=.builtin .append,args:=#[s,x],argTypes:=#[t,tx] })
  (base e e':TypeId) (i:TypeInfo) (ht:P.underlying t=some (.slice e)) (htx:P.underlying tx=some (.slice e')) (hi:P.info? e=some i) (hz:i.zero=some (.int .u32 0)) (hz1:i.size=1) (hz2:i.bytes=4)
  (A:Option Addr) (n c:Nat) (xs:List Nat) (hs:a.eval s=.slice A n c) (hown:w.ownsRow base e 1 (.slice A n c) n (vals xs))
  (B:Nat) (A':Option Addr) (m c':Nat) (ys:List Nat) (hx:a.eval x=.slice A' m c') (hy:Lim w B A' m c' ys) (hlen:n+m≤1000000000000) (hbase:base≤w.heap.size)
  (h:∀A2 c2 w',w'.ownsRow base e 1 (.slice A2 (n+m) c2) (n+m) (vals (xs++ys))→w.grownBy w' (Value.slice A n c).ownBlock→wpList P ops Q rest (a.put o.dst (.slice A2 (n+m) c2)) w'):wpList P ops Q (o::rest) a w:=by
 refine wpList_plain hgd fun K hK=>?_
 cases A' with
 | none=>
  have hc:=hy.addr rfl;have hm:m=0:=by have:=hy.cap;omega
  subst hc;subst hm;obtain rfl:ys=[]:=List.eq_nil_of_length_eq_zero hy.len;have hrun:=run_append_owned_none (P:=P) (w:=w) base t o.type e i 1 ht hi _ n (vals xs) hown;rw[← append_types ht htx hi] at hrun;unfold Oper.wp execOp;simp only[ho,resolve,invoke,builtin,Sem.run_bind,Sem.run_pure,Result.andThen_ok,List.map_toArray,List.map_cons,List.map_nil,hs,hx,hrun]
  exact hK _ _ (h A c w (by simpa using hown) (World.grownBy.refl _ _))
 | some ad=>
  have hcells:∀j u,(vals ys)[j]?=some u→w.cell? (ad.add j)=some u:=by
   intro j u hu;rcases hy.row with h0|⟨b,o',he,_,hc⟩
   ·rw[h0] at hu;simp at hu
   ·injection he with he
    subst he;rw[Addr.add_lit];exact hc j u hu
  obtain⟨v',w',hr,h2,h3,_⟩:=run_append_own (P:=P) w base t o.type e i (.int .u32 0) 1 4 ht hi hz hz1 hz2 rfl (by decide) _ n (vals xs) hown ad m c' (vals ys) (by rw[vals_len,hy.len,Nat.mul_one]) hcells (vals_one ys) (by unfold maxLen;omega) (by omega) hbase;rw[← append_types ht htx hi] at hr;obtain⟨A2,c2,rfl⟩:=own_shape h2;rw[← vals_append] at h2;unfold Oper.wp execOp;simp only[ho,resolve,invoke,builtin,Sem.run_bind,Sem.run_pure,Result.andThen_ok,List.map_toArray,List.map_cons,List.map_nil,hs,hx,hr]
  exact hK _ _ (h A2 c2 w' h2 h3)
theorem Lim.one(w:World)(x:Nat)(v:Int)(hv:v=x)(hx:x<4294967296)(t:TypeId):Lim (w.alloc (.cells #[.int .u32 v] t)) (w.heap.size+1) (some ⟨w.heap.size,0,none⟩) 1 1 [x]:=by
 subst hv;refine⟨rfl,Nat.le_refl _,by simp[maxLen],by simpa using hx,.inr ⟨w.heap.size,0,rfl,Nat.lt_succ_self _,fun j u hu=>?_⟩,fun h=>by cases h⟩;match j,hu with
 | 0,hu=>
  simp[vals] at hu
  subst hu;rw[cell_of_row _ w.heap.size 0 _ t (0,0) (heap_alloc_new w _)];rfl
theorem cut_any(A:Option Addr)(n c B:Nat)(xs:List Nat)(w:World)(h:Lim w B A n c xs)(hx:limbs xs) :
  Calls Tryz.prog 122 #[.slice A n c] w fun e w'=>(∃A' n' c',e=.returned (.slice A' n' c')∧n'≤n∧Lim w B A' n' c' (dg (val xs)))∧w=w':=by
 have hm:=h.room;have hn:=h.cap;unfold maxLen at hm;have Z:Hid (∀j,n≤j→gd xs j=0):=fun j hj=>gd_of_ge (by rw[h.len];exact hj)
 go_enter Tryz.func122,Tryz.ntmps122;go_wp2;go_loop [3] (fun i=>∃k:Nat,k≤n∧i=.int .i64 k∧∀j,k≤j→gd xs j=0) (fun i=>(intOf i).toNat)
 case atStart=>exact⟨n,Nat.le_refl _,rfl,Z.out⟩
 case round=>
  obtain⟨k,hk,rfl,hall⟩:=hrel;have HALL:=Jh hall;have H:=Jh h;have hg:=h.gd_lt (k-1);clear hall Z;rcases Nat.eq_zero_or_pos k with h0|h0
  ·subst h0
   clear h hg;go_wp2;go_ret;exact⟨⟨none,0,0,rfl,Nat.zero_le _,by have:=dg_cut hx HALL.out (.inl rfl) (Nat.zero_le _);rw[this];exact Lim.nil⟩,rfl⟩
  ·obtain⟨b,o,rfl,_,hc⟩:=h.at_ (show k-1<n by omega)
   clear h;by_cases hz:gd xs (k-1)=0
   ·go_wp2
    go_round
    case rel=>
     refine⟨k-1,by omega,by go_num,fun j hj=>?_⟩;rcases Nat.lt_or_ge j k with h1|h1
     ·obtain rfl:j=k-1:=by omega
      exact hz
     ·exact HALL.out j h1
    case measure=>simp[intOf];omega
   ·go_wp2
    go_ret;exact⟨⟨_,_,_,rfl,hk,by rw[dg_cut hx HALL.out (.inr hz) (by have:=H.out.len;omega)];exact H.out.take hk⟩,rfl⟩
theorem info_limb:(Tryz.prog.info? 163).map (fun i=>(i.zero,i.size,i.bytes))=some (some (.int .u32 0),1,4):=by kernel_rfl
def RetOwn(W:World)(xs:List Nat)(e:Ending)(w':World):Prop:=
 ∃A n c,e=.returned (.slice A n c)∧w'.ownsRow W.heap.size 163 1 (.slice A n c) n (vals xs)∧Below W.heap.size W w'
theorem trim_own(A:Option Addr)(n c:Nat)(xs:List Nat)(w:World)(h:Lim w w.heap.size A n c xs)(hx:limbs xs)(hn:n≤1000000000) :
  Calls Tryz.prog 110 #[.slice A n c] w (RetOwn w (dg (val xs))):=by
 obtain⟨i0,hi,hz0,hz1,hz2⟩:=info_parts info_limb;have H:=Jh h;have HX:=Jh hx;clear h hx;go_enter Tryz.func110,Tryz.ntmps110;go_wp2_with (first|(go_at_call 122;refine(cut_any A n c _ xs _ H.out HX.out).mono ?_;rintro e w' ⟨⟨A',n',c',rfl,hn',h'⟩,rfl⟩;have H':=Jh h';clear h')|(at_builtin;refine wpList_append_lim rfl (.const (.slice none 0 0)) (.tmp 4) 34 34 rfl w.heap.size 163 163 i0 Tryz.underlying34 Tryz.underlying34 hi hz0 hz1 hz2 none 0 0 [] rfl (World.ownsRow_nil _ _ _ _) _ A' n' c' (dg (val xs)) rfl H'.out (by omega) (Nat.le_refl _) ?_;intro A2 c2 w2 hown hgr;simp only[Nat.zero_add,List.nil_append] at hown));go_ret;exact⟨_,_,_,rfl,hown,(Below.refl _ _).grown hgr (Nat.le_refl _) (fun k hk=>by cases hk)⟩
theorem trim_any(A:Option Addr)(n c:Nat)(xs:List Nat)(w:World)(h:Lim w w.heap.size A n c xs)(hx:limbs xs)(hn:n≤1000000000) :
  Calls Tryz.prog 110 #[.slice A n c] w (RetLim w (dg (val xs))):=
 (trim_own A n c xs w h hx hn).mono fun _ _ ⟨A',n',c',he,ho,hb⟩=>⟨A',n',c',he,Lim.of_own ho (fun x hx=>by have:=limbs_dg _ x hx;omega),hb⟩
theorem make_step{N m:Nat}{xs:List Nat}(h:xs++dg m=dg N)(hm:0<m):(xs++[m%1000000000])++dg (m/1000000000)=dg N:=by
 rw[dg_pos hm] at h;rw[List.append_assoc,← h];rfl
theorem make_len{N m k:Nat}{xs:List Nat}(h:xs++dg m=dg N)(hN:N<18446744073709551616)(hk:(vals xs).length=k*1):k≤3:=by
 have h1:=congrArg List.length h;rw[List.length_append] at h1;have h2:(dg N).length≤3:=dg_len_le (by omega);rw[vals_len] at hk;omega
theorem u64_div{m N:Nat}(h:m≤N)(hN:N<18446744073709551616):IntKind.u64.wrap ((m:Int)/1000000000)=((m/1000000000:Nat):Int):=by
 rw[IntWalk.u64_in _ ⟨by omega,by omega⟩];omega
theorem ret_u64{a b:Int}(h:a=b):Value.int .u64 a=.int .u64 b:=by rw[h]
theorem make_any(N:Nat)(hN:Hid (N<18446744073709551616))(w:World) :
  Calls Tryz.prog 196 #[.int .u64 N] w (RetNum w N):=by
 obtain⟨i0,hi,hz0,hz1,hz2⟩:=info_parts info_limb;go_enter Tryz.func196,Tryz.ntmps196;go_wp2;go_loopw [0,3] (fun i v wr=>∃(m:Nat) (A:Option Addr) (k c:Nat) (xs:List Nat),m≤N∧i=.int .u64 m∧v=.slice A k c∧wr.ownsRow w.heap.size 163 1 (.slice A k c) k (vals xs)∧xs++dg m=dg N∧limbs xs∧Below w.heap.size w wr) (fun i _ _=>(intOf i).toNat)
 case atStart=>exact⟨N,none,0,0,[],Nat.le_refl _,rfl,rfl,World.ownsRow_nil _ _ _ _,rfl,limbs_nil,Below.refl _ _⟩
 case round=>
  obtain⟨m,A,k,c,xs,hm,rfl,rfl,hown,hx,hlim,hb⟩:=hrel;have K3:=make_len hx hN.out hown.1;have HX:=Jh hx;have HO:=Jh hown;have HL:=Jh hlim;have HB:=Jh hb;clear hx hown hlim hb;rcases Nat.eq_zero_or_pos m with h0|h0
  ·subst h0
   go_wp2;go_ret;exact⟨_,_,_,rfl,Lim.of_own (by have:=HX.out;rw[dg_zero,List.append_nil] at this;rw[← this];exact HO.out) (fun x hx=>by have:=limbs_dg _ x hx;omega),HB.out⟩
  ·go_wp2_with (at_builtin;(refine wpList_append_lim rfl (.tmp 8) (.tmp 12) 34 34 rfl w.heap.size 163 163 i0 Tryz.underlying34 Tryz.underlying34 hi hz0 hz1 hz2 A k c xs rfl (HO.out.alloc _) _ _ 1 1 [m%1000000000] rfl (Lim.one _ _ _ (by omega) (by omega) _) (by omega) (Nat.le_trans HB.out.size (by simp)) ?_;intro A2 c2 w2 hown hgr))
   go_roundw
   case rel=>exact⟨m/1000000000,A2,k+1,c2,xs++[m%1000000000],by omega,ret_u64 (u64_div hm hN.out),rfl,hown,make_step HX.out h0,limbs_append.2 ⟨HL.out,limbs_cons.2 ⟨by omega,limbs_nil⟩⟩,(HB.out.alloc HB.out.size _).grown hgr (Nat.le_trans HB.out.size (by simp)) (fun g hg=>(HO.out.lt g hg).1)⟩
   case measure=>simp[intOf];rw[u64_div hm hN.out];omega
end Go.Proofs.YtpbbolgnnegmlaaGreatDoor.Num
