/- Lemmas of the proof: DivG, DivL, DivC, DivR. -/
import Derived.Test.YtpbbolgnnegmlaaGreatDoorAll07
import Derived.ScopeJumps
import Derived.Test.YtpbbolgnnegmlaaGreatDoorAll06
set_option linter.unusedVariables false
set_option linter.unusedSimpArgs false
set_option maxRecDepth 100000
set_option maxHeartbeats 32000000
open Go.Lib renaming hid→Jh
namespace Go.Proofs.YtpbbolgnnegmlaaGreatDoor.Num
open Go.RowKit
section
variable {P:Program}{a:Act}{w:World}{Q:Exit→Act→World→Prop}
theorem wp_scope_two{c rest:Code}(l:Nat)(J:Act→World→Prop)(μ:Act→World→Nat)(hf:findLabel c l=some (Code.skip.seq rest))
  (pass:∀a w,J a w→rest.wp P (Exit.jump l (fun a' w'=>J a' w'∧μ a' w'<μ a w) Q) a w)
  (first:Hid (∀a w,J a w→rest.wp P (Exit.jump l J Q) a w)→c.wp P (Exit.jump l J Q) a w):(Code.scope c).wp P Q a w:=by
 refine wp_scope_jumps l J μ hf (first fun a w hJ=>wp_mono (pass a w hJ) ?_) fun a w hJ=>wp_seq (wp_skip (pass a w hJ))
 intro e a' w' h;cases e with
 | goto l'=>exact⟨h.1,h.2.1⟩
 | normal=>exact h
 | exit id=>exact h
 | ret=>exact h
 | panic ch=>exact h
 | outgrown=>exact h
end
theorem guess_move{T L v1:Nat}(h:0<T):(T-1)*v1+(L+v1)=T*v1+L:=by
 obtain⟨t,rfl⟩:∃t,T=t+1:=⟨T-1,by omega⟩;rw[Nat.add_sub_cancel,Nat.add_mul];omega
def GuessAt(R S:Value)(n v1 v2 high m:Nat)(w0:World)(a:Act)(w:World):Prop:=
 ∃(T L:Nat) (u11 u12 u13 u14 u15 u16 u17 u18 u19 u20 u21 u22 u23 u24 u25 u26 u27 u28 u29 u30 u31 u32 u33 u34 u35 u36 u37 u38 u39 u40 u41 u42 u43 u44 u45 u46 u47 u48 u49 u50 u51 u52 u53 u54 u55 u56 u57 u58 u59 u60 u61 u62 u63 u64 u65 u66 u67:Value),a={ tmps:=#[R,S,undef,undef,.int .u32 0,.int .i64 n,.int .u64 v1,.int .u64 v2,.int .u64 high,.int .u64 T,.int .u64 L,u11,u12,u13,u14,u15,u16,u17,u18,u19,u20,u21,u22,u23,u24,u25,u26,u27,u28,u29,u30,u31,u32,u33,u34,u35,u36,u37,u38,u39,u40,u41,u42,u43,u44,u45,u46,u47,u48,u49,u50,u51,u52,u53,u54,u55,u56,u57,u58,u59,u60,u61,u62,u63,u64,u65,u66,u67,undef,undef],defers:=[] }∧
  T*v1+L=high∧m≤T∧L<1000000000∧T≤high∧Below w0.heap.size w0 w
theorem guess_any(A A':Option Addr)(n c c':Nat)(xs bs:List Nat)(w:World)(h:Lim w w.heap.size A (n+1) c xs)(h':Lim w w.heap.size A' n c' bs)(hx:limbs xs)(hb:limbs bs)(hn:2≤n)(hn2:n≤1000000000)(hv1:0<gd bs (n-1))(hu0:gd xs n≤gd bs (n-1)) :
  Calls Tryz.prog 204 #[.slice A (n+1) c,.slice A' n c'] w (RetVal w (.int .u32 (guessN ((gd xs n*1000000000+gd xs (n-1))*1000000000+gd xs (n-2)) (gd bs (n-1)*1000000000+gd bs (n-2)):Nat))):=by
 have hm:=h.room;have hcap:=h.cap;have hm':=h'.room;have hcap':=h'.cap;unfold maxLen at hm hm';obtain⟨b0,o0,rfl,hB0,hc0⟩:=h.at_ (show n<n+1 by omega);obtain⟨b1,o1,e1,_,hc1⟩:=h.at_ (show n-1<n+1 by omega);injection e1 with e1;injection e1 with e1 e2;subst e1;subst e2
 obtain⟨b2,o2,e1,_,hc2⟩:=h.at_ (show n-2<n+1 by omega);injection e1 with e1;injection e1 with e1 e2;subst e1;subst e2
 obtain⟨b3,o3,rfl,_,hc3⟩:=h'.at_ (show n-1<n by omega);obtain⟨b4,o4,e1,_,hc4⟩:=h'.at_ (show n-2<n by omega);injection e1 with e1;injection e1 with e1 e2;subst e1;subst e2
 have hu1:=gd_lt hx (n-1);have hu2:=gd_lt hx (n-2);have hw1:=gd_lt hb (n-1);have hw2:=gd_lt hb (n-2);generalize gd xs n=u0 at *;generalize gd xs (n-1)=u1 at *;generalize gd xs (n-2)=u2 at *;generalize gd bs (n-1)=v1 at *;generalize gd bs (n-2)=v2 at *;clear h h' hx hb;go_enter Tryz.func204,Tryz.ntmps204;go_wp2;refine wp_scope_two 0 (GuessAt (.slice (some ⟨b0,o0,none⟩) (n+1) c) (.slice (some ⟨b3,o3,none⟩) n c') n v1 v2 (u0*1000000000+u1) (guessN ((u0*1000000000+u1)*1000000000+u2) (v1*1000000000+v2)) w) (fun a _=>1000000000-(intOf (a.tmps.getD 10 undef)).toNat) rfl ?_ ?_
 ·rintro a1 w1 ⟨T,L,u11,u12,u13,u14,u15,u16,u17,u18,u19,u20,u21,u22,u23,u24,u25,u26,u27,u28,u29,u30,u31,u32,u33,u34,u35,u36,u37,u38,u39,u40,u41,u42,u43,u44,u45,u46,u47,u48,u49,u50,u51,u52,u53,u54,u55,u56,u57,u58,u59,u60,u61,u62,u63,u64,u65,u66,u67,rfl,hT,hG,hL,hTh,hb⟩
  have HB:=Jh hb;have hc2':=(HB.out.cell (p:=⟨b0,o0+(n-2),none⟩) hB0).trans hc2;have hhb:u0*1000000000+u1<(v1+1)*1000000000:=by omega
  have hhi:u0*1000000000+u1<1000000000000000000:=by omega
  clear hb hc0 hc1 hc2 hc3 hc4;have HT:=Jh hT;have HG:=Jh hG;have hTi:T<1000000000000000000:=by omega
  have HHB:=Jh hhb;have HTH:=Jh hTh;clear hT hG hTh hhb hhi;rcases Nat.lt_or_ge T 1000000000 with hTB|hTB
  ·have hp:=row_mul_le hTB hw2
   have E:Hid ((T:Int)*(v2:Int)=((T*v2:Nat):Int)):=by show _=_;rw[Int.natCast_mul]
   have hp0:0≤(T:Int)*(v2:Int):=by rw[E.out];omega
   have hp1:(T:Int)*(v2:Int)≤999999998000000001:=by rw[E.out];omega
   have hd0:decide ((1000000000:Int)≤(T:Int))=false:=by rw[decide_eq_false_iff_not];omega
   have HTB:=Jh hTB;rcases Nat.lt_or_ge (L*1000000000+u2) (T*v2) with hs|hs
   ·have hd:decide ((L:Int)*1000000000+(u2:Int)<(T:Int)*(v2:Int))=true:=by rw[decide_eq_true_iff,E.out];omega
    have HL:=Jh (guess_less (v:=v1*1000000000+v2) (v1:=v1) (v2:=v2) rfl rfl HT.out HG.out (.inr hs));have hT0:0<T:=by
     rcases Nat.eq_zero_or_pos T with h0|h0
     ·subst h0;omega
     ·exact h0
    rcases Nat.lt_or_ge (L+v1) 1000000000 with hgo|hgo
    ·have hd2:decide ((L:Int)+(v1:Int)<1000000000)=true:=by rw[decide_eq_true_iff];omega
     have HGO:=Jh hgo;clear hp hs hgo hTB;go_wp2;go_step3
     have e0:((u0:Int)*1000000000+(u1:Int))=((u0*1000000000+u1:Nat):Int):=by omega
     have e1:(T:Int)-1=((T-1:Nat):Int):=by omega
     have e2:(L:Int)+(v1:Int)=((L+v1:Nat):Int):=by omega
     rw[e0,e1,e2];refine(show(0=0∧_∧_) from⟨rfl,⟨T-1,L+v1,_,_,_,_,_,_,_,_,_,_,_,_,_,_,_,_,_,_,_,_,_,_,_,_,_,_,_,_,_,_,_,_,_,_,_,_,_,_,_,_,_,_,_,_,_,_,_,_,_,_,_,_,_,_,_,_,_,rfl,?_,HL.out,HGO.out,Nat.le_trans (Nat.sub_le _ _) HTH.out,HB.out⟩,?_⟩)
     ·rw[← HT.out];exact guess_move hT0
     ·simp[intOf];have:=HGO.out;omega
    ·have hd2:decide ((L:Int)+(v1:Int)<1000000000)=false:=by rw[decide_eq_false_iff_not];omega
     have HGO:=Jh hgo;clear hp hs hgo hTB;go_wp2;simp only[Exit.jump]
     go_ret;have HTT:=guess_move (L:=L) (v1:=v1) hT0;rw[HT.out] at HTT;have hT3:=guess_high HHB.out HTT (by have:=HGO.out;omega);have hEq:=guess_is hv1 rfl rfl HTT HL.out hT3 (guess_over hw2 hT3 HGO.out);exact⟨ret_int (by rw[← hEq];omega),HB.out⟩
   ·have hd:decide ((L:Int)*1000000000+(u2:Int)<(T:Int)*(v2:Int))=false:=by rw[decide_eq_false_iff_not,E.out];omega
    have HS:=Jh hs;clear hp hs hTB;go_wp2;simp only[Exit.jump]
    go_ret;have hEq:=guess_is hv1 rfl rfl HT.out HG.out HTB.out HS.out;exact⟨ret_int (by rw[← hEq];have:=HTB.out;omega),HB.out⟩
  ·have hd0:decide ((1000000000:Int)≤(T:Int))=true:=by rw[decide_eq_true_iff];omega
   have HL:=Jh (guess_less (v:=v1*1000000000+v2) (v1:=v1) (v2:=v2) rfl rfl HT.out HG.out (.inl hTB));have hT0:0<T:=by omega
   have HTB:=Jh hTB;rcases Nat.lt_or_ge (L+v1) 1000000000 with hgo|hgo
   ·have hd2:decide ((L:Int)+(v1:Int)<1000000000)=true:=by rw[decide_eq_true_iff];omega
    have HGO:=Jh hgo;clear hgo hTB;go_wp2;go_step3
    have e0:((u0:Int)*1000000000+(u1:Int))=((u0*1000000000+u1:Nat):Int):=by omega
    have e1:(T:Int)-1=((T-1:Nat):Int):=by omega
    have e2:(L:Int)+(v1:Int)=((L+v1:Nat):Int):=by omega
    rw[e0,e1,e2];refine(show(0=0∧_∧_) from⟨rfl,⟨T-1,L+v1,_,_,_,_,_,_,_,_,_,_,_,_,_,_,_,_,_,_,_,_,_,_,_,_,_,_,_,_,_,_,_,_,_,_,_,_,_,_,_,_,_,_,_,_,_,_,_,_,_,_,_,_,_,_,_,_,_,rfl,?_,HL.out,HGO.out,Nat.le_trans (Nat.sub_le _ _) HTH.out,HB.out⟩,?_⟩)
    ·rw[← HT.out];exact guess_move hT0
    ·simp[intOf];have:=HGO.out;omega
   ·have hd2:decide ((L:Int)+(v1:Int)<1000000000)=false:=by rw[decide_eq_false_iff_not];omega
    have HGO:=Jh hgo;clear hgo hTB;go_wp2;simp only[Exit.jump]
    go_ret;have HTT:=guess_move (L:=L) (v1:=v1) hT0;rw[HT.out] at HTT;have hT3:=guess_high HHB.out HTT (by have:=HGO.out;omega);have hEq:=guess_is hv1 rfl rfl HTT HL.out hT3 (guess_over hw2 hT3 HGO.out);exact⟨ret_int (by rw[← hEq];omega),HB.out⟩
 ·intro PASS
  go_wp2;go_region
  go_wp2;go_region
  go_wp2;go_region
  go_wp2;go_step3
  simp only[Exit.then]
  rename_i K
  have e1:((u0:Int)*1000000000+(u1:Int))=((u0*1000000000+u1:Nat):Int):=by omega
  have e2:(((u0*1000000000+u1:Nat):Int))/(v1:Int)=(((u0*1000000000+u1)/v1:Nat):Int):=(Int.natCast_ediv _ _).symm;have e3:(((u0*1000000000+u1:Nat):Int))%(v1:Int)=(((u0*1000000000+u1)%v1:Nat):Int):=(Int.natCast_emod _ _).symm;rw[e1,e2,e3];refine K _ _ (PASS.out _ _ ⟨(u0*1000000000+u1)/v1,(u0*1000000000+u1)%v1,_,_,_,_,_,_,_,_,_,_,_,_,_,_,_,_,_,_,_,_,_,_,_,_,_,_,_,_,_,_,_,_,_,_,_,_,_,_,_,_,_,_,_,_,_,_,_,_,_,_,_,_,_,_,_,_,_,rfl,?_,?_,?_,?_,?_⟩)
  ·rw[Nat.mul_comm];exact Nat.div_add_mod _ _
  ·exact guess_first hv1 rfl hu2 rfl
  ·exact Nat.lt_trans (Nat.mod_lt _ hv1) hw1
  ·exact Nat.div_le_self _ _
  ·exact(Below.refl _ _).drew.drew.drew
section
variable {P:Program}{a:Act}{w:World}{Q:Exit→Act→World→Prop}
theorem wp_scope_three{c rest:Code}(l:Nat)(J:Act→World→Prop)(μ:Act→World→Nat)(hf:findLabel c l=some (Code.skip.seq rest))
  (pass:∀a w n,J a w→μ a w=n→rest.wp P (Exit.jump l (fun a' w'=>J a' w'∧μ a' w'<n) Q) a w)
  (first:Hid (∀a w,J a w→rest.wp P (Exit.jump l J Q) a w)→c.wp P (Exit.jump l J Q) a w):(Code.scope c).wp P Q a w:=
 wp_scope_two l J μ hf (fun a w hJ=>pass a w _ hJ rfl) first
end
theorem Own.below{w w':World}{g B:Nat}{zs:List Nat}(h:Own w g zs)(hb:Below B w w')(hg:g<B):Own w' g zs:=by
 unfold Own at h ⊢;rw[hb.block g hg];exact h
theorem Own.kept{w w':World}{g g':Nat}{zs:List Nat}(h:Own w g zs)(hk:Kept g' w w')(hg:g≠g'):Own w' g zs:=by
 unfold Own at h ⊢;rw[hk.block g hg];exact h
theorem Own.other{w:World}{g g':Nat}{zs:List Nat}(h:Own w g zs)(i:Nat)(v:Value)(hg:g≠g'):Own (w.setCell ⟨g',i,none⟩ v) g zs:=
 h.kept ((Kept.refl g' w).setCell i v) hg
theorem Own.part{w:World}{g i p c:Nat}{zs:List Nat}(h:Own w g zs)(hl:limbs zs)(hp:i+p≤zs.length)(hc:p≤c)(hc2:c≤1000000000):Lim w w.heap.size (some ⟨g,i,none⟩) p c ((zs.drop i).take p):=by
 refine⟨by rw[List.length_take,List.length_drop];omega,hc,by unfold maxLen;omega,fun x hx=>?_,.inr ⟨g,i,rfl,h.lt,fun j u hu=>?_⟩,fun h=>by cases h⟩
 ·have:=limbs_take (limbs_drop hl i) p x hx;omega
 ·rw[cell_of_row w g (i+j) _ _ (0,0) h]
  rw[vals,List.getElem?_map,List.getElem?_take] at hu;split at hu
  ·rw[List.getElem?_drop] at hu
   simpa [vals] using hu
  ·cases hu
theorem gd_part{zs:List Nat}{i p j:Nat}(h:j<p):gd ((zs.drop i).take p) j=gd zs (i+j):=by
 unfold gd;rw[List.getD_eq_getElem?_getD,List.getD_eq_getElem?_getD,List.getElem?_take_of_lt h,List.getElem?_drop]
theorem guess_good {zs : List Nat} {i k b : Nat} (hl : limbs zs) (hb : (dg b).length = k + 2) (h : val zs < 1000000000 ^ (i + 1) * b) :
    gd zs (i + (k + 2)) ≤ gd (dg b) (k + 1) ∧ 0 < gd (dg b) (k + 1) ∧ val zs < 1000000000 ^ (i + (k + 3)) ∧
      (guessN ((gd zs (i + (k + 2)) * 1000000000 + gd zs (i + (k + 1))) * 1000000000 + gd zs (i + k)) (gd (dg b) (k + 1) * 1000000000 + gd (dg b) k) = val zs / (1000000000 ^ i * b) ∨
       guessN ((gd zs (i + (k + 2)) * 1000000000 + gd zs (i + (k + 1))) * 1000000000 + gd zs (i + k)) (gd (dg b) (k + 1) * 1000000000 + gd (dg b) k) = val zs / (1000000000 ^ i * b) + 1) := by
  have hlt := lt_pow_dg b
  rw [hb] at hlt
  have hZM : val zs < 1000000000 ^ (i + (k + 3)) := by
    refine Nat.lt_trans h ?_
    have e : 1000000000 ^ (i + (k + 3)) = 1000000000 ^ (i + 1) * 1000000000 ^ (k + 2) := by rw [← Nat.pow_add]; congr 1; omega
    rw [e]
    exact Nat.mul_lt_mul_of_pos_left hlt (Nat.pow_pos (by omega))
  have ev := top_two hb
  have hbl := val_take_lt (limbs_dg b) k
  have eZ := top_three (zs := zs) (e := i + k) (by rw [Nat.add_assoc]; exact hZM) (val_take_lt hl _)
  have hzl := val_take_lt hl (i + k)
  rw [Nat.add_assoc i k 2, Nat.add_assoc i k 1] at eZ
  have hv1 : 0 < gd (dg b) (k + 1) := by
    rcases Nat.eq_zero_or_pos (gd (dg b) (k + 1)) with h0 | h0
    · exfalso
      apply dg_last b
      rw [List.getLast?_eq_getElem?, hb, show k + 2 - 1 = k + 1 from rfl, gd_of_lt (by omega), h0]
    · exact h0
  have hv2 := gd_lt (limbs_dg b) k
  have hu1 := gd_lt hl (i + (k + 1))
  have hu2 := gd_lt hl (i + k)
  have eD : 1000000000 ^ i * b = 1000000000 ^ i * val ((dg b).take k) + 1000000000 ^ (i + k) * (gd (dg b) (k + 1) * 1000000000 + gd (dg b) k) := by
    rw [Nat.pow_add, Nat.mul_assoc, ← Nat.mul_add, ← ev]
  have hdl : 1000000000 ^ i * val ((dg b).take k) < 1000000000 ^ (i + k) := by
    rw [Nat.pow_add]; exact Nat.mul_lt_mul_of_pos_left hbl (Nat.pow_pos (by omega))
  have hq : val zs < 1000000000 * (1000000000 ^ i * b) := by
    rw [Nat.pow_succ, Nat.mul_comm (1000000000 ^ i) 1000000000, Nat.mul_assoc] at h; exact h
  refine ⟨?_, hv1, hZM, guess_near eZ hzl eD hdl (by omega) hq⟩
  clear hlt hZM ev hbl h
  rw [eD] at hq
  generalize 1000000000 ^ i * val ((dg b).take k) = dl at *
  generalize 1000000000 ^ (i + k) = E at *
  generalize gd zs (i + (k + 2)) = u0 at *
  generalize gd zs (i + (k + 1)) = u1 at *
  generalize gd zs (i + k) = u2 at *
  generalize gd (dg b) (k + 1) = v1 at *
  generalize gd (dg b) k = v2 at *
  have h1 : E * ((u0 * 1000000000 + u1) * 1000000000 + u2) < E * (1000000000 * (v1 * 1000000000 + v2 + 1)) := by
    have e2 : E * (1000000000 * (v1 * 1000000000 + v2 + 1)) = 1000000000 * (E * (v1 * 1000000000 + v2)) + 1000000000 * E := by
      rw [Nat.mul_left_comm, Nat.mul_add E, Nat.mul_one, Nat.mul_add]
    rw [e2]; omega
  have h2 := Nat.lt_of_mul_lt_mul_left h1
  omega
theorem guess_is_at{A A':Option Addr}{p k c c' b G u0 u1 u2:Nat}{xs:List Nat}{w:World}(h:Lim w w.heap.size A p c xs)(h':Num w w.heap.size A' (k+2) c' b)(hx:limbs xs)(hp:p=k+3)(hk:k≤1000000)
  (e0:gd xs (k+2)=u0) (e1:gd xs (k+1)=u1) (e2:gd xs k=u2) (hv1:0<gd (dg b) (k+1)) (hu0:u0≤gd (dg b) (k+1))
  (hG:guessN ((u0*1000000000+u1)*1000000000+u2) (gd (dg b) (k+1)*1000000000+gd (dg b) k)=G) :
  Calls Tryz.prog 204 #[.slice A p c,.slice A' (k+2) c'] w (RetVal w (.int .u32 (G:Nat))):=by
 subst hp;subst e0;subst e1;subst e2;subst hG;exact guess_any A A' (k+2) c c' xs (dg b) w h h' hx (limbs_dg b) (by omega) (by omega) hv1 hu0
theorem take_is{A':Option Addr}{g i k c' m l b p cr:Nat}{zs:List Nat}{w:World}(ho:Hid (Own w g zs))(hl:Hid (limbs zs))(hm:zs.length=m)(him:i+(k+3)≤m)(hmm:m≤1000000000)
  (h':Num w g A' (k+2) c' b) (hlim:l<1000000000) (hp:p=k+3) (hcr:p≤cr) :
  Calls Tryz.prog 205 #[.slice (some ⟨g,i,none⟩) p cr,.slice A' (k+2) c',.int .u32 l] w (RetTake w g m (i+(k+3)) (val zs) (1000000000^i*(l*b)) zs):=by
 subst hp;exact take_any A' g i (k+2) c' m l b cr zs w ho hl hm (by omega) hmm h' hlim hcr
theorem putBack_is{A':Option Addr}{g i k c' m b p cr:Nat}{zs:List Nat}{w:World}(ho:Hid (Own w g zs))(hl:Hid (limbs zs))(hm:zs.length=m)(him:i+(k+3)≤m)(hmm:m≤1000000000)
  (h':Num w g A' (k+2) c' b) (hp:p=k+3) (hcr:p≤cr) :
  Calls Tryz.prog 206 #[.slice (some ⟨g,i,none⟩) p cr,.slice A' (k+2) c'] w (RetPut w g m (i+(k+3)) (val zs+1000000000^i*b) zs):=by
 subst hp;exact putBack_any A' g i (k+2) c' m b cr zs w ho hl hm (by omega) hmm h' hcr
theorem round_fits{zs ys:List Nat}{i k b G cy:Nat}(hZM:val zs<1000000000^(i+(k+3)))(hy:limbs ys)(ha:Above (i+(k+3)) zs ys)(h:val ys+1000000000^i*(G*b)=val zs+cy*1000000000^(i+(k+3)))(hG:G=val zs/(1000000000^i*b)) :
  cy=0∧val ys=val zs%(1000000000^i*b):=by
 have hZ1:val ys<1000000000^(i+(k+3)):=val_lt_above hy (fun j hj=>(ha j hj).trans (gd_zero_of_lt hZM j hj));rw[Nat.mul_left_comm] at h;exact long_fits h hG hZ1
theorem round_much{zs ys:List Nat}{i k b G cy:Nat}(hb:b<1000000000^(k+2))(hb0:0<b)(hZM:val zs<1000000000^(i+(k+3)))(hy:limbs ys)(ha:Above (i+(k+3)) zs ys)(h:val ys+1000000000^i*(G*b)=val zs+cy*1000000000^(i+(k+3)))(hG:G=val zs/(1000000000^i*b)+1) :
  0<cy∧∀(xs:List Nat) (cy2:Nat),limbs xs→Above (i+(k+3)) ys xs→val xs+cy2*1000000000^(i+(k+3))=val ys+1000000000^i*b→val xs=val zs%(1000000000^i*b):=by
 have hz:=gd_zero_of_lt hZM;have hZ1:val ys<1000000000^(i+(k+3)):=val_lt_above hy (fun j hj=>(ha j hj).trans (hz j hj));have hDM:1000000000^i*b<1000000000^(i+(k+3)):=by
  rw[Nat.pow_add];refine Nat.mul_lt_mul_of_pos_left (Nat.lt_of_lt_of_le hb (Nat.pow_le_pow_right (by omega) (by omega))) (Nat.pow_pos (by omega))
 have hD:0<1000000000^i*b:=Nat.mul_pos (Nat.pow_pos (by omega)) hb0;rw[Nat.mul_left_comm] at h;have key:∀(Z2 cy2:Nat),Z2+cy2*1000000000^(i+(k+3))=val ys+1000000000^i*b→Z2<1000000000^(i+(k+3))→0<cy∧Z2=val zs%(1000000000^i*b):=fun Z2 cy2 h2 hZ2=>long_back h hG hD hZ1 hZM hDM h2 hZ2
 constructor
 ·have h1:=Nat.div_add_mod (val ys+1000000000^i*b) (1000000000^(i+(k+3)))
  rw[Nat.add_comm,Nat.mul_comm (1000000000^(i+(k+3)))] at h1;exact(key _ _ h1 (Nat.mod_lt _ (Nat.pow_pos (by omega)))).1
 ·intro xs cy2 hx hax h2
  exact(key _ _ h2 (val_lt_above hx (fun j hj=>(hax j hj).trans ((ha j hj).trans (hz j hj))))).2
def LongAt(V0:Value)(k n m d b T:Nat)(W0:World)(a:Act)(w:World):Prop:=
 ∃(i:Nat) (zs qs:List Nat) (w1:World) (A1:Option Addr) (c1 g2:Nat) (us:Nat→Value),a={ tmps:=#[V0,.slice A1 (k+2) c1,undef,undef,.slice (some ⟨g2,0,none⟩) m m,.slice none 0 0,.int .u32 d,.slice (some ⟨w1.heap.size,0,none⟩) (n+1) (n+1),.int .i64 i,us 9,us 10,us 11,us 12,us 13,us 14,us 15,us 16,us 17,us 18,us 19,us 20,us 21,us 22,us 23,us 24,us 25,us 26,us 27,us 28,us 29,us 30,us 31,us 32,us 33,us 34,us 35,us 36,us 37,us 38,us 39,us 40,us 41,us 42,us 43,us 44,us 45,us 46,us 47,us 48,us 49,us 50,us 51,us 52,us 53,us 54,us 55,us 56,us 57,us 58,us 59,us 60,us 61,us 62,us 63,us 64,us 65,us 66,us 67,us 68,us 69,us 70,us 71,us 72,us 73,undef,undef,undef,undef,undef,undef,undef,undef,undef,undef,undef],defers:=[] }∧
  i<m∧zs.length=n+1∧limbs zs∧qs.length=m∧limbs qs∧(∀j,j<i+1→gd qs j=0)∧T=val qs*b+val zs∧val zs<1000000000^(i+1)*b∧Own w w1.heap.size zs∧Own w g2 qs∧Below w1.heap.size w1 w∧Num w1 w1.heap.size A1 (k+2) c1 b∧Below W0.heap.size W0 w1∧w1.heap.size<g2
theorem LongAt.make{V0:Value}{k n m d b T:Nat}{W0 w:World}{i:Nat}{zs qs:List Nat}{w1:World}{A1:Option Addr}{c1 g2:Nat}{u9 u10 u11 u12 u13 u14 u15 u16 u17 u18 u19 u20 u21 u22 u23 u24 u25 u26 u27 u28 u29 u30 u31 u32 u33 u34 u35 u36 u37 u38 u39 u40 u41 u42 u43 u44 u45 u46 u47 u48 u49 u50 u51 u52 u53 u54 u55 u56 u57 u58 u59 u60 u61 u62 u63 u64 u65 u66 u67 u68 u69 u70 u71 u72 u73:Value}(h1:i<m)(h2:zs.length=n+1)(h3:limbs zs)(h4:qs.length=m)(h5:limbs qs)(h6:(∀j,j<i+1→gd qs j=0))(h7:T=val qs*b+val zs)(h8:val zs<1000000000^(i+1)*b)(h9:Own w w1.heap.size zs)(h10:Own w g2 qs)(h11:Below w1.heap.size w1 w)(h12:Num w1 w1.heap.size A1 (k+2) c1 b)(h13:Below W0.heap.size W0 w1)(h14:w1.heap.size<g2):LongAt V0 k n m d b T W0 { tmps:=#[V0,.slice A1 (k+2) c1,undef,undef,.slice (some ⟨g2,0,none⟩) m m,.slice none 0 0,.int .u32 d,.slice (some ⟨w1.heap.size,0,none⟩) (n+1) (n+1),.int .i64 i,u9,u10,u11,u12,u13,u14,u15,u16,u17,u18,u19,u20,u21,u22,u23,u24,u25,u26,u27,u28,u29,u30,u31,u32,u33,u34,u35,u36,u37,u38,u39,u40,u41,u42,u43,u44,u45,u46,u47,u48,u49,u50,u51,u52,u53,u54,u55,u56,u57,u58,u59,u60,u61,u62,u63,u64,u65,u66,u67,u68,u69,u70,u71,u72,u73,undef,undef,undef,undef,undef,undef,undef,undef,undef,undef,undef],defers:=[] } w:=
 ⟨i,zs,qs,w1,A1,c1,g2,fun j=>(#[u9,u10,u11,u12,u13,u14,u15,u16,u17,u18,u19,u20,u21,u22,u23,u24,u25,u26,u27,u28,u29,u30,u31,u32,u33,u34,u35,u36,u37,u38,u39,u40,u41,u42,u43,u44,u45,u46,u47,u48,u49,u50,u51,u52,u53,u54,u55,u56,u57,u58,u59,u60,u61,u62,u63,u64,u65,u66,u67,u68,u69,u70,u71,u72,u73]:Array Value).getD (j-9) undef,rfl,h1,h2,h3,h4,h5,h6,h7,h8,h9,h10,h11,h12,h13,h14⟩
theorem LongAt.elim{X:Act→World→Prop}{V0:Value}{k n m d b T:Nat}{W0:World}(h:∀(w:World) (i:Nat) (zs qs:List Nat) (w1:World) (A1:Option Addr) (c1 g2:Nat) (us:Nat→Value),i<m→zs.length=n+1→limbs zs→qs.length=m→limbs qs→(∀j,j<i+1→gd qs j=0)→T=val qs*b+val zs→val zs<1000000000^(i+1)*b→Own w w1.heap.size zs→Own w g2 qs→Below w1.heap.size w1 w→Num w1 w1.heap.size A1 (k+2) c1 b→Below W0.heap.size W0 w1→w1.heap.size<g2→X { tmps:=#[V0,.slice A1 (k+2) c1,undef,undef,.slice (some ⟨g2,0,none⟩) m m,.slice none 0 0,.int .u32 d,.slice (some ⟨w1.heap.size,0,none⟩) (n+1) (n+1),.int .i64 i,us 9,us 10,us 11,us 12,us 13,us 14,us 15,us 16,us 17,us 18,us 19,us 20,us 21,us 22,us 23,us 24,us 25,us 26,us 27,us 28,us 29,us 30,us 31,us 32,us 33,us 34,us 35,us 36,us 37,us 38,us 39,us 40,us 41,us 42,us 43,us 44,us 45,us 46,us 47,us 48,us 49,us 50,us 51,us 52,us 53,us 54,us 55,us 56,us 57,us 58,us 59,us 60,us 61,us 62,us 63,us 64,us 65,us 66,us 67,us 68,us 69,us 70,us 71,us 72,us 73,undef,undef,undef,undef,undef,undef,undef,undef,undef,undef,undef],defers:=[] } w)(a:Act)(w:World)(hJ:LongAt V0 k n m d b T W0 a w):X a w:=by
 unfold LongAt at hJ;rcases hJ with⟨i,zs,qs,w1,A1,c1,g2,us,rfl,h1,h2,h3,h4,h5,h6,h7,h8,h9,h10,h11,h12,h13,h14⟩
 exact h w i zs qs w1 A1 c1 g2 us h1 h2 h3 h4 h5 h6 h7 h8 h9 h10 h11 h12 h13 h14
def RetTwo(W:World)(q r:Nat)(e:Ending)(w':World):Prop:=
 ∃A n c A' n' c',e=.returned (.tuple #[.slice A n c,.slice A' n' c'])∧Num w' w'.heap.size A n c q∧Num w' w'.heap.size A' n' c' r∧Below W.heap.size W w'
theorem long_any(A A':Option Addr)(n c k c' a b:Nat)(w:World)(h:Num w w.heap.size A n c a)(h':Num w w.heap.size A' (k+2) c' b)(hn:n≤100000)(hba:b≤a) :
  Calls Tryz.prog 201 #[.slice A n c,.slice A' (k+2) c'] w (RetTwo w (a/b) (a%b)):=by
 obtain⟨i0,hi,hz0,hz1,hz2⟩:=info_parts info_limb;have hkn:k+2≤n:=by have:=dg_len_mono hba;rw[h.len,h'.len] at this;exact this
 have hm:=h.room;have hcap:=h.cap;have hm':=h'.room;have hcap':=h'.cap;unfold maxLen at hm hm';obtain⟨b3,o3,rfl,_,hc3⟩:=h'.at_ (show k+1<k+2 by omega);obtain⟨t,et⟩:∃t,gd (dg b) (k+1)=t:=⟨_,rfl⟩;obtain⟨d,ed⟩:∃d,d=1000000000/(t+1):=⟨_,rfl⟩;have NF:=norm_facts h'.len (by omega) et ed;have ht:t<1000000000:=by rw[← et];exact gd_lt (limbs_dg b) _
 rw[et] at hc3;have hd2:=NF.2.2.1;have ED:Hid ((1000000000:Int)/((t:Int)+1)=(d:Int)):=by show _=_;rw[ed,Int.natCast_ediv];rfl
 have NF:=Jh NF;obtain⟨b',eb'⟩:∃b',b*d=b':=⟨_,rfl⟩;obtain⟨a',ea'⟩:∃a',a*d=a':=⟨_,rfl⟩;obtain⟨m,hmn⟩:∃m,m+(k+1)=n:=⟨n-(k+1),by omega⟩;have LB:Hid ((dg b').length=k+2):=by show _=_;rw[← eb'];exact NF.out.2.2.2.1
 have LA:Hid ((dg a').length≤n+1):=by show _≤_;rw[← ea'];exact norm_len h.len hd2
 have ST:Hid (a'<1000000000^m*b'):=by show _<_;rw[← ea',← eb'];exact norm_start h.len NF.out.2.2.2.2 NF.out.2.1 (by omega) hmn
 have HNE:Hid (∀q r,a'=q*b'+r→r<b'→q=a/b∧r/d=a%b):=by intro q r hqr hr;rw[← ea',← eb'] at hqr;rw[← eb'] at hr;exact norm_end hqr hr
 have EA:=Jh ea';have EB:=Jh eb';have HD0:=NF.out.2.1;have HB0:Hid (0<b'):=by
  show _<_;rcases Nat.eq_zero_or_pos b' with h0|h0
  ·have:=LB.out;rw[h0,dg_zero] at this;simp at this
  ·exact h0
 have HBL:Hid (b'<1000000000^(k+2)):=by show _<_;have:=lt_pow_dg b';rwa [LB.out] at this
 have H:=Jh h;have H':=Jh h';clear h h' et ed ea' eb' hba;go_enter Tryz.func201,Tryz.ntmps201;go_wp2;refine wp_scope_three 0 (LongAt (.slice A n c) k n m d b' a' w) (fun a _=>(intOf (a.tmps.getD 8 undef)).toNat) rfl ?_ ?_
 ·refine fun a9 w9 nn hJ=>LongAt.elim (X:=fun a w=>(intOf (a.tmps.getD 8 undef)).toNat=nn→Code.wp Tryz.prog _ _ a w) ?_ a9 w9 hJ
  intro w9 i zs qs w1 A1 c1 g2 us hi1 hlz hzl hlq hql hq0 hT hlt hoz hoq hbw h1 hb01 hg12;intro hnn;have hnn:i=nn:=by rw[← hnn];simp[intOf]
  have NN:=Jh hnn;clear hnn;show Code.wp _ _ _ _ _;have GG:=guess_good hzl LB.out hlt;obtain⟨G,eG⟩:∃G,guessN ((gd zs (i+(k+2))*1000000000+gd zs (i+(k+1)))*1000000000+gd zs (i+k)) (gd (dg b') (k+1)*1000000000+gd (dg b') k)=G:=⟨_,rfl⟩;have hGl:G<1000000000:=by rw[← eG];exact Nat.lt_of_le_of_lt (Nat.min_le_right _ _) (by omega)
  have HZ:=Jh hoz;have HQ:=Jh hoq;have HBW:=Jh hbw;have H1:=Jh (h1.below hbw);have H1W:=Jh h1;have HLZ:=Jh hzl;have LZ:=Jh hlz;have LQ:=Jh hlq;have LQL:=Jh hql;have Q0:=Jh hq0;have HT:=Jh hT;have HLT:=Jh hlt;have HB01:=Jh hb01;have CG:=Jh (fun p cr hp hcr hcr2=>guess_is_at (A:=some ⟨w1.heap.size,i,none⟩) (p:=p) (c:=cr) (hoz.part hzl (by rw[hlz];omega) hcr hcr2) (H1.out.more (Nat.le_of_lt hoz.lt)) (limbs_take (limbs_drop hzl _) _) hp (by omega) (gd_part (by omega)) (gd_part (by omega)) (gd_part (by omega)) GG.2.1 GG.1 eG);have GG:=Jh GG;have EG:=Jh eG;clear hlz hzl hlq hql hq0 hT hlt hoz hoq hbw h1 hb01 eG;have hcq:=HQ.out.cell (i:=i) (by rw[LQ.out];exact hi1);go_wp2_with fail;refine(CG.out _ _ (by omega) (by omega) (by omega)).mono ?_;rintro e w2 ⟨rfl,hb2⟩;have Z2:=Jh (HZ.out.below hb2 HZ.out.lt);have Q2:=Jh (HQ.out.below hb2 HQ.out.lt);have HB2:=Jh (HBW.out.trans (hb2.mono (Nat.le_of_lt HZ.out.lt)));clear hb2 hcq;have hcq:=Q2.out.cell (i:=i) (by rw[LQ.out];exact hi1);have hfq:=Q2.out.frozen i;go_wp2_with fail;have Z3:=Jh (Z2.out.other (g':=g2) i (.int .u32 (G:Nat)) (by omega));have Q3:=Jh (Q2.out.store i G (G:Nat) rfl);have HB3:=Jh (HB2.out.setCell (p:=⟨g2,i,none⟩) (Nat.le_of_lt hg12) (.int .u32 (G:Nat)));have N3:=Jh (H1W.out.below HB3.out);generalize w2.setCell ⟨g2,i,none⟩ (.int .u32 (G:Nat))=w3 at *;clear hcq hfq;refine(take_is (p:=i+(k+2)+1-i) Z3 HLZ LZ.out (by omega) (by omega) N3.out hGl (by omega) (by omega)).mono ?_;rintro e w4 ⟨cy,ys,rfl,hoy,hly,hyl,hay,hval,hk4⟩;have OY:=Jh hoy;have LY:=Jh hly;have LLY:=Jh hyl;have AY:=Jh hay;have VY:=Jh hval;have Q4:=Jh (Q3.out.kept hk4 (by omega));have HB4:=Jh (HB3.out.trans (hk4.below (Nat.le_refl _)));clear hoy hly hyl hay hval hk4;rcases GG.out.2.2.2 with hq|hq
  ·have QEQ:G=val zs/(1000000000^i*b'):=EG.out.symm.trans hq
   have QLT:G<1000000000:=hGl;have RF:=round_fits GG.out.2.2.1 LLY.out AY.out VY.out QEQ;obtain rfl:=RF.1;have VF:=Jh RF.2;have QF:=Q4;rw[QEQ] at QF;have OF:=OY;have LF:=LY;have LLF:=LLY;have HBF:=HB4;have QEQ:=Jh QEQ;clear RF hq;have LQS:Hid ((qs.set i (val zs/(1000000000^i*b'))).length=m):=by show _=_;rw[List.length_set];exact LQ.out
   have LIM:Hid (limbs (qs.set i (val zs/(1000000000^i*b')))):=limbs_set LQL.out i (by rw[← QEQ.out];exact QLT);have STEP:=Jh (long_step (q:=val zs/(1000000000^i*b')) HT.out (by rw[LQ.out];exact hi1) (Q0.out i (by omega)) rfl);have LESS:Hid (val ys<1000000000^i*b'):=by show _<_;rw[VF.out];exact Nat.mod_lt _ (Nat.mul_pos (Nat.pow_pos (by omega)) HB0.out)
   rw[← VF.out] at STEP;rcases Nat.eq_zero_or_pos i with h0|h0
   ·subst h0
    have NE:=Jh (HNE.out _ _ STEP.out (by have:=LESS.out;rwa [Nat.pow_zero,Nat.one_mul] at this));have LT1:=Jh (own_lim_is OF.out LLF.out LF.out (by omega));go_wp2_with fail;refine(trim_is LT1.out LLF.out (by omega) rfl).mono ?_;rintro e w5 ⟨A5,n5,c5,rfl,h5,hb5⟩;have hn5:n5≤n+1:=by
     rw[← h5.len];exact dg_len_le (by have:=val_lt LLF.out;rwa [LF.out] at this)
    have H5:=Jh h5;have Q5:=Jh (QF.out.below hb5 QF.out.lt);have HB5:=Jh (HBF.out.trans (hb5.mono (Nat.le_of_lt OF.out.lt)));clear h5 hb5;go_wp2_with fail;refine(dsmall_is H5.out (by omega) HD0 (by omega) rfl NE.out.2 rfl).mono ?_;rintro e w6 ⟨A6,n6,c6,rfl,h6,hb6⟩;have H6:=Jh h6;have Q6:=Jh (Q5.out.below hb6 Q5.out.lt);have HB6:=Jh (HB5.out.trans (hb6.mono HB5.out.size));have LT2:=Jh (own_lim_is Q6.out LIM.out LQS.out (by omega));clear h6 hb6;go_wp2_with fail;refine(trim_is LT2.out LIM.out (by omega) NE.out.1).mono ?_;rintro e w7 ⟨A7,n7,c7,rfl,h7,hb7⟩;have H7:=Jh h7;have H6:=Jh ((H6.out.below hb7).more hb7.size);have HB7:=Jh (HB6.out.trans (hb7.mono HB6.out.size));clear h7 hb7;go_wp2_with fail;simp only[Exit.jump]
    go_ret2
    exact⟨_,_,_,_,_,_,rfl,H7.out,H6.out,HB01.out.trans (HB7.out.mono HB01.out.size)⟩
   ·go_wp2_with fail
    go_step3
    rw[show((i:Int)-1)=((i-1:Nat):Int) from by omega];refine(show(0=0∧_∧_) from⟨rfl,LongAt.make (i:=i-1) (zs:=ys) (qs:=qs.set i (val zs/(1000000000^i*b'))) (w1:=w1) (A1:=A1) (c1:=c1) (g2:=g2) (by omega) LF.out LLF.out LQS.out LIM.out ?_ STEP.out ?_ OF.out QF.out HBF.out H1W.out HB01.out hg12,?_⟩)
    ·intro j hj;exact sdiv_zero Q0.out (by rw[LQ.out];exact hi1) j (by omega)
    ·rw[show i-1+1=i by omega];exact LESS.out
    ·simp[intOf];have:=NN.out;omega
  ·have QEQ1:G=val zs/(1000000000^i*b')+1:=EG.out.symm.trans hq
   have RM:=round_much HBL.out HB0.out GG.out.2.2.1 LLY.out AY.out VY.out QEQ1;have hcy:=RM.1;have RM:=Jh RM.2;have hcq:=Q4.out.cell (i:=i) (by rw[List.length_set,LQ.out];exact hi1);have hfq:=Q4.out.frozen i;rw[gd_set _ _ _ _ (by rw[LQ.out];exact hi1),if_pos rfl] at hcq;obtain⟨G1,hG1⟩:∃G1,G1=val zs/(1000000000^i*b'):=⟨_,rfl⟩;rw[← hG1] at QEQ1;have QLT:G1<1000000000:=by omega
   have QEQ:=Jh hG1;clear hG1;subst QEQ1;clear hq;go_wp2_with fail;have Z5:=Jh (OY.out.other (g':=g2) i (.int .u32 (G1:Nat)) (by omega));have Q5:=Jh (Q4.out.store i G1 (G1:Nat) rfl);have HB5:=Jh (HB4.out.setCell (p:=⟨g2,i,none⟩) (Nat.le_of_lt hg12) (.int .u32 (G1:Nat)));have N5:=Jh (H1W.out.below HB5.out);have QF0:=Q5;rw[List.set_set] at QF0;generalize w4.setCell ⟨g2,i,none⟩ (.int .u32 (G1:Nat))=w5 at *;clear hcq hfq Q5;refine(putBack_is (p:=i+(k+2)+1-i) Z5 LLY LY.out (by omega) (by omega) N5.out (by omega) (by omega)).mono ?_;rintro e w6 ⟨cy2,xs,rfl,hoy,hly,hyl,hay,hval,hk6⟩;have OF:=Jh hoy;have LF:=Jh hly;have LLF:=Jh hyl;have VF:=Jh (RM.out xs cy2 hyl hay hval);have QF:=Jh (QF0.out.kept hk6 (by omega));have HBF:=Jh (HB5.out.trans (hk6.below (Nat.le_refl _)));rw[QEQ.out] at QF;clear hoy hly hyl hay hval hk6;have LQS:Hid ((qs.set i (val zs/(1000000000^i*b'))).length=m):=by show _=_;rw[List.length_set];exact LQ.out
   have LIM:Hid (limbs (qs.set i (val zs/(1000000000^i*b')))):=limbs_set LQL.out i (by rw[← QEQ];exact QLT);have STEP:=Jh (long_step (q:=val zs/(1000000000^i*b')) HT.out (by rw[LQ.out];exact hi1) (Q0.out i (by omega)) rfl);have LESS:Hid (val xs<1000000000^i*b'):=by show _<_;rw[VF.out];exact Nat.mod_lt _ (Nat.mul_pos (Nat.pow_pos (by omega)) HB0.out)
   rw[← VF.out] at STEP;rcases Nat.eq_zero_or_pos i with h0|h0
   ·subst h0
    have NE:=Jh (HNE.out _ _ STEP.out (by have:=LESS.out;rwa [Nat.pow_zero,Nat.one_mul] at this));have LT1:=Jh (own_lim_is OF.out LLF.out LF.out (by omega));go_wp2_with fail;refine(trim_is LT1.out LLF.out (by omega) rfl).mono ?_;rintro e w7 ⟨A5,n5,c5,rfl,h5,hb5⟩;have hn5:n5≤n+1:=by
     rw[← h5.len];exact dg_len_le (by have:=val_lt LLF.out;rwa [LF.out] at this)
    have H5:=Jh h5;have Q5:=Jh (QF.out.below hb5 QF.out.lt);have HB5:=Jh (HBF.out.trans (hb5.mono (Nat.le_of_lt OF.out.lt)));clear h5 hb5;go_wp2_with fail;refine(dsmall_is H5.out (by omega) HD0 (by omega) rfl NE.out.2 rfl).mono ?_;rintro e w8 ⟨A6,n6,c6,rfl,h6,hb6⟩;have H6:=Jh h6;have Q6:=Jh (Q5.out.below hb6 Q5.out.lt);have HB6:=Jh (HB5.out.trans (hb6.mono HB5.out.size));have LT2:=Jh (own_lim_is Q6.out LIM.out LQS.out (by omega));clear h6 hb6;go_wp2_with fail;refine(trim_is LT2.out LIM.out (by omega) NE.out.1).mono ?_;rintro e w9x ⟨A7,n7,c7,rfl,h7,hb7⟩;have H7:=Jh h7;have H6:=Jh ((H6.out.below hb7).more hb7.size);have HB7:=Jh (HB6.out.trans (hb7.mono HB6.out.size));clear h7 hb7;go_wp2_with fail;simp only[Exit.jump]
    go_ret2
    exact⟨_,_,_,_,_,_,rfl,H7.out,H6.out,HB01.out.trans (HB7.out.mono HB01.out.size)⟩
   ·go_wp2_with fail
    go_step3
    rw[show((i:Int)-1)=((i-1:Nat):Int) from by omega];refine(show(0=0∧_∧_) from⟨rfl,LongAt.make (i:=i-1) (zs:=xs) (qs:=qs.set i (val zs/(1000000000^i*b'))) (w1:=w1) (A1:=A1) (c1:=c1) (g2:=g2) (by omega) LF.out LLF.out LQS.out LIM.out ?_ STEP.out ?_ OF.out QF.out HBF.out H1W.out HB01.out hg12,?_⟩)
    ·intro j hj;exact sdiv_zero Q0.out (by rw[LQ.out];exact hi1) j (by omega)
    ·rw[show i-1+1=i by omega];exact LESS.out
    ·simp[intOf];have:=NN.out;omega
 ·intro PASS
  go_wp2_with fail;rw[ED.out];refine(times_is H'.out (by omega) (by omega) EB.out).mono ?_;rintro e w1 ⟨A1,n1,c1,rfl,h1,hb1⟩;obtain rfl:n1=k+2:=h1.len.symm.trans LB.out;have H1:=Jh h1;have HB1:=Jh hb1;have X1:=Jh ((H.out.below hb1).more hb1.size);clear h1 hb1;go_wp2_with (first|(at_make;go_must (refine wpList_make_full _ rfl _ _ 34 rfl w1.heap.size 163 i0 (.int .u32 0) 1 Tryz.underlying34 hi hz0 hz1 _ _ _ _ (n+1) rfl rfl (by omega) (by omega) (by rw[hz2];omega) (by unfold maxLen;omega) (Nat.le_refl _) ?_;intro w2 hown2 hgr2;have M2:Hid (Own w2 w1.heap.size (List.replicate (n+1) 0)):=Own.of_made hown2;have HB2:Hid (Below w1.heap.size w1 w2):=(Below.refl _ _).grown hgr2 (Nat.le_refl _) (fun k hk=>by cases hk);clear hown2 hgr2))|fail);refine(times_is ((X1.out.below HB2.out).more HB2.out.size) (by omega) (by omega) EA.out).mono ?_;rintro e w3 ⟨A3,n3,c3,rfl,h3,hb3⟩;have hn3:n3≤n+1:=by rw[← h3.len];exact LA.out
  have H3:=Jh h3;have HB3:=Jh (HB2.out.trans (hb3.mono HB2.out.size));have M3:=Jh (M2.out.below hb3 M2.out.lt);have hm3:=h3.room;have hcap3:=h3.cap;unfold maxLen at hm3;clear h3 hb3;go_wp2_with (first|(at_make;go_must (refine wpList_make_full _ rfl _ _ 34 rfl w4.heap.size 163 i0 (.int .u32 0) 1 Tryz.underlying34 hi hz0 hz1 _ _ _ _ m (by first|rfl|(exact congrArg (Value.int IntKind.i64) (by omega))) (by first|rfl|(exact congrArg (Value.int IntKind.i64) (by omega))) (by omega) (by omega) (by rw[hz2];omega) (by unfold maxLen;omega) (Nat.le_refl _) ?_;intro w5 hown5 hgr5;have M5:Hid (Own w5 w4.heap.size (List.replicate m 0)):=Own.of_made hown5;have HB5:Hid (Below w4.heap.size w4 w5):=(Below.refl _ _).grown hgr5 (Nat.le_refl _) (fun k hk=>by cases hk);clear hown5 hgr5))|((with_reducible show wpList _ _ _ (⟨some 29,_,_,_,_,_⟩::_) _ _);go_must (refine wpList_copy_splice rfl (.tmp 25) (.tmp 28) 34 34 rfl 163 Tryz.underlying34 info_one _ _ _ _ _ _ rfl rfl w1.heap.size 0 (vals (List.replicate (n+1) 0)) 163 M3.out (vals (dg a')) (copy_len H3.out hn3).1 (fun hp=>⟨rfl,lim_src H3.out hp⟩) (copy_len H3.out hn3).2 (vals_one _) w1.heap.size w1 HB3.out (Nat.le_refl _) ?_;intro w4 hg4 hb4;have O4:=Jh (own_copied H3.out hn3 hg4);have HB4:=Jh hb4;clear hg4 hb4))|fail);go_step3
  simp only[Exit.then]
  rename_i K
  rw[show((m:Int)-1)=((m-1:Nat):Int) from by omega];refine K _ _ (PASS.out _ _ (LongAt.make (i:=m-1) (zs:=dg a'++List.replicate (n+1-n3) 0) (qs:=List.replicate m 0) (w1:=w1) (A1:=A1) (c1:=c1) (g2:=w4.heap.size) (by omega) ?_ ?_ (by simp) (zeros_limbs _) (fun j _=>gd_zeros _ _) ?_ ?_ ?_ M5.out ?_ H1.out HB1.out ?_))
  ·rw[List.length_append,List.length_replicate,H3.out.len];omega
  ·exact limbs_append.2 ⟨limbs_dg _,zeros_limbs _⟩
  ·rw[val_append,val_zeros,val_zeros,val_dg];simp
  ·rw[val_append,val_zeros,val_dg,Nat.mul_zero,Nat.add_zero,show m-1+1=m by omega];exact ST.out
  ·exact O4.out.below HB5.out O4.out.lt
  ·exact HB4.out.trans (HB5.out.mono HB4.out.size)
  ·exact O4.out.lt
theorem dg_one{b:Nat}(h:(dg b).length=1):dg b=[b]∧b<1000000000:=by
 have hb:0<b:=by
  rcases Nat.eq_zero_or_pos b with h0|h0
  ·rw[h0,dg_zero] at h;simp at h
  ·exact h0
 rw[dg_pos hb] at h ⊢;have h1:dg (b/1000000000)=[]:=List.eq_nil_of_length_eq_zero (by simpa using h);rw[h1];rw[dg_eq_nil] at h1;have:b<1000000000:=by omega
 exact⟨by rw[Nat.mod_eq_of_lt this],this⟩
theorem dg_len_pos{b n:Nat}(h:(dg b).length=n)(hb:0<b):0<n:=by
 rcases Nat.eq_zero_or_pos n with h0|h0
 ·subst h0
  have:=dg_eq_nil.1 (List.eq_nil_of_length_eq_zero h);omega
 ·exact h0
theorem div_zero(A A':Option Addr)(n c c' a:Nat)(w:World)(h:Num w w.heap.size A n c a)(h':Num w w.heap.size A' 0 c' 0) :
  Calls Tryz.prog 194 #[.slice A n c,.slice A' 0 c'] w (RetVal w (.tuple #[.slice none 0 0,.slice none 0 0,.int .i64 4])):=by
 have C:=Jh (sound_is h);have C':=Jh (sound_is h');clear h h';go_enter Tryz.func194,Tryz.ntmps194;go_wp2_with fail;refine C.out.mono ?_;rintro e w' ⟨rfl,rfl⟩;go_wp2_with fail;refine C'.out.mono ?_;rintro e w' ⟨rfl,rfl⟩;go_wp2_with fail;go_ret3
 exact⟨rfl,Below.refl _ _⟩
theorem div_any(A A':Option Addr)(n c n' c' a b:Nat)(w:World)(h:Num w w.heap.size A n c a)(h':Num w w.heap.size A' n' c' b)(hn:n≤100000)(hb:0<b) :
  Calls Tryz.prog 194 #[.slice A n c,.slice A' n' c'] w (RetDiv w (a/b) (a%b)):=by
 have hn':=dg_len_pos h'.len hb;have hm':=h'.room;have hcap':=h'.cap;unfold maxLen at hm';have C:=Jh (sound_is h);have C':=Jh (sound_is h');rcases Nat.lt_or_ge a b with hlt|hge
 ·have CC:=Jh (cmp_is h h' (cmpN_lt hlt))
  have HQ:Hid (a/b=0):=Nat.div_eq_of_lt hlt;have HR:Hid (a%b=a):=Nat.mod_eq_of_lt hlt;have H:=Jh h;clear h h' hlt hb;go_enter Tryz.func194,Tryz.ntmps194;go_wp2_with fail;refine C.out.mono ?_;rintro e w' ⟨rfl,rfl⟩;go_wp2_with fail;refine C'.out.mono ?_;rintro e w' ⟨rfl,rfl⟩;go_wp2_with fail;refine CC.out.mono ?_;rintro e w1 ⟨rfl,hb1⟩;have HB1:=Jh hb1;have H1:=Jh ((H.out.below hb1).more hb1.size);clear hb1;go_wp2_with fail;refine(trim_is H1.out (limbs_dg a) (by omega) (val_dg a)).mono ?_;rintro e w2 ⟨A2,n2,c2,rfl,h2,hb2⟩;have H2:=Jh h2;have HB2:=Jh (HB1.out.trans (hb2.mono HB1.out.size));clear h2 hb2;go_wp2_with fail;go_ret3
  exact⟨_,_,_,_,_,_,rfl,by rw[HQ.out,Num,dg_zero];exact Lim.nil,by rw[HR.out];exact H2.out,HB2.out⟩
 ·have hs:0≤cmpN a b:=by
   rcases Int.lt_or_le (cmpN a b) 0 with h1|h1
   ·rw[cmpN_neg] at h1;omega
   ·exact h1
  have CC:=Jh (fun w1 (hb1:Below w.heap.size w w1)=>cmp_any A A' n c n' c' a b w1 ((h.below hb1).more hb1.size) ((h'.below hb1).more hb1.size));generalize cmpN a b=s at *;rcases Nat.eq_or_lt_of_le (show 1≤n' from hn') with h1|h1
  ·subst h1
   have D1:=dg_one h'.len;obtain⟨b3,o3,rfl,hB3,hc3⟩:=h'.at_ (show 0<1 by omega);have hc4:w.cell? ⟨b3,o3,none⟩=some (.int .u32 (b:Nat)):=by rw[Nat.add_zero,D1.1,gd_cons_zero] at hc3;exact hc3
   have hbl:=D1.2;have H:=Jh h;clear h h' hge hc3 D1;go_enter Tryz.func194,Tryz.ntmps194;go_wp2_with fail;refine C.out.mono ?_;rintro e w' ⟨rfl,rfl⟩;go_wp2_with fail;refine C'.out.mono ?_;rintro e w' ⟨rfl,rfl⟩;go_wp2_with fail;refine(CC.out w (Below.refl _ _)).mono ?_;rintro e w1 ⟨rfl,hb1⟩;have HB1:=Jh hb1;have H1:=Jh ((H.out.below hb1).more hb1.size);have hc5:=(hb1.cell (p:=⟨b3,o3,none⟩) hB3).trans hc4;clear hb1 hc4;go_wp2_with fail;refine(dsmall_is H1.out (by omega) hb (by omega) rfl rfl rfl).mono ?_;rintro e w2 ⟨A2,n2,c2,rfl,h2,hb2⟩;have H2:=Jh h2;have HB2:=Jh (HB1.out.trans (hb2.mono HB1.out.size));have hr:a%b<1000000000:=Nat.lt_trans (Nat.mod_lt _ hb) hbl;have HR:=Jh hr;clear h2 hb2 hc5 hr;obtain⟨r,hr⟩:∃r,a%b=r:=⟨_,rfl⟩;rw[hr] at HR ⊢;have hrl:=HR.out;have HRE:=Jh hr;clear hr HR;go_wp2_with fail;refine(mk_any r _ rfl (by omega) w2).mono ?_;rintro e w3 ⟨A3,n3,c3,rfl,h3,hb3⟩;have H3:=Jh h3;have H2:=Jh ((H2.out.below hb3).more hb3.size);have HB3:=Jh (HB2.out.trans (hb3.mono HB2.out.size));clear h3 hb3;go_wp2_with fail;go_ret3
   exact⟨_,_,_,_,_,_,rfl,H2.out,by rw[HRE.out];exact H3.out,HB3.out⟩
  ·obtain⟨k,rfl⟩:∃k,n'=k+2:=⟨n'-2,by omega⟩
   have LL:=Jh (fun w1 (hb1:Below w.heap.size w w1)=>long_any A A' n c k c' a b w1 ((h.below hb1).more hb1.size) ((h'.below hb1).more hb1.size) hn hge);clear h h' hge hb;go_enter Tryz.func194,Tryz.ntmps194;go_wp2_with fail;refine C.out.mono ?_;rintro e w' ⟨rfl,rfl⟩;go_wp2_with fail;refine C'.out.mono ?_;rintro e w' ⟨rfl,rfl⟩;go_wp2_with fail;refine(CC.out w (Below.refl _ _)).mono ?_;rintro e w1 ⟨rfl,hb1⟩;have HB1:=Jh hb1;clear hb1;go_wp2_with fail;refine(LL.out w1 HB1.out).mono ?_;rintro e w2 ⟨A2,n2,c2,A3,n3,c3,rfl,h2,h3,hb2⟩;have H2:=Jh h2;have H3:=Jh h3;have HB2:=Jh (HB1.out.trans (hb2.mono HB1.out.size));clear h2 h3 hb2;go_wp2_with fail;go_ret3
   exact⟨_,_,_,_,_,_,rfl,H2.out,H3.out,HB2.out⟩
theorem div_is{A A':Option Addr}{n c n' c' a b q r:Nat}{w:World}(h:Num w w.heap.size A n c a)(h':Num w w.heap.size A' n' c' b)(hn:n≤100000)(hb:0<b)(hq:a/b=q)(hr:a%b=r) :
  Calls Tryz.prog 194 #[.slice A n c,.slice A' n' c'] w (RetDiv w q r):=by
 subst hq;subst hr;exact div_any A A' n c n' c' a b w h h' hn hb
def nearN(a b:Nat):Nat:=if b<2*(a%b) then a/b+1 else if 2*(a%b)=b∧a/b%2=1 then a/b+1 else a/b
theorem near_zero(A A':Option Addr)(n c c' a:Nat)(w:World)(h:Num w w.heap.size A n c a)(h':Num w w.heap.size A' 0 c' 0) :
  Calls Tryz.prog 190 #[.slice A n c,.slice A' 0 c'] w (RetVal w (.tuple #[.slice none 0 0,.int .i64 4])):=by
 have C:=Jh (div_zero A A' n c c' a w h h');clear h h';go_enter Tryz.func190,Tryz.ntmps190;go_wp2_with fail;refine C.out.mono ?_;rintro e w1 ⟨rfl,hb1⟩;have HB1:=Jh hb1;clear hb1;go_wp2_with fail;go_ret2
 exact⟨rfl,HB1.out⟩
theorem div_len_le{a b n:Nat}(h:(dg a).length=n):(dg (a/b)).length≤n:=by
 rw[← h];exact dg_len_mono (Nat.div_le_self _ _)
theorem mod_len_le{a b n:Nat}(h:(dg a).length=n):(dg (a%b)).length≤n:=by
 rw[← h];exact dg_len_mono (Nat.mod_le _ _)
theorem near_any(A A':Option Addr)(n c n' c' a b:Nat)(w:World)(h:Num w w.heap.size A n c a)(h':Num w w.heap.size A' n' c' b)(hn:n≤100000)(hb:0<b) :
  Calls Tryz.prog 190 #[.slice A n c,.slice A' n' c'] w (RetSub w (nearN a b)):=by
 have E:=Env.two h h';have LA:=Jh h.len;obtain⟨q,hq⟩:∃q,a/b=q:=⟨_,rfl⟩;obtain⟨r,hr⟩:∃r,a%b=r:=⟨_,rfl⟩;have C:=Jh (div_is h h' hn hb hq hr);have LQ:(dg q).length≤n:=by rw[← hq];exact div_len_le LA.out
 have LR:(dg r).length≤n:=by rw[← hr];exact mod_len_le LA.out
 have HN:Hid (nearN a b=if b<2*r then q+1 else if 2*r=b∧q%2=1 then q+1 else q):=by show _=_;unfold nearN;rw[hq,hr]
 have LQ:=Jh LQ;have LR:=Jh LR;clear h h' hq hr hb;rcases Nat.lt_trichotomy (r+r) b with hlt|heq|hgt
 ·have HV:Hid (nearN a b=q):=by show _=_;rw[HN.out,if_neg (by omega),if_neg (by omega)]
  have HC:=Jh (cmpN_lt hlt);clear hlt;go_enter Tryz.func190,Tryz.ntmps190;go_wp2_with fail;refine C.out.mono ?_;rintro e w1 ⟨A1,n1,c1,A2,n2,c2,rfl,h1,h2,hb1⟩;replace E:=Env.push E hb1 h1;replace E:=Env.push E (Below.refl _ _) h2;have hn2:n2≤n:=by rw[← h2.len];exact LR.out
  clear h1 h2 hb1;go_wp2_with fail;refine(add_is (a:=r) (b:=r) (Env.get E (A:=A2) (n:=n2) (c:=c2) (by simp)) (Env.get E (A:=A2) (n:=n2) (c:=c2) (by simp)) (by omega) (by omega) rfl).mono ?_;rintro e w2 ⟨A3,n3,c3,rfl,h3,hb⟩;replace E:=Env.push E hb h3;clear h3 hb;go_wp2_with fail;refine(cmp_is (a:=r+r) (b:=b) (Env.get E (A:=A3) (n:=n3) (c:=c3) (by simp)) (Env.get E (A:=A') (n:=n') (c:=c') (by simp)) HC.out).mono ?_;rintro e w3 ⟨rfl,hb⟩;replace E:=Env.step E hb;clear hb;go_wp2_with fail;go_ret2
  exact⟨_,_,_,rfl,by rw[HV.out];exact Env.get E (by simp),E.out.1⟩
 ·have HC:=Jh (cmpN_eq heq)
  rcases Nat.mod_two_eq_zero_or_one q with h2|h2
  ·have HV:Hid (nearN a b=q):=by show _=_;rw[HN.out,if_neg (by omega),if_neg (by omega)]
   have hd:decide (q%2=0)=true:=decide_eq_true h2;have HD:=Jh hd;clear heq h2 hd;go_enter Tryz.func190,Tryz.ntmps190;go_wp2_with fail;refine C.out.mono ?_;rintro e w1 ⟨A1,n1,c1,A2,n2,c2,rfl,h1,h2,hb1⟩;replace E:=Env.push E hb1 h1;replace E:=Env.push E (Below.refl _ _) h2;have hn2:n2≤n:=by rw[← h2.len];exact LR.out
   clear h1 h2 hb1;go_wp2_with fail;refine(add_is (a:=r) (b:=r) (Env.get E (A:=A2) (n:=n2) (c:=c2) (by simp)) (Env.get E (A:=A2) (n:=n2) (c:=c2) (by simp)) (by omega) (by omega) rfl).mono ?_;rintro e w2 ⟨A3,n3,c3,rfl,h3,hb⟩;replace E:=Env.push E hb h3;clear h3 hb;go_wp2_with fail;refine(cmp_is (a:=r+r) (b:=b) (Env.get E (A:=A3) (n:=n3) (c:=c3) (by simp)) (Env.get E (A:=A') (n:=n') (c:=c') (by simp)) HC.out).mono ?_;rintro e w3 ⟨rfl,hb⟩;replace E:=Env.step E hb;clear hb;go_wp2_with fail;refine(even_is (a:=q) (t:=true) (Env.get E (A:=A1) (n:=n1) (c:=c1) (by simp)) HD.out).mono ?_;rintro e w' ⟨rfl,rfl⟩;go_wp2_with fail;go_ret2
   exact⟨_,_,_,rfl,by rw[HV.out];exact Env.get E (by simp),E.out.1⟩
  ·have HV:Hid (nearN a b=q+1):=by show _=_;rw[HN.out,if_neg (by omega),if_pos ⟨by omega,h2⟩]
   have hd:decide (q%2=0)=false:=decide_eq_false (by omega);have HD:=Jh hd;clear heq h2 hd;go_enter Tryz.func190,Tryz.ntmps190;go_wp2_with fail;refine C.out.mono ?_;rintro e w1 ⟨A1,n1,c1,A2,n2,c2,rfl,h1,h2,hb1⟩;replace E:=Env.push E hb1 h1;replace E:=Env.push E (Below.refl _ _) h2;have hn1:n1≤n:=by rw[← h1.len];exact LQ.out
   have hn2:n2≤n:=by rw[← h2.len];exact LR.out
   clear h1 h2 hb1;go_wp2_with fail;refine(add_is (a:=r) (b:=r) (Env.get E (A:=A2) (n:=n2) (c:=c2) (by simp)) (Env.get E (A:=A2) (n:=n2) (c:=c2) (by simp)) (by omega) (by omega) rfl).mono ?_;rintro e w2 ⟨A3,n3,c3,rfl,h3,hb⟩;replace E:=Env.push E hb h3;clear h3 hb;go_wp2_with fail;refine(cmp_is (a:=r+r) (b:=b) (Env.get E (A:=A3) (n:=n3) (c:=c3) (by simp)) (Env.get E (A:=A') (n:=n') (c:=c') (by simp)) HC.out).mono ?_;rintro e w3 ⟨rfl,hb⟩;replace E:=Env.step E hb;clear hb;go_wp2_with fail;refine(even_is (a:=q) (t:=false) (Env.get E (A:=A1) (n:=n1) (c:=c1) (by simp)) HD.out).mono ?_;rintro e w' ⟨rfl,rfl⟩;go_wp2_with fail;refine(mk_any 1 _ rfl (by decide) _).mono ?_;rintro e w4 ⟨A4,n4,c4,rfl,h4,hb⟩;replace E:=Env.push E hb h4;have hn4:n4≤3:=by have:=len_of_u64 (N:=1) (by decide);rwa [h4.len] at this
   clear h4 hb;go_wp2_with fail;refine(add_is (a:=q) (b:=1) (Env.get E (A:=A1) (n:=n1) (c:=c1) (by simp)) (Env.get E (A:=A4) (n:=n4) (c:=c4) (by simp)) (by omega) (by omega) rfl).mono ?_;rintro e w5 ⟨A5,n5,c5,rfl,h5,hb⟩;replace E:=Env.push E hb h5;clear h5 hb;go_wp2_with fail;go_ret2
   exact⟨_,_,_,rfl,by rw[HV.out];exact Env.get E (by simp),E.out.1⟩
 ·have HV:Hid (nearN a b=q+1):=by show _=_;rw[HN.out,if_pos (by omega)]
  have HC:=Jh (cmpN_gt hgt);clear hgt;go_enter Tryz.func190,Tryz.ntmps190;go_wp2_with fail;refine C.out.mono ?_;rintro e w1 ⟨A1,n1,c1,A2,n2,c2,rfl,h1,h2,hb1⟩;replace E:=Env.push E hb1 h1;replace E:=Env.push E (Below.refl _ _) h2;have hn1:n1≤n:=by rw[← h1.len];exact LQ.out
  have hn2:n2≤n:=by rw[← h2.len];exact LR.out
  clear h1 h2 hb1;go_wp2_with fail;refine(add_is (a:=r) (b:=r) (Env.get E (A:=A2) (n:=n2) (c:=c2) (by simp)) (Env.get E (A:=A2) (n:=n2) (c:=c2) (by simp)) (by omega) (by omega) rfl).mono ?_;rintro e w2 ⟨A3,n3,c3,rfl,h3,hb⟩;replace E:=Env.push E hb h3;clear h3 hb;go_wp2_with fail;refine(cmp_is (a:=r+r) (b:=b) (Env.get E (A:=A3) (n:=n3) (c:=c3) (by simp)) (Env.get E (A:=A') (n:=n') (c:=c') (by simp)) HC.out).mono ?_;rintro e w3 ⟨rfl,hb⟩;replace E:=Env.step E hb;clear hb;go_wp2_with fail;refine(mk_any 1 _ rfl (by decide) _).mono ?_;rintro e w4 ⟨A4,n4,c4,rfl,h4,hb⟩;replace E:=Env.push E hb h4;have hn4:n4≤3:=by have:=len_of_u64 (N:=1) (by decide);rwa [h4.len] at this
  clear h4 hb;go_wp2_with fail;refine(add_is (a:=q) (b:=1) (Env.get E (A:=A1) (n:=n1) (c:=c1) (by simp)) (Env.get E (A:=A4) (n:=n4) (c:=c4) (by simp)) (by omega) (by omega) rfl).mono ?_;rintro e w5 ⟨A5,n5,c5,rfl,h5,hb⟩;replace E:=Env.push E hb h5;clear h5 hb;go_wp2_with fail;go_ret2
  exact⟨_,_,_,rfl,by rw[HV.out];exact Env.get E (by simp),E.out.1⟩
theorem near_is{A A':Option Addr}{n c n' c' a b m:Nat}{w:World}(h:Num w w.heap.size A n c a)(h':Num w w.heap.size A' n' c' b)(hn:n≤100000)(hb:0<b)(hm:nearN a b=m) :
  Calls Tryz.prog 190 #[.slice A n c,.slice A' n' c'] w (RetSub w m):=by
 subst hm;exact near_any A A' n c n' c' a b w h h' hn hb
end Go.Proofs.YtpbbolgnnegmlaaGreatDoor.Num
