/- Lemmas of the proof: ExpMathB, ExpMathC, ExpMathD. -/
import Derived.Test.YtpbbolgnnegmlaaGreatDoorAll24
import Derived.Test.YtpbbolgnnegmlaaGreatDoorAll17
import Derived.Test.YtpbbolgnnegmlaaGreatDoorAll27
set_option linter.unusedVariables false
set_option linter.unusedSimpArgs false
set_option maxRecDepth 100000
set_option maxHeartbeats 32000000
namespace Go.Proofs.YtpbbolgnnegmlaaGreatDoor.Num
theorem len_nine{a m:Nat}(h:a<10^m):(dg a).length≤m/9+1:=by
 have e:(1000000000:Nat)^(m/9+1)=10^(9*(m/9+1)):=by rw[Nat.pow_mul]
 refine dg_len_le (Nat.lt_of_lt_of_le h ?_);rw[e];exact Nat.pow_le_pow_right (by omega) (by omega)
theorem Sz.nine{x:Int}{s K:Nat}(h:Sz x s K):(dg x.natAbs).length≤(K+s)/9+1:=len_nine h
theorem near_le(a b:Nat):nearN a b≤a/b+1:=by
 unfold nearN;(repeat' split)<;>omega
theorem quoQ_size{i j:Int}{s t m:Nat}(hi:Sz i s m)(hj:j≠0):Sz (quoQ i s j t) (max s t+10) (m+t+1):=by
 unfold Sz quoQ divZ at *;rw[abs_sgn];obtain⟨S,hS⟩:∃S,max s t+10=S:=⟨_,rfl⟩;rw[hS];have hb:0<j.natAbs:=by omega
 have h1:=near_le (i.natAbs*10^(S+t)) (j.natAbs*10^s);have h2:i.natAbs*10^(S+t)/(j.natAbs*10^s)≤i.natAbs*10^(S+t)/10^s:=by
  rw[Nat.mul_comm j.natAbs,← Nat.div_div_eq_div_mul];exact Nat.div_le_self _ _
 have h3:i.natAbs*10^(S+t)/10^s=i.natAbs*10^(S+t-s):=by
  have e:10^(S+t)=10^(S+t-s)*10^s:=by rw[← Nat.pow_add];congr 1;omega
  rw[e,← Nat.mul_assoc,Nat.mul_div_cancel _ (Nat.pow_pos (by omega))]
 have h4:i.natAbs*10^(S+t-s)<10^(m+s)*10^(S+t-s):=Nat.mul_lt_mul_of_pos_right hi (Nat.pow_pos (by omega));rw[← Nat.pow_add,show m+s+(S+t-s)=m+t+S by omega] at h4;have h5:10^(m+t+1+S)=10*10^(m+t+S):=by rw[show m+t+1+S=(m+t+S)+1 by omega,Nat.pow_succ];omega
 rw[h5];have h6:0<10^(m+t+S):=Nat.pow_pos (by omega);omega
theorem quo_size{i j:Int}{s t m:Nat}(hi:Sz i s m)(hj:j≠0):Sz (quoI i s j t) (quoK i s j t) (m+t+1)∧quoK i s j t≤max s t+10:=
 ⟨Sz.strip (quoQ_size hi hj),Nat.sub_le _ _⟩
def Grt(L:List Tok)(a b:Nat)(i:Int)(k:Nat):Prop:=a<b∧b≤L.length∧Sz i k (20*(b-a)+10)∧k≤20*(b-a)+10
structure Siz (L:List Tok) (G:Nat→Nat→Int→Nat→Prop):Prop where
 txt:∀t∈L,t.2.size≤6000
 rng:∀{a b i k},G a b i k→a<b∧b≤L.length
 fits:∀{a b i k},G a b i k→(dg i.natAbs).length≤900∧k≤4010
 fac:∀{d a i k b},FAC L d a=.inr (i,k,b)→G a b i k
 pro:∀{d a i k b},PRO L d a=.inr (i,k,b)→G a b i k
 mul:∀{a c b i k j t},G a c i k→G (c+1) b j t→G a b (i*j) (k+t)
 quo:∀{a c b i k j t},G a c i k→G (c+1) b j t→j≠0→G a b (quoI i k j t) (quoK i k j t)
 add:∀{a c b i k j t},G a c i k→G (c+1) b j t→G a b (addZ i k j t) (max k t)
 sub:∀{a c b i k j t},G a c i k→G (c+1) b j t→G a b (subZ i k j t) (max k t)
 qlen:∀{a c b i k j t},G a c i k→G (c+1) b j t→j≠0→(dg (quoQ i k j t).natAbs).length≤1000
namespace Wgh
theorem numV_size{s:ByteArray}{i:Int}{k:Nat}(h:numV s=some (i,k)){m:Nat}(hs:s.size≤m):Sz i k m∧k≤m:=by
 unfold numV at h;split at h
 ·rename_i hv
  have e:=Option.some.inj h;have e1:numD (codes s)=i:=congrArg Prod.fst e;have e2:(bhd (rst (codes s))).length=k:=congrArg Prod.snd e;have h1:=rst_len (codes s);have h2:=ahd_bhd_len (rst (codes s));have h3:=digsOf_len (rst (codes s));rw[codes_len] at h1;refine⟨?_,by omega⟩;have hd:digs (digsOf (rst (codes s))):=dgB_iff.1 (by
   have:=hv.2;unfold frmB at this;rw[Bool.and_eq_true] at this;exact this.2)
  have hp:=pv_lt hd;have ha:i.natAbs=pv (digsOf (rst (codes s))):=by
   rw[← e1];unfold numD;split<;>simp
  unfold Sz;rw[ha];exact Nat.lt_of_lt_of_le hp (Nat.pow_le_pow_right (by omega) (by omega))
 ·cases h
def ws(L:List Tok)(n:Nat):Nat:=((L.take n).map fun t=>t.2.size+11).sum
theorem ws_step{L:List Tok}{n:Nat}{t:Tok}(h:L[n]?=some t):ws L (n+1)=ws L n+t.2.size+11:=by
 unfold ws;rw[List.take_add_one,h,List.map_append,List.sum_append];show _+(t.2.size+11+0)=_;omega
theorem ws_le {L : List Tok} {n m : Nat} (h : n ≤ m) : ws L n ≤ ws L m := by
  induction m with
  | zero => obtain rfl : n = 0 := by omega
            exact Nat.le_refl _
  | succ m ih =>
    rcases Nat.eq_or_lt_of_le h with rfl | h
    · exact Nat.le_refl _
    · refine Nat.le_trans (ih (by omega)) ?_
      unfold ws
      rw [List.take_add_one, List.map_append, List.sum_append]
      exact Nat.le_add_right _ _
theorem ws_lt{L:List Tok}{n m:Nat}(h:n<m)(hm:m≤L.length):ws L n+11≤ws L m:=by
 have h1:=ws_step (L:=L) (n:=n) (List.getElem?_eq_getElem (by omega));have h2:=ws_le (L:=L) (show n+1≤m from h);omega
def Grt(L:List Tok)(a b:Nat)(i:Int)(k:Nat):Prop:=a<b∧b≤L.length∧Sz i k (ws L b-ws L a)∧k≤ws L b-ws L a
theorem grt_all(L:List Tok):∀f:Nat,
  (∀{d a i k b},facF L f d a=.inr (i,k,b)→Grt L a b i k)∧(∀{d a i k b},proF L f d a=.inr (i,k,b)→Grt L a b i k)∧
  (∀{d j t a0 a i k b},proL L f d j t a=.inr (i,k,b)→Grt L a0 a j t→Grt L a0 b i k)∧(∀{d a i k b},sumF L f d a=.inr (i,k,b)→Grt L a b i k)∧
  (∀{d j t a0 a i k b},sumL L f d j t a=.inr (i,k,b)→Grt L a0 a j t→Grt L a0 b i k):=by
 intro f;induction f with
 | zero=>
  refine⟨fun h=>?_,fun h=>?_,fun h=>?_,fun h=>?_,fun h=>?_⟩
  ·rw[facF] at h;cases h
  ·rw[proF] at h;cases h
  ·rw[proL] at h;cases h
  ·rw[sumF] at h;cases h
  ·rw[sumL] at h;cases h
 | succ f ih=>
  obtain⟨ih1,ih2,ih3,ih4,ih5⟩:=ih;refine⟨fun {d a i k b} h=>?_,fun {d a i k b} h=>?_,fun {d j t a0 a i k b} h hg=>?_,fun {d a i k b} h=>?_,fun {d j t a0 a i k b} h hg=>?_⟩
  ·rw[facF] at h
   cases hl:L[a]? with
   | none=>rw[hl] at h;cases h
   | some t=>
    have ha:a<L.length:=(List.getElem?_eq_some_iff.1 hl).1;rw[hl] at h;dsimp only at h
    split at h
    ·split at h
     ·cases h
     ·rename_i hv
      obtain⟨h1,h2⟩:=numV_size hv (Nat.le_refl _);cases h
      have w1:=ws_step hl;exact⟨by omega,by omega,h1.mono (by omega),by omega⟩
    ·split at h
     ·cases h
     ·split at h
      ·cases h
      ·split at h
       ·cases hr:sumF L f (d+1) (a+1) with
        | inl e=>rw[hr] at h;cases h
        | inr p=>
         obtain⟨x,y,z⟩:=p;rw[hr] at h;unfold Rs.shut at h;dsimp only at h
         obtain⟨g1,g2,g3,g4⟩:=ih4 hr;split at h
         ·rename_i hc
          cases h
          have:=isAt_lt hc;have w1:=ws_le (L:=L) (show a≤a+1 by omega);have w2:=ws_le (L:=L) (show z≤z+1 by omega);exact⟨by omega,by omega,g3.mono (by omega),by omega⟩
         ·cases h
       ·cases hr:facF L f (d+1) (a+1) with
        | inl e=>rw[hr] at h;cases h
        | inr p=>
         obtain⟨x,y,z⟩:=p;rw[hr] at h;obtain⟨g1,g2,g3,g4⟩:=ih1 hr;cases h
         have w1:=ws_le (L:=L) (show a≤a+1 by omega);refine⟨by omega,by omega,?_,by omega⟩;split
         ·exact g3.neg.mono (by omega)
         ·exact g3.mono (by omega)
  ·rw[proF] at h
   cases hr:facF L f d a with
   | inl e=>rw[hr] at h;cases h
   | inr p=>
    obtain⟨x,y,z⟩:=p;rw[hr] at h;exact ih3 h (ih1 hr)
  ·rw[proL] at h
   obtain⟨q1,q2,q3,q4⟩:=hg;split at h
   ·cases hr:facF L f d (a+1) with
    | inl e=>rw[hr] at h;cases h
    | inr p=>
     obtain⟨x,y,z⟩:=p;rw[hr] at h;obtain⟨g1,g2,g3,g4⟩:=ih1 hr;have w1:=ws_lt (L:=L) (show a<a+1 by omega) (by omega);have w2:=ws_le (L:=L) (show a0≤a by omega);have w3:=ws_le (L:=L) (show a+1≤z by omega);exact ih3 h ⟨by omega,by omega,(q3.mul g3).mono (by omega),by omega⟩
   ·split at h
    ·cases hr:facF L f d (a+1) with
     | inl e=>rw[hr] at h;cases h
     | inr p=>
      obtain⟨x,y,z⟩:=p;rw[hr] at h;dsimp only at h
      obtain⟨g1,g2,g3,g4⟩:=ih1 hr;split at h
      ·cases h
      ·rename_i hx
       obtain⟨r1,r2⟩:=quo_size (t:=y) q3 hx;have w1:=ws_lt (L:=L) (show a<a+1 by omega) (by omega);have w2:=ws_le (L:=L) (show a0≤a by omega);have w3:=ws_le (L:=L) (show a+1≤z by omega);exact ih3 h ⟨by omega,by omega,r1.mono (by omega),by omega⟩
    ·cases h;exact⟨q1,q2,q3,q4⟩
  ·rw[sumF] at h
   cases hr:proF L f d a with
   | inl e=>rw[hr] at h;cases h
   | inr p=>
    obtain⟨x,y,z⟩:=p;rw[hr] at h;exact ih5 h (ih2 hr)
  ·rw[sumL] at h
   obtain⟨q1,q2,q3,q4⟩:=hg;split at h
   ·cases hr:proF L f d (a+1) with
    | inl e=>rw[hr] at h;cases h
    | inr p=>
     obtain⟨x,y,z⟩:=p;rw[hr] at h;obtain⟨g1,g2,g3,g4⟩:=ih2 hr;have w1:=ws_lt (L:=L) (show a<a+1 by omega) (by omega);have w2:=ws_le (L:=L) (show a0≤a by omega);have w3:=ws_le (L:=L) (show a+1≤z by omega);exact ih5 h ⟨by omega,by omega,(q3.add g3).mono (by omega),by omega⟩
   ·split at h
    ·cases hr:proF L f d (a+1) with
     | inl e=>rw[hr] at h;cases h
     | inr p=>
      obtain⟨x,y,z⟩:=p;rw[hr] at h;obtain⟨g1,g2,g3,g4⟩:=ih2 hr;have w1:=ws_lt (L:=L) (show a<a+1 by omega) (by omega);have w2:=ws_le (L:=L) (show a0≤a by omega);have w3:=ws_le (L:=L) (show a+1≤z by omega);exact ih5 h ⟨by omega,by omega,(q3.sub g3).mono (by omega),by omega⟩
    ·cases h;exact⟨q1,q2,q3,q4⟩
section
variable {L:List Tok}{d a b a0 t:Nat}{i j:Int}{k:Nat}
theorem FAC_grt(h:FAC L d a=.inr (i,k,b)):Grt L a b i k:=(grt_all L _).1 h
theorem PRO_grt(h:PRO L d a=.inr (i,k,b)):Grt L a b i k:=(grt_all L _).2.1 h
end
theorem Grt.mul{L:List Tok}{a c b:Nat}{i j:Int}{k t:Nat}(h:Grt L a c i k)(h2:Grt L (c+1) b j t):Grt L a b (i*j) (k+t):=by
 obtain⟨q1,q2,q3,q4⟩:=h;obtain⟨g1,g2,g3,g4⟩:=h2;have w1:=ws_lt (L:=L) (show c<c+1 by omega) (by omega);have w2:=ws_le (L:=L) (show a≤c by omega);have w3:=ws_le (L:=L) (show c+1≤b by omega);exact⟨by omega,by omega,(q3.mul g3).mono (by omega),by omega⟩
theorem Grt.quo{L:List Tok}{a c b:Nat}{i j:Int}{k t:Nat}(h:Grt L a c i k)(h2:Grt L (c+1) b j t)(hj:j≠0):Grt L a b (quoI i k j t) (quoK i k j t):=by
 obtain⟨q1,q2,q3,q4⟩:=h;obtain⟨g1,g2,g3,g4⟩:=h2;have w1:=ws_lt (L:=L) (show c<c+1 by omega) (by omega);have w2:=ws_le (L:=L) (show a≤c by omega);have w3:=ws_le (L:=L) (show c+1≤b by omega);obtain⟨r1,r2⟩:=quo_size (t:=t) q3 hj;exact⟨by omega,by omega,r1.mono (by omega),by omega⟩
theorem Grt.add{L:List Tok}{a c b:Nat}{i j:Int}{k t:Nat}(h:Grt L a c i k)(h2:Grt L (c+1) b j t):Grt L a b (addZ i k j t) (max k t):=by
 obtain⟨q1,q2,q3,q4⟩:=h;obtain⟨g1,g2,g3,g4⟩:=h2;have w1:=ws_lt (L:=L) (show c<c+1 by omega) (by omega);have w2:=ws_le (L:=L) (show a≤c by omega);have w3:=ws_le (L:=L) (show c+1≤b by omega);exact⟨by omega,by omega,(q3.add g3).mono (by omega),by omega⟩
theorem Grt.sub{L:List Tok}{a c b:Nat}{i j:Int}{k t:Nat}(h:Grt L a c i k)(h2:Grt L (c+1) b j t):Grt L a b (subZ i k j t) (max k t):=by
 obtain⟨q1,q2,q3,q4⟩:=h;obtain⟨g1,g2,g3,g4⟩:=h2;have w1:=ws_lt (L:=L) (show c<c+1 by omega) (by omega);have w2:=ws_le (L:=L) (show a≤c by omega);have w3:=ws_le (L:=L) (show c+1≤b by omega);exact⟨by omega,by omega,(q3.sub g3).mono (by omega),by omega⟩
theorem Grt.fits{L:List Tok}{a b:Nat}{i:Int}{k:Nat}(h:Grt L a b i k)(hn:ws L L.length≤4010):(dg i.natAbs).length≤900∧k≤4010:=by
 obtain⟨q1,q2,q3,q4⟩:=h;have:=q3.nine;have w1:=ws_le (L:=L) q2;omega
end Wgh
theorem txt_ws{L:List Tok}{t:Tok}(h:t∈L):t.2.size≤Wgh.ws L L.length:=by
 obtain⟨n,hn,e⟩:=List.getElem_of_mem h;have h1:=Wgh.ws_step (L:=L) (n:=n) (t:=t) (by rw[List.getElem?_eq_getElem hn,e]);have h2:=Wgh.ws_le (L:=L) (show n+1≤L.length from hn);omega
theorem siz_weight{L:List Tok}(hn:Wgh.ws L L.length≤4010):Siz L (Wgh.Grt L) where
 txt:=fun t ht=>Nat.le_trans (txt_ws ht) (by omega)
 rng:=fun h=>⟨h.1,h.2.1⟩
 fits:=fun h=>h.fits hn
 fac:=fun h=>Wgh.FAC_grt h
 pro:=fun h=>Wgh.PRO_grt h
 mul:=fun h h2=>h.mul h2
 quo:=fun h h2 hj=>h.quo h2 hj
 add:=fun h h2=>h.add h2
 sub:=fun h h2=>h.sub h2
 qlen:=fun {a c b i k j t} h h2 hj=>by
  obtain⟨q1,q2,q3,q4⟩:=h;obtain⟨g1,g2,g3,g4⟩:=h2;have:=(quoQ_size (t:=t) q3 hj).nine;have w1:=Wgh.ws_lt (L:=L) (show c<c+1 by omega) (by omega);have w2:=Wgh.ws_le (L:=L) (show a≤c by omega);have w3:=Wgh.ws_le (L:=L) (show c+1≤b by omega);have w4:=Wgh.ws_le (L:=L) g2;omega
end Go.Proofs.YtpbbolgnnegmlaaGreatDoor.Num
