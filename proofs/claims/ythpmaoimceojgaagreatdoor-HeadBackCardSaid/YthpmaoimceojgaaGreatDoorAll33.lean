/- Lemmas of the proof: ExpMathB, ExpMathC, ExpMathD. -/
import Derived.Test.YthpmaoimceojgaaGreatDoorAll32
import Derived.Test.YthpmaoimceojgaaGreatDoorAll26
import Derived.Test.YthpmaoimceojgaaGreatDoorAll27
set_option linter.unusedVariables false
set_option linter.unusedSimpArgs false
set_option maxRecDepth 100000
set_option maxHeartbeats 32000000
namespace Go.Proofs.YthpmaoimceojgaaGreatDoor.Num
theorem len_nine {a m:Nat}(h:a<10 ^ m):(dg a).length≤m / 9+1:=by
 have e:(1000000000:Nat) ^ (m / 9+1)=10 ^ (9 * (m / 9+1)):=by rw[Nat.pow_mul]
 refine dg_len_le (Nat.lt_of_lt_of_le h ?_);rw[e];exact Nat.pow_le_pow_right (by omega) (by omega)
theorem Sz.nine {x:Int}{s K:Nat}(h:Sz x s K):(dg x.natAbs).length≤(K+s) / 9+1:=len_nine h
theorem near_le (a b:Nat):nearN a b≤a / b+1:=by
 unfold nearN;(repeat' split)<;>omega
theorem quoQ_size {i j:Int}{s t m:Nat}(hi:Sz i s m) (hj:j≠0):Sz (quoQ i s j t) (max s t+10) (m+t+1):=by
 unfold Sz quoQ divZ at *;rw[abs_sgn];obtain⟨S,hS⟩:∃S,max s t+10=S:=⟨_,rfl⟩;rw[hS];have hb:0<j.natAbs:=by omega
 have h1:=near_le (i.natAbs * 10 ^ (S+t)) (j.natAbs * 10 ^ s);have h2:i.natAbs * 10 ^ (S+t) / (j.natAbs * 10 ^ s)≤i.natAbs * 10 ^ (S+t) / 10 ^ s:=by
  rw[Nat.mul_comm j.natAbs,← Nat.div_div_eq_div_mul];exact Nat.div_le_self _ _
 have h3:i.natAbs * 10 ^ (S+t) / 10 ^ s=i.natAbs * 10 ^ (S+t - s):=by
  have e:10 ^ (S+t)=10 ^ (S+t - s) * 10 ^ s:=by rw[← Nat.pow_add];congr 1;omega
  rw[e,← Nat.mul_assoc,Nat.mul_div_cancel _ (Nat.pow_pos (by omega))]
 have h4:i.natAbs * 10 ^ (S+t - s)<10 ^ (m+s) * 10 ^ (S+t - s):=Nat.mul_lt_mul_of_pos_right hi (Nat.pow_pos (by omega));rw[← Nat.pow_add,show m+s+(S+t - s)=m+t+S by omega] at h4;have h5:10 ^ (m+t+1+S)=10 * 10 ^ (m+t+S):=by rw[show m+t+1+S=(m+t+S)+1 by omega,Nat.pow_succ];omega
 rw[h5];have h6:0<10 ^ (m+t+S):=Nat.pow_pos (by omega);omega
theorem quo_size {i j:Int}{s t m:Nat}(hi:Sz i s m) (hj:j≠0):Sz (quoI i s j t) (quoK i s j t) (m+t+1)∧quoK i s j t≤max s t+10:=
 ⟨Sz.strip (quoQ_size hi hj),Nat.sub_le _ _⟩
def Grt (L:List Tok) (a b:Nat) (i:Int) (k:Nat):Prop:=a<b∧b≤L.length∧Sz i k (20 * (b - a)+10)∧k≤20 * (b - a)+10
section
variable {L:List Tok}(hL:∀t∈L,t.2.size≤30) {d a b a0 t:Nat}{i j:Int}{k:Nat}
include hL
end
namespace Wide
def Grt (L:List Tok) (a b:Nat) (i:Int) (k:Nat):Prop:=a<b∧b≤L.length∧Sz i k (120 * (b - a)+60)∧k≤120 * (b - a)+60
section
variable {L:List Tok}(hL:∀t∈L,t.2.size≤180) {d a b a0 t:Nat}{i j:Int}{k:Nat}
include hL
end
end Wide
structure Siz (L:List Tok) (G:Nat→Nat→Int→Nat→Prop):Prop where
 txt:∀t∈L,t.2.size≤6000
 rng:∀{a b i k},G a b i k→a<b∧b≤L.length
 fits:∀{a b i k},G a b i k→(dg i.natAbs).length≤900∧k≤4010
 fac:∀{d a i k b},FAC L d a=.inr (i,k,b)→G a b i k
 pro:∀{d a i k b},PRO L d a=.inr (i,k,b)→G a b i k
 mul:∀{a c b i k j t},G a c i k→G (c+1) b j t→G a b (i * j) (k+t)
 quo:∀{a c b i k j t},G a c i k→G (c+1) b j t→j≠0→G a b (quoI i k j t) (quoK i k j t)
 add:∀{a c b i k j t},G a c i k→G (c+1) b j t→G a b (addZ i k j t) (max k t)
 sub:∀{a c b i k j t},G a c i k→G (c+1) b j t→G a b (subZ i k j t) (max k t)
 qlen:∀{a c b i k j t},G a c i k→G (c+1) b j t→j≠0→(dg (quoQ i k j t).natAbs).length≤1000
namespace Wgh
def ws (L:List Tok) (n:Nat):Nat:=((L.take n).map fun t=>t.2.size+11).sum
def Grt (L:List Tok) (a b:Nat) (i:Int) (k:Nat):Prop:=a<b∧b≤L.length∧Sz i k (ws L b - ws L a)∧k≤ws L b - ws L a
section
variable {L:List Tok}{d a b a0 t:Nat}{i j:Int}{k:Nat}
end
end Wgh
theorem txt_ws {L:List Tok}{t:Tok}(h:t∈L):t.2.size≤Wgh.ws L L.length:=by
 obtain⟨n,hn,e⟩:=List.getElem_of_mem h;have h1:=Wgh.ws_step (L:=L) (n:=n) (t:=t) (by rw[List.getElem?_eq_getElem hn,e]);have h2:=Wgh.ws_le (L:=L) (show n+1≤L.length from hn);omega
theorem siz_weight {L:List Tok}(hn:Wgh.ws L L.length≤4010):Siz L (Wgh.Grt L) where
 txt:=fun t ht=>Nat.le_trans (txt_ws ht) (by omega)
 rng:=fun h=>⟨h.1,h.2.1⟩
 fits:=fun h=>h.fits hn
 fac:=fun h=>Wgh.FAC_grt h
 pro:=fun h=>Wgh.PRO_grt h
 mul:=fun h h2=>h.mul h2
 quo:=fun h h2 hj=>h.quo h2 hj
 add:=fun h h2=>h.add h2
 sub:=fun h h2=>h.sub h2
 qlen:=fun {a c b i k j t} h h2 hj=>by
  obtain⟨q1,q2,q3,q4⟩:=h;obtain⟨g1,g2,g3,g4⟩:=h2;have:=(quoQ_size (t:=t) q3 hj).nine;have w1:=Wgh.ws_lt (L:=L) (show c<c+1 by omega) (by omega);have w2:=Wgh.ws_le (L:=L) (show a≤c by omega);have w3:=Wgh.ws_le (L:=L) (show c+1≤b by omega);have w4:=Wgh.ws_le (L:=L) g2;omega
end Go.Proofs.YthpmaoimceojgaaGreatDoor.Num
