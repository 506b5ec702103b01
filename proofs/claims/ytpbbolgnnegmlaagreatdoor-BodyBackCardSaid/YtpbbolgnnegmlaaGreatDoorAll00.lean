/- Lemmas of the proof: DatMath, NatMath, NatMathB, MulMath, DivMath. -/
set_option linter.unusedVariables false
set_option linter.unusedSimpArgs false
set_option maxRecDepth 100000
set_option maxHeartbeats 32000000
/-
 Days,plain: leap years,months,numbers of days,the order of days.
-/
namespace Go.Proofs.YtpbbolgnnegmlaaGreatDoor.Dat
def leap8(y:Int):Bool:=(y.tmod 4 == 0&&y.tmod 100 != 0)||y.tmod 400 == 0
def len8(y m:Int):Int:=if m=2 then (if leap8 y=true then 29 else 28) else if m=4∨m=6∨m=9∨m=11 then 30 else 31
def ok8(y m d:Int):Bool:=decide (1≤y∧y≤9999∧1≤m∧m≤12∧1≤d∧d≤len8 y m)
theorem ok8_iff{y m d:Int}:ok8 y m d=true↔1≤y∧y≤9999∧1≤m∧m≤12∧1≤d∧d≤len8 y m:=by
 unfold ok8;rw[decide_eq_true_iff]
theorem len8_bd(y m:Int):28≤len8 y m∧len8 y m≤31:=by
 unfold len8;split
 ·split<;>omega
 ·split<;>omega
end Go.Proofs.YtpbbolgnnegmlaaGreatDoor.Dat
/-
 Plain mathematics of layer 1: limbs to the base 10^9,low limb first;a number's own limbs;which of two numbers is above.
-/
namespace Go.Proofs.YtpbbolgnnegmlaaGreatDoor.Num
def val:List Nat→Nat
 | []=>0
 | x::xs=>x+1000000000*val xs
def dg(n:Nat):List Nat:=if h:n=0 then [] else n%1000000000::dg (n/1000000000)
termination_by n
decreasing_by omega
def limbs(xs:List Nat):Prop:=∀x∈xs,x<1000000000
def gd(xs:List Nat)(i:Nat):Nat:=xs.getD i 0
def rightB(xs:List Nat):Bool:=xs.all (fun x=>decide (x<1000000000))&&decide (xs.getLast?≠some 0)
def cmpN(a b:Nat):Int:=if a<b then -1 else if b<a then 1 else 0
theorem dg_zero:dg 0=[]:=by rw[dg];simp
theorem dg_pos{n:Nat}(h:0<n):dg n=n%1000000000::dg (n/1000000000):=by
 rw[dg,dif_neg (by omega)]
theorem val_dg(n:Nat):val (dg n)=n:=by
 induction n using Nat.strongRecOn with
 | ind n ih=>
  rcases Nat.eq_zero_or_pos n with h|h
  ·subst h;rw[dg_zero];rfl
  ·rw[dg_pos h,val,ih (n/1000000000) (by omega)];omega
theorem limbs_nil:limbs []:=fun _ h=>by cases h
theorem limbs_cons{x:Nat}{xs:List Nat}:limbs (x::xs)↔x<1000000000∧limbs xs:=by
 unfold limbs;simp
theorem limbs_append{xs ys:List Nat}:limbs (xs++ys)↔limbs xs∧limbs ys:=by
 unfold limbs;constructor
 ·intro h;exact⟨fun x hx=>h x (List.mem_append_left _ hx),fun x hx=>h x (List.mem_append_right _ hx)⟩
 ·rintro⟨h,k⟩ x hx
  rcases List.mem_append.1 hx with hx|hx
  ·exact h x hx
  ·exact k x hx
theorem limbs_dg(n:Nat):limbs (dg n):=by
 induction n using Nat.strongRecOn with
 | ind n ih=>
  rcases Nat.eq_zero_or_pos n with h|h
  ·subst h;rw[dg_zero];exact limbs_nil
  ·rw[dg_pos h];exact limbs_cons.2 ⟨by omega,ih _ (by omega)⟩
theorem gd_cons_zero(x:Nat)(xs:List Nat):gd (x::xs) 0=x:=rfl
theorem gd_cons_succ(x:Nat)(xs:List Nat)(i:Nat):gd (x::xs) (i+1)=gd xs i:=by simp[gd]
theorem gd_nil(i:Nat):gd [] i=0:=by simp[gd]
theorem gd_lt{xs:List Nat}(h:limbs xs)(i:Nat):gd xs i<1000000000:=by
 unfold gd;rcases Nat.lt_or_ge i xs.length with hi|hi
 ·rw[List.getD_eq_getElem?_getD,List.getElem?_eq_getElem hi];exact h _ (List.getElem_mem hi)
 ·rw[List.getD_eq_getElem?_getD,List.getElem?_eq_none hi];simp
theorem gd_of_ge{xs:List Nat}{i:Nat}(h:xs.length≤i):gd xs i=0:=by
 unfold gd;rw[List.getD_eq_getElem?_getD,List.getElem?_eq_none h];rfl
theorem gd_of_lt{xs:List Nat}{i:Nat}(h:i<xs.length):xs[i]?=some (gd xs i):=by
 unfold gd;rw[List.getD_eq_getElem?_getD,List.getElem?_eq_getElem h];rfl
theorem val_lt{xs:List Nat}(h:limbs xs):val xs<1000000000^xs.length:=by
 induction xs with
 | nil=>simp[val]
 | cons x xs ih=>
  obtain⟨hx,hxs⟩:=limbs_cons.1 h;have:=ih hxs;rw[val,List.length_cons,Nat.pow_succ];omega
theorem val_append(xs ys:List Nat):val (xs++ys)=val xs+1000000000^xs.length*val ys:=by
 induction xs with
 | nil=>simp[val]
 | cons x xs ih=>
  rw[List.cons_append,val,val,ih,List.length_cons,Nat.pow_succ,Nat.mul_add,← Nat.mul_assoc,Nat.mul_comm 1000000000 (1000000000^xs.length)];omega
theorem val_take_drop(xs:List Nat)(i:Nat)(h:i≤xs.length):val xs=val (xs.take i)+1000000000^i*val (xs.drop i):=by
 have e:=val_append (xs.take i) (xs.drop i);rw[List.take_append_drop,List.length_take,Nat.min_eq_left h] at e;exact e
theorem val_drop(xs:List Nat)(i:Nat):val (xs.drop i)=gd xs i+1000000000*val (xs.drop (i+1)):=by
 rcases Nat.lt_or_ge i xs.length with h|h
 ·rw[List.drop_eq_getElem_cons h,val]
  have:gd xs i=xs[i]:=by unfold gd;rw[List.getD_eq_getElem?_getD,List.getElem?_eq_getElem h];rfl
  rw[this]
 ·rw[List.drop_of_length_le h,List.drop_of_length_le (by omega),gd_of_ge h];rfl
theorem val_zeros(k:Nat):val (List.replicate k 0)=0:=by
 induction k with
 | zero=>rfl
 | succ k ih=>rw[List.replicate_succ,val,ih]
theorem val_set(xs:List Nat)(i v:Nat)(h:i<xs.length):val (xs.set i v)+1000000000^i*gd xs i=val xs+1000000000^i*v:=by
 induction xs generalizing i with
 | nil=>simp at h
 | cons x xs ih=>
  cases i with
  | zero=>simp only[List.set_cons_zero,val,gd_cons_zero,Nat.pow_zero,Nat.one_mul];omega
  | succ i=>
   have:=ih i (by simpa using h);rw[List.set_cons_succ,val,val,gd_cons_succ,Nat.pow_succ];have e1:1000000000^i*1000000000*gd xs i=1000000000*(1000000000^i*gd xs i):=by rw[Nat.mul_comm (1000000000^i),Nat.mul_assoc]
   have e2:1000000000^i*1000000000*v=1000000000*(1000000000^i*v):=by rw[Nat.mul_comm (1000000000^i),Nat.mul_assoc]
   rw[e1,e2];omega
theorem limbs_set{xs:List Nat}(h:limbs xs)(i:Nat){v:Nat}(hv:v<1000000000):limbs (xs.set i v):=by
 intro x hx;rcases List.mem_or_eq_of_mem_set hx with hx|hx
 ·exact h x hx
 ·rw[hx];exact hv
theorem limbs_take{xs:List Nat}(h:limbs xs)(i:Nat):limbs (xs.take i):=fun x hx=>h x (List.mem_of_mem_take hx)
theorem limbs_drop{xs:List Nat}(h:limbs xs)(i:Nat):limbs (xs.drop i):=fun x hx=>h x (List.mem_of_mem_drop hx)
/-! Limbs whose last one is not nought are the number's own. -/
theorem dg_val{xs:List Nat}(h:limbs xs)(hl:xs.getLast?≠some 0):dg (val xs)=xs:=by
 induction xs with
 | nil=>rw[val,dg_zero]
 | cons x xs ih=>
  obtain⟨hx,hxs⟩:=limbs_cons.1 h;have hv:0<val (x::xs):=by
   rw[val];cases xs with
   | nil=>simp at hl;omega
   | cons y ys=>
    have hi:=ih hxs (by simpa [List.getLast?_cons_cons] using hl);have:0<val (y::ys):=by
     rcases Nat.eq_zero_or_pos (val (y::ys)) with h0|h0
     ·rw[h0,dg_zero] at hi;cases hi
     ·exact h0
    omega
  rw[dg_pos hv,val];have e1:(x+1000000000*val xs)%1000000000=x:=by omega
  have e2:(x+1000000000*val xs)/1000000000=val xs:=by omega
  rw[e1,e2];cases xs with
  | nil=>rw[val,dg_zero]
  | cons y ys=>rw[ih hxs (by simpa [List.getLast?_cons_cons] using hl)]
theorem dg_last(n:Nat):(dg n).getLast?≠some 0:=by
 induction n using Nat.strongRecOn with
 | ind n ih=>
  rcases Nat.eq_zero_or_pos n with h|h
  ·subst h;rw[dg_zero];simp
  ·rw[dg_pos h]
   rcases Nat.eq_zero_or_pos (n/1000000000) with h0|h0
   ·rw[h0,dg_zero];simp;omega
   ·have:=ih (n/1000000000) (by omega)
    rw[dg_pos h0] at this ⊢;rw[List.getLast?_cons_cons];exact this
theorem rightB_iff{xs:List Nat}:rightB xs=true↔limbs xs∧xs.getLast?≠some 0:=by
 unfold rightB limbs;simp
theorem right_dg(n:Nat):rightB (dg n)=true:=rightB_iff.2 ⟨limbs_dg n,dg_last n⟩
/-! Limbs with noughts at their end. -/
theorem dg_cut{xs:List Nat}(h:limbs xs){n:Nat}(hz:∀j,n≤j→gd xs j=0)(hn:n=0∨gd xs (n-1)≠0)(hle:n≤xs.length):dg (val xs)=xs.take n:=by
 have hv:val xs=val (xs.take n):=by
  rw[val_take_drop xs n hle];have:val (xs.drop n)=0:=by
   have:∀k i,xs.length-i=k→n≤i→val (xs.drop i)=0:=by
    intro k;induction k with
    | zero=>intro i hk _;rw[List.drop_of_length_le (by omega)];rfl
    | succ k ih=>intro i hk hi;rw[val_drop,hz i hi,ih (i+1) (by omega) (by omega)]
   exact this _ n rfl (Nat.le_refl _)
  rw[this];simp
 rw[hv];refine dg_val (limbs_take h n) ?_;rcases hn with rfl|hn
 ·simp
 ·rcases Nat.eq_zero_or_pos n with h0|h0
  ·subst h0;simp
  ·rw[List.getLast?_eq_getElem?,List.length_take,Nat.min_eq_left hle,List.getElem?_take_of_lt (by omega),gd_of_lt (by omega)]
   intro he;exact hn (Option.some.inj he)
/-! Which of two is above: by the highest limb that is another one. -/
theorem val_eq_of_gd:∀(xs ys:List Nat),(∀j,gd xs j=gd ys j)→val xs=val ys:=by
 have aux:∀(k:Nat) (xs ys:List Nat),xs.length+ys.length=k→(∀j,gd xs j=gd ys j)→val xs=val ys:=by
  intro k;induction k using Nat.strongRecOn with
  | ind k ih=>
   intro xs ys hk h;have e:=val_drop xs 0;have f:=val_drop ys 0;simp only[List.drop_zero,Nat.zero_add,List.drop_one] at e f
   cases xs with
   | nil=>
    cases ys with
    | nil=>rfl
    | cons y ys=>
     have:=ih ([].length+ys.length) (by simp at hk ⊢;omega) [] ys rfl (fun j=>by have:=h (j+1);rw[gd_cons_succ] at this;rw[← this,gd_nil,gd_nil]);have h0:=h 0;rw[gd_nil,gd_cons_zero] at h0;show val []=y+1000000000*val ys;rw[← this,← h0];rfl
   | cons x xs=>
    cases ys with
    | nil=>
     have:=ih (xs.length+[].length) (by simp at hk ⊢;omega) xs [] rfl (fun j=>by have:=h (j+1);rw[gd_cons_succ] at this;rw[this,gd_nil,gd_nil]);have h0:=h 0;rw[gd_nil,gd_cons_zero] at h0;show x+1000000000*val xs=val [];rw[this,h0];rfl
    | cons y ys=>
     have:=ih (xs.length+ys.length) (by simp at hk ⊢;omega) xs ys rfl (fun j=>by have:=h (j+1);rwa [gd_cons_succ,gd_cons_succ] at this);have h0:=h 0;rw[gd_cons_zero,gd_cons_zero] at h0;rw[val,val,this,h0]
 exact fun xs ys h=>aux _ xs ys rfl h
theorem gd_drop(xs:List Nat)(i j:Nat):gd (xs.drop i) j=gd xs (i+j):=by
 unfold gd;rw[List.getD_eq_getElem?_getD,List.getD_eq_getElem?_getD,List.getElem?_drop]
theorem val_lt_of_gd{xs ys:List Nat}(hx:limbs xs):∀{i:Nat},(∀j,i<j→gd xs j=gd ys j)→gd xs i<gd ys i→val xs<val ys:=by
 intro i h hlt;have key:∀k,k≤i→val (xs.drop (i-k))<val (ys.drop (i-k)):=by
  intro k;induction k with
  | zero=>
   intro _;have e:val (xs.drop (i+1))=val (ys.drop (i+1)):=val_eq_of_gd _ _ (fun j=>by rw[gd_drop,gd_drop];exact h _ (by omega));rw[Nat.sub_zero,val_drop xs,val_drop ys,e];omega
  | succ k ih=>
   intro hk;have:=ih (by omega);have e:i-(k+1)+1=i-k:=by omega
   rw[val_drop xs (i-(k+1)),val_drop ys (i-(k+1)),e];have:=gd_lt hx (i-(k+1));omega
 have:=key i (Nat.le_refl _);rwa [Nat.sub_self,List.drop_zero,List.drop_zero] at this
theorem cmpN_lt{a b:Nat}(h:a<b):cmpN a b = -1:=by unfold cmpN;rw[if_pos h]
theorem cmpN_gt{a b:Nat}(h:b<a):cmpN a b=1:=by unfold cmpN;rw[if_neg (by omega),if_pos h]
theorem cmpN_eq{a b:Nat}(h:a=b):cmpN a b=0:=by unfold cmpN;rw[if_neg (by omega),if_neg (by omega)]
theorem cmpN_cases(a b:Nat):(a<b∧cmpN a b = -1)∨(a=b∧cmpN a b=0)∨(b<a∧cmpN a b=1):=by
 rcases Nat.lt_trichotomy a b with h|h|h
 ·exact .inl ⟨h,cmpN_lt h⟩
 ·exact .inr (.inl ⟨h,cmpN_eq h⟩)
 ·exact .inr (.inr ⟨h,cmpN_gt h⟩)
theorem cmpN_neg(a b:Nat):(cmpN a b<0)↔a<b:=by
 rcases cmpN_cases a b with⟨h,e⟩|⟨h,e⟩|⟨h,e⟩<;>rw[e]<;>omega
theorem cmpN_zero(a b:Nat):(cmpN a b=0)↔a=b:=by
 rcases cmpN_cases a b with⟨h,e⟩|⟨h,e⟩|⟨h,e⟩<;>rw[e]<;>omega
theorem val_lt_of_length{xs ys:List Nat}(hx:limbs xs)(hy:ys.getLast?≠some 0)(h:xs.length<ys.length):val xs<val ys:=by
 have hl:gd ys (ys.length-1)≠0:=by
  intro he;apply hy
  rw[List.getLast?_eq_getElem?,gd_of_lt (by omega),he]
 refine val_lt_of_gd hx (i:=ys.length-1) (fun j hj=>?_) ?_
 ·rw[gd_of_ge (by omega),gd_of_ge (by omega)]
 ·rw[gd_of_ge (by omega)];omega
theorem dg_len_mono{a b:Nat}(h:a≤b):(dg a).length≤(dg b).length:=by
 rcases Nat.lt_or_ge (dg b).length (dg a).length with hl|hl
 ·have:=val_lt_of_length (limbs_dg b) (dg_last a) hl
  rw[val_dg,val_dg] at this;omega
 ·exact hl
theorem dg_len_le{a n:Nat}(h:a<1000000000^n):(dg a).length≤n:=by
 rcases Nat.lt_or_ge n (dg a).length with hl|hl
 ·exfalso
  have hg:gd (dg a) ((dg a).length-1)≠0:=by
   intro he;apply dg_last a
   rw[List.getLast?_eq_getElem?,gd_of_lt (by omega),he]
  have e:=val_take_drop (dg a) ((dg a).length-1) (by omega);rw[val_drop,val_dg] at e;have hp:1000000000^n≤1000000000^((dg a).length-1):=Nat.pow_le_pow_right (by omega) (by omega);have:1000000000^((dg a).length-1)*1≤1000000000^((dg a).length-1)*(gd (dg a) ((dg a).length-1)+1000000000*val ((dg a).drop ((dg a).length-1+1))):=Nat.mul_le_mul_left _ (by omega);omega
 ·exact hl
theorem lt_pow_dg(a:Nat):a<1000000000^(dg a).length:=by
 have:=val_lt (limbs_dg a);rwa [val_dg] at this
theorem pow_le_of_dg{a:Nat}(h:0<a):1000000000^((dg a).length-1)≤a:=by
 rcases Nat.lt_or_ge a (1000000000^((dg a).length-1)) with hl|hl
 ·have:=dg_len_le hl
  have:0<(dg a).length:=by rw[dg_pos h];simp
  omega
 ·exact hl
theorem dg_len_add(a b:Nat):(dg (a+b)).length≤max (dg a).length (dg b).length+1:=by
 apply dg_len_le
 have ha:=lt_pow_dg a;have hb:=lt_pow_dg b;have h1:1000000000^(dg a).length≤1000000000^max (dg a).length (dg b).length:=Nat.pow_le_pow_right (by omega) (by omega);have h2:1000000000^(dg b).length≤1000000000^max (dg a).length (dg b).length:=Nat.pow_le_pow_right (by omega) (by omega);rw[Nat.pow_succ];omega
theorem even_dg(n:Nat):(gd (dg n) 0%2=0)↔n%2=0:=by
 have e:=val_drop (dg n) 0;rw[List.drop_zero,val_dg] at e;omega
theorem dg_eq_nil{n:Nat}:dg n=[]↔n=0:=by
 constructor
 ·intro h;rw[← val_dg n,h];rfl
 ·rintro rfl;exact dg_zero
theorem sub_step{zs ys:List Nat}{i v bw bw' a b:Nat}(h:val zs+b=a+bw*1000000000^i+1000000000^i*val (ys.drop i))(hi:i<zs.length)(hv:v+bw+gd ys i=gd zs i+bw'*1000000000) :
  val (zs.set i v)+b=a+bw'*1000000000^(i+1)+1000000000^(i+1)*val (ys.drop (i+1)):=by
 have e1:=val_set zs i v hi;have e2:=val_drop ys i;generalize hP:1000000000^i=P at *;have e3:P*(v+bw+gd ys i)=P*(gd zs i+bw'*1000000000):=by rw[hv]
 rw[Nat.pow_succ,hP];rw[e2] at h;have e4:P*(bw'*1000000000)=bw'*(P*1000000000):=by rw[Nat.mul_left_comm]
 have e5:P*(1000000000*val (ys.drop (i+1)))=P*1000000000*val (ys.drop (i+1)):=by rw[Nat.mul_assoc]
 rw[Nat.mul_add,e5] at h;rw[Nat.mul_add,Nat.mul_add,Nat.mul_add,e4] at e3;rw[Nat.mul_comm bw P] at h;omega
theorem sub_end{zs ys:List Nat}{i bw a b n:Nat}(h:val zs+b=a+bw*1000000000^i+1000000000^i*val (ys.drop i))(hz:limbs zs)(hlen:zs.length=n)(hi:i=n)(hy:ys.length≤n)(hba:b≤a):val zs=a-b:=by
 subst hi;rw[List.drop_of_length_le (by omega),val,Nat.mul_zero] at h;have:=val_lt hz;rw[hlen] at this;rcases Nat.eq_zero_or_pos bw with h0|h0
 ·subst h0;omega
 ·have:1*1000000000^i≤bw*1000000000^i:=Nat.mul_le_mul_right _ h0
  omega
theorem sub_break{zs ys:List Nat}{i a b:Nat}(h:val zs+b=a+0*1000000000^i+1000000000^i*val (ys.drop i))(hy:ys.length≤i):val zs=a-b:=by
 rw[List.drop_of_length_le hy,val,Nat.mul_zero,Nat.zero_mul] at h;omega
theorem acc_step{zs:List Nat}{k R R' v T:Nat}(h:val zs+1000000000^k*R=T)(hk:k<zs.length)(hv:gd zs k+R=v+1000000000*R'):val (zs.set k v)+1000000000^(k+1)*R'=T:=by
 have e1:=val_set zs k v hk;rw[Nat.pow_succ];generalize 1000000000^k=P at *;have e3:P*(gd zs k+R)=P*(v+1000000000*R'):=by rw[hv]
 rw[Nat.mul_add,Nat.mul_add,← Nat.mul_assoc] at e3;omega
theorem acc_end{zs:List Nat}{k R T:Nat}(h:val zs+1000000000^k*R=T)(hT:T<1000000000^k):val zs=T:=by
 rcases Nat.eq_zero_or_pos R with h0|h0
 ·subst h0;omega
 ·have:1000000000^k*1≤1000000000^k*R:=Nat.mul_le_mul_left _ h0
  omega
theorem gd_of_val_lt{zs:List Nat}{k:Nat}(h:val zs<1000000000^k):gd zs k=0:=by
 rcases Nat.lt_or_ge k zs.length with hk|hk
 ·have e:=val_take_drop zs k (by omega)
  rw[val_drop] at e;rcases Nat.eq_zero_or_pos (gd zs k) with h0|h0
  ·exact h0
  ·have:1000000000^k*1≤1000000000^k*(gd zs k+1000000000*val (zs.drop (k+1))):=Nat.mul_le_mul_left _ (by omega)
   omega
 ·exact gd_of_ge hk
theorem val_take_succ(xs:List Nat)(i:Nat):val (xs.take (i+1))=val (xs.take i)+1000000000^i*gd xs i:=by
 rcases Nat.lt_or_ge i xs.length with h|h
 ·have e1:=val_take_drop xs i (by omega)
  have e2:=val_take_drop xs (i+1) (by omega);rw[val_drop,Nat.mul_add,← Nat.mul_assoc] at e1;rw[Nat.pow_succ] at e2;omega
 ·rw[List.take_of_length_le h,List.take_of_length_le (by omega),gd_of_ge h];omega
theorem dg_len_mul(a b:Nat):(dg (a*b)).length≤(dg a).length+(dg b).length:=by
 apply dg_len_le
 rw[Nat.pow_add];exact Nat.mul_lt_mul'' (lt_pow_dg a) (lt_pow_dg b)
theorem mul_lt_pow{a b n m:Nat}(ha:a<1000000000^n)(hb:b<1000000000^m):a*b<1000000000^(n+m):=by
 rw[Nat.pow_add];exact Nat.mul_lt_mul'' ha hb
theorem mul_row{xs:List Nat}{b i v v':Nat}(h:v=val (xs.take i)*b)(h':v'=v+1000000000^i*(gd xs i*b)):v'=val (xs.take (i+1))*b:=by
 rw[val_take_succ,h',h,Nat.add_mul,Nat.mul_assoc]
theorem mul_row_lt{xs:List Nat}{b i m:Nat}(hx:limbs xs)(hi:i≤xs.length)(hb:b<1000000000^m):val (xs.take i)*b<1000000000^(i+m):=by
 refine mul_lt_pow ?_ hb;have:=val_lt (limbs_take hx i);rwa [List.length_take,Nat.min_eq_left hi] at this
/-! Numbers by digits of ten, each as great as it comes. -/
theorem gd_set(xs:List Nat)(i j v:Nat)(h:i<xs.length):gd (xs.set i v) j=if j=i then v else gd xs j:=by
 unfold gd;rw[List.getD_eq_getElem?_getD,List.getD_eq_getElem?_getD,List.getElem?_set];by_cases hij:i=j
 ·subst hij;simp[h]
 ·rw[if_neg hij,if_neg (by omega)]
theorem gd_zeros(k j:Nat):gd (List.replicate k 0) j=0:=by
 unfold gd;rw[List.getD_eq_getElem?_getD,List.getElem?_replicate];split<;>rfl
theorem gd_append(xs ys:List Nat)(j:Nat):gd (xs++ys) j=if j<xs.length then gd xs j else gd ys (j-xs.length):=by
 unfold gd;rw[List.getD_eq_getElem?_getD,List.getElem?_append];split<;>rw[List.getD_eq_getElem?_getD]
theorem pow9(j:Nat):1000000000^j=10^(9*j):=by
 rw[Nat.pow_mul]
/-! Products by halves. -/
theorem kara_mid(la ha lb hb:Nat):(la+ha)*(lb+hb)-la*lb-ha*hb=la*hb+ha*lb:=by
 simp only[Nat.mul_add,Nat.add_mul];omega
theorem kara_sum(la ha lb hb P:Nat):(la*lb+P*P*(ha*hb))+P*((la+ha)*(lb+hb)-la*lb-ha*hb)=(la+P*ha)*(lb+P*hb):=by
 rw[kara_mid];simp only[Nat.mul_add,Nat.mul_comm,Nat.mul_left_comm]
 omega
theorem half_split(a h:Nat):a%1000000000^h+1000000000^h*(a/1000000000^h)=a:=Nat.mod_add_div a (1000000000^h)
theorem kara(a b h:Nat):(a%1000000000^h*(b%1000000000^h)+1000000000^(2*h)*(a/1000000000^h*(b/1000000000^h)))+1000000000^h*((a%1000000000^h+a/1000000000^h)*(b%1000000000^h+b/1000000000^h)-a%1000000000^h*(b%1000000000^h)-a/1000000000^h*(b/1000000000^h))=a*b:=by
 have e:=kara_sum (a%1000000000^h) (a/1000000000^h) (b%1000000000^h) (b/1000000000^h) (1000000000^h);rw[half_split,half_split] at e;rw[show 1000000000^(2*h)=1000000000^h*1000000000^h from by rw[← Nat.pow_add];congr 1;omega];exact e
theorem mod_len(a h:Nat):(dg (a%1000000000^h)).length≤h:=dg_len_le (Nat.mod_lt _ (Nat.pow_pos (by omega)))
theorem div_len{a h n:Nat}(hn:(dg a).length=n):(dg (a/1000000000^h)).length≤n-h:=by
 subst hn;rcases Nat.lt_or_ge (dg a).length h with h1|h1
 ·have:a/1000000000^h=0:=Nat.div_eq_of_lt (Nat.lt_of_lt_of_le (lt_pow_dg a) (Nat.pow_le_pow_right (by omega) (by omega)))
  rw[this,dg_zero];simp
 ·apply dg_len_le
  rw[Nat.div_lt_iff_lt_mul (Nat.pow_pos (by omega)),← Nat.pow_add];rw[show(dg a).length-h+h=(dg a).length by omega];exact lt_pow_dg a
theorem half_len{a h n:Nat}(hn:(dg a).length=n)(h2:n≤2*h):(dg (a%1000000000^h+a/1000000000^h)).length≤h+1:=by
 have h3:=dg_len_add (a%1000000000^h) (a/1000000000^h);have h4:=mod_len a h;have h5:=div_len (h:=h) hn;omega
theorem high_len{a b h n m:Nat}(hn:(dg a).length=n)(hm:(dg b).length=m)(h2:2*h≤n+m):(dg (a/1000000000^h*(b/1000000000^h))).length≤n+m-2*h:=by
 apply dg_len_le
 have e1:=lt_pow_dg a;have e2:=lt_pow_dg b;rw[hn] at e1;rw[hm] at e2;have e3:=mul_lt_pow e1 e2;have e4:=kara a b h;have e5:1000000000^(n+m)=1000000000^(2*h)*1000000000^(n+m-2*h):=by rw[← Nat.pow_add];congr 1;omega
 have e6:1000000000^(2*h)*(a/1000000000^h*(b/1000000000^h))<1000000000^(2*h)*1000000000^(n+m-2*h):=by
  rw[← e5];refine Nat.lt_of_le_of_lt ?_ e3;rw[← e4];exact Nat.le_trans (Nat.le_add_left _ _) (Nat.le_add_right _ _)
 exact Nat.lt_of_mul_lt_mul_left e6
theorem low_len{a b h:Nat}:(dg (a%1000000000^h*(b%1000000000^h))).length≤2*h:=by
 have:=dg_len_mul (a%1000000000^h) (b%1000000000^h);have:=mod_len a h;have:=mod_len b h;omega
theorem mid_le1(a b h:Nat):a%1000000000^h*(b%1000000000^h)≤(a%1000000000^h+a/1000000000^h)*(b%1000000000^h+b/1000000000^h):=Nat.mul_le_mul (Nat.le_add_right _ _) (Nat.le_add_right _ _)
theorem mid_le2(a b h:Nat):a/1000000000^h*(b/1000000000^h)≤(a%1000000000^h+a/1000000000^h)*(b%1000000000^h+b/1000000000^h)-a%1000000000^h*(b%1000000000^h):=by
 have:=kara_mid (a%1000000000^h) (a/1000000000^h) (b%1000000000^h) (b/1000000000^h);generalize a%1000000000^h=x at *;generalize b%1000000000^h=y at *;generalize a/1000000000^h=z at *;generalize b/1000000000^h=u at *;simp only[Nat.mul_add,Nat.add_mul];omega
/-! Limbs that are laid over noughts. -/
theorem val_of_gd_zero{xs:List Nat}(h:∀j,gd xs j=0):val xs=0:=(val_eq_of_gd xs [] (fun j=>by rw[h j,gd_nil])).trans rfl
theorem val_splice{L cs:List Nat}{off:Nat}(hle:off+cs.length≤L.length)(hz:∀j,off≤j→gd L j=0):val (L.take off++(cs++L.drop (off+cs.length)))=val L+1000000000^off*val cs:=by
 have h1:val (L.drop (off+cs.length))=0:=val_of_gd_zero (fun j=>by rw[gd_drop];exact hz _ (by omega));have h2:val (L.drop off)=0:=val_of_gd_zero (fun j=>by rw[gd_drop];exact hz _ (by omega));have h3:=val_take_drop L off (by omega);rw[val_append,val_append,h1,List.length_take,Nat.min_eq_left (by omega),h3,h2];simp
theorem limbs_splice{L cs:List Nat}{off k:Nat}(hL:limbs L)(hc:limbs cs):limbs (L.take off++(cs++L.drop k)):=
 limbs_append.2 ⟨limbs_take hL _,limbs_append.2 ⟨hc,limbs_drop hL _⟩⟩
theorem gd_splice{L cs:List Nat}{off:Nat}(hle:off+cs.length≤L.length)(hz:∀j,off≤j→gd L j=0)(j:Nat)(hj:off+cs.length≤j):gd (L.take off++(cs++L.drop (off+cs.length))) j=0:=by
 rw[gd_append,List.length_take,Nat.min_eq_left (by omega),if_neg (by omega),gd_append,if_neg (by omega),gd_drop];exact hz _ (by omega)
theorem len_splice{L cs:List Nat}{off:Nat}(hle:off+cs.length≤L.length):(L.take off++(cs++L.drop (off+cs.length))).length=L.length:=by
 simp;omega
/-! By a small number. -/
theorem sdiv_step{xs zs:List Nat}{i N r a:Nat}(h:a=N*val zs+1000000000^(i+1)*r+val (xs.take (i+1)))(hi:i<zs.length)(hz:gd zs i=0) :
  a=N*val (zs.set i ((r*1000000000+gd xs i)/N))+1000000000^i*((r*1000000000+gd xs i)%N)+val (xs.take i):=by
 have e1:=val_set zs i ((r*1000000000+gd xs i)/N) hi;rw[hz,Nat.mul_zero,Nat.add_zero] at e1;rw[val_take_succ,Nat.pow_succ] at h;rw[e1];have e2:=Nat.div_add_mod (r*1000000000+gd xs i) N;generalize (r*1000000000+gd xs i)/N=q at *;generalize (r*1000000000+gd xs i)%N=s at *;generalize 1000000000^i=P at *;generalize val (xs.take i)=t at *;generalize val zs=z at *;generalize gd xs i=g at *;rw[h];have e3:P*(N*q+s)=P*(r*1000000000+g):=by rw[e2]
 grind
theorem sdiv_zero{zs:List Nat}{i v:Nat}(h:∀j,j<i+1→gd zs j=0)(hi:i<zs.length):∀j,j<i→gd (zs.set i v) j=0:=by
 intro j hj;rw[gd_set _ _ _ _ hi,if_neg (by omega)];exact h j (by omega)
theorem sdiv_end{N a z r:Nat}(h:a=N*z+r)(hr:r<N):z=a/N∧r=a%N:=by
 subst h;have hN:0<N:=by omega
 constructor
 ·rw[Nat.mul_add_div hN,Nat.div_eq_of_lt hr,Nat.add_zero]
 ·rw[Nat.mul_add_mod,Nat.mod_eq_of_lt hr]
theorem sdiv_t{r g N:Nat}(hr:r<N)(hN:N<4294967296)(hg:g<1000000000):(r*1000000000+g)/N<1000000000∧r*1000000000+g<4294967296000000000:=by
 constructor
 ·rw[Nat.div_lt_iff_lt_mul (by omega),Nat.mul_comm 1000000000 N];omega
 ·omega
/-! What is taken off a row. -/
theorem take_step{ys bs:List Nat}{o k g cy cy' v C Z:Nat}(h:val ys+C=Z+1000000000^o*(cy+g*val (bs.drop k)))(ho:o<ys.length)(hv:v+(cy+gd bs k*g)=gd ys o+1000000000*cy') :
  val (ys.set o v)+C=Z+1000000000^(o+1)*(cy'+g*val (bs.drop (k+1))):=by
 have e1:=val_set ys o v ho;rw[val_drop bs k] at h;rw[Nat.pow_succ];generalize 1000000000^o=P at *;generalize val (bs.drop (k+1))=D at *;generalize val (ys.set o v)=y' at *;generalize val ys=y at *;generalize gd bs k=d at *;generalize gd ys o=x at *;have e3:P*(v+(cy+d*g))=P*(x+1000000000*cy'):=by rw[hv]
 grind
theorem take_end{ys bs:List Nat}{o k g cy C Z:Nat}(h:val ys+C=Z+1000000000^o*(cy+g*val (bs.drop k)))(hk:bs.length≤k):val ys+C=Z+1000000000^o*cy:=by
 rw[List.drop_of_length_le hk,val,Nat.mul_zero,Nat.add_zero] at h;exact h
def Above(m:Nat)(zs ys:List Nat):Prop:=∀j,m≤j→gd ys j=gd zs j
theorem Above.refl(m:Nat)(zs:List Nat):Above m zs zs:=fun _ _=>rfl
theorem Above.set{m o v:Nat}{zs ys:List Nat}(h:Above m zs ys)(ho:o<m)(hl:o<ys.length):Above m zs (ys.set o v):=by
 intro j hj;rw[gd_set _ _ _ _ hl,if_neg (by omega)];exact h j hj
theorem val_lt_above{zs:List Nat}{m:Nat}(hl:limbs zs)(hz:∀j,m≤j→gd zs j=0):val zs<1000000000^m:=by
 rcases Nat.lt_or_ge zs.length m with h|h
 ·exact Nat.lt_of_lt_of_le (val_lt hl) (Nat.pow_le_pow_right (by omega) (by omega))
 ·have e:=val_take_drop zs m h
  have hd:val (zs.drop m)=0:=val_of_gd_zero (fun j=>by rw[gd_drop];exact hz _ (by omega));rw[hd,Nat.mul_zero,Nat.add_zero] at e;rw[e];have:=val_lt (limbs_take hl m);rwa [List.length_take,Nat.min_eq_left h] at this
theorem gd_zero_of_lt{zs:List Nat}{m:Nat}(h:val zs<1000000000^m):∀j,m≤j→gd zs j=0:=fun j hj=>
 gd_of_val_lt (Nat.lt_of_lt_of_le h (Nat.pow_le_pow_right (by omega) hj))
/-! A guessed limb: by the three highest limbs of a row and the two highest ones of what divides. -/
def guessN(u v:Nat):Nat:=min (u/v) 999999999
theorem guess_first{u v u2 v1 v2 high:Nat}(hv1:0<v1)(hu:u=high*1000000000+u2)(hu2:u2<1000000000)(hv:v=v1*1000000000+v2):guessN u v≤high/v1:=by
 unfold guessN;refine Nat.le_trans (Nat.min_le_left _ _) ?_;rw[Nat.le_div_iff_mul_le hv1];have h1:u/v*v≤u:=Nat.div_mul_le_self u v;generalize u/v=p at *;have h2:p*v=p*v1*1000000000+p*v2:=by rw[hv,Nat.mul_add,Nat.mul_assoc]
 omega
theorem guess_less{u v u2 v1 v2 high T L:Nat}(hu:u=high*1000000000+u2)(hv:v=v1*1000000000+v2)(hT:T*v1+L=high)(hg:guessN u v≤T)(h:1000000000≤T∨L*1000000000+u2<T*v2):guessN u v≤T-1:=by
 rcases h with h|h
 ·unfold guessN;omega
 ·unfold guessN at hg ⊢
  have h1:u<T*v:=by
   have e1:T*v=T*v1*1000000000+T*v2:=by rw[hv,Nat.mul_add,Nat.mul_assoc]
   omega
  have h2:u/v<T:=Nat.div_lt_of_lt_mul (by rw[Nat.mul_comm];exact h1);omega
theorem guess_is{u v u2 v1 v2 high T L:Nat}(hv1:0<v1)(hu:u=high*1000000000+u2)(hv:v=v1*1000000000+v2)(hT:T*v1+L=high)(hg:guessN u v≤T)(hTB:T<1000000000)(h:T*v2≤L*1000000000+u2):T=guessN u v:=by
 have h1:T*v≤u:=by
  have e1:T*v=T*v1*1000000000+T*v2:=by rw[hv,Nat.mul_add,Nat.mul_assoc]
  omega
 have h2:T≤u/v:=by rw[Nat.le_div_iff_mul_le (by omega)];exact h1
 unfold guessN at hg ⊢;omega
theorem guess_high{high v1 T L:Nat}(hh:high<(v1+1)*1000000000)(hT:T*v1+L=high)(hL:1000000000≤L):T<1000000000:=by
 rcases Nat.lt_or_ge T 1000000000 with h|h
 ·exact h
 ·have:1000000000*v1≤T*v1:=Nat.mul_le_mul_right _ h
  omega
theorem guess_over{v2 u2 T L:Nat}(hv2:v2<1000000000)(hT:T<1000000000)(hL:1000000000≤L):T*v2≤L*1000000000+u2:=by
 have h1:T*v2≤1000000000*1000000000:=Nat.mul_le_mul (by omega) (by omega);omega
theorem guess_near{Z D E u v zl dl:Nat}(hZ:Z=zl+E*u)(hzl:zl<E)(hD:D=dl+E*v)(hdl:dl<E)(hv:1000000000≤v)(hq:Z<1000000000*D):guessN u v=Z/D∨guessN u v=Z/D+1:=by
 have hE:0<E:=by omega
 have hD0:0<D:=by
  have:E*1≤E*v:=Nat.mul_le_mul_left _ (by omega);omega
 have hqB:Z/D<1000000000:=Nat.div_lt_of_lt_mul (by rw[Nat.mul_comm];exact hq);have hq1:Z/D*D≤Z:=Nat.div_mul_le_self Z D;have hq2:Z<(Z/D+1)*D:=Nat.lt_mul_of_div_lt (Nat.lt_succ_self _) hD0;generalize Z/D=q at *;have hlow:q≤guessN u v:=by
  unfold guessN;have h1:q≤u/v:=by
   rw[Nat.le_div_iff_mul_le (by omega)];have h2:E*(q*v)≤q*D:=by
    rw[hD,Nat.mul_add,Nat.mul_left_comm E q v];omega
   have h3:E*(q*v)<E*(u+1):=by
    rw[Nat.mul_add,Nat.mul_one];omega
   have:=Nat.lt_of_mul_lt_mul_left h3;omega
  omega
 have hup:guessN u v≤q+1:=by
  rcases Nat.lt_or_ge (q+1) (guessN u v) with h|h
  ·exfalso
   have g1:guessN u v≤999999999:=Nat.min_le_right _ _;have g2:guessN u v*v≤u:=Nat.le_trans (Nat.mul_le_mul_right _ (Nat.min_le_left _ _)) (Nat.div_mul_le_self u v);generalize guessN u v=t at *;obtain⟨s,rfl⟩:∃s,t=s+1:=⟨t-1,by omega⟩;have h3:(q+1)*D≤s*D:=Nat.mul_le_mul_right _ (by omega);have h4:s*D≤s*(E*(v+1)):=Nat.mul_le_mul_left _ (by rw[Nat.mul_add,Nat.mul_one];omega);have h5:E*((s+1)*v)≤E*u:=Nat.mul_le_mul_left _ g2;have h6:E*((s+1)*v)<E*(s*(v+1)):=by
    rw[Nat.mul_left_comm E s];omega
   have h7:=Nat.lt_of_mul_lt_mul_left h6;rw[Nat.add_mul,Nat.mul_add] at h7;omega
  ·exact h
 omega
/-! A round of the long division. Room makes Z, P is worth of the place (base to the i), D is P times what divides, M is worth of the place above the row. -/
theorem long_fits{Z Z1 D g c M:Nat}(h:Z1+g*D=Z+c*M)(hg:g=Z/D)(hZ1:Z1<M):c=0∧Z1=Z%D:=by
 have h1:=Nat.div_add_mod Z D;rw[← hg,Nat.mul_comm] at h1;rcases Nat.eq_zero_or_pos c with h0|h0
 ·subst h0
  refine⟨rfl,?_⟩;omega
 ·have:1*M≤c*M:=Nat.mul_le_mul_right _ h0
  omega
theorem long_back{Z Z1 Z2 D g c cy M:Nat}(h:Z1+g*D=Z+c*M)(hg:g=Z/D+1)(hD:0<D)(hZ1:Z1<M)(hZM:Z<M)(hDM:D<M)(h2:Z2+cy*M=Z1+D)(hZ2:Z2<M):0<c∧Z2=Z%D:=by
 have h1:=Nat.div_add_mod Z D;have h3:=Nat.mod_lt Z hD;rw[hg,Nat.add_mul,Nat.one_mul,Nat.mul_comm] at h;generalize Z%D=r at *;generalize D*(Z/D)=t at *;have hc:c=1:=by
  rcases Nat.lt_or_ge c 1 with h0|h0
  ·obtain rfl:c=0:=by omega
   omega
  ·rcases Nat.lt_or_ge c 2 with h4|h4
   ·omega
   ·have:2*M≤c*M:=Nat.mul_le_mul_right _ h4
    omega
 subst hc;have hcy:cy=1:=by
  rcases Nat.lt_or_ge cy 1 with h0|h0
  ·obtain rfl:cy=0:=by omega
   omega
  ·rcases Nat.lt_or_ge cy 2 with h4|h4
   ·omega
   ·have:2*M≤cy*M:=Nat.mul_le_mul_right _ h4
    omega
 subst hcy;omega
theorem long_step{A b Z:Nat}{qs:List Nat}{i q:Nat}(h:A=val qs*b+Z)(hi:i<qs.length)(hz:gd qs i=0)(hq:q=Z/(1000000000^i*b)) :
  A=val (qs.set i q)*b+Z%(1000000000^i*b):=by
 have e1:=val_set qs i q hi;rw[hz,Nat.mul_zero,Nat.add_zero] at e1;have e2:=Nat.div_add_mod Z (1000000000^i*b);rw[← hq] at e2;rw[e1,h];generalize Z%(1000000000^i*b)=r at *;generalize 1000000000^i=P at *;grind
/-! Both are made greater alike. -/
theorem norm_facts{b n t d:Nat}(hn:(dg b).length=n)(hn0:0<n)(ht:gd (dg b) (n-1)=t)(hd:d=1000000000/(t+1)):0<t∧0<d∧d≤500000000∧(dg (b*d)).length=n∧1000000000^(n-1)≤b:=by
 have hb:0<b:=by
  rcases Nat.eq_zero_or_pos b with h|h
  ·subst h;rw[dg_zero] at hn;simp at hn;omega
  ·exact h
 have htl:t<1000000000:=by rw[← ht];exact gd_lt (limbs_dg b) _
 have ht0:0<t:=by
  rcases Nat.eq_zero_or_pos t with h|h
  ·exfalso
   apply dg_last b
   rw[List.getLast?_eq_getElem?,gd_of_lt (by omega),hn,ht,h]
  ·exact h
 have hd0:0<d:=by
  rw[hd,Nat.div_pos_iff];omega
 have hd1:d*(t+1)≤1000000000:=by rw[hd];exact Nat.div_mul_le_self _ _
 have hd2:d≤500000000:=by
  have:d*2≤d*(t+1):=Nat.mul_le_mul_left _ (by omega);omega
 have hp:=pow_le_of_dg hb;rw[hn] at hp;refine⟨ht0,hd0,hd2,?_,hp⟩;apply Nat.le_antisymm
 ·apply dg_len_le
  have e:=val_take_drop (dg b) (n-1) (by omega);rw[val_drop,List.drop_of_length_le (by omega),val_dg,ht] at e;have h1:=val_lt (limbs_take (limbs_dg b) (n-1));rw[List.length_take,Nat.min_eq_left (by omega)] at h1;have e2:1000000000^n=1000000000^(n-1)*1000000000:=by rw[← Nat.pow_succ];congr 1;omega
  rw[e2];generalize 1000000000^(n-1)=P at *;have h2:b<P*(t+1):=by
   rw[Nat.mul_add,Nat.mul_one];simp only[val,Nat.mul_zero,Nat.add_zero] at e
   omega
  have h3:b*d<P*(t+1)*d:=Nat.mul_lt_mul_of_pos_right h2 hd0;have h4:P*(t+1)*d≤P*1000000000:=by
   rw[Nat.mul_assoc];exact Nat.mul_le_mul_left _ (by rw[Nat.mul_comm];exact hd1)
  omega
 ·have h1:=dg_len_mono (show b≤b*d from Nat.le_mul_of_pos_right _ hd0)
  omega
theorem norm_len{a d n:Nat}(hn:(dg a).length=n)(hd:d≤500000000):(dg (a*d)).length≤n+1:=by
 have h1:=dg_len_mul a d;have h2:(dg d).length≤1:=dg_len_le (by omega);omega
theorem norm_start{a b d n m k:Nat}(hn:(dg a).length=n)(hb:1000000000^(m-1)≤b)(hd:0<d)(hm:0<m)(hk:k+(m-1)=n):a*d<1000000000^k*(b*d):=by
 have h1:=lt_pow_dg a;rw[hn,← hk,Nat.pow_add] at h1;rw[← Nat.mul_assoc];refine Nat.mul_lt_mul_of_pos_right (Nat.lt_of_lt_of_le h1 (Nat.mul_le_mul_left _ hb)) hd
theorem norm_end{a b d q r:Nat}(h:a*d=q*(b*d)+r)(hr:r<b*d):q=a/b∧r/d=a%b:=by
 have hd:0<d:=by
  rcases Nat.eq_zero_or_pos d with h0|h0
  ·subst h0;rw[Nat.mul_zero] at hr;omega
  ·exact h0
 have hb:0<b:=by
  rcases Nat.eq_zero_or_pos b with h0|h0
  ·subst h0;rw[Nat.zero_mul] at hr;omega
  ·exact h0
 have e:a=b*q+r/d:=by
  have h1:r=d*(r/d)+r%d:=(Nat.div_add_mod r d).symm;have h2:r%d=0:=by
   have h3:(a*d)%d=(q*(b*d)+r)%d:=by rw[h]
   rw[Nat.mul_mod_left,← Nat.mul_assoc,Nat.mul_add_mod_self_right] at h3;exact h3.symm
  rw[h2,Nat.add_zero] at h1;have h4:a*d=(b*q+r/d)*d:=by
   rw[h,Nat.add_mul,Nat.mul_comm (r/d) d,← h1,← Nat.mul_assoc,Nat.mul_comm q b]
  exact Nat.eq_of_mul_eq_mul_right hd h4
 have hr2:r/d<b:=Nat.div_lt_of_lt_mul (by rw[Nat.mul_comm];exact hr);have:=sdiv_end e hr2;exact⟨this.1,this.2⟩
theorem top_three{zs:List Nat}{e:Nat}(h:val zs<1000000000^(e+3)):val (zs.take e)<1000000000^e→val zs=val (zs.take e)+1000000000^e*((gd zs (e+2)*1000000000+gd zs (e+1))*1000000000+gd zs e):=by
 intro _;have hz:=gd_zero_of_lt h;have h3:val (zs.drop (e+3))=0:=val_of_gd_zero (fun j=>by rw[gd_drop];exact hz _ (by omega));have e0:=val_drop zs e;have e1:=val_drop zs (e+1);have e2:=val_drop zs (e+2);rw[h3] at e2;have ex:val zs=val (zs.take e)+1000000000^e*val (zs.drop e):=by
  rcases Nat.lt_or_ge zs.length e with h1|h1
  ·rw[List.take_of_length_le (by omega),List.drop_of_length_le (by omega)];simp[val]
  ·exact val_take_drop zs e h1
 rw[e0,e1,e2] at ex;rw[ex];congr 2
 omega
theorem val_take_lt{zs:List Nat}(hl:limbs zs)(e:Nat):val (zs.take e)<1000000000^e:=by
 refine Nat.lt_of_lt_of_le (val_lt (limbs_take hl e)) (Nat.pow_le_pow_right (by omega) ?_);rw[List.length_take];omega
theorem top_two{b n:Nat}(hn:(dg b).length=n+2):b=val ((dg b).take n)+1000000000^n*(gd (dg b) (n+1)*1000000000+gd (dg b) n):=by
 have e0:=val_drop (dg b) n;have e1:=val_drop (dg b) (n+1);rw[List.drop_of_length_le (show(dg b).length≤n+1+1 by omega)] at e1;have ex:=val_take_drop (dg b) n (by omega);rw[e0,e1,val_dg] at ex;simp only[val,Nat.mul_zero,Nat.add_zero] at ex
 rw[Nat.mul_comm (gd (dg b) (n+1)),Nat.add_comm (1000000000*gd (dg b) (n+1))];exact ex
end Go.Proofs.YtpbbolgnnegmlaaGreatDoor.Num
