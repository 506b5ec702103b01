/- Lemmas of the proof: DecA, DecB. -/
import Derived.Test.YtpbbolgnnegmlaaGreatDoorAll05
import Derived.Test.YtpbbolgnnegmlaaGreatDoorAll14
import Derived.Deep.RegionWith
import Derived.Deep.RegionHeld3
set_option linter.unusedVariables false
set_option linter.unusedSimpArgs false
set_option maxRecDepth 100000
set_option maxHeartbeats 32000000
open Go.Lib renaming hid→Jh
namespace Go.Proofs.YtpbbolgnnegmlaaGreatDoor.Num
open Go.RowKit
def RetDec(W:World)(i:Int)(s:Nat)(e:Ending)(w':World):Prop:=
 ∃A n c,e=.returned (.agg #[.bool (ngB i),.slice A n c,.int .i64 (s:Int)])∧Num w' w'.heap.size A n c i.natAbs∧Below W.heap.size W w'
theorem num_pos{w:World}{B n c a:Nat}{A:Option Addr}(h:Num w B A n c a):decide (0<n)=decide (0<a):=by
 have hl:=h.len;by_cases h0:a=0
 ·subst h0;rw[dg_zero] at hl;simp at hl;subst hl;rfl
 ·rw[dg_pos (by omega)] at hl;simp at hl
  rw[decide_eq_true (by omega),decide_eq_true (by omega)]
theorem num_pos_iff{w:World}{B n c a:Nat}{A:Option Addr}(h:Num w B A n c a):0<n↔0<a:=by
 have:=num_pos h;by_cases h0:0<a
 ·rw[decide_eq_true h0] at this;exact⟨fun _=>h0,fun _=>of_decide_eq_true this⟩
 ·rw[decide_eq_false h0] at this;exact⟨fun h=>absurd h (of_decide_eq_false this),fun h=>absurd h h0⟩
theorem decimal_any(b:Bool)(A:Option Addr)(n c a s:Nat)(w:World)(h:Num w w.heap.size A n c a)(hs:s≤1000000000000) :
  Calls Tryz.prog 166 #[.bool b,.slice A n c,.int .i64 (s:Int)] w fun e w'=>e=.returned (.agg #[.bool (ngB (sgn b a)),.slice A n c,.int .i64 (s:Int)])∧Below w.heap.size w w':=by
 go_enter Tryz.func166,Tryz.ntmps166;go_wp2
 ·exact bodyPost_ret (v:=.agg #[.bool (decide (0<n)),.slice A n c,.int .i64 (s:Int)]) (by simp[results,Tryz.results166,go_sem]) rfl ⟨by rw[ng_sgn,num_pos h];simp_all,(Below.refl _ _).alloc (Nat.le_refl _) _⟩
 ·exact bodyPost_ret (v:=.agg #[.bool false,.slice A n c,.int .i64 (s:Int)]) (by simp[results,Tryz.results166,go_sem]) rfl ⟨by rw[ng_sgn];simp_all,(Below.refl _ _).alloc (Nat.le_refl _) _⟩
theorem Lim.on{w w':World}{n c:Nat}{A:Option Addr}{xs:List Nat}(h:Lim w w.heap.size A n c xs)(hb:Below w.heap.size w w'):Lim w' w'.heap.size A n c xs:=(h.below hb).more hb.size
structure Box (v:World) (g:Nat) (x0 x1 x2:Value):Prop where
 c0:v.cell? ⟨g,0,none⟩=some x0
 c1:v.cell? ⟨g,1,none⟩=some x1
 c2:v.cell? ⟨g,2,none⟩=some x2
 f0:v.frozen? ⟨g,0,none⟩=false
 f1:v.frozen? ⟨g,1,none⟩=false
 f2:v.frozen? ⟨g,2,none⟩=false
 lt:g<v.heap.size
section
variable {v v':World}{g:Nat}{x0 x1 x2:Value}
theorem Box.new(v:World)(x0 x1 x2:Value)(t:TypeId):Box (v.alloc (.cells #[x0,x1,x2] t)) v.heap.size x0 x1 x2:=
 ⟨by simp,by simp,by simp,by simp,by simp,by simp,by simp⟩
theorem Box.newAt(v:World)(x0 x1 x2:Value)(t:TypeId)(h:g=v.heap.size):Box (v.alloc (.cells #[x0,x1,x2] t)) g x0 x1 x2:=by subst h;exact Box.new v x0 x1 x2 t
theorem Box.below{B:Nat}(h:Box v g x0 x1 x2)(hb:Below B v v')(hg:g<B):Box v' g x0 x1 x2:=
 ⟨(hb.cell (p:=⟨g,0,none⟩) hg).trans h.c0,(hb.cell (p:=⟨g,1,none⟩) hg).trans h.c1,(hb.cell (p:=⟨g,2,none⟩) hg).trans h.c2,(hb.frozen (p:=⟨g,0,none⟩) hg).trans h.f0,(hb.frozen (p:=⟨g,1,none⟩) hg).trans h.f1,(hb.frozen (p:=⟨g,2,none⟩) hg).trans h.f2,Nat.lt_of_lt_of_le h.lt hb.size⟩
theorem Box.on(h:Box v g x0 x1 x2)(hb:Below v.heap.size v v'):Box v' g x0 x1 x2:=h.below hb h.lt
theorem Box.far(h:Box v g x0 x1 x2)(p:Addr)(u:Value)(hp:p.block≠g):Box (v.setCell p u) g x0 x1 x2:=
 ⟨(World.cell?_setCell_far v p ⟨g,0,none⟩ u hp).trans h.c0,(World.cell?_setCell_far v p ⟨g,1,none⟩ u hp).trans h.c1,(World.cell?_setCell_far v p ⟨g,2,none⟩ u hp).trans h.c2,by rw[World.frozen?_setCell];exact h.f0,by rw[World.frozen?_setCell];exact h.f1,by rw[World.frozen?_setCell];exact h.f2,by have:=h.lt;simpa using this⟩
abbrev put3(v:World)(g:Nat)(y0 y1 y2:Value):World:=((v.setCell ⟨g,0,none⟩ y0).setCell ⟨g,1,none⟩ y1).setCell ⟨g,2,none⟩ y2
theorem Box.apart{g':Nat}(h:Box v g x0 x1 x2)(y0 y1 y2:Value)(hp:g'≠g):Box (put3 v g' y0 y1 y2) g x0 x1 x2:=((h.far _ _ hp).far _ _ hp).far _ _ hp
theorem Box.put(h:Box v g x0 x1 x2)(y0 y1 y2:Value):Box (put3 v g y0 y1 y2) g y0 y1 y2:=by
 have n01:(⟨g,0,none⟩:Addr)≠⟨g,1,none⟩:=by simp
 have n02:(⟨g,0,none⟩:Addr)≠⟨g,2,none⟩:=by simp
 have n12:(⟨g,1,none⟩:Addr)≠⟨g,2,none⟩:=by simp
 refine⟨?_,?_,?_,by simp[put3,h.f0],by simp[put3,h.f1],by simp[put3,h.f2],by have:=h.lt;simpa using this⟩
 ·unfold put3;rw[World.cell?_setCell_other _ _ _ _ (n02.symm),World.cell?_setCell_other _ _ _ _ (n01.symm)];exact World.cell?_setCell_same _ _ _ (h.c0)
 ·unfold put3;rw[World.cell?_setCell_other _ _ _ _ (n12.symm)];exact World.cell?_setCell_same _ _ _ ((World.cell?_setCell_other _ _ _ _ (n01)).trans h.c1)
 ·unfold put3;exact World.cell?_setCell_same _ _ _ ((World.cell?_setCell_other _ _ _ _ (n12)).trans ((World.cell?_setCell_other _ _ _ _ (n02)).trans h.c2))
theorem below_put3{B:Nat}{w v:World}(h:Below B w v){g:Nat}(hg:B≤g)(y0 y1 y2:Value):Below B w (put3 v g y0 y1 y2):=
 ((h.setCell (p:=⟨g,0,none⟩) hg _).setCell (p:=⟨g,1,none⟩) hg _).setCell (p:=⟨g,2,none⟩) hg _
def NoLimb(x:Value):Prop:=∀n:Nat,x≠.int .u32 (n:Int)
theorem noLimb_bool(b:Bool):NoLimb (.bool b):=fun _ h=>by cases h
theorem noLimb_slice(A:Option Addr)(n c:Nat):NoLimb (.slice A n c):=fun _ h=>by cases h
theorem noLimb_int(i:Int):NoLimb (.int .i64 i):=fun _ h=>by cases h
theorem Lim.put3{B n c:Nat}{A:Option Addr}{xs:List Nat}(h:Lim v B A n c xs)(X:Box v g x0 x1 x2)(h0:NoLimb x0)(h1:NoLimb x1)(h2:NoLimb x2)(y0 y1 y2:Value):Lim (put3 v g y0 y1 y2) B A n c xs:=by
 refine⟨h.len,h.cap,h.room,h.fit,?_,h.addr⟩;rcases h.row with h' | ⟨b,o,rfl,hb,hc⟩
 ·exact .inl h'
 ·refine .inr ⟨b,o,rfl,hb,fun j u hu=>?_⟩
  have hk:=hc j u hu;obtain⟨x,hx⟩:∃x:Nat,u=.int .u32 (x:Int):=by
   have:=List.mem_of_getElem? hu;unfold vals at this;obtain⟨x,_,rfl⟩:=List.mem_map.1 this;exact⟨x,rfl⟩
  have ne:∀k z,v.cell? ⟨g,k,none⟩=some z→NoLimb z→(⟨g,k,none⟩:Addr)≠⟨b,o+j,none⟩:=fun k z hz hn he=>by
   rw[he,hk] at hz;injection hz with hz
   exact hn x (hz.symm.trans hx)
  unfold Go.Proofs.YtpbbolgnnegmlaaGreatDoor.Num.put3;rw[World.cell?_setCell_other _ _ _ _ (ne 2 _ X.c2 h2),World.cell?_setCell_other _ _ _ _ (ne 1 _ X.c1 h1),World.cell?_setCell_other _ _ _ _ (ne 0 _ X.c0 h0)];exact hk
end
structure St (w0 w:World) (l:List (Option Addr×Nat×Nat×Nat)) (bs:List (Nat×Value×Value×Value)):Prop where
 bel:Below w0.heap.size w0 w
 num:∀q∈l,Num w w.heap.size q.1 q.2.1 q.2.2.1 q.2.2.2
 box:∀q∈bs,Box w q.1 q.2.1 q.2.2.1 q.2.2.2∧w0.heap.size≤q.1
section
variable {w0 w w':World}{l:List (Option Addr×Nat×Nat×Nat)}{bs:List (Nat×Value×Value×Value)}
theorem St.start(w:World)(h:∀q∈l,Num w w.heap.size q.1 q.2.1 q.2.2.1 q.2.2.2):St w w l []:=⟨Below.refl _ _,h,fun q hq=>by cases hq⟩
theorem St.step(h:St w0 w l bs)(hb:Below w.heap.size w w'):St w0 w' l bs:=
 ⟨h.bel.trans (hb.mono h.bel.size),fun q hq=>(h.num q hq).on hb,fun q hq=>⟨(h.box q hq).1.on hb,(h.box q hq).2⟩⟩
theorem St.push(h:St w0 w l bs)(hb:Below w.heap.size w w'){A:Option Addr}{n c a:Nat}(hn:Num w' w'.heap.size A n c a):St w0 w' ((A,n,c,a)::l) bs:=by
 have h2:=h.step hb;refine⟨h2.bel,fun q hq=>?_,h2.box⟩;rcases List.mem_cons.1 hq with rfl|hq
 ·exact hn
 ·exact h2.num q hq
theorem St.drew(h:St w0 w l bs):St w0 w.drew l bs:=h.step (Below.refl _ _).drew
theorem St.alloc(h:St w0 w l bs)(o:Obj):St w0 (w.alloc o) l bs:=h.step ((Below.refl _ _).alloc (Nat.le_refl _) o)
theorem St.lay{x0 x1 x2:Value}{t:TypeId}{g:Nat}(h:St w0 w l bs)(hg:g=w.heap.size):St w0 (w.alloc (.cells #[x0,x1,x2] t)) l ((g,x0,x1,x2)::bs):=by
 have h2:=h.alloc (.cells #[x0,x1,x2] t);refine⟨h2.bel,h2.num,fun q hq=>?_⟩;rcases List.mem_cons.1 hq with rfl|hq
 ·exact⟨Box.newAt w x0 x1 x2 t hg,by have:=h.bel.size;show _≤g;omega⟩
 ·exact h2.box q hq
theorem St.got{A:Option Addr}{n c a:Nat}(h:Hid (St w0 w l bs))(hm:(A,n,c,a)∈l):Num w w.heap.size A n c a:=h.out.num _ hm
theorem St.at_{x0 x1 x2:Value}{g:Nat}(h:Hid (St w0 w l bs))(hm:(g,x0,x1,x2)∈bs):Box w g x0 x1 x2:=(h.out.box _ hm).1
theorem St.store{g:Nat}{x0 x1 x2:Value}(h:St w0 w l bs)(hm:(g,x0,x1,x2)∈bs)(h0:NoLimb x0)(h1:NoLimb x1)(h2:NoLimb x2)(bs':List (Nat×Value×Value×Value))(hs:∀q∈bs',q∈bs∧g≠q.1)(y0 y1 y2:Value) :
  St w0 (put3 w g y0 y1 y2) l ((g,y0,y1,y2)::bs'):=by
 have X:=(h.box _ hm);refine⟨below_put3 h.bel X.2 y0 y1 y2,fun q hq=>?_,fun q hq=>?_⟩
 ·have:=(h.num q hq).put3 X.1 h0 h1 h2 y0 y1 y2
  have e:(put3 w g y0 y1 y2).heap.size=w.heap.size:=by simp
  rw[e];exact this
 ·rcases List.mem_cons.1 hq with rfl|hq
  ·exact⟨X.1.put y0 y1 y2,X.2⟩
  ·exact⟨(h.box q (hs q hq).1).1.apart y0 y1 y2 (hs q hq).2,(h.box q (hs q hq).1).2⟩
theorem St.az{g:Nat}(h:Hid (St w0 w l bs))(hm:(g,.bool false,.slice none 0 0,.int .i64 0)∈bs):Box w g (.bool false) (.slice none 0 0) (.int .i64 0):=St.at_ h hm
theorem St.ad{g:Nat}(x:Int)(A:Option Addr)(n c:Nat)(k:Int)(h:Hid (St w0 w l bs))(hm:(g,.bool (ngB x),.slice A n c,.int .i64 k)∈bs):Box w g (.bool (ngB x)) (.slice A n c) (.int .i64 k):=St.at_ h hm
theorem St.sz{g:Nat}(h:St w0 w l bs)(hm:(g,.bool false,.slice none 0 0,.int .i64 0)∈bs)(y0 y1 y2:Value):St w0 (put3 w g y0 y1 y2) l [(g,y0,y1,y2)]:=St.store h hm (noLimb_bool _) (noLimb_slice _ _ _) (noLimb_int _) [] (fun q hq=>by cases hq) y0 y1 y2
end
theorem start_one{w:World}{A:Option Addr}{n c a:Nat}(h:Num w w.heap.size A n c a):St w w [(A,n,c,a)] []:=St.start w (fun q hq=>by rcases List.mem_singleton.1 hq with rfl;exact h)
theorem start_two{w:World}{A A':Option Addr}{n c a n' c' a':Nat}(h:Num w w.heap.size A n c a)(h':Num w w.heap.size A' n' c' a'):St w w [(A,n,c,a),(A',n',c',a')] []:=St.start w (fun q hq=>by
 rcases List.mem_cons.1 hq with rfl|hq
 ·exact h
 ·rcases List.mem_singleton.1 hq with rfl;exact h')
theorem copied_any(A:Option Addr)(n c s:Nat)(i:Int)(w:World)(h:Num w w.heap.size A n c i.natAbs)(hn:n≤1000000000)(hs:s≤1000000000000) :
  Calls Tryz.prog 187 #[.agg #[.bool (ngB i),.slice A n c,.int .i64 (s:Int)]] w (RetDec w (i) s):=by
 have H:=Jh h;have HI:Hid (sgn (ngB i) i.natAbs=i):=sgn_ng i;obtain⟨b,hb⟩:∃b,b=ngB i:=⟨_,rfl⟩;rw[← hb] at HI;rw[← hb];clear h hb;go_enter Tryz.func187,Tryz.ntmps187;go_wp2_with fail;generalize hW:World.alloc (World.alloc w _) _=W0;have E0:St w W0 [(A,n,c,(i).natAbs)] [((w.heap.size+1),.bool false,.slice none 0 0,.int .i64 0),(w.heap.size,(.bool b),(.slice A n c),(.int .i64 (s:Int)))]:=by rw[← hW];exact((start_one H.out).lay rfl).lay (by simp)
 have E:=Jh E0.drew;clear hW E0;go_region_held3 (fun v=>v.cell? ⟨w.heap.size,0,none⟩=some (.bool b)∧v.cell? ⟨w.heap.size,1,none⟩=some (.slice A n c)∧v.cell? ⟨w.heap.size,2,none⟩=some (.int .i64 (s:Int))) (first|(have X0:=St.at_ (x0:=(.bool b)) (x1:=(.slice A n c)) (x2:=(.int .i64 (s:Int))) (g:=w.heap.size) E (by simp);with_reducible exact⟨X0.c0,X0.c1,X0.c2⟩)|(with_reducible exact⟨((St.at_ (x0:=(.bool b)) (x1:=(.slice A n c)) (x2:=(.int .i64 (s:Int))) (g:=w.heap.size) E (by simp)).apart (g':=(w.heap.size+1)) _ _ _ (by omega)).c0,((St.at_ (x0:=(.bool b)) (x1:=(.slice A n c)) (x2:=(.int .i64 (s:Int))) (g:=w.heap.size) E (by simp)).apart (g':=(w.heap.size+1)) _ _ _ (by omega)).c1,((St.at_ (x0:=(.bool b)) (x1:=(.slice A n c)) (x2:=(.int .i64 (s:Int))) (g:=w.heap.size) E (by simp)).apart (g':=(w.heap.size+1)) _ _ _ (by omega)).c2⟩))
  (first|(go_at_call 110;refine(trim_is (m:=i.natAbs) (St.got E (by simp)) (limbs_dg _) hn (val_dg _)).mono ?_;rintro e w1 ⟨A1,n1,c1,rfl,h1,hb1⟩;replace E:=Jh (St.push E.out hb1 h1);clear h1 hb1)|(go_at_call 166;refine(decimal_any (b) A1 n1 c1 i.natAbs s _ (St.got E (by simp)) hs).mono ?_;rintro e w2 ⟨rfl,hb2⟩;replace E:=Jh (St.step E.out hb2);clear hb2;obtain⟨r0,r1,r2,rf0,rf1,rf2,rlt⟩:=St.az (g:=(w.heap.size+1)) E (by simp)))
 go_wp2_with fail;have EF:=Jh (St.sz E.out (g:=w.heap.size+1) (by simp) (.bool (ngB (sgn (b) i.natAbs))) (.slice A1 n1 c1) (.int .i64 (s:Int)));obtain⟨e0,e1,e2,_,_,_,_⟩:=St.at_ (x0:=.bool (ngB (sgn (b) i.natAbs))) (x1:=.slice A1 n1 c1) (x2:=.int .i64 (s:Int)) (g:=w.heap.size+1) EF (by simp);exact bodyPost_ret (v:=.agg #[.bool (ngB (sgn (b) i.natAbs)),.slice A1 n1 c1,.int .i64 (s:Int)]) (by simp[results,Tryz.results187,go_sem,e0,e1,e2]) rfl ⟨A1,n1,c1,by rw[HI.out],by rw[← HI.out,abs_sgn];exact St.got EF (by simp),EF.out.bel⟩
theorem neg_any(A:Option Addr)(n c s:Nat)(i:Int)(w:World)(h:Num w w.heap.size A n c i.natAbs)(hn:n≤1000000000)(hs:s≤1000000000000) :
  Calls Tryz.prog 169 #[.agg #[.bool (ngB i),.slice A n c,.int .i64 (s:Int)]] w (RetDec w (-i) s):=by
 have H:=Jh h;have HI:Hid (sgn (!ngB i) i.natAbs = -i):=sgn_not i;obtain⟨b,hb⟩:∃b,b=ngB i:=⟨_,rfl⟩;rw[← hb] at HI;rw[← hb];clear h hb;go_enter Tryz.func169,Tryz.ntmps169;go_wp2_with fail;generalize hW:World.alloc (World.alloc w _) _=W0;have E0:St w W0 [(A,n,c,(i).natAbs)] [((w.heap.size+1),.bool false,.slice none 0 0,.int .i64 0),(w.heap.size,(.bool b),(.slice A n c),(.int .i64 (s:Int)))]:=by rw[← hW];exact((start_one H.out).lay rfl).lay (by simp)
 have E:=Jh E0.drew;clear hW E0;go_region_held3 (fun v=>v.cell? ⟨w.heap.size,0,none⟩=some (.bool b)∧v.cell? ⟨w.heap.size,1,none⟩=some (.slice A n c)∧v.cell? ⟨w.heap.size,2,none⟩=some (.int .i64 (s:Int))) (first|(have X0:=St.at_ (x0:=(.bool b)) (x1:=(.slice A n c)) (x2:=(.int .i64 (s:Int))) (g:=w.heap.size) E (by simp);with_reducible exact⟨X0.c0,X0.c1,X0.c2⟩)|(with_reducible exact⟨((St.at_ (x0:=(.bool b)) (x1:=(.slice A n c)) (x2:=(.int .i64 (s:Int))) (g:=w.heap.size) E (by simp)).apart (g':=(w.heap.size+1)) _ _ _ (by omega)).c0,((St.at_ (x0:=(.bool b)) (x1:=(.slice A n c)) (x2:=(.int .i64 (s:Int))) (g:=w.heap.size) E (by simp)).apart (g':=(w.heap.size+1)) _ _ _ (by omega)).c1,((St.at_ (x0:=(.bool b)) (x1:=(.slice A n c)) (x2:=(.int .i64 (s:Int))) (g:=w.heap.size) E (by simp)).apart (g':=(w.heap.size+1)) _ _ _ (by omega)).c2⟩))
  (first|(go_at_call 110;refine(trim_is (m:=i.natAbs) (St.got E (by simp)) (limbs_dg _) hn (val_dg _)).mono ?_;rintro e w1 ⟨A1,n1,c1,rfl,h1,hb1⟩;replace E:=Jh (St.push E.out hb1 h1);clear h1 hb1)|(go_at_call 166;refine(decimal_any (!b) A1 n1 c1 i.natAbs s _ (St.got E (by simp)) hs).mono ?_;rintro e w2 ⟨rfl,hb2⟩;replace E:=Jh (St.step E.out hb2);clear hb2;obtain⟨r0,r1,r2,rf0,rf1,rf2,rlt⟩:=St.az (g:=(w.heap.size+1)) E (by simp)))
 go_wp2_with fail;have EF:=Jh (St.sz E.out (g:=w.heap.size+1) (by simp) (.bool (ngB (sgn (!b) i.natAbs))) (.slice A1 n1 c1) (.int .i64 (s:Int)));obtain⟨e0,e1,e2,_,_,_,_⟩:=St.at_ (x0:=.bool (ngB (sgn (!b) i.natAbs))) (x1:=.slice A1 n1 c1) (x2:=.int .i64 (s:Int)) (g:=w.heap.size+1) EF (by simp);exact bodyPost_ret (v:=.agg #[.bool (ngB (sgn (!b) i.natAbs)),.slice A1 n1 c1,.int .i64 (s:Int)]) (by simp[results,Tryz.results169,go_sem,e0,e1,e2]) rfl ⟨A1,n1,c1,by rw[HI.out],by rw[← HI.out,abs_sgn];exact St.got EF (by simp),EF.out.bel⟩
theorem sign_any(A:Option Addr)(n c s:Nat)(i:Int)(w:World)(h:Num w w.heap.size A n c i.natAbs) :
  Calls Tryz.prog 113 #[.agg #[.bool (ngB i),.slice A n c,.int .i64 (s:Int)]] w (RetVal w (.int .i64 i.sign)):=by
 have hp:=num_pos_iff h;have HS:=Jh (rfl:i.sign=i.sign);rcases Int.lt_trichotomy i 0 with h0|h0|h0
 ·have hb:ngB i=true:=decide_eq_true h0
  have hn:0<n:=hp.2 (by omega);have hs:i.sign = -1:=Int.sign_eq_neg_one_iff_neg.2 h0;rw[hb,hs];clear h hp hb hs h0;go_enter Tryz.func113,Tryz.ntmps113;go_wp2;all_goals first|(exfalso;omega)|(go_ret;exact⟨rfl,(Below.refl _ _).alloc (Nat.le_refl _) _⟩)
 ·subst h0
  have hn:n=0:=by simp at hp;omega
  subst hn;have hb:ngB 0=false:=rfl;rw[hb];clear h hp hb;go_enter Tryz.func113,Tryz.ntmps113;go_wp2;go_ret;exact⟨rfl,(Below.refl _ _).alloc (Nat.le_refl _) _⟩
 ·have hb:ngB i=false:=decide_eq_false (by omega)
  have hn:0<n:=hp.2 (by omega);have hs:i.sign=1:=Int.sign_eq_one_iff_pos.2 h0;rw[hb,hs];clear h hp hb hs h0;go_enter Tryz.func113,Tryz.ntmps113;go_wp2;all_goals first|(exfalso;omega)|(go_ret;exact⟨rfl,(Below.refl _ _).alloc (Nat.le_refl _) _⟩)
end Go.Proofs.YtpbbolgnnegmlaaGreatDoor.Num
