/- Lemmas of the proof: DatA, DatB, DatC, DatD, DatE, DatF, DatG, DatH, DatI. -/
import Derived.Test.YtpbbolgnnegmlaaGreatDoorAll00
import Derived.Test.YtpbbolgnnegmlaaGreatDoorChecked
import Derived.Test.YtpbbolgnnegmlaaGreatDoorAll25
import Derived.Lib.LaidTab
import Derived.Lib.AppendIntMem
import Derived.KernelRfl
import Derived.Deep.QuietTactic
import Derived.BigQuiet
import Derived.WalkMore
import Derived.Deep.LoopGhost
import Derived.Deep.RegionWith
import Derived.Deep.RegionHeld3
import Derived.Lib.Hide
import Derived.IntWalk
set_option linter.unusedVariables false
set_option linter.unusedSimpArgs false
set_option maxRecDepth 100000
set_option maxHeartbeats 32000000
open Go.Lib renaming hid→Jh
namespace Go.Proofs.YtpbbolgnnegmlaaGreatDoor.Dat
open Go.RowKit
def Ret8(W:World)(v:Value)(e:Ending)(w':World):Prop:=e=.returned v∧Below W.heap.size W w'
theorem rb8{a b:Bool}(h:a=b):Ending.returned (.bool a)=.returned (.bool b):=by rw[h]
theorem ri8{a b:Int}(h:a=b):Ending.returned (.int .i64 a)=.returned (.int .i64 b):=by rw[h]
def lens8:List Int:=[31,28,31,30,31,30,31,31,30,31,30,31]
structure Tabs (w:World):Prop where
 len:Lib.TabIs Tryz.prog w "quittance/date.lengths" .i64 lens8
 pow:Lib.TabIs Tryz.prog w "internal/strconv.uint64pow10" .u64 Lib.pow10Tab
theorem Tabs.on{w w':World}(h:Tabs w)(hb:Below w.heap.size w w'):Tabs w':=by
 constructor
 all_goals first|exact Lib.tabBelow_of_tabIs h.len w' hb|exact Lib.tabBelow_of_tabIs h.pow w' hb
theorem Tabs.at_{w:World}(h:Tabs w)(i:Nat)(hi:i<12):w.cell? ⟨1,i,none⟩=some (.int .i64 (lens8.getD i 0)):=h.len.cell (by kernel_rfl) i hi
theorem lens8_len{m:Int}(h1:1≤m)(h2:m≤12){y:Int}(h:¬(m=2∧leap8 y=true)):lens8.getD (m-1).toNat 0=len8 y m:=by
 have:m=1∨m=2∨m=3∨m=4∨m=5∨m=6∨m=7∨m=8∨m=9∨m=10∨m=11∨m=12:=by omega
 unfold len8;rcases this with rfl|rfl|rfl|rfl|rfl|rfl|rfl|rfl|rfl|rfl|rfl|rfl
 case inr.inl=>
  have h3:¬leap8 y=true:=fun e=>h ⟨rfl,e⟩
  rw[if_pos rfl,if_neg h3];rfl
 all_goals rfl
theorem leap_any(y:Int)(w:World):Calls Tryz.prog 115 #[.int .i64 y] w fun e w'=>e=.returned (.bool (leap8 y))∧w=w':=by
 go_enter Tryz.func115,Tryz.ntmps115;go_wp2;all_goals
  go_ret;exact⟨rb8 (by simp_all [leap8]),rfl⟩
theorem length_any(y m:Int)(w:World)(hT:Tabs w)(h1:1≤m)(h2:m≤12):Calls Tryz.prog 99 #[.int .i64 y,.int .i64 m] w fun e w'=>e=.returned (.int .i64 (len8 y m))∧w=w':=by
 by_cases hm:m=2
 ·subst hm
  have c1:w.cell? ⟨1,1,none⟩=some (.int .i64 28):=hT.at_ 1 (by decide);clear hT h1 h2;cases hl:leap8 y with
  | true=>
   have HL:=Jh hl;clear hl;go_enter Tryz.func99,Tryz.ntmps99;go_wp2_with fail;refine(leap_any _ _).mono ?_;rintro e w' ⟨rfl,rfl⟩;rw[HL.out];go_wp2_with fail;go_ret;exact⟨ri8 (by unfold len8;rw[if_pos rfl,if_pos HL.out]),rfl⟩
  | false=>
   have HL:=Jh hl;clear hl;go_enter Tryz.func99,Tryz.ntmps99;go_wp2_with fail;refine(leap_any _ _).mono ?_;rintro e w' ⟨rfl,rfl⟩;rw[HL.out];go_wp2_with fail;go_ret;exact⟨ri8 (by unfold len8;rw[if_pos rfl,HL.out,if_neg (by simp)]),rfl⟩
 ·obtain⟨k,hk⟩:∃k:Nat,m=k+1:=⟨(m-1).toNat,by omega⟩
  have c1:=hT.at_ k (by omega);have E:Hid (lens8.getD k 0=len8 y m):=by
   show _=_;have:=lens8_len h1 h2 (y:=y) (fun e=>hm e.1);rwa [show(m-1).toNat=k by omega] at this
  have hb:k<12:=by omega
  have hne:(((k:Int)+1) == 2)=false:=by simp;omega
  subst hk;clear hT h1 h2 hm;go_enter Tryz.func99,Tryz.ntmps99;go_wp2_with fail;go_ret;exact⟨ri8 E.out,rfl⟩
theorem length_q(y m:Int)(w:World)(hT:Tabs w)(h1:1≤m)(h2:m≤12):Calls Tryz.prog 99 #[.int .i64 y,.int .i64 m] w fun e w'=>e=.returned (.int .i64 (len8 y m))∧w'=w:=
 (length_any y m w hT h1 h2).mono fun _ _ h=>⟨h.1,h.2.symm⟩
structure Bx (v:World) (g:Nat) (x0 x1 x2:Value):Prop where
 c0:v.cell? ⟨g,0,none⟩=some x0
 c1:v.cell? ⟨g,1,none⟩=some x1
 c2:v.cell? ⟨g,2,none⟩=some x2
 f0:v.frozen? ⟨g,0,none⟩=false
 f1:v.frozen? ⟨g,1,none⟩=false
 f2:v.frozen? ⟨g,2,none⟩=false
 lt:g<v.heap.size
section
variable {v v':World}{g:Nat}{x0 x1 x2:Value}
theorem Bx.newAt(v:World)(x0 x1 x2:Value)(t:TypeId)(h:g=v.heap.size):Bx (v.alloc (.cells #[x0,x1,x2] t)) g x0 x1 x2:=by
 subst h;exact⟨by simp,by simp,by simp,by simp,by simp,by simp,by simp⟩
theorem Bx.below{B:Nat}(h:Bx v g x0 x1 x2)(hb:Below B v v')(hg:g<B):Bx v' g x0 x1 x2:=
 ⟨(hb.cell (p:=⟨g,0,none⟩) hg).trans h.c0,(hb.cell (p:=⟨g,1,none⟩) hg).trans h.c1,(hb.cell (p:=⟨g,2,none⟩) hg).trans h.c2,(hb.frozen (p:=⟨g,0,none⟩) hg).trans h.f0,(hb.frozen (p:=⟨g,1,none⟩) hg).trans h.f1,(hb.frozen (p:=⟨g,2,none⟩) hg).trans h.f2,Nat.lt_of_lt_of_le h.lt hb.size⟩
theorem Bx.on(h:Bx v g x0 x1 x2)(hb:Below v.heap.size v v'):Bx v' g x0 x1 x2:=h.below hb h.lt
theorem Bx.far(h:Bx v g x0 x1 x2)(p:Addr)(u:Value)(hp:p.block≠g):Bx (v.setCell p u) g x0 x1 x2:=
 ⟨(World.cell?_setCell_far v p ⟨g,0,none⟩ u hp).trans h.c0,(World.cell?_setCell_far v p ⟨g,1,none⟩ u hp).trans h.c1,(World.cell?_setCell_far v p ⟨g,2,none⟩ u hp).trans h.c2,by rw[World.frozen?_setCell];exact h.f0,by rw[World.frozen?_setCell];exact h.f1,by rw[World.frozen?_setCell];exact h.f2,by have:=h.lt;simpa using this⟩
abbrev put8(v:World)(g:Nat)(y0 y1 y2:Value):World:=((v.setCell ⟨g,0,none⟩ y0).setCell ⟨g,1,none⟩ y1).setCell ⟨g,2,none⟩ y2
theorem Bx.apart{g':Nat}(h:Bx v g x0 x1 x2)(y0 y1 y2:Value)(hp:g'≠g):Bx (put8 v g' y0 y1 y2) g x0 x1 x2:=((h.far _ _ hp).far _ _ hp).far _ _ hp
theorem Bx.put(h:Bx v g x0 x1 x2)(y0 y1 y2:Value):Bx (put8 v g y0 y1 y2) g y0 y1 y2:=by
 have n01:(⟨g,0,none⟩:Addr)≠⟨g,1,none⟩:=by simp
 have n02:(⟨g,0,none⟩:Addr)≠⟨g,2,none⟩:=by simp
 have n12:(⟨g,1,none⟩:Addr)≠⟨g,2,none⟩:=by simp
 refine⟨?_,?_,?_,by simp[put8,h.f0],by simp[put8,h.f1],by simp[put8,h.f2],by have:=h.lt;simpa using this⟩
 ·unfold put8;rw[World.cell?_setCell_other _ _ _ _ (n02.symm),World.cell?_setCell_other _ _ _ _ (n01.symm)];exact World.cell?_setCell_same _ _ _ (h.c0)
 ·unfold put8;rw[World.cell?_setCell_other _ _ _ _ (n12.symm)];exact World.cell?_setCell_same _ _ _ ((World.cell?_setCell_other _ _ _ _ (n01)).trans h.c1)
 ·unfold put8;exact World.cell?_setCell_same _ _ _ ((World.cell?_setCell_other _ _ _ _ (n12)).trans ((World.cell?_setCell_other _ _ _ _ (n02)).trans h.c2))
theorem below_put8{B:Nat}{w v:World}(h:Below B w v){g:Nat}(hg:B≤g)(y0 y1 y2:Value):Below B w (put8 v g y0 y1 y2):=
 ((h.setCell (p:=⟨g,0,none⟩) hg _).setCell (p:=⟨g,1,none⟩) hg _).setCell (p:=⟨g,2,none⟩) hg _
end
theorem below_drewN(w:World)(n:Nat):Below w.heap.size w (w.drewN n):=⟨rfl,rfl,rfl,Nat.le_refl _,fun _ _=>rfl⟩
structure S8 (w0 w:World) (bs:List (Nat×Value×Value×Value)):Prop where
 bel:Below w0.heap.size w0 w
 tab:Tabs w
 box:∀q∈bs,Bx w q.1 q.2.1 q.2.2.1 q.2.2.2∧w0.heap.size≤q.1
section
variable {w0 w w':World}{bs:List (Nat×Value×Value×Value)}
theorem S8.start(w:World)(h:Tabs w):S8 w w []:=⟨Below.refl _ _,h,fun q hq=>by cases hq⟩
theorem S8.step(h:S8 w0 w bs)(hb:Below w.heap.size w w'):S8 w0 w' bs:=
 ⟨h.bel.trans (hb.mono h.bel.size),h.tab.on hb,fun q hq=>⟨(h.box q hq).1.on hb,(h.box q hq).2⟩⟩
theorem S8.drewN(h:S8 w0 w bs)(n:Nat):S8 w0 (w.drewN n) bs:=h.step (below_drewN _ _)
theorem S8.drew(h:S8 w0 w bs):S8 w0 w.drew bs:=h.step (Below.refl _ _).drew
theorem S8.alloc(h:S8 w0 w bs)(o:Obj):S8 w0 (w.alloc o) bs:=h.step ((Below.refl _ _).alloc (Nat.le_refl _) o)
theorem S8.lay{x0 x1 x2:Value}{t:TypeId}{g:Nat}(h:S8 w0 w bs)(hg:g=w.heap.size):S8 w0 (w.alloc (.cells #[x0,x1,x2] t)) ((g,x0,x1,x2)::bs):=by
 have h2:=h.alloc (.cells #[x0,x1,x2] t);refine⟨h2.bel,h2.tab,fun q hq=>?_⟩;rcases List.mem_cons.1 hq with rfl|hq
 ·exact⟨Bx.newAt w x0 x1 x2 t hg,by have:=h.bel.size;show _≤g;omega⟩
 ·exact h2.box q hq
theorem S8.at_{x0 x1 x2:Value}{g:Nat}(h:Hid (S8 w0 w bs))(hm:(g,x0,x1,x2)∈bs):Bx w g x0 x1 x2:=(h.out.box _ hm).1
theorem S8.sub{bs':List (Nat×Value×Value×Value)}(h:S8 w0 w bs)(hs:∀q∈bs',q∈bs):S8 w0 w bs':=⟨h.bel,h.tab,fun q hq=>h.box q (hs q hq)⟩
theorem S8.store{g:Nat}{x0 x1 x2:Value}(h:S8 w0 w bs)(hm:(g,x0,x1,x2)∈bs)(hz:w0.heap.size≤g)(bs':List (Nat×Value×Value×Value))(hs:∀q∈bs',q∈bs∧g≠q.1)(y0 y1 y2:Value)(hT:∀w',Below w0.heap.size w0 w'→Tabs w') :
  S8 w0 (put8 w g y0 y1 y2) ((g,y0,y1,y2)::bs'):=by
 have X:=(h.box _ hm);have hb:=below_put8 h.bel X.2 y0 y1 y2;refine⟨hb,hT _ hb,fun q hq=>?_⟩;rcases List.mem_cons.1 hq with rfl|hq
 ·exact⟨X.1.put y0 y1 y2,X.2⟩
 ·exact⟨(h.box q (hs q hq).1).1.apart y0 y1 y2 (hs q hq).2,(h.box q (hs q hq).1).2⟩
end
theorem right_any(y m d:Int)(w:World)(hT:Tabs w):Calls Tryz.prog 79 #[.agg #[.int .i64 y,.int .i64 m,.int .i64 d]] w (Ret8 w (.bool (ok8 y m d))):=by
 have HT:=Jh hT;clear hT;by_cases hr:1≤y∧y≤9999∧1≤m∧m≤12
 ·obtain⟨h1,h2,h3,h4⟩:=hr
  by_cases h5:1≤d
  ·have E:Hid (decide (d≤len8 y m)=ok8 y m d):=by
    show _=_;rw[Bool.eq_iff_iff,decide_eq_true_iff,ok8_iff];omega
   go_enter Tryz.func79,Tryz.ntmps79;go_wp2_with fail;go_quiet ((go_at_call 99;exact Calls.quiet_of_same (length_q _ _ _ ((HT.out.on ((Below.refl _ _).alloc (Nat.le_refl _) _)).on (below_drewN _ _)) h3 h4)))
   go_wp2_with fail;go_ret;exact⟨rb8 E.out,((Below.refl _ _).alloc (Nat.le_refl _) _).trans ((below_drewN _ _).mono (by simp))⟩
  ·have hd:decide (1≤d)=false:=by simpa using h5
   have E:Hid (ok8 y m d=false):=by
    show _=_;rw[Bool.eq_false_iff,Ne,ok8_iff];omega
   go_enter Tryz.func79,Tryz.ntmps79;go_wp2_with fail;go_quiet ((fail))
   go_wp2_with fail;go_ret;exact⟨rb8 E.out.symm,((Below.refl _ _).alloc (Nat.le_refl _) _).trans ((below_drewN _ _).mono (by simp))⟩
 ·have E:Hid (ok8 y m d=false):=by
   show _=_;rw[Bool.eq_false_iff,Ne,ok8_iff];omega
  rw[E.out];by_cases a1:y<1
  ·clear hr
   go_enter Tryz.func79,Tryz.ntmps79;go_wp2_with fail;go_ret;exact⟨rfl,(Below.refl _ _).alloc (Nat.le_refl _) _⟩
  ·by_cases a2:9999<y
   ·clear hr
    go_enter Tryz.func79,Tryz.ntmps79;go_wp2_with fail;go_ret;exact⟨rfl,(Below.refl _ _).alloc (Nat.le_refl _) _⟩
   ·by_cases a3:m<1
    ·clear hr
     go_enter Tryz.func79,Tryz.ntmps79;go_wp2_with fail;go_ret;exact⟨rfl,(Below.refl _ _).alloc (Nat.le_refl _) _⟩
    ·have a4:12<m:=by omega
     clear hr;go_enter Tryz.func79,Tryz.ntmps79;go_wp2_with fail;go_ret;exact⟨rfl,(Below.refl _ _).alloc (Nat.le_refl _) _⟩
theorem right_is{y m d:Int}{b:Bool}{w:World}(hT:Tabs w)(hb:ok8 y m d=b):Calls Tryz.prog 79 #[.agg #[.int .i64 y,.int .i64 m,.int .i64 d]] w (Ret8 w (.bool b)):=by
 subst hb;exact right_any y m d w hT
end Go.Proofs.YtpbbolgnnegmlaaGreatDoor.Dat
