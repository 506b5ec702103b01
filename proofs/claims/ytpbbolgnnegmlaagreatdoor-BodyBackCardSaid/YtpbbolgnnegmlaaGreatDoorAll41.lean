/- Lemmas of the proof: BodJ, BodD, BodS, BodK. -/
import Derived.Test.YtpbbolgnnegmlaaGreatDoorAll39
import Derived.Test.YtpbbolgnnegmlaaGreatDoorAll40
import Derived.Test.YtpbbolgnnegmlaaGreatDoorAll34
import Derived.Deep.WholeRow
import Derived.Test.YtpbbolgnnegmlaaGreatDoorAll32
set_option linter.unusedVariables false
set_option linter.unusedSimpArgs false
set_option maxRecDepth 100000
set_option maxHeartbeats 32000000
open Go.Lib renaming hid→Jh
namespace Go.Proofs.YtpbbolgnnegmlaaGreatDoor.Num
open Go.RowKit
def StO(w:World)(g:Nat)(A:Option Addr)(n c a e:Nat):Prop:=Bk w g (cR A n c a e) 71
section
variable {w w':World}{g n c a e:Nat}{A:Option Addr}
theorem StO.bx(h:StO w g A n c a e):Box w g (.slice A n c) (.int .i64 (a:Int)) (.int .i64 (e:Int)):=⟨Bk.cell h 0,Bk.cell h 1,Bk.cell h 2,Bk.fz h 0,Bk.fz h 1,Bk.fz h 2,Bk.lt h⟩
theorem StO.set1(h:StO w g A n c a e)(x:Nat):StO (w.setCell ⟨g,1,none⟩ (.int .i64 (x:Int))) g A n c x e:=heap_setCell_same w g 1 _ _ _ h
theorem StO.set2(h:StO w g A n c a e)(x:Nat):StO (w.setCell ⟨g,2,none⟩ (.int .i64 (x:Int))) g A n c a x:=heap_setCell_same w g 2 _ _ _ h
theorem StO.on(h:StO w g A n c a e)(hb:Below w.heap.size w w'):StO w' g A n c a e:=Bk.on h hb
theorem StO.drewN(h:StO w g A n c a e)(m:Nat):StO (w.drewN m) g A n c a e:=h.on (below_drewN (Below.refl _ _) m)
end
structure CO (W0:World) (B:Nat) (A:Option Addr) (n c:Nat) (L:List Tk4) (G:Nat→Nat→Int→Nat→Prop):Prop where
 ok:Ok12 W0
 rd:RdK W0 B A n c L
 hB:B≤W0.heap.size
 hn:n≤400
 sz:Siz (L.map tok) G
structure SO (W0 w0 w:World) (g:Nat) (A:Option Addr) (n c a e:Nat) (l:List (Option Addr×Nat×Nat×Nat)) (bs:List (Nat×Array Value×TypeId)):Prop where
 bel:Below W0.heap.size W0 w
 kp:Kp g none w0 w
 pl:W0.heap.size≤g∧g<w0.heap.size
 st:StO w g A n c a e
 num:∀q∈l,Num w w.heap.size q.1 q.2.1 q.2.2.1 q.2.2.2
 blk:∀q∈bs,Bk w q.1 q.2.1 q.2.2∧w0.heap.size≤q.1
section
variable {W0 w0 w w':World}{g n c a e a' e':Nat}{A:Option Addr}{l:List (Option Addr×Nat×Nat×Nat)}{bs:List (Nat×Array Value×TypeId)}
theorem SO.start(hb:Below W0.heap.size W0 w)(hg:W0.heap.size≤g)(hs:StO w g A n c a e):SO W0 w w g A n c a e [] []:=
 ⟨hb,Kp.refl _ _ _,⟨hg,Bk.lt hs⟩,hs,fun q hq=>(by cases hq),fun q hq=>(by cases hq)⟩
theorem SO.step(h:SO W0 w0 w g A n c a e l bs)(hb:Below w.heap.size w w'):SO W0 w0 w' g A n c a e l bs:=
 ⟨h.bel.trans (hb.mono h.bel.size),kp_trans h.kp (kp_of hb (Nat.le_refl _)),h.pl,h.st.on hb,fun q hq=>(h.num q hq).on hb,fun q hq=>⟨(h.blk q hq).1.on hb,(h.blk q hq).2⟩⟩
theorem SO.call(h:SO W0 w0 w g A n c a e l bs)(hk:Kp g none w w')(hs:StO w' g A n c a' e'):SO W0 w0 w' g A n c a' e' l bs:=
 ⟨below_kp h.bel hk h.pl.1,kp_trans h.kp hk,h.pl,hs,fun q hq=>(Lim.bk (h.num q hq) h.st (cl_R _ _ _ _ _) (Nat.le_refl _) hk).more hk.size,
  fun q hq=>⟨(h.blk q hq).1.kp hk (by have:=(h.blk q hq).2;have:=h.pl;omega),(h.blk q hq).2⟩⟩
theorem SO.set1(h:SO W0 w0 w g A n c a e l bs)(x:Nat):SO W0 w0 (w.setCell ⟨g,1,none⟩ (.int .i64 (x:Int))) g A n c x e l bs:=h.call (kp_set _ _ _ _) (h.st.set1 x)
theorem SO.set2(h:SO W0 w0 w g A n c a e l bs)(x:Nat):SO W0 w0 (w.setCell ⟨g,2,none⟩ (.int .i64 (x:Int))) g A n c a x l bs:=h.call (kp_set _ _ _ _) (h.st.set2 x)
theorem SO.push(h:SO W0 w0 w g A n c a e l bs){A1:Option Addr}{n1 c1 x:Nat}(hn:Num w w.heap.size A1 n1 c1 x):SO W0 w0 w g A n c a e ((A1,n1,c1,x)::l) bs:=
 ⟨h.bel,h.kp,h.pl,h.st,fun q hq=>by
  rcases List.mem_cons.1 hq with rfl|hq
  ·exact hn
  ·exact h.num q hq,h.blk⟩
theorem SO.lay(h:SO W0 w0 w g A n c a e l bs)(xs:Array Value)(t:TypeId){g1:Nat}(hg:g1=w.heap.size):SO W0 w0 (w.alloc (.cells xs t)) g A n c a e l ((g1,xs,t)::bs):=by
 have h2:=h.step ((Below.refl _ _).alloc (Nat.le_refl _) (.cells xs t));refine⟨h2.bel,h2.kp,h2.pl,h2.st,h2.num,fun q hq=>?_⟩;rcases List.mem_cons.1 hq with rfl|hq
 ·exact⟨Bk.new w _ _ hg,by have:=h.kp.size;show _≤g1;omega⟩
 ·exact h2.blk q hq
theorem SO.turn(h:SO W0 w0 w g A n c a e l bs){g1:Nat}{xs xs':Array Value}{t t':TypeId}(hm:(g1,xs,t)∈bs)(hc:Cl xs)(hk:Kp g1 none w w')(hb:Bk w' g1 xs' t')(bs':List (Nat×Array Value×TypeId))(hs:∀q∈bs',q∈bs∧q.1≠g1):SO W0 w0 w' g A n c a e l ((g1,xs',t')::bs'):=by
 have h1:=(h.blk _ hm).2;dsimp only at h1
 have hz:=h.kp.size;have hp:=h.pl;refine⟨below_kp h.bel hk (by omega),⟨hk.os.trans h.kp.os,hk.tape.trans h.kp.tape,hk.output.trans h.kp.output,Nat.le_trans hz hk.size,fun k hk1 hc1 hr1=>(hk.block k (by omega) (by omega) (by simp)).trans (h.kp.block k hk1 hc1 hr1)⟩,hp,Bk.kp h.st hk (by omega),
  fun q hq=>(Lim.bk (h.num q hq) (h.blk _ hm).1 hc (Nat.le_refl _) hk).more hk.size,fun q hq=>?_⟩
 rcases List.mem_cons.1 hq with rfl|hq
 ·exact⟨hb,h1⟩
 ·exact⟨(h.blk q (hs q hq).1).1.kp hk (hs q hq).2,(h.blk q (hs q hq).1).2⟩
theorem SO.facts(h:Hid (SO W0 w0 w g A n c a e l bs)):Box w g (.slice A n c) (.int .i64 (a:Int)) (.int .i64 (e:Int)):=h.out.st.bx
theorem SO.got{A1:Option Addr}{n1 c1 x:Nat}(h:Hid (SO W0 w0 w g A n c a e l bs))(hm:(A1,n1,c1,x)∈l):Num w w.heap.size A1 n1 c1 x:=h.out.num _ hm
theorem SO.bk{g1:Nat}{xs:Array Value}{t:TypeId}(h:Hid (SO W0 w0 w g A n c a e l bs))(hm:(g1,xs,t)∈bs):Bk w g1 xs t:=(h.out.blk _ hm).1
theorem SO.atv{g1:Nat}{xs:Array Value}{t:TypeId}{y:Value}(h:Hid (SO W0 w0 w g A n c a e l bs))(hm:(g1,xs,t)∈bs)(j:Nat)(hj:xs[j]?=some y):w.cell? ⟨g1,j,none⟩=some y:=((SO.bk h hm).cell j).trans hj
theorem SO.lt{g1:Nat}{xs:Array Value}{t:TypeId}(h:Hid (SO W0 w0 w g A n c a e l bs))(hm:(g1,xs,t)∈bs):g1<w.heap.size:=(SO.bk h hm).lt
theorem kp_setRow16(w:World)(g:Nat)(cs:Array Value):Kp g none w (w.setRow g cs):=⟨rfl,rfl,rfl,by simp[World.setRow],fun k _ hc _=>setRow_other w g k cs hc⟩
theorem SO.setRow(h:SO W0 w0 w g A n c a e l bs){g1:Nat}{xs:Array Value}{t:TypeId}(hm:(g1,xs,t)∈bs)(hc:Cl xs)(bs':List (Nat×Array Value×TypeId))(hs:∀q∈bs',q∈bs∧q.1≠g1)(cs:Array Value) :
  SO W0 w0 (w.setRow g1 cs) g A n c a e l ((g1,cs,t)::bs'):=
 h.turn hm hc (kp_setRow16 w g1 cs) (setRow_heap w g1 _ cs t _ (h.blk _ hm).1) bs' hs
end
def RoN(w:World)(g:Nat)(A:Option Addr)(n c a e:Nat)(en:Ending)(w':World):Prop:=en=.returned (.tuple #[])∧Kp g none w w'∧StO w' g A n c a e
def RoW(w:World)(g:Nat)(A:Option Addr)(n c a e:Nat)(L:List Tok)(k:Int)(en:Ending)(w':World):Prop:=∃(s:ByteArray) (a' e':Nat),en=.returned (.string s)∧Kp g none w w'∧StO w' g A n c a' e'∧Aft (nxr e a (fun b=>tkw L b k)) a' e' (· = s)∧(e'=0→e=0∧a'=a+1∧a'≤n)∧s.size≤6000
structure FP where
 flag:ByteArray
 acc:ByteArray
 u:VU
 c:VC
 p:VP
def FP.zero:FP:=⟨⟨#[]⟩,⟨#[]⟩,VU.of Un.zero,VC.of none,VP.of none⟩
def fpOf:Option Po→FP
 | none=>FP.zero
 | some p=>⟨p.flag,p.acc,VU.of p.un,VC.of p.co,VP.of p.pr⟩
structure PM where
 A:Option Addr
 n:Nat
 c:Nat
 Ac:Option Addr
 nc:Nat
 cc:Nat
 Ap:Option Addr
 np:Nat
 cp:Nat
 p:Int
 q:Int
def PM.zero:PM:=⟨none,0,0,none,0,0,none,0,0,0,0⟩
def cO(f:FP)(m:PM):Array Value:=#[.string f.flag,.string f.acc,.bool f.u.b,.bool (ngB f.u.i),.slice m.A m.n m.c,.int .i64 (f.u.k:Int),.string f.u.s,.bool f.c.h,.bool f.c.t,.bool f.c.b,.bool (ngB f.c.i),.slice m.Ac m.nc m.cc,.int .i64 (f.c.k:Int),.string f.c.s,.int .i64 f.c.y,.int .i64 f.c.m,.int .i64 f.c.d,.string f.c.l,.bool f.p.h,.bool f.p.t,.bool f.p.b,.bool (ngB f.p.i),.slice m.Ap m.np m.cp,.int .i64 (f.p.k:Int),.string f.p.s,.slice none 0 0,.int .i64 m.p,.int .i64 m.q]
structure MP (w:World) (f:FP) (m:PM):Prop where
 u:Num w w.heap.size m.A m.n m.c f.u.i.natAbs
 c:Num w w.heap.size m.Ac m.nc m.cc f.c.i.natAbs
 p:Num w w.heap.size m.Ap m.np m.cp f.p.i.natAbs
theorem MP.on{w w':World}{f:FP}{m:PM}(h:MP w f m)(hb:Below w.heap.size w w'):MP w' f m:=⟨h.u.on hb,h.c.on hb,h.p.on hb⟩
theorem MP.nil(w:World):MP w FP.zero PM.zero:=⟨num_zero _ _,num_zero _ _,num_zero _ _⟩
theorem MP.kp{w w':World}{f:FP}{m:PM}{g:Nat}{xs:Array Value}{t:TypeId}(h:MP w f m)(hb:Bk w g xs t)(hc:Cl xs)(hk:Kp g none w w'):MP w' f m:=
 ⟨(Lim.bk h.u hb hc (Nat.le_refl _) hk).more hk.size,(Lim.bk h.c hb hc (Nat.le_refl _) hk).more hk.size,(Lim.bk h.p hb hc (Nat.le_refl _) hk).more hk.size⟩
theorem post_size:(Tryz.prog.info? 47).map (·.size)=some 28:=by kernel_rfl
theorem cO_one(f:FP)(m:PM):(cO f m).all (·.oneCell')=true:=by simp[cO,Value.oneCell']
structure Row28 (X:Array Value):Prop where
 size:X.size=28
 one:X.all (·.oneCell')=true
 cl:Cl X
theorem Row28.set{X:Array Value}(h:Row28 X){j:Nat}{y:Value}(h1:y.oneCell'=true)(h2:NoLimb y):Row28 (X.setIfInBounds j y):=by
 refine⟨by rw[Array.size_setIfInBounds];exact h.size,?_,fun x hx=>?_⟩
 ·rw[Array.all_eq_true_iff_forall_mem]
  intro x hx;rcases Array.mem_or_eq_of_mem_setIfInBounds hx with hx|rfl
  ·exact Array.all_eq_true_iff_forall_mem.1 h.one x hx
  ·exact h1
 ·rcases Array.mem_or_eq_of_mem_setIfInBounds (Array.mem_toList_iff.1 hx) with hx|rfl
  ·exact h.cl x (by simpa using hx)
  ·exact h2
theorem row28_cO(f:FP)(m:PM):Row28 (cO f m):=by
 refine⟨rfl,cO_one f m,fun x hx=>?_⟩;simp only[cO,List.mem_cons,List.not_mem_nil,or_false] at hx
 rcases hx with rfl|rfl|rfl|rfl|rfl|rfl|rfl|rfl|rfl|rfl|rfl|rfl|rfl|rfl|rfl|rfl|rfl|rfl|rfl|rfl|rfl|rfl|rfl|rfl|rfl|rfl|rfl|rfl<;>exact fun k h=>by cases h
theorem st_new28{X:Array Value}(hX:Row28 X):∀w:World,(storeCells ⟨w.heap.size,0,none⟩ X.toList 0).run Tryz.prog (w.alloc (.cells #[.string ⟨#[]⟩,.string ⟨#[]⟩,.bool false,.bool false,.slice none 0 0,.int .i64 0,.string ⟨#[]⟩,.bool false,.bool false,.bool false,.bool false,.slice none 0 0,.int .i64 0,.string ⟨#[]⟩,.int .i64 0,.int .i64 0,.int .i64 0,.string ⟨#[]⟩,.bool false,.bool false,.bool false,.bool false,.slice none 0 0,.int .i64 0,.string ⟨#[]⟩,.slice none 0 0,.int .i64 0,.int .i64 0] 47))=.ok () (w.alloc (.cells X 47)):=fun w=>
 run_storeCells_new (P:=Tryz.prog) w 47 _ _ (by rw[post_size,hX.size]) (by rw[hX.size];rfl) hX.one
theorem st_row28{w:World}{g:Nat}{X Z:Array Value}{t:TypeId}(hX:Row28 X)(hz:Z.size=28)(hb:w.heap[g]?=some (.cells Z t (0,0))):(storeCells ⟨g,0,none⟩ X.toList 0).run Tryz.prog w=.ok () (w.setRow g X):=by
 have q:=run_storeCells_from (P:=Tryz.prog) g t X.toList 0 Z w hb (by rw[hz,Array.length_toList,hX.size]) (fun v hv=>(Array.all_eq_true_iff_forall_mem.1 hX.one) v (by simpa using hv));rw[List.take_zero,List.nil_append] at q;exact q
def resPo:RH Po→Option Po×Nat×Nat
 | .inl (e,p)=>(none,p,e)
 | .inr (d,p)=>(some d,p,0)
def resMe:RH (ByteArray×ByteArray)→(ByteArray×ByteArray)×Nat×Nat
 | .inl (e,p)=>((⟨#[]⟩,⟨#[]⟩),p,e)
 | .inr (d,p)=>(d,p,0)
def RvO(w:World)(o:Option Po)(p e:Nat)(en:Ending)(w':World):Prop:=∃m:PM,en=.returned (.tuple #[.agg (cO (fpOf o) m),.int .i64 (p:Int),.int .i64 (e:Int)])∧MP w' (fpOf o) m∧Below w.heap.size w w'
def READO:Prop:=∀{w:World}{B n c:Nat}{A:Option Addr}{L:List Tk4}{G:Nat→Nat→Int→Nat→Prop}{o:Option Po}{p e:Nat},RdK w B A n c L→B≤w.heap.size→n≤400→Siz (L.map tok) G→Ok12 w→resPo (pst (L.map tok))=(o,p,e)→Calls Tryz.prog 6 #[.slice A n c] w (RvO w o p e)
def TEXTO:Prop:=∀{w:World}{m:PM}{d:Po}{T:ByteArray},MP w (fpOf (some d)) m→d.fit→T.size≤4000→Ok12 w→poT d=bs9 T→Calls Tryz.prog 8 #[.agg (cO (fpOf (some d)) m)] w (Ret9 w (.string T))
def sameO(f f':FP):Bool:=decide (bs9 f.flag=bs9 f'.flag)&&(decide (bs9 f.acc=bs9 f'.acc)&&(sameU f.u f'.u&&(sameC f.c f'.c&&sameP f.p f'.p)))
theorem sameO_refl(f:FP):sameO f f=true:=by
 unfold sameO;rw[decide_eq_true rfl,decide_eq_true rfl,sameU_refl,sameC_refl,sameP_refl];rfl
def SAMEO:Prop:=∀{w:World}{m m':PM}{f f':FP}{x:Bool},MP w f m→MP w f' m'→Ok12 w→sameO f f'=x→Calls Tryz.prog 9 #[.agg (cO f m),.agg (cO f' m')] w (Ret9 w (.bool x))
def READM:Prop:=∀{w:World}{B n c:Nat}{A:Option Addr}{L:List Tk4}{G:Nat→Nat→Int→Nat→Prop}{o:ByteArray×ByteArray}{p e:Nat},RdK w B A n c L→B≤w.heap.size→n≤400→Siz (L.map tok) G→Ok12 w→resMe (met (L.map tok))=(o,p,e)→Calls Tryz.prog 10 #[.slice A n c] w (Ret9 w (.tuple #[.agg #[.string o.1,.string o.2],.int .i64 (p:Int),.int .i64 (e:Int)]))
def TEXTM:Prop:=∀{w:World}{m:ByteArray×ByteArray}{T:ByteArray},m.1.size≤300→m.2.size≤300→meT m=bs9 T→Calls Tryz.prog 12 #[.agg #[.string m.1,.string m.2]] w (Ret9 w (.string T))
def AWK16:Prop:=∀w:World,Ok12 w→Calls Tryz.prog 4 #[] w (Ret9 w (.bool true))
structure S16 (w0 w:World) (ms:List (FP×PM)) (bs:List (Nat×Array Value×TypeId)):Prop where
 bel:Below w0.heap.size w0 w
 md:∀q∈ms,MP w q.1 q.2
 blk:∀q∈bs,w.heap[q.1]?=some (.cells q.2.1 q.2.2 (0,0))
section
variable {w0 w w':World}{ms:List (FP×PM)}{bs:List (Nat×Array Value×TypeId)}
theorem S16.start(w:World):S16 w w [] []:=⟨Below.refl _ _,fun q hq=>(by cases hq),fun q hq=>(by cases hq)⟩
theorem S16.step(h:S16 w0 w ms bs)(hb:Below w.heap.size w w'):S16 w0 w' ms bs:=⟨h.bel.trans (hb.mono h.bel.size),fun q hq=>(h.md q hq).on hb,fun q hq=>(hb.block _ (blk_lt (h.blk q hq))).trans (h.blk q hq)⟩
theorem S16.push(h:S16 w0 w ms bs)(hb:Below w.heap.size w w'){f:FP}{m:PM}(hm:MP w' f m):S16 w0 w' ((f,m)::ms) bs:=by
 have h2:=h.step hb;refine⟨h2.bel,fun q hq=>?_,h2.blk⟩;rcases List.mem_cons.1 hq with rfl|hq
 ·exact hm
 ·exact h2.md q hq
theorem S16.lay(h:S16 w0 w ms bs)(xs:Array Value)(t:TypeId){g:Nat}(hg:g=w.heap.size):S16 w0 (w.alloc (.cells xs t)) ms ((g,xs,t)::bs):=by
 have h2:=h.step ((Below.refl _ _).alloc (Nat.le_refl _) (.cells xs t));refine⟨h2.bel,h2.md,fun q hq=>?_⟩;rcases List.mem_cons.1 hq with rfl|hq
 ·subst hg;exact heap_alloc_new w _
 ·exact h2.blk q hq
theorem S16.at_{g:Nat}{xs:Array Value}{t:TypeId}(h:Hid (S16 w0 w ms bs))(hm:(g,xs,t)∈bs)(j:Nat):w.cell? ⟨g,j,none⟩=xs[j]?:=cell_of_row w g j _ _ _ (h.out.blk _ hm)
theorem S16.got{f:FP}{m:PM}(h:Hid (S16 w0 w ms bs))(hm:(f,m)∈ms):MP w f m:=h.out.md _ hm
theorem S16.lt{g:Nat}{xs:Array Value}{t:TypeId}(h:Hid (S16 w0 w ms bs))(hm:(g,xs,t)∈bs):g<w.heap.size:=blk_lt (h.out.blk _ hm)
end
theorem MP.row16{w:World}{f:FP}{m:PM}{g:Nat}{xs cs:Array Value}{t:TypeId}(h:MP w f m)(hb:w.heap[g]?=some (.cells xs t (0,0)))(hc:∀x∈xs.toList,NoLimb x):MP (w.setRow g cs) f m:=
 ⟨(Lim.row15 h.u hb hc).more (by simp),(Lim.row15 h.c hb hc).more (by simp),(Lim.row15 h.p hb hc).more (by simp)⟩
theorem S16.atv{w0 w:World}{ms:List (FP×PM)}{bs:List (Nat×Array Value×TypeId)}{g:Nat}{xs:Array Value}{t:TypeId}{y:Value}(h:Hid (S16 w0 w ms bs))(j:Nat)(hm:(g,xs,t)∈bs)(hj:xs[j]?=some y):w.cell? ⟨g,j,none⟩=some y:=(S16.at_ h hm j).trans hj
theorem meq_nil{w:World}{A A':Option Addr}{c c':Nat}:Calls Tryz.prog 31 #[.slice A 0 c,.slice A' 0 c'] w (Ret9 w (.bool true)):=by
 go_enter Tryz.func31,Tryz.ntmps31;go_wp2;refine wp_loop_rounds 1 ?_;rw[rounds_succ];go_wp2;go_ret;exact⟨rfl,Below.refl _ _⟩
theorem meq_len{w:World}{A A':Option Addr}{c c':Nat}:Calls Tryz.prog 31 #[.slice A 1 c,.slice A' 0 c'] w (Ret9 w (.bool false)):=by
 go_enter Tryz.func31,Tryz.ntmps31;go_wp2;go_ret;exact⟨rfl,Below.refl _ _⟩
theorem meq_one{w:World}{g g' c c':Nat}{k x:ByteArray}(h:Bk w g #[.string k,.string x] 55)(h':Bk w g' #[.string k,.string x] 55)(hc:1≤c)(hc':1≤c'):Calls Tryz.prog 31 #[.slice (some ⟨g,0,none⟩) 1 c,.slice (some ⟨g',0,none⟩) 1 c'] w (Ret9 w (.bool true)):=by
 have a0:=(h.cell 0).trans (show(#[Value.string k,Value.string x]:Array Value)[0]?=some (.string k) from rfl);have a1:=(h.cell 1).trans (show(#[Value.string k,Value.string x]:Array Value)[1]?=some (.string x) from rfl);have b0:=(h'.cell 0).trans (show(#[Value.string k,Value.string x]:Array Value)[0]?=some (.string k) from rfl);have b1:=(h'.cell 1).trans (show(#[Value.string k,Value.string x]:Array Value)[1]?=some (.string x) from rfl);have d6:(k.toList == k.toList)=true:=beq_self_eq_true _;have d7:(x.toList == x.toList)=true:=beq_self_eq_true _;clear h h';go_enter Tryz.func31,Tryz.ntmps31;go_wp2;refine wp_loop_rounds 2 ?_;rw[rounds_succ];go_wp2;go_quiet (fail)
 have hb:=below_drewN (Below.refl w.heap.size w) nq;go_wp2;rw[rounds_succ];go_wp2;go_ret;exact⟨rfl,hb⟩
theorem smeta_of{w:World}{a b:Value}{x:Bool}(h:Calls Tryz.prog 31 #[a,b] w (Ret9 w (.bool x))):Calls Tryz.prog 13 #[a,b] w (Ret9 w (.bool x)):=by
 have H:=Jh h;clear h;go_enter Tryz.func13,Tryz.ntmps13;go_wp2_with fail;refine H.out.mono ?_;rintro e w1 ⟨rfl,hb⟩;go_wp2_with fail;go_ret;exact⟨rfl,hb⟩
theorem sames16:SAMEO:=by
 intro w m m2 f f2 x hm hm2 hok hx;have OK:Hid (∀{W:World},Below w.heap.size w W→Ok12 W):=fun hb=>okw12 hok hb
 obtain⟨b0,hb0⟩:∃b,decide (bs9 f.flag=bs9 f2.flag)=b:=⟨_,rfl⟩;obtain⟨b1,hb1⟩:∃b,decide (bs9 f.acc=bs9 f2.acc)=b:=⟨_,rfl⟩;obtain⟨b2,hb2⟩:∃b,sameU f.u f2.u=b:=⟨_,rfl⟩;obtain⟨b3,hb3⟩:∃b,sameC f.c f2.c=b:=⟨_,rfl⟩;obtain⟨b4,hb4⟩:∃b,sameP f.p f2.p=b:=⟨_,rfl⟩;have HXX:Hid ((b0&&(b1&&(b2&&(b3&&b4))))=x):=by show _=_;rw[← hx,← hb0,← hb1,← hb2,← hb3,← hb4];rfl
 have d0:(f.flag.toList == f2.flag.toList)=b0:=by rw[txt_eq,hb0]
 have d1:(f.acc.toList == f2.acc.toList)=b1:=by rw[txt_eq,hb1]
 have SU:Hid (∀{W:World},Below w.heap.size w W→Calls Tryz.prog 25 #[.agg #[.bool f.u.b,.bool (ngB f.u.i),.slice m.A m.n m.c,.int .i64 (f.u.k:Int),.string f.u.s],.agg #[.bool f2.u.b,.bool (ngB f2.u.i),.slice m2.A m2.n m2.c,.int .i64 (f2.u.k:Int),.string f2.u.s]] W (Ret9 W (.bool b2))):=fun h=>sameu14 (v:=f.u) (v':=f2.u) (hm.u.on h) (hm2.u.on h) (OK.out h) hb2
 have SC:Hid (∀{W:World},Below w.heap.size w W→Calls Tryz.prog 26 #[.agg #[.bool f.c.h,.bool f.c.t,.bool f.c.b,.bool (ngB f.c.i),.slice m.Ac m.nc m.cc,.int .i64 (f.c.k:Int),.string f.c.s,.int .i64 f.c.y,.int .i64 f.c.m,.int .i64 f.c.d,.string f.c.l],.agg #[.bool f2.c.h,.bool f2.c.t,.bool f2.c.b,.bool (ngB f2.c.i),.slice m2.Ac m2.nc m2.cc,.int .i64 (f2.c.k:Int),.string f2.c.s,.int .i64 f2.c.y,.int .i64 f2.c.m,.int .i64 f2.c.d,.string f2.c.l]] W (Ret9 W (.bool b3))):=fun h=>samec14 (v:=f.c) (v':=f2.c) (hm.c.on h) (hm2.c.on h) (OK.out h) hb3
 have SP:Hid (∀{W:World},Below w.heap.size w W→Calls Tryz.prog 27 #[.agg #[.bool f.p.h,.bool f.p.t,.bool f.p.b,.bool (ngB f.p.i),.slice m.Ap m.np m.cp,.int .i64 (f.p.k:Int),.string f.p.s],.agg #[.bool f2.p.h,.bool f2.p.t,.bool f2.p.b,.bool (ngB f2.p.i),.slice m2.Ap m2.np m2.cp,.int .i64 (f2.p.k:Int),.string f2.p.s]] W (Ret9 W (.bool b4))):=fun h=>samep14 (v:=f.p) (v':=f2.p) (hm.p.on h) (hm2.p.on h) (OK.out h) hb4
 have SMN:Hid (∀{W:World},Calls Tryz.prog 13 #[.slice none 0 0,.slice none 0 0] W (Ret9 W (.bool true))):=fun {W}=>smeta_of meq_nil
 have E:Hid (S16 w ((w.alloc (.cells (cO f m) 47)).alloc (.cells (cO f2 m2) 47)) [] [(w.heap.size,cO f m,47),(w.heap.size+1,cO f2 m2,47)]):=by
  have q:=((S16.start w).lay (cO f m) 47 (g:=w.heap.size) rfl).lay (cO f2 m2) 47 (g:=w.heap.size+1) (by simp);exact⟨q.bel,q.md,fun z hz=>q.blk z (by simp at hz ⊢;exact hz.symm)⟩
 obtain⟨X,hX⟩:∃X,cO f m=X:=⟨_,rfl⟩;obtain⟨X2,hX2⟩:∃X,cO f2 m2=X:=⟨_,rfl⟩;have HX:=Jh hX;have HX2:=Jh hX2;rw[hX,hX2] at E ⊢;clear hX hX2 hm hm2 hok hx hb0 hb1 hb2 hb3 hb4;cases b0 with
 | false=>
  go_enter Tryz.func9,Tryz.ntmps9;go_upto_region 1 with fail
  generalize hW:World.alloc (World.alloc w _) _=W1 at E ⊢;clear hW;rw[← HX.out,← HX2.out] at E;have a0:=S16.atv E 0 (g:=w.heap.size) (xs:=cO f m) (t:=47) (y:=.string f.flag) List.mem_cons_self rfl;have b0:=S16.atv E 0 (g:=w.heap.size+1) (xs:=cO f2 m2) (t:=47) (y:=.string f2.flag) (List.mem_cons_of_mem _ List.mem_cons_self) rfl;have al:=S16.lt E (g:=w.heap.size) (xs:=cO f m) (t:=47) List.mem_cons_self;have bl:=S16.lt E (g:=w.heap.size+1) (xs:=cO f2 m2) (t:=47) (List.mem_cons_of_mem _ List.mem_cons_self);go_wp2_with fail;go_ret;exact⟨by rw[← HXX.out];rfl,E.out.bel⟩
 | true=>
  cases b1 with
  | false=>
   go_enter Tryz.func9,Tryz.ntmps9;go_upto_region 1 with fail
   generalize hW:World.alloc (World.alloc w _) _=W1 at E ⊢;clear hW;rw[← HX.out,← HX2.out] at E;have a0:=S16.atv E 0 (g:=w.heap.size) (xs:=cO f m) (t:=47) (y:=.string f.flag) List.mem_cons_self rfl;have a1:=S16.atv E 1 (g:=w.heap.size) (xs:=cO f m) (t:=47) (y:=.string f.acc) List.mem_cons_self rfl;have b0:=S16.atv E 0 (g:=w.heap.size+1) (xs:=cO f2 m2) (t:=47) (y:=.string f2.flag) (List.mem_cons_of_mem _ List.mem_cons_self) rfl;have b1:=S16.atv E 1 (g:=w.heap.size+1) (xs:=cO f2 m2) (t:=47) (y:=.string f2.acc) (List.mem_cons_of_mem _ List.mem_cons_self) rfl;have al:=S16.lt E (g:=w.heap.size) (xs:=cO f m) (t:=47) List.mem_cons_self;have bl:=S16.lt E (g:=w.heap.size+1) (xs:=cO f2 m2) (t:=47) (List.mem_cons_of_mem _ List.mem_cons_self);go_wp2_with fail;go_ret;exact⟨by rw[← HXX.out];rfl,E.out.bel⟩
  | true=>
   cases b2 with
   | false=>
    go_enter Tryz.func9,Tryz.ntmps9;go_upto_region 1 with fail
    generalize hW:World.alloc (World.alloc w _) _=W1 at E ⊢;clear hW;rw[← HX.out,← HX2.out] at E;have a0:=S16.atv E 0 (g:=w.heap.size) (xs:=cO f m) (t:=47) (y:=.string f.flag) List.mem_cons_self rfl;have a1:=S16.atv E 1 (g:=w.heap.size) (xs:=cO f m) (t:=47) (y:=.string f.acc) List.mem_cons_self rfl;have a2:=S16.atv E 2 (g:=w.heap.size) (xs:=cO f m) (t:=47) (y:=.bool f.u.b) List.mem_cons_self rfl;have a3:=S16.atv E 3 (g:=w.heap.size) (xs:=cO f m) (t:=47) (y:=.bool (ngB f.u.i)) List.mem_cons_self rfl;have a4:=S16.atv E 4 (g:=w.heap.size) (xs:=cO f m) (t:=47) (y:=.slice m.A m.n m.c) List.mem_cons_self rfl;have a5:=S16.atv E 5 (g:=w.heap.size) (xs:=cO f m) (t:=47) (y:=.int .i64 (f.u.k:Int)) List.mem_cons_self rfl;have a6:=S16.atv E 6 (g:=w.heap.size) (xs:=cO f m) (t:=47) (y:=.string f.u.s) List.mem_cons_self rfl;have b0:=S16.atv E 0 (g:=w.heap.size+1) (xs:=cO f2 m2) (t:=47) (y:=.string f2.flag) (List.mem_cons_of_mem _ List.mem_cons_self) rfl;have b1:=S16.atv E 1 (g:=w.heap.size+1) (xs:=cO f2 m2) (t:=47) (y:=.string f2.acc) (List.mem_cons_of_mem _ List.mem_cons_self) rfl;have b2:=S16.atv E 2 (g:=w.heap.size+1) (xs:=cO f2 m2) (t:=47) (y:=.bool f2.u.b) (List.mem_cons_of_mem _ List.mem_cons_self) rfl;have b3:=S16.atv E 3 (g:=w.heap.size+1) (xs:=cO f2 m2) (t:=47) (y:=.bool (ngB f2.u.i)) (List.mem_cons_of_mem _ List.mem_cons_self) rfl;have b4:=S16.atv E 4 (g:=w.heap.size+1) (xs:=cO f2 m2) (t:=47) (y:=.slice m2.A m2.n m2.c) (List.mem_cons_of_mem _ List.mem_cons_self) rfl;have b5:=S16.atv E 5 (g:=w.heap.size+1) (xs:=cO f2 m2) (t:=47) (y:=.int .i64 (f2.u.k:Int)) (List.mem_cons_of_mem _ List.mem_cons_self) rfl;have b6:=S16.atv E 6 (g:=w.heap.size+1) (xs:=cO f2 m2) (t:=47) (y:=.string f2.u.s) (List.mem_cons_of_mem _ List.mem_cons_self) rfl;have al:=S16.lt E (g:=w.heap.size) (xs:=cO f m) (t:=47) List.mem_cons_self;have bl:=S16.lt E (g:=w.heap.size+1) (xs:=cO f2 m2) (t:=47) (List.mem_cons_of_mem _ List.mem_cons_self);go_wp2_with fail;clear a0 b0 a1 b1 a2 b2 a3 b3 a4 b4 a5 b5 a6 b6 al bl;refine(SU.out E.out.bel).mono ?_;rintro e0 v0 ⟨rfl,hb⟩;replace E:=Jh (E.out.step hb);clear hb;go_wp2_with fail;go_ret;exact⟨by rw[← HXX.out];rfl,E.out.bel⟩
   | true=>
    cases b3 with
    | false=>
     go_enter Tryz.func9,Tryz.ntmps9;go_upto_region 1 with fail
     generalize hW:World.alloc (World.alloc w _) _=W1 at E ⊢;clear hW;rw[← HX.out,← HX2.out] at E;have a0:=S16.atv E 0 (g:=w.heap.size) (xs:=cO f m) (t:=47) (y:=.string f.flag) List.mem_cons_self rfl;have a1:=S16.atv E 1 (g:=w.heap.size) (xs:=cO f m) (t:=47) (y:=.string f.acc) List.mem_cons_self rfl;have a2:=S16.atv E 2 (g:=w.heap.size) (xs:=cO f m) (t:=47) (y:=.bool f.u.b) List.mem_cons_self rfl;have a3:=S16.atv E 3 (g:=w.heap.size) (xs:=cO f m) (t:=47) (y:=.bool (ngB f.u.i)) List.mem_cons_self rfl;have a4:=S16.atv E 4 (g:=w.heap.size) (xs:=cO f m) (t:=47) (y:=.slice m.A m.n m.c) List.mem_cons_self rfl;have a5:=S16.atv E 5 (g:=w.heap.size) (xs:=cO f m) (t:=47) (y:=.int .i64 (f.u.k:Int)) List.mem_cons_self rfl;have a6:=S16.atv E 6 (g:=w.heap.size) (xs:=cO f m) (t:=47) (y:=.string f.u.s) List.mem_cons_self rfl;have b0:=S16.atv E 0 (g:=w.heap.size+1) (xs:=cO f2 m2) (t:=47) (y:=.string f2.flag) (List.mem_cons_of_mem _ List.mem_cons_self) rfl;have b1:=S16.atv E 1 (g:=w.heap.size+1) (xs:=cO f2 m2) (t:=47) (y:=.string f2.acc) (List.mem_cons_of_mem _ List.mem_cons_self) rfl;have b2:=S16.atv E 2 (g:=w.heap.size+1) (xs:=cO f2 m2) (t:=47) (y:=.bool f2.u.b) (List.mem_cons_of_mem _ List.mem_cons_self) rfl;have b3:=S16.atv E 3 (g:=w.heap.size+1) (xs:=cO f2 m2) (t:=47) (y:=.bool (ngB f2.u.i)) (List.mem_cons_of_mem _ List.mem_cons_self) rfl;have b4:=S16.atv E 4 (g:=w.heap.size+1) (xs:=cO f2 m2) (t:=47) (y:=.slice m2.A m2.n m2.c) (List.mem_cons_of_mem _ List.mem_cons_self) rfl;have b5:=S16.atv E 5 (g:=w.heap.size+1) (xs:=cO f2 m2) (t:=47) (y:=.int .i64 (f2.u.k:Int)) (List.mem_cons_of_mem _ List.mem_cons_self) rfl;have b6:=S16.atv E 6 (g:=w.heap.size+1) (xs:=cO f2 m2) (t:=47) (y:=.string f2.u.s) (List.mem_cons_of_mem _ List.mem_cons_self) rfl;have al:=S16.lt E (g:=w.heap.size) (xs:=cO f m) (t:=47) List.mem_cons_self;have bl:=S16.lt E (g:=w.heap.size+1) (xs:=cO f2 m2) (t:=47) (List.mem_cons_of_mem _ List.mem_cons_self);go_wp2_with fail;clear a0 b0 a1 b1 a2 b2 a3 b3 a4 b4 a5 b5 a6 b6 al bl;refine(SU.out E.out.bel).mono ?_;rintro e0 v0 ⟨rfl,hb⟩;replace E:=Jh (E.out.step hb);clear hb;have a7:=S16.atv E 7 (g:=w.heap.size) (xs:=cO f m) (t:=47) (y:=.bool f.c.h) List.mem_cons_self rfl;have a8:=S16.atv E 8 (g:=w.heap.size) (xs:=cO f m) (t:=47) (y:=.bool f.c.t) List.mem_cons_self rfl;have a9:=S16.atv E 9 (g:=w.heap.size) (xs:=cO f m) (t:=47) (y:=.bool f.c.b) List.mem_cons_self rfl;have a10:=S16.atv E 10 (g:=w.heap.size) (xs:=cO f m) (t:=47) (y:=.bool (ngB f.c.i)) List.mem_cons_self rfl;have a11:=S16.atv E 11 (g:=w.heap.size) (xs:=cO f m) (t:=47) (y:=.slice m.Ac m.nc m.cc) List.mem_cons_self rfl;have a12:=S16.atv E 12 (g:=w.heap.size) (xs:=cO f m) (t:=47) (y:=.int .i64 (f.c.k:Int)) List.mem_cons_self rfl;have a13:=S16.atv E 13 (g:=w.heap.size) (xs:=cO f m) (t:=47) (y:=.string f.c.s) List.mem_cons_self rfl;have a14:=S16.atv E 14 (g:=w.heap.size) (xs:=cO f m) (t:=47) (y:=.int .i64 f.c.y) List.mem_cons_self rfl;have a15:=S16.atv E 15 (g:=w.heap.size) (xs:=cO f m) (t:=47) (y:=.int .i64 f.c.m) List.mem_cons_self rfl;have a16:=S16.atv E 16 (g:=w.heap.size) (xs:=cO f m) (t:=47) (y:=.int .i64 f.c.d) List.mem_cons_self rfl;have a17:=S16.atv E 17 (g:=w.heap.size) (xs:=cO f m) (t:=47) (y:=.string f.c.l) List.mem_cons_self rfl;have b7:=S16.atv E 7 (g:=w.heap.size+1) (xs:=cO f2 m2) (t:=47) (y:=.bool f2.c.h) (List.mem_cons_of_mem _ List.mem_cons_self) rfl;have b8:=S16.atv E 8 (g:=w.heap.size+1) (xs:=cO f2 m2) (t:=47) (y:=.bool f2.c.t) (List.mem_cons_of_mem _ List.mem_cons_self) rfl;have b9:=S16.atv E 9 (g:=w.heap.size+1) (xs:=cO f2 m2) (t:=47) (y:=.bool f2.c.b) (List.mem_cons_of_mem _ List.mem_cons_self) rfl;have b10:=S16.atv E 10 (g:=w.heap.size+1) (xs:=cO f2 m2) (t:=47) (y:=.bool (ngB f2.c.i)) (List.mem_cons_of_mem _ List.mem_cons_self) rfl;have b11:=S16.atv E 11 (g:=w.heap.size+1) (xs:=cO f2 m2) (t:=47) (y:=.slice m2.Ac m2.nc m2.cc) (List.mem_cons_of_mem _ List.mem_cons_self) rfl;have b12:=S16.atv E 12 (g:=w.heap.size+1) (xs:=cO f2 m2) (t:=47) (y:=.int .i64 (f2.c.k:Int)) (List.mem_cons_of_mem _ List.mem_cons_self) rfl;have b13:=S16.atv E 13 (g:=w.heap.size+1) (xs:=cO f2 m2) (t:=47) (y:=.string f2.c.s) (List.mem_cons_of_mem _ List.mem_cons_self) rfl;have b14:=S16.atv E 14 (g:=w.heap.size+1) (xs:=cO f2 m2) (t:=47) (y:=.int .i64 f2.c.y) (List.mem_cons_of_mem _ List.mem_cons_self) rfl;have b15:=S16.atv E 15 (g:=w.heap.size+1) (xs:=cO f2 m2) (t:=47) (y:=.int .i64 f2.c.m) (List.mem_cons_of_mem _ List.mem_cons_self) rfl;have b16:=S16.atv E 16 (g:=w.heap.size+1) (xs:=cO f2 m2) (t:=47) (y:=.int .i64 f2.c.d) (List.mem_cons_of_mem _ List.mem_cons_self) rfl;have b17:=S16.atv E 17 (g:=w.heap.size+1) (xs:=cO f2 m2) (t:=47) (y:=.string f2.c.l) (List.mem_cons_of_mem _ List.mem_cons_self) rfl;have al:=S16.lt E (g:=w.heap.size) (xs:=cO f m) (t:=47) List.mem_cons_self;have bl:=S16.lt E (g:=w.heap.size+1) (xs:=cO f2 m2) (t:=47) (List.mem_cons_of_mem _ List.mem_cons_self);go_wp2_with fail;clear a7 b7 a8 b8 a9 b9 a10 b10 a11 b11 a12 b12 a13 b13 a14 b14 a15 b15 a16 b16 a17 b17 al bl;refine(SC.out E.out.bel).mono ?_;rintro e1 v1 ⟨rfl,hb⟩;replace E:=Jh (E.out.step hb);clear hb;go_wp2_with fail;go_ret;exact⟨by rw[← HXX.out];rfl,E.out.bel⟩
    | true=>
     cases b4 with
     | false=>
      go_enter Tryz.func9,Tryz.ntmps9;go_upto_region 1 with fail
      generalize hW:World.alloc (World.alloc w _) _=W1 at E ⊢;clear hW;rw[← HX.out,← HX2.out] at E;have a0:=S16.atv E 0 (g:=w.heap.size) (xs:=cO f m) (t:=47) (y:=.string f.flag) List.mem_cons_self rfl;have a1:=S16.atv E 1 (g:=w.heap.size) (xs:=cO f m) (t:=47) (y:=.string f.acc) List.mem_cons_self rfl;have a2:=S16.atv E 2 (g:=w.heap.size) (xs:=cO f m) (t:=47) (y:=.bool f.u.b) List.mem_cons_self rfl;have a3:=S16.atv E 3 (g:=w.heap.size) (xs:=cO f m) (t:=47) (y:=.bool (ngB f.u.i)) List.mem_cons_self rfl;have a4:=S16.atv E 4 (g:=w.heap.size) (xs:=cO f m) (t:=47) (y:=.slice m.A m.n m.c) List.mem_cons_self rfl;have a5:=S16.atv E 5 (g:=w.heap.size) (xs:=cO f m) (t:=47) (y:=.int .i64 (f.u.k:Int)) List.mem_cons_self rfl;have a6:=S16.atv E 6 (g:=w.heap.size) (xs:=cO f m) (t:=47) (y:=.string f.u.s) List.mem_cons_self rfl;have b0:=S16.atv E 0 (g:=w.heap.size+1) (xs:=cO f2 m2) (t:=47) (y:=.string f2.flag) (List.mem_cons_of_mem _ List.mem_cons_self) rfl;have b1:=S16.atv E 1 (g:=w.heap.size+1) (xs:=cO f2 m2) (t:=47) (y:=.string f2.acc) (List.mem_cons_of_mem _ List.mem_cons_self) rfl;have b2:=S16.atv E 2 (g:=w.heap.size+1) (xs:=cO f2 m2) (t:=47) (y:=.bool f2.u.b) (List.mem_cons_of_mem _ List.mem_cons_self) rfl;have b3:=S16.atv E 3 (g:=w.heap.size+1) (xs:=cO f2 m2) (t:=47) (y:=.bool (ngB f2.u.i)) (List.mem_cons_of_mem _ List.mem_cons_self) rfl;have b4:=S16.atv E 4 (g:=w.heap.size+1) (xs:=cO f2 m2) (t:=47) (y:=.slice m2.A m2.n m2.c) (List.mem_cons_of_mem _ List.mem_cons_self) rfl;have b5:=S16.atv E 5 (g:=w.heap.size+1) (xs:=cO f2 m2) (t:=47) (y:=.int .i64 (f2.u.k:Int)) (List.mem_cons_of_mem _ List.mem_cons_self) rfl;have b6:=S16.atv E 6 (g:=w.heap.size+1) (xs:=cO f2 m2) (t:=47) (y:=.string f2.u.s) (List.mem_cons_of_mem _ List.mem_cons_self) rfl;have al:=S16.lt E (g:=w.heap.size) (xs:=cO f m) (t:=47) List.mem_cons_self;have bl:=S16.lt E (g:=w.heap.size+1) (xs:=cO f2 m2) (t:=47) (List.mem_cons_of_mem _ List.mem_cons_self);go_wp2_with fail;clear a0 b0 a1 b1 a2 b2 a3 b3 a4 b4 a5 b5 a6 b6 al bl;refine(SU.out E.out.bel).mono ?_;rintro e0 v0 ⟨rfl,hb⟩;replace E:=Jh (E.out.step hb);clear hb;have a7:=S16.atv E 7 (g:=w.heap.size) (xs:=cO f m) (t:=47) (y:=.bool f.c.h) List.mem_cons_self rfl;have a8:=S16.atv E 8 (g:=w.heap.size) (xs:=cO f m) (t:=47) (y:=.bool f.c.t) List.mem_cons_self rfl;have a9:=S16.atv E 9 (g:=w.heap.size) (xs:=cO f m) (t:=47) (y:=.bool f.c.b) List.mem_cons_self rfl;have a10:=S16.atv E 10 (g:=w.heap.size) (xs:=cO f m) (t:=47) (y:=.bool (ngB f.c.i)) List.mem_cons_self rfl;have a11:=S16.atv E 11 (g:=w.heap.size) (xs:=cO f m) (t:=47) (y:=.slice m.Ac m.nc m.cc) List.mem_cons_self rfl;have a12:=S16.atv E 12 (g:=w.heap.size) (xs:=cO f m) (t:=47) (y:=.int .i64 (f.c.k:Int)) List.mem_cons_self rfl;have a13:=S16.atv E 13 (g:=w.heap.size) (xs:=cO f m) (t:=47) (y:=.string f.c.s) List.mem_cons_self rfl;have a14:=S16.atv E 14 (g:=w.heap.size) (xs:=cO f m) (t:=47) (y:=.int .i64 f.c.y) List.mem_cons_self rfl;have a15:=S16.atv E 15 (g:=w.heap.size) (xs:=cO f m) (t:=47) (y:=.int .i64 f.c.m) List.mem_cons_self rfl;have a16:=S16.atv E 16 (g:=w.heap.size) (xs:=cO f m) (t:=47) (y:=.int .i64 f.c.d) List.mem_cons_self rfl;have a17:=S16.atv E 17 (g:=w.heap.size) (xs:=cO f m) (t:=47) (y:=.string f.c.l) List.mem_cons_self rfl;have b7:=S16.atv E 7 (g:=w.heap.size+1) (xs:=cO f2 m2) (t:=47) (y:=.bool f2.c.h) (List.mem_cons_of_mem _ List.mem_cons_self) rfl;have b8:=S16.atv E 8 (g:=w.heap.size+1) (xs:=cO f2 m2) (t:=47) (y:=.bool f2.c.t) (List.mem_cons_of_mem _ List.mem_cons_self) rfl;have b9:=S16.atv E 9 (g:=w.heap.size+1) (xs:=cO f2 m2) (t:=47) (y:=.bool f2.c.b) (List.mem_cons_of_mem _ List.mem_cons_self) rfl;have b10:=S16.atv E 10 (g:=w.heap.size+1) (xs:=cO f2 m2) (t:=47) (y:=.bool (ngB f2.c.i)) (List.mem_cons_of_mem _ List.mem_cons_self) rfl;have b11:=S16.atv E 11 (g:=w.heap.size+1) (xs:=cO f2 m2) (t:=47) (y:=.slice m2.Ac m2.nc m2.cc) (List.mem_cons_of_mem _ List.mem_cons_self) rfl;have b12:=S16.atv E 12 (g:=w.heap.size+1) (xs:=cO f2 m2) (t:=47) (y:=.int .i64 (f2.c.k:Int)) (List.mem_cons_of_mem _ List.mem_cons_self) rfl;have b13:=S16.atv E 13 (g:=w.heap.size+1) (xs:=cO f2 m2) (t:=47) (y:=.string f2.c.s) (List.mem_cons_of_mem _ List.mem_cons_self) rfl;have b14:=S16.atv E 14 (g:=w.heap.size+1) (xs:=cO f2 m2) (t:=47) (y:=.int .i64 f2.c.y) (List.mem_cons_of_mem _ List.mem_cons_self) rfl;have b15:=S16.atv E 15 (g:=w.heap.size+1) (xs:=cO f2 m2) (t:=47) (y:=.int .i64 f2.c.m) (List.mem_cons_of_mem _ List.mem_cons_self) rfl;have b16:=S16.atv E 16 (g:=w.heap.size+1) (xs:=cO f2 m2) (t:=47) (y:=.int .i64 f2.c.d) (List.mem_cons_of_mem _ List.mem_cons_self) rfl;have b17:=S16.atv E 17 (g:=w.heap.size+1) (xs:=cO f2 m2) (t:=47) (y:=.string f2.c.l) (List.mem_cons_of_mem _ List.mem_cons_self) rfl;have al:=S16.lt E (g:=w.heap.size) (xs:=cO f m) (t:=47) List.mem_cons_self;have bl:=S16.lt E (g:=w.heap.size+1) (xs:=cO f2 m2) (t:=47) (List.mem_cons_of_mem _ List.mem_cons_self);go_wp2_with fail;clear a7 b7 a8 b8 a9 b9 a10 b10 a11 b11 a12 b12 a13 b13 a14 b14 a15 b15 a16 b16 a17 b17 al bl;refine(SC.out E.out.bel).mono ?_;rintro e1 v1 ⟨rfl,hb⟩;replace E:=Jh (E.out.step hb);clear hb;have a18:=S16.atv E 18 (g:=w.heap.size) (xs:=cO f m) (t:=47) (y:=.bool f.p.h) List.mem_cons_self rfl;have a19:=S16.atv E 19 (g:=w.heap.size) (xs:=cO f m) (t:=47) (y:=.bool f.p.t) List.mem_cons_self rfl;have a20:=S16.atv E 20 (g:=w.heap.size) (xs:=cO f m) (t:=47) (y:=.bool f.p.b) List.mem_cons_self rfl;have a21:=S16.atv E 21 (g:=w.heap.size) (xs:=cO f m) (t:=47) (y:=.bool (ngB f.p.i)) List.mem_cons_self rfl;have a22:=S16.atv E 22 (g:=w.heap.size) (xs:=cO f m) (t:=47) (y:=.slice m.Ap m.np m.cp) List.mem_cons_self rfl;have a23:=S16.atv E 23 (g:=w.heap.size) (xs:=cO f m) (t:=47) (y:=.int .i64 (f.p.k:Int)) List.mem_cons_self rfl;have a24:=S16.atv E 24 (g:=w.heap.size) (xs:=cO f m) (t:=47) (y:=.string f.p.s) List.mem_cons_self rfl;have b18:=S16.atv E 18 (g:=w.heap.size+1) (xs:=cO f2 m2) (t:=47) (y:=.bool f2.p.h) (List.mem_cons_of_mem _ List.mem_cons_self) rfl;have b19:=S16.atv E 19 (g:=w.heap.size+1) (xs:=cO f2 m2) (t:=47) (y:=.bool f2.p.t) (List.mem_cons_of_mem _ List.mem_cons_self) rfl;have b20:=S16.atv E 20 (g:=w.heap.size+1) (xs:=cO f2 m2) (t:=47) (y:=.bool f2.p.b) (List.mem_cons_of_mem _ List.mem_cons_self) rfl;have b21:=S16.atv E 21 (g:=w.heap.size+1) (xs:=cO f2 m2) (t:=47) (y:=.bool (ngB f2.p.i)) (List.mem_cons_of_mem _ List.mem_cons_self) rfl;have b22:=S16.atv E 22 (g:=w.heap.size+1) (xs:=cO f2 m2) (t:=47) (y:=.slice m2.Ap m2.np m2.cp) (List.mem_cons_of_mem _ List.mem_cons_self) rfl;have b23:=S16.atv E 23 (g:=w.heap.size+1) (xs:=cO f2 m2) (t:=47) (y:=.int .i64 (f2.p.k:Int)) (List.mem_cons_of_mem _ List.mem_cons_self) rfl;have b24:=S16.atv E 24 (g:=w.heap.size+1) (xs:=cO f2 m2) (t:=47) (y:=.string f2.p.s) (List.mem_cons_of_mem _ List.mem_cons_self) rfl;have al:=S16.lt E (g:=w.heap.size) (xs:=cO f m) (t:=47) List.mem_cons_self;have bl:=S16.lt E (g:=w.heap.size+1) (xs:=cO f2 m2) (t:=47) (List.mem_cons_of_mem _ List.mem_cons_self);go_wp2_with fail;clear a18 b18 a19 b19 a20 b20 a21 b21 a22 b22 a23 b23 a24 b24 al bl;refine(SP.out E.out.bel).mono ?_;rintro e2 v2 ⟨rfl,hb⟩;replace E:=Jh (E.out.step hb);clear hb;go_wp2_with fail;go_ret;exact⟨by rw[← HXX.out];rfl,E.out.bel⟩
     | true=>
      go_enter Tryz.func9,Tryz.ntmps9;go_upto_region 1 with fail
      generalize hW:World.alloc (World.alloc w _) _=W1 at E ⊢;clear hW;rw[← HX.out,← HX2.out] at E;have a0:=S16.atv E 0 (g:=w.heap.size) (xs:=cO f m) (t:=47) (y:=.string f.flag) List.mem_cons_self rfl;have a1:=S16.atv E 1 (g:=w.heap.size) (xs:=cO f m) (t:=47) (y:=.string f.acc) List.mem_cons_self rfl;have a2:=S16.atv E 2 (g:=w.heap.size) (xs:=cO f m) (t:=47) (y:=.bool f.u.b) List.mem_cons_self rfl;have a3:=S16.atv E 3 (g:=w.heap.size) (xs:=cO f m) (t:=47) (y:=.bool (ngB f.u.i)) List.mem_cons_self rfl;have a4:=S16.atv E 4 (g:=w.heap.size) (xs:=cO f m) (t:=47) (y:=.slice m.A m.n m.c) List.mem_cons_self rfl;have a5:=S16.atv E 5 (g:=w.heap.size) (xs:=cO f m) (t:=47) (y:=.int .i64 (f.u.k:Int)) List.mem_cons_self rfl;have a6:=S16.atv E 6 (g:=w.heap.size) (xs:=cO f m) (t:=47) (y:=.string f.u.s) List.mem_cons_self rfl;have b0:=S16.atv E 0 (g:=w.heap.size+1) (xs:=cO f2 m2) (t:=47) (y:=.string f2.flag) (List.mem_cons_of_mem _ List.mem_cons_self) rfl;have b1:=S16.atv E 1 (g:=w.heap.size+1) (xs:=cO f2 m2) (t:=47) (y:=.string f2.acc) (List.mem_cons_of_mem _ List.mem_cons_self) rfl;have b2:=S16.atv E 2 (g:=w.heap.size+1) (xs:=cO f2 m2) (t:=47) (y:=.bool f2.u.b) (List.mem_cons_of_mem _ List.mem_cons_self) rfl;have b3:=S16.atv E 3 (g:=w.heap.size+1) (xs:=cO f2 m2) (t:=47) (y:=.bool (ngB f2.u.i)) (List.mem_cons_of_mem _ List.mem_cons_self) rfl;have b4:=S16.atv E 4 (g:=w.heap.size+1) (xs:=cO f2 m2) (t:=47) (y:=.slice m2.A m2.n m2.c) (List.mem_cons_of_mem _ List.mem_cons_self) rfl;have b5:=S16.atv E 5 (g:=w.heap.size+1) (xs:=cO f2 m2) (t:=47) (y:=.int .i64 (f2.u.k:Int)) (List.mem_cons_of_mem _ List.mem_cons_self) rfl;have b6:=S16.atv E 6 (g:=w.heap.size+1) (xs:=cO f2 m2) (t:=47) (y:=.string f2.u.s) (List.mem_cons_of_mem _ List.mem_cons_self) rfl;have al:=S16.lt E (g:=w.heap.size) (xs:=cO f m) (t:=47) List.mem_cons_self;have bl:=S16.lt E (g:=w.heap.size+1) (xs:=cO f2 m2) (t:=47) (List.mem_cons_of_mem _ List.mem_cons_self);go_wp2_with fail;clear a0 b0 a1 b1 a2 b2 a3 b3 a4 b4 a5 b5 a6 b6 al bl;refine(SU.out E.out.bel).mono ?_;rintro e0 v0 ⟨rfl,hb⟩;replace E:=Jh (E.out.step hb);clear hb;have a7:=S16.atv E 7 (g:=w.heap.size) (xs:=cO f m) (t:=47) (y:=.bool f.c.h) List.mem_cons_self rfl;have a8:=S16.atv E 8 (g:=w.heap.size) (xs:=cO f m) (t:=47) (y:=.bool f.c.t) List.mem_cons_self rfl;have a9:=S16.atv E 9 (g:=w.heap.size) (xs:=cO f m) (t:=47) (y:=.bool f.c.b) List.mem_cons_self rfl;have a10:=S16.atv E 10 (g:=w.heap.size) (xs:=cO f m) (t:=47) (y:=.bool (ngB f.c.i)) List.mem_cons_self rfl;have a11:=S16.atv E 11 (g:=w.heap.size) (xs:=cO f m) (t:=47) (y:=.slice m.Ac m.nc m.cc) List.mem_cons_self rfl;have a12:=S16.atv E 12 (g:=w.heap.size) (xs:=cO f m) (t:=47) (y:=.int .i64 (f.c.k:Int)) List.mem_cons_self rfl;have a13:=S16.atv E 13 (g:=w.heap.size) (xs:=cO f m) (t:=47) (y:=.string f.c.s) List.mem_cons_self rfl;have a14:=S16.atv E 14 (g:=w.heap.size) (xs:=cO f m) (t:=47) (y:=.int .i64 f.c.y) List.mem_cons_self rfl;have a15:=S16.atv E 15 (g:=w.heap.size) (xs:=cO f m) (t:=47) (y:=.int .i64 f.c.m) List.mem_cons_self rfl;have a16:=S16.atv E 16 (g:=w.heap.size) (xs:=cO f m) (t:=47) (y:=.int .i64 f.c.d) List.mem_cons_self rfl;have a17:=S16.atv E 17 (g:=w.heap.size) (xs:=cO f m) (t:=47) (y:=.string f.c.l) List.mem_cons_self rfl;have b7:=S16.atv E 7 (g:=w.heap.size+1) (xs:=cO f2 m2) (t:=47) (y:=.bool f2.c.h) (List.mem_cons_of_mem _ List.mem_cons_self) rfl;have b8:=S16.atv E 8 (g:=w.heap.size+1) (xs:=cO f2 m2) (t:=47) (y:=.bool f2.c.t) (List.mem_cons_of_mem _ List.mem_cons_self) rfl;have b9:=S16.atv E 9 (g:=w.heap.size+1) (xs:=cO f2 m2) (t:=47) (y:=.bool f2.c.b) (List.mem_cons_of_mem _ List.mem_cons_self) rfl;have b10:=S16.atv E 10 (g:=w.heap.size+1) (xs:=cO f2 m2) (t:=47) (y:=.bool (ngB f2.c.i)) (List.mem_cons_of_mem _ List.mem_cons_self) rfl;have b11:=S16.atv E 11 (g:=w.heap.size+1) (xs:=cO f2 m2) (t:=47) (y:=.slice m2.Ac m2.nc m2.cc) (List.mem_cons_of_mem _ List.mem_cons_self) rfl;have b12:=S16.atv E 12 (g:=w.heap.size+1) (xs:=cO f2 m2) (t:=47) (y:=.int .i64 (f2.c.k:Int)) (List.mem_cons_of_mem _ List.mem_cons_self) rfl;have b13:=S16.atv E 13 (g:=w.heap.size+1) (xs:=cO f2 m2) (t:=47) (y:=.string f2.c.s) (List.mem_cons_of_mem _ List.mem_cons_self) rfl;have b14:=S16.atv E 14 (g:=w.heap.size+1) (xs:=cO f2 m2) (t:=47) (y:=.int .i64 f2.c.y) (List.mem_cons_of_mem _ List.mem_cons_self) rfl;have b15:=S16.atv E 15 (g:=w.heap.size+1) (xs:=cO f2 m2) (t:=47) (y:=.int .i64 f2.c.m) (List.mem_cons_of_mem _ List.mem_cons_self) rfl;have b16:=S16.atv E 16 (g:=w.heap.size+1) (xs:=cO f2 m2) (t:=47) (y:=.int .i64 f2.c.d) (List.mem_cons_of_mem _ List.mem_cons_self) rfl;have b17:=S16.atv E 17 (g:=w.heap.size+1) (xs:=cO f2 m2) (t:=47) (y:=.string f2.c.l) (List.mem_cons_of_mem _ List.mem_cons_self) rfl;have al:=S16.lt E (g:=w.heap.size) (xs:=cO f m) (t:=47) List.mem_cons_self;have bl:=S16.lt E (g:=w.heap.size+1) (xs:=cO f2 m2) (t:=47) (List.mem_cons_of_mem _ List.mem_cons_self);go_wp2_with fail;clear a7 b7 a8 b8 a9 b9 a10 b10 a11 b11 a12 b12 a13 b13 a14 b14 a15 b15 a16 b16 a17 b17 al bl;refine(SC.out E.out.bel).mono ?_;rintro e1 v1 ⟨rfl,hb⟩;replace E:=Jh (E.out.step hb);clear hb;have a18:=S16.atv E 18 (g:=w.heap.size) (xs:=cO f m) (t:=47) (y:=.bool f.p.h) List.mem_cons_self rfl;have a19:=S16.atv E 19 (g:=w.heap.size) (xs:=cO f m) (t:=47) (y:=.bool f.p.t) List.mem_cons_self rfl;have a20:=S16.atv E 20 (g:=w.heap.size) (xs:=cO f m) (t:=47) (y:=.bool f.p.b) List.mem_cons_self rfl;have a21:=S16.atv E 21 (g:=w.heap.size) (xs:=cO f m) (t:=47) (y:=.bool (ngB f.p.i)) List.mem_cons_self rfl;have a22:=S16.atv E 22 (g:=w.heap.size) (xs:=cO f m) (t:=47) (y:=.slice m.Ap m.np m.cp) List.mem_cons_self rfl;have a23:=S16.atv E 23 (g:=w.heap.size) (xs:=cO f m) (t:=47) (y:=.int .i64 (f.p.k:Int)) List.mem_cons_self rfl;have a24:=S16.atv E 24 (g:=w.heap.size) (xs:=cO f m) (t:=47) (y:=.string f.p.s) List.mem_cons_self rfl;have b18:=S16.atv E 18 (g:=w.heap.size+1) (xs:=cO f2 m2) (t:=47) (y:=.bool f2.p.h) (List.mem_cons_of_mem _ List.mem_cons_self) rfl;have b19:=S16.atv E 19 (g:=w.heap.size+1) (xs:=cO f2 m2) (t:=47) (y:=.bool f2.p.t) (List.mem_cons_of_mem _ List.mem_cons_self) rfl;have b20:=S16.atv E 20 (g:=w.heap.size+1) (xs:=cO f2 m2) (t:=47) (y:=.bool f2.p.b) (List.mem_cons_of_mem _ List.mem_cons_self) rfl;have b21:=S16.atv E 21 (g:=w.heap.size+1) (xs:=cO f2 m2) (t:=47) (y:=.bool (ngB f2.p.i)) (List.mem_cons_of_mem _ List.mem_cons_self) rfl;have b22:=S16.atv E 22 (g:=w.heap.size+1) (xs:=cO f2 m2) (t:=47) (y:=.slice m2.Ap m2.np m2.cp) (List.mem_cons_of_mem _ List.mem_cons_self) rfl;have b23:=S16.atv E 23 (g:=w.heap.size+1) (xs:=cO f2 m2) (t:=47) (y:=.int .i64 (f2.p.k:Int)) (List.mem_cons_of_mem _ List.mem_cons_self) rfl;have b24:=S16.atv E 24 (g:=w.heap.size+1) (xs:=cO f2 m2) (t:=47) (y:=.string f2.p.s) (List.mem_cons_of_mem _ List.mem_cons_self) rfl;have al:=S16.lt E (g:=w.heap.size) (xs:=cO f m) (t:=47) List.mem_cons_self;have bl:=S16.lt E (g:=w.heap.size+1) (xs:=cO f2 m2) (t:=47) (List.mem_cons_of_mem _ List.mem_cons_self);go_wp2_with fail;clear a18 b18 a19 b19 a20 b20 a21 b21 a22 b22 a23 b23 a24 b24 al bl;refine(SP.out E.out.bel).mono ?_;rintro e2 v2 ⟨rfl,hb⟩;replace E:=Jh (E.out.step hb);clear hb;have a25:=S16.atv E 25 (g:=w.heap.size) (xs:=cO f m) (t:=47) (y:=.slice none 0 0) List.mem_cons_self rfl;have b25:=S16.atv E 25 (g:=w.heap.size+1) (xs:=cO f2 m2) (t:=47) (y:=.slice none 0 0) (List.mem_cons_of_mem _ List.mem_cons_self) rfl;have al:=S16.lt E (g:=w.heap.size) (xs:=cO f m) (t:=47) List.mem_cons_self;have bl:=S16.lt E (g:=w.heap.size+1) (xs:=cO f2 m2) (t:=47) (List.mem_cons_of_mem _ List.mem_cons_self);go_wp2_with fail;clear a25 b25 al bl;refine SMN.out.mono ?_;rintro e9 v9 ⟨rfl,hb⟩;replace E:=Jh (E.out.step hb);clear hb;go_wp2_with fail;go_ret;exact⟨by rw[← HXX.out];rfl,E.out.bel⟩
theorem textm16:TEXTM:=by
 intro w m T h1 h2 hT;obtain⟨k,x⟩:=m;obtain⟨K,hK⟩:∃K:ByteArray,YtpbbolgnnegmlaaGreatDoor.txt 9 (bs9 k)=bs9 K:=⟨st9 (bs9 k++[58]),(bs9_st9 (fun c hc=>by
  rcases List.mem_append.1 hc with h|h
  ·exact bs9_lt _ c h
  ·rw[List.mem_singleton.1 h];decide)).symm⟩
 obtain⟨Q,hQ⟩:∃Q:ByteArray,qt (bs9 x)=bs9 Q:=⟨st9 (qt (bs9 x)),(bs9_st9 (qt_lt (bs9_lt _))).symm⟩;obtain⟨Y,hY⟩:∃Y:ByteArray,bs9 K++[32]=bs9 Y:=⟨st9 (bs9 K++[32]),(bs9_st9 (fun c hc=>by
  rcases List.mem_append.1 hc with h|h
  ·exact bs9_lt _ c h
  ·rw[List.mem_singleton.1 h];decide)).symm⟩
 have hTT:bs9 Y++bs9 Q=bs9 T:=by
  rw[← hT,← hY,← hK,← hQ,List.append_assoc];rfl
 have hKs:K.size≤310:=by
  rw[← bs9_len,← hK];show(bs9 k++[58]).length≤_;rw[List.length_append,List.length_singleton,bs9_len];dsimp only at h1;omega
 have hYs:Y.size≤311:=by rw[← bs9_len,← hY,List.length_append,List.length_singleton,bs9_len];omega
 have hQs:Q.size≤700:=by
  rw[← bs9_len,← hQ];have:=qt_len (bs9 x);rw[bs9_len] at this;dsimp only at h2;omega
 have ad1:∀w,(Op.stringOp .add K ⟨#[32]⟩).run Tryz.prog w=.ok (.string Y) w:=fun w=>add9 (by rw[← hY];rfl) (by show K.size+1≤_;omega) w
 have ad2:∀w,(Op.stringOp .add Y Q).run Tryz.prog w=.ok (.string T) w:=fun w=>add9 hTT (by omega) w
 have TK:Hid (∀{W:World}(i j:Int),Calls Tryz.prog 29 #[.agg #[.int .i64 9,.string k,.int .i64 i,.int .i64 j]] W (Ret9 W (.string K))):=fun {W} i j=>lextxt_is (k:=9) hK (Nat.le_trans h1 (by decide)) i j W
 have TQ:Hid (∀{W:World},Calls Tryz.prog 30 #[.string x] W (Ret9 W (.string Q))):=fun {W}=>lexquote_is hQ (Nat.le_trans h2 (by decide)) W
 have E:=Jh ((S16.start w).lay #[.string k,.string x] 55 (g:=w.heap.size) rfl);clear hT hK hQ hY hTT hKs hYs hQs h1 h2;go_enter Tryz.func12,Tryz.ntmps12;go_wp2_with fail;generalize hW:World.alloc w _=W1 at E ⊢;clear hW;have q0:=S16.atv E 0 (g:=w.heap.size) (xs:=#[.string k,.string x]) (t:=55) (y:=.string k) (by simp) rfl;have q1:=S16.atv E 1 (g:=w.heap.size) (xs:=#[.string k,.string x]) (t:=55) (y:=.string x) (by simp) rfl;have al:=S16.lt E (g:=w.heap.size) (xs:=#[.string k,.string x]) (t:=55) (by simp);replace E:=Jh (E.out.step (Below.refl _ _).drew);go_region_held3 (fun v=>v.cell? ⟨w.heap.size,0,none⟩=some (.string k)∧v.cell? ⟨w.heap.size,1,none⟩=some (.string x)) (first|with_reducible exact⟨S16.atv E 0 (g:=w.heap.size) (xs:=#[.string k,.string x]) (t:=55) (y:=.string k) (by simp) rfl,S16.atv E 1 (g:=w.heap.size) (xs:=#[.string k,.string x]) (t:=55) (y:=.string x) (by simp) rfl⟩|go_keep) (first|(go_at_call 29;refine(TK.out _ _).mono ?_;rintro e w5 ⟨rfl,hb⟩;replace E:=Jh (E.out.step hb);clear hb)|(go_at_call 30;refine TQ.out.mono ?_;rintro e w6 ⟨rfl,hb⟩;replace E:=Jh (E.out.step hb);clear hb))
 all_goals
  go_wp2_with fail;go_ret;exact⟨rfl,E.out.bel⟩
theorem lit_dec{T:ByteArray}{x:UInt8}:(T.toList == [x])=decide (bs9 T=[x.toNat]):=by
 by_cases h:bs9 T=[x.toNat]
 ·rw[decide_eq_true h];exact lit_yes h
 ·rw[decide_eq_false h];exact lit_not h
section
variable {W0 w:World}{g B n c a e:Nat}{A:Option Addr}{L:List Tk4}{G:Nat→Nat→Int→Nat→Prop}
theorem word_o(X:CO W0 B A n c L G)(hw:Below W0.heap.size W0 w)(hg:W0.heap.size≤g)(hs:StO w g A n c a e)(k:Int)(ha:e=0→a≤n):Calls Tryz.prog 28 #[.pointer (some ⟨g,0,none⟩),.int .i64 k] w (RoW w g A n c a e (L.map tok) k):=by
 have hr:=X.rd.on X.hB hw;have hlen:=hr.len;have hn:=X.hn;have hB:B≤w.heap.size:=Nat.le_trans X.hB hw.size;have hBg:B≤g:=Nat.le_trans X.hB hg;have HS:=Jh hs;have HR:=Jh hr;obtain⟨p0,p1,p2,pf0,pf1,pf2,plt⟩:=hs.bx;by_cases he:e=0
 ·have d0:((e:Int) != 0)=false:=by rw[he];rfl
  have ha1:=ha he;rcases Nat.lt_or_ge a n with h|h
  ·obtain⟨t,ht⟩:∃t,L[a]?=some t:=⟨_,List.getElem?_eq_getElem (by omega)⟩
   have htx:t.2.1.size≤6000:=X.sz.txt (tok t) (List.mem_map_of_mem (List.mem_of_getElem? ht));have HT:=Jh ht;obtain⟨q0,u0,rfl,h1,h2,h3,-⟩:=hr.at_ ht;obtain⟨k1,T,l,m⟩:=t;have a0:=(tok_cells hr ht).1;have d1:((a:Int) == (n:Int))=false:=by rw[beq_eq_false_iff_ne];omega
   have d2:decide (n≤a)=false:=decide_eq_false (by omega);have d3:decide (a<n)=true:=decide_eq_true h;have d4:(0:Int)≤(a:Int):=by omega
   have d5:(a:Int)<(n:Int):=by omega
   have E:=Jh (Below.refl w.heap.size w);have HE:=Jh he;have HBB:=Jh hB;have HBG:=Jh hBg;by_cases hb:k1=k
   ·have dk:(k1 != k)=false:=by rw[hb];exact bne_self_eq_false k
    have HA:Hid (nxr e a (fun b=>tkw (L.map tok) b k)=.inr (T,a+1)):=by
     show _=_;unfold nxr tkw;rw[if_pos he];dsimp only
     rw[List.getElem?_map,ht];show(if k1=k then _ else _)=_;rw[if_pos hb];rfl
    obtain⟨i1,hi1⟩:∃i1,a+1=i1:=⟨_,rfl⟩;have ei:(a:Int)+1=(i1:Int):=by omega
    have em:(i1:Int)-1=(a:Int):=by omega
    have EI:=Jh hi1;have HX:=Jh htx;clear hr ht hb hlen hs X hw ha ha1 hi1 htx he hg hB hBg;go_enter Tryz.func28,Tryz.ntmps28;go_wp2_with fail;go_quiet (fail)
    have hb:=below_drewN (Below.refl w.heap.size w) nq;replace HS:=Jh (HS.out.on hb);replace HR:=Jh (HR.out.on (Nat.le_trans HBB.out E.out.size) hb);replace E:=Jh (E.out.trans (hb.mono E.out.size));clear hb p0 p1 p2 pf0 pf1 pf2 plt a0;generalize hW:World.drewN w nq=W1 at HS HR E ⊢;clear hW;obtain⟨p0,p1,p2,pf0,pf1,pf2,plt⟩:=HS.out.bx;have a0:=(tok_cells HR.out HT.out).1;go_wp2_with fail;go_quiet (fail)
    have hb:=below_drewN (Below.refl W1.heap.size W1) nq;replace HS:=Jh (HS.out.on hb);replace HR:=Jh (HR.out.on (Nat.le_trans HBB.out E.out.size) hb);replace E:=Jh (E.out.trans (hb.mono E.out.size));clear hb p0 p1 p2 pf0 pf1 pf2 plt a0;generalize hW:World.drewN W1 nq=W2 at HS HR E ⊢;clear hW;obtain⟨p0,p1,p2,pf0,pf1,pf2,plt⟩:=HS.out.bx;have a0:=(tok_cells HR.out HT.out).1;go_wp2_with fail;have HK2:Hid (Kp g none w (W2.setCell ⟨g,1,none⟩ (.int .i64 (i1:Int)))):=kp_trans (kp_of E.out (Nat.le_refl _)) (kp_set _ _ _ _);replace HS:=Jh (HS.out.set1 i1);replace HR:=Jh (HR.out.kp HBG.out (Nat.le_trans HBB.out E.out.size) (kp_set W2 g 1 (.int .i64 (i1:Int))));generalize hW:World.setCell W2 _ _=W3 at HS HR HK2 ⊢;clear hW;clear p0 p1 p2 pf0 pf1 pf2 plt a0;obtain⟨p0,p1,p2,pf0,pf1,pf2,plt⟩:=HS.out.bx;have a1:=(tok_cells HR.out HT.out).2.1;go_quiet (fail)
    go_wp2_with fail;go_ret;exact⟨T,i1,e,rfl,kp_trans HK2.out (kp_of (below_drewN (Below.refl _ _) nq) (Nat.le_refl _)),HS.out.drewN nq,by rw[HA.out,EI.out];exact⟨rfl,HE.out,rfl⟩,fun _=>⟨HE.out,EI.out.symm,by have:=EI.out;omega⟩,HX.out⟩
   ·have dk:(k1 != k)=true:=by rw[bne_iff_ne];exact hb
    have HA:Hid (nxr e a (fun b=>tkw (L.map tok) b k)=.inl (3,a)):=by
     show _=_;unfold nxr tkw;rw[if_pos he];dsimp only
     rw[List.getElem?_map,ht];show(if k1=k then _ else _)=_;rw[if_neg hb]
    clear hr ht hb hlen hs X hw ha ha1 htx he hg hB hBg;go_enter Tryz.func28,Tryz.ntmps28;go_wp2_with fail;go_quiet (fail)
    have hb:=below_drewN (Below.refl w.heap.size w) nq;replace HS:=Jh (HS.out.on hb);replace HR:=Jh (HR.out.on (Nat.le_trans HBB.out E.out.size) hb);replace E:=Jh (E.out.trans (hb.mono E.out.size));clear hb p0 p1 p2 pf0 pf1 pf2 plt a0;generalize hW:World.drewN w nq=W1 at HS HR E ⊢;clear hW;obtain⟨p0,p1,p2,pf0,pf1,pf2,plt⟩:=HS.out.bx;have a0:=(tok_cells HR.out HT.out).1;go_wp2_with fail;go_quiet (fail)
    have hb:=below_drewN (Below.refl W1.heap.size W1) nq;replace HS:=Jh (HS.out.on hb);replace HR:=Jh (HR.out.on (Nat.le_trans HBB.out E.out.size) hb);replace E:=Jh (E.out.trans (hb.mono E.out.size));clear hb p0 p1 p2 pf0 pf1 pf2 plt a0;generalize hW:World.drewN W1 nq=W2 at HS HR E ⊢;clear hW;obtain⟨p0,p1,p2,pf0,pf1,pf2,plt⟩:=HS.out.bx;have a0:=(tok_cells HR.out HT.out).1;go_wp2_with fail;go_ret;exact⟨⟨#[]⟩,a,3,rfl,kp_trans (kp_of E.out (Nat.le_refl _)) (kp_set _ _ _ _),HS.out.set2 3,by rw[HA.out];exact⟨rfl,rfl,by decide⟩,fun h=>absurd h (by decide),Nat.zero_le _⟩
  ·have d1:((a:Int) == (n:Int))=true:=by rw[beq_iff_eq];omega
   have HA:Hid (nxr e a (fun b=>tkw (L.map tok) b k)=.inl (2,a)):=by
    show _=_;unfold nxr tkw;rw[if_pos he];dsimp only
    rw[List.getElem?_eq_none (by rw[List.length_map];omega)]
   have E:=Jh (Below.refl w.heap.size w);clear hr hlen hs X hw ha ha1 he hg hB hBg;go_enter Tryz.func28,Tryz.ntmps28;go_wp2_with fail;go_quiet (fail)
   have hb:=below_drewN (Below.refl w.heap.size w) nq;replace HS:=Jh (HS.out.on hb);replace E:=Jh (E.out.trans (hb.mono E.out.size));clear hb p0 p1 p2 pf0 pf1 pf2 plt ;generalize hW:World.drewN w nq=W1 at HS E ⊢;clear hW;obtain⟨p0,p1,p2,pf0,pf1,pf2,plt⟩:=HS.out.bx;go_wp2_with fail;go_ret;exact⟨⟨#[]⟩,a,2,rfl,kp_trans (kp_of E.out (Nat.le_refl _)) (kp_set _ _ _ _),HS.out.set2 2,by rw[HA.out];exact⟨rfl,rfl,by decide⟩,fun h=>absurd h (by decide),Nat.zero_le _⟩
 ·have d0:((e:Int) != 0)=true:=by rw[bne_iff_ne];omega
  have HE:=Jh he;clear hr hlen hs X hw ha he hg hB hBg;go_enter Tryz.func28,Tryz.ntmps28;go_wp2_with fail;go_ret;exact⟨⟨#[]⟩,a,e,rfl,Kp.refl _ _ _,HS.out,Aft.stay HE.out,fun h=>absurd h HE.out,Nat.zero_le _⟩
theorem end_o(hs:StO w g A n c a e){e':Nat}(he':(if e=0∧a<n then 3 else e)=e'):Calls Tryz.prog 19 #[.pointer (some ⟨g,0,none⟩)] w (RoN w g A n c a e'):=by
 obtain⟨p0,p1,p2,pf0,pf1,pf2,plt⟩:=hs.bx;have HS:=Jh hs;by_cases he:e=0
 ·have d0:((e:Int) == 0)=true:=by rw[he];rfl
  by_cases h:a<n
  ·have d1:decide ((a:Int)<(n:Int))=true:=decide_eq_true (by omega)
   have d3:decide (a<n)=true:=decide_eq_true h;rw[if_pos ⟨he,h⟩] at he';subst he';clear hs he;go_enter Tryz.func19,Tryz.ntmps19;go_wp2_with fail;go_quiet (fail)
   have hb:=below_drewN (Below.refl w.heap.size w) nq;replace HS:=Jh (HS.out.on hb);clear p0 p1 p2 pf0 pf1 pf2 plt;obtain⟨p0,p1,p2,pf0,pf1,pf2,plt⟩:=HS.out.bx;go_wp2_with fail;go_end0
   exact⟨rfl,kp_trans (kp_of hb (Nat.le_refl _)) (kp_set _ _ _ _),HS.out.set2 3⟩
  ·have d1:decide ((a:Int)<(n:Int))=false:=decide_eq_false (by omega)
   have d3:decide (a<n)=false:=decide_eq_false h;rw[if_neg (fun q=>h q.2)] at he';obtain rfl:=he'.symm;clear hs he';go_enter Tryz.func19,Tryz.ntmps19;go_wp2_with fail;go_quiet (fail)
   have hb:=below_drewN (Below.refl w.heap.size w) nq;go_wp2_with fail;go_end0
   exact⟨rfl,kp_of hb (Nat.le_refl _),HS.out.on hb⟩
 ·have d0:((e:Int) == 0)=false:=by rw[beq_eq_false_iff_ne];omega
  rw[if_neg (fun q=>he q.1)] at he';obtain rfl:=he'.symm;clear hs he' he;go_enter Tryz.func19,Tryz.ntmps19;go_wp2_with fail;go_quiet (fail)
  have hb:=below_drewN (Below.refl w.heap.size w) nq;go_wp2_with fail;go_end0
  exact⟨rfl,kp_of hb (Nat.le_refl _),HS.out.on hb⟩
def RoF(w:World)(g:Nat)(A:Option Addr)(n c:Nat)(L:List Tok)(en:Ending)(w':World):Prop:=∃(s:ByteArray) (a':Nat),en=.returned (.string s)∧Kp g none w w'∧StO w' g A n c a' 0∧flg L=(s,a')∧a'≤n
theorem flag_o(X:CO W0 B A n c L G)(hw:Below W0.heap.size W0 w)(hg:W0.heap.size≤g)(hs:StO w g A n c a e)(ha:a=0)(he:e=0):Calls Tryz.prog 42 #[.pointer (some ⟨g,0,none⟩)] w (RoF w g A n c (L.map tok)):=by
 have hr:=X.rd.on X.hB hw;have hlen:=hr.len;have hn:=X.hn;have hB:B≤w.heap.size:=Nat.le_trans X.hB hw.size;have HS:=Jh hs;have HR:=Jh hr;obtain⟨p0,p1,p2,pf0,pf1,pf2,plt⟩:=hs.bx;rcases Nat.lt_or_ge a n with h|h
 ·obtain⟨t,ht⟩:∃t,L[a]?=some t:=⟨_,List.getElem?_eq_getElem (by omega)⟩
  have HT:=Jh ht;obtain⟨q0,u0,rfl,h1,h2,h3,-⟩:=hr.at_ ht;obtain⟨k1,T,l,m⟩:=t;have a0:=(tok_cells hr ht).1;have d1:((a:Int) == (n:Int))=false:=by rw[beq_eq_false_iff_ne];omega
  have d3:decide (a<n)=true:=decide_eq_true h;have d4:(0:Int)≤(a:Int):=by omega
  have d5:(a:Int)<(n:Int):=by omega
  have E:=Jh (Below.refl w.heap.size w);have HBB:=Jh hB;by_cases hk:k1=10
  ·have dk:(k1 != 10)=false:=by rw[hk];rfl
   have a1:=(tok_cells hr ht).2.1;have GO:Hid (∀{W:World},Below w.heap.size w W→StO W g (some ⟨q0,u0,none⟩) n c a e→Calls Tryz.prog 28 #[.pointer (some ⟨g,0,none⟩),.int .i64 10] W (RoW W g (some ⟨q0,u0,none⟩) n c a e (L.map tok) 10)):=fun hb hs=>word_o X (hw.trans (hb.mono hw.size)) hg hs 10 (fun _=>by omega)
   have HQ:Hid (tkw (L.map tok) a 10=.inr (T,1)):=by
    show _=_;unfold tkw;rw[List.getElem?_map,ht];show(if k1=10 then _ else _)=_;rw[if_pos hk,ha];rfl
   have HF:Hid (flg (L.map tok)=if bs9 T=[42]∨bs9 T=[33] then (T,1) else (⟨#[]⟩,0)):=by
    show _=_;unfold flg;rw[← ha,List.getElem?_map,ht];show(if k1=10∧(bs9 T=[42]∨bs9 T=[33]) then _ else _)=_;by_cases q:bs9 T=[42]∨bs9 T=[33]
    ·rw[if_pos q,if_pos ⟨hk,q⟩];rfl
    ·rw[if_neg q,if_neg (fun z=>q z.2)]
   have e1:(T.toList == [42])=decide (bs9 T=[42]):=lit_dec;have e2:(T.toList == [33])=decide (bs9 T=[33]):=lit_dec;obtain⟨b1,hb1⟩:∃b,decide (bs9 T=[42])=b:=⟨_,rfl⟩;obtain⟨b2,hb2⟩:∃b,decide (bs9 T=[33])=b:=⟨_,rfl⟩;rw[hb1] at e1;rw[hb2] at e2;have HB1:=Jh hb1;have HB2:=Jh hb2;have HN:Hid (1≤n):=by show 1≤n;omega
   have HA0:=Jh ha;have HE0:=Jh he;clear hr ht hlen hs X hw hg hB hk hb1 hb2 ha he;cases b1 with
   | true=>
    go_enter Tryz.func42,Tryz.ntmps42;go_wp2_with fail;go_quiet (fail)
    have hb:=below_drewN (Below.refl w.heap.size w) nq;replace HS:=Jh (HS.out.on hb);replace HR:=Jh (HR.out.on HBB.out hb);replace E:=Jh (E.out.trans hb);clear hb p0 p1 p2 pf0 pf1 pf2 plt a0 a1;generalize hW:World.drewN w nq=W1 at HS HR E ⊢;clear hW;obtain⟨p0,p1,p2,pf0,pf1,pf2,plt⟩:=HS.out.bx;have a1:=(tok_cells HR.out HT.out).2.1;go_wp2_with fail;go_quiet (fail)
    have hb:=below_drewN (Below.refl W1.heap.size W1) nq;replace HS:=Jh (HS.out.on hb);replace E:=Jh (E.out.trans (hb.mono E.out.size));clear hb p0 p1 p2 pf0 pf1 pf2 plt a1;generalize hW:World.drewN W1 nq=W2 at HS E ⊢;clear hW;go_wp2_with fail;refine(GO.out E.out HS.out).mono ?_;rintro en w3 ⟨s,a',e',rfl,hk,hst,haft,hlt,hsz⟩;have HK2:=Jh (kp_trans (kp_of E.out (Nat.le_refl _)) hk);have HST:=Jh hst;have HAF:=Jh haft;clear hk hst haft hlt hsz;go_wp2_with fail;go_ret;have q:=HAF.out;rw[HE0.out,nxr_go] at q;rw[HQ.out] at q;obtain⟨rfl,rfl,rfl⟩:=q;exact⟨T,1,rfl,HK2.out,HST.out,by rw[HF.out,if_pos (.inl (of_decide_eq_true HB1.out))],HN.out⟩
   | false=>
    cases b2 with
    | true=>
     go_enter Tryz.func42,Tryz.ntmps42;go_wp2_with fail;go_quiet (fail)
     have hb:=below_drewN (Below.refl w.heap.size w) nq;replace HS:=Jh (HS.out.on hb);replace HR:=Jh (HR.out.on HBB.out hb);replace E:=Jh (E.out.trans hb);clear hb p0 p1 p2 pf0 pf1 pf2 plt a0 a1;generalize hW:World.drewN w nq=W1 at HS HR E ⊢;clear hW;obtain⟨p0,p1,p2,pf0,pf1,pf2,plt⟩:=HS.out.bx;have a1:=(tok_cells HR.out HT.out).2.1;go_wp2_with fail;go_quiet (fail)
     have hb:=below_drewN (Below.refl W1.heap.size W1) nq;replace HS:=Jh (HS.out.on hb);replace E:=Jh (E.out.trans (hb.mono E.out.size));clear hb p0 p1 p2 pf0 pf1 pf2 plt a1;generalize hW:World.drewN W1 nq=W2 at HS E ⊢;clear hW;go_wp2_with fail;refine(GO.out E.out HS.out).mono ?_;rintro en w3 ⟨s,a',e',rfl,hk,hst,haft,hlt,hsz⟩;have HK2:=Jh (kp_trans (kp_of E.out (Nat.le_refl _)) hk);have HST:=Jh hst;have HAF:=Jh haft;clear hk hst haft hlt hsz;go_wp2_with fail;go_ret;have q:=HAF.out;rw[HE0.out,nxr_go] at q;rw[HQ.out] at q;obtain⟨rfl,rfl,rfl⟩:=q;exact⟨T,1,rfl,HK2.out,HST.out,by rw[HF.out,if_pos (.inr (of_decide_eq_true HB2.out))],HN.out⟩
    | false=>
     go_enter Tryz.func42,Tryz.ntmps42;go_wp2_with fail;go_quiet (fail)
     have hb:=below_drewN (Below.refl w.heap.size w) nq;replace HS:=Jh (HS.out.on hb);replace HR:=Jh (HR.out.on HBB.out hb);replace E:=Jh (E.out.trans hb);clear hb p0 p1 p2 pf0 pf1 pf2 plt a0 a1;generalize hW:World.drewN w nq=W1 at HS HR E ⊢;clear hW;obtain⟨p0,p1,p2,pf0,pf1,pf2,plt⟩:=HS.out.bx;have a1:=(tok_cells HR.out HT.out).2.1;go_wp2_with fail;go_quiet (fail)
     have hb:=below_drewN (Below.refl W1.heap.size W1) nq;replace HS:=Jh (HS.out.on hb);replace E:=Jh (E.out.trans (hb.mono E.out.size));clear hb p0 p1 p2 pf0 pf1 pf2 plt a1;generalize hW:World.drewN W1 nq=W2 at HS E ⊢;clear hW;go_wp2_with fail;go_ret;exact⟨⟨#[]⟩,0,rfl,kp_of E.out (Nat.le_refl _),by have q:=HS.out;rw[HA0.out,HE0.out] at q;exact q,by rw[HF.out,if_neg (fun q=>q.elim (of_decide_eq_false HB1.out) (of_decide_eq_false HB2.out))],Nat.zero_le _⟩
  ·have dk:(k1 != 10)=true:=by rw[bne_iff_ne];exact hk
   have HF:Hid (flg (L.map tok)=(⟨#[]⟩,0)):=by
    show _=_;unfold flg;rw[← ha,List.getElem?_map,ht];show(if k1=10∧(bs9 T=[42]∨bs9 T=[33]) then _ else _)=_;rw[if_neg (fun z=>hk z.1)]
   have HA0:=Jh ha;have HE0:=Jh he;clear hr ht hlen hs X hw hg hB hk ha he;go_enter Tryz.func42,Tryz.ntmps42;go_wp2_with fail;go_quiet (fail)
   have hb:=below_drewN (Below.refl w.heap.size w) nq;replace HS:=Jh (HS.out.on hb);clear p0 p1 p2 pf0 pf1 pf2 plt a0;go_wp2_with fail;go_ret;exact⟨⟨#[]⟩,0,rfl,kp_of hb (Nat.le_refl _),by have q:=HS.out;rw[HA0.out,HE0.out] at q;exact q,HF.out,Nat.zero_le _⟩
 ·have d1:((a:Int) == (n:Int))=true:=by rw[beq_iff_eq];omega
  have HF:Hid (flg (L.map tok)=(⟨#[]⟩,0)):=by
   show _=_;unfold flg;rw[← ha,List.getElem?_eq_none (by rw[List.length_map];omega)]
  have HA0:=Jh ha;have HE0:=Jh he;clear hr hlen hs X hw hg hB ha he;go_enter Tryz.func42,Tryz.ntmps42;go_wp2_with fail;go_quiet (fail)
  have hb:=below_drewN (Below.refl w.heap.size w) nq;replace HS:=Jh (HS.out.on hb);clear p0 p1 p2 pf0 pf1 pf2 plt;go_wp2_with fail;go_ret;exact⟨⟨#[]⟩,0,rfl,kp_of hb (Nat.le_refl _),by have q:=HS.out;rw[HA0.out,HE0.out] at q;exact q,HF.out,Nat.zero_le _⟩
end
end Go.Proofs.YtpbbolgnnegmlaaGreatDoor.Num
