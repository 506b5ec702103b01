/- Lemmas of the proof: ExpZa, AmoG, AmoH, AmoI, AmoJ, HeaJ, HeaK, HeaL, HeaM, HeaN, AmoK, AmoL, AmoM, AmoN, AmoO, AmoP, AmoQ, AmoT. -/
import Derived.Test.YthpmaoimceojgaaGreatDoorAll37
import Derived.Shelf.Abstract
import Derived.Test.YthpmaoimceojgaaGreatDoorAll39
import Derived.Test.YthpmaoimceojgaaGreatDoorAll32
set_option linter.unusedVariables false
set_option linter.unusedSimpArgs false
set_option maxRecDepth 100000
set_option maxHeartbeats 32000000
open Go.Lib renaming hid→Jh
namespace Go.Proofs.YthpmaoimceojgaaGreatDoor.Num
open Go.RowKit
theorem isAt_one{L:List Tok}{a x y:Nat}(h:isAt L a x=true)(hxy:x≠y):isAt L a y=false:=by
 unfold isAt at h ⊢;cases hl:L[a]? with
 | none=>rfl
 | some t=>
  rw[hl] at h;have h2:isg t x=true:=h;show isg t y=false;unfold isg at h2 ⊢;rw[Bool.and_eq_true,decide_eq_true_iff,decide_eq_true_iff] at h2;rw[h2.2,decide_eq_false (p:=[x]=[y]) (fun e=>hxy (List.cons.inj e).1),Bool.and_false]
theorem chn_sum{L:List Tok}{G:Nat→Nat→Int→Nat→Prop}(hL:Siz L G)(i d:Nat):Chn L G i (PRO L d) (fun v k a=>SUML L d v k a) 43 45 where
 sx:=.inl rfl
 sy:=.inr (.inl rfl)
 fin:=fun h1 h2=>SUML_end h1 h2
 err:=fun h h2=>SUML_err h h2
 go:=fun {v k a j t b z} hz ha hp _=>by
  rcases hz with rfl|rfl
  ·exact SUML_add ha hp
  ·exact SUML_sub (isAt_one ha (by decide)) ha hp
 bad:=fun {v k a j t b z} hz _ _ h0=>by
  rcases hz with rfl|rfl
  ·exact absurd h0 (Nat.lt_irrefl 0)
  ·exact absurd h0 (Nat.lt_irrefl 0)
 grt:=fun {v k a j t b z} hz hg hp _=>by
  rcases hz with rfl|rfl
  ·exact hL.add hg (hL.pro hp)
  ·exact hL.sub hg (hL.pro hp)
 rng:=fun h=>hL.rng h
 fits:=fun h=>hL.fits h
 pgrt:=fun h=>hL.pro h
 len:=fun hg hp hj=>hL.qlen hg (hL.pro hp) hj
theorem jnd_quo{i j:Int}{s t:Nat}(hj:j≠0):jnd 47 i s j t=(quoI i s j t,quoK i s j t,0):=by
 show quv i s j t=_;unfold quv;rw[if_neg hj]
theorem jnd_zero{i j:Int}{s t:Nat}(hj:j=0):jnd 47 i s j t=(0,0,4):=by
 show quv i s j t=_;unfold quv;rw[if_pos hj]
theorem chn_pro{L:List Tok}{G:Nat→Nat→Int→Nat→Prop}(hL:Siz L G)(i d:Nat):Chn L G i (FAC L d) (fun v k a=>PROL L d v k a) 42 47 where
 sx:=.inr (.inr (.inl rfl))
 sy:=.inr (.inr (.inr rfl))
 fin:=fun h1 h2=>PROL_end h1 h2
 err:=fun h h2=>PROL_err h h2
 go:=fun {v k a j t b z} hz ha hp h0=>by
  rcases hz with rfl|rfl
  ·exact PROL_mul ha hp
  ·by_cases hj:j=0
   ·rw[jnd_zero hj] at h0;cases h0
   ·rw[jnd_quo hj];exact PROL_quo (isAt_one ha (by decide)) ha hp hj
 bad:=fun {v k a j t b z} hz ha hp h0=>by
  rcases hz with rfl|rfl
  ·exact absurd h0 (Nat.lt_irrefl 0)
  ·by_cases hj:j=0
   ·rw[jnd_zero hj];exact⟨PROL_zero (isAt_one ha (by decide)) ha hp hj,rfl,rfl⟩
   ·rw[jnd_quo hj] at h0;exact absurd h0 (Nat.lt_irrefl 0)
 grt:=fun {v k a j t b z} hz hg hp h0=>by
  rcases hz with rfl|rfl
  ·exact hL.mul hg (hL.fac hp)
  ·by_cases hj:j=0
   ·rw[jnd_zero hj] at h0;cases h0
   ·rw[jnd_quo hj];exact hL.quo hg (hL.fac hp) hj
 rng:=fun h=>hL.rng h
 fits:=fun h=>hL.fits h
 pgrt:=fun h=>hL.fac h
 len:=fun hg hp hj=>hL.qlen hg (hL.fac hp) hj
theorem psum{L:List Tk4}{i:Nat}{G:Nat→Nat→Int→Nat→Prop}(hL:Siz (L.map tok) G)(hi:i≤L.length)(HP:∀a,i≤a→a≤L.length→ProP L a):SumP L i:=by
 intro w g B n c d A hs hr hm hp hn hd;have hent:∀(args:Array Value) (W:World),(callFunc 125 args).run Tryz.prog W=.ok (.enter 125 args) W:=enters_of Tryz.func125 (by kernel_rfl) rfl;have HE:=Jh hent;have hmf:∀(fn:Fn) (first cap:Array Value) (w:World),(Instr.makeFunc fn first cap).run Tryz.prog w=.ok (.func fn first cap) w:=fun _ _ _ _=>rfl
 clear hent;have hlen:=hr.len;have hgw:=hs.lt;have E:=Jh (sy_start hs hr hm hp);have CN:=chn_sum (L:=L.map tok) hL i d;have HPP:Hid (∀a,i≤a→a≤n→∀w':World,StP w' g A n c a d→RdK w' B A n c L→MaxLen w'→Calls Tryz.prog 125 #[.pointer (some ⟨g,0,none⟩)] w' (RetX w' g A n c d (PRO (L.map tok) d a))):=fun a h1 h2 w' q1 q2 q3=>HP a h1 (by omega) q1 q2 q3 hp hn hd
 have hin:i≤n:=by omega
 clear hs hr hm hlen;go_enter Tryz.func113,Tryz.ntmps113;go_wp2_with fail;generalize hW:World.alloc w _=W1 at E ⊢;have hsz:w.heap.size+1=W1.heap.size:=by rw[← hW];simp
 clear hW;have SG:=Jh (sgn_two W1 ⟨#[43]⟩ ⟨#[45]⟩ 9 (q:=w.heap.size+1) hsz);replace E:=Jh (E.out.alloc (.cells #[.string ⟨#[43]⟩,.string ⟨#[45]⟩] 9));generalize hV:World.alloc W1 _=V1 at E SG ⊢;clear hV;refine(pchain (i:=i) (s1:=⟨#[43]⟩) (s2:=⟨#[45]⟩) (S:=SUM (L.map tok) d i) E.out.st E.out.rd E.out.mx hp hn hd HE.out hin CN rfl rfl SG.out ⟨fun e h=>SUM_err h,fun v k b h=>SUM_go h⟩ HPP.out).mono ?_;rintro e w9 ⟨x9,k9,A9,n9,c9,i9,e9,rfl,hnum9,hst9,hkp9,hout⟩;replace E:=Jh (SY.push (SY.call E.out hkp9 hst9) hnum9);clear hnum9 hst9 hkp9;have HO:=Jh hout;clear hout;obtain⟨r0,r1,r2,rf0,rf1,rf2,rlt⟩:=SY.az (g1:=w.heap.size) E (by simp);go_wp2_with fail;clear r0 r1 r2 rf0 rf1 rf2 rlt;have EF:=Jh (SY.pz E.out (g1:=w.heap.size) (by simp) (.bool (ngB x9)) (.slice A9 n9 c9) (.int .i64 (k9:Int)));obtain⟨r0,r1,r2,_,_,_,_⟩:=SY.ad x9 A9 n9 c9 k9 (g1:=w.heap.size) EF (by simp);exact bodyPost_ret (v:=.tuple #[.agg #[.bool (ngB x9),.slice A9 n9 c9,.int .i64 (k9:Int)],.int .i64 (e9:Int)]) (by simp[results,Tryz.results113,go_sem,r0,r1,r2]) rfl ⟨x9,k9,A9,n9,c9,i9,e9,rfl,SY.got EF (by simp),EF.out.st,EF.out.kp,HO.out⟩
theorem pprod{L:List Tk4}{i:Nat}{G:Nat→Nat→Int→Nat→Prop}(hL:Siz (L.map tok) G)(hi:i≤L.length)(HP:∀a,i≤a→a≤L.length→FacP L a):ProP L i:=by
 intro w g B n c d A hs hr hm hp hn hd;have hent:∀(args:Array Value) (W:World),(callFunc 142 args).run Tryz.prog W=.ok (.enter 142 args) W:=enters_of Tryz.func142 (by kernel_rfl) rfl;have HE:=Jh hent;have hmf:∀(fn:Fn) (first cap:Array Value) (w:World),(Instr.makeFunc fn first cap).run Tryz.prog w=.ok (.func fn first cap) w:=fun _ _ _ _=>rfl
 clear hent;have hlen:=hr.len;have hgw:=hs.lt;have E:=Jh (sy_start hs hr hm hp);have CN:=chn_pro (L:=L.map tok) hL i d;have HPP:Hid (∀a,i≤a→a≤n→∀w':World,StP w' g A n c a d→RdK w' B A n c L→MaxLen w'→Calls Tryz.prog 142 #[.pointer (some ⟨g,0,none⟩)] w' (RetX w' g A n c d (FAC (L.map tok) d a))):=fun a h1 h2 w' q1 q2 q3=>HP a h1 (by omega) q1 q2 q3 hp hn hd
 have hin:i≤n:=by omega
 clear hs hr hm hlen;go_enter Tryz.func125,Tryz.ntmps125;go_wp2_with fail;generalize hW:World.alloc w _=W1 at E ⊢;have hsz:w.heap.size+1=W1.heap.size:=by rw[← hW];simp
 clear hW;have SG:=Jh (sgn_two W1 ⟨#[42]⟩ ⟨#[47]⟩ 9 (q:=w.heap.size+1) hsz);replace E:=Jh (E.out.alloc (.cells #[.string ⟨#[42]⟩,.string ⟨#[47]⟩] 9));generalize hV:World.alloc W1 _=V1 at E SG ⊢;clear hV;refine(pchain (i:=i) (s1:=⟨#[42]⟩) (s2:=⟨#[47]⟩) (S:=PRO (L.map tok) d i) E.out.st E.out.rd E.out.mx hp hn hd HE.out hin CN rfl rfl SG.out ⟨fun e h=>PRO_err h,fun v k b h=>PRO_go h⟩ HPP.out).mono ?_;rintro e w9 ⟨x9,k9,A9,n9,c9,i9,e9,rfl,hnum9,hst9,hkp9,hout⟩;replace E:=Jh (SY.push (SY.call E.out hkp9 hst9) hnum9);clear hnum9 hst9 hkp9;have HO:=Jh hout;clear hout;obtain⟨r0,r1,r2,rf0,rf1,rf2,rlt⟩:=SY.az (g1:=w.heap.size) E (by simp);go_wp2_with fail;clear r0 r1 r2 rf0 rf1 rf2 rlt;have EF:=Jh (SY.pz E.out (g1:=w.heap.size) (by simp) (.bool (ngB x9)) (.slice A9 n9 c9) (.int .i64 (k9:Int)));obtain⟨r0,r1,r2,_,_,_,_⟩:=SY.ad x9 A9 n9 c9 k9 (g1:=w.heap.size) EF (by simp);exact bodyPost_ret (v:=.tuple #[.agg #[.bool (ngB x9),.slice A9 n9 c9,.int .i64 (k9:Int)],.int .i64 (e9:Int)]) (by simp[results,Tryz.results125,go_sem,r0,r1,r2]) rfl ⟨x9,k9,A9,n9,c9,i9,e9,rfl,SY.got EF (by simp),EF.out.st,EF.out.kp,HO.out⟩
theorem pall{L:List Tk4}{G:Nat→Nat→Int→Nat→Prop}(hL:Siz (L.map tok) G):∀m i,i≤L.length→L.length-i<m→FacP L i∧ProP L i∧SumP L i:=by
 intro m;induction m with
 | zero=>intro i _ h;omega
 | succ m ih=>
  intro i hi hm;have later:∀j,i<j→j≤L.length→FacP L j∧ProP L j∧SumP L j:=fun j h1 h2=>ih j h2 (by omega)
  have F:FacP L i:=pfactor hL hi (fun h=>(later (i+1) (by omega) (by omega)).2.2) (fun h=>(later (i+1) (by omega) (by omega)).1);have P:ProP L i:=pprod hL hi fun j h1 h2=>by
   rcases Nat.eq_or_lt_of_le h1 with rfl|h3
   ·exact F
   ·exact(later j h3 h2).1
  have S:SumP L i:=psum hL hi fun j h1 h2=>by
   rcases Nat.eq_or_lt_of_le h1 with rfl|h3
   ·exact P
   ·exact(later j h3 h2).2.1
  exact⟨F,P,S⟩
theorem psum_at{L:List Tk4}{G:Nat→Nat→Int→Nat→Prop}(hL:Siz (L.map tok) G){i:Nat}(hi:i≤L.length):SumP L i:=(pall hL (L.length+1) i hi (by omega)).2.2
theorem stp_new(v:World){g n c a:Nat}{A:Option Addr}(h:g=v.heap.size):StP (v.alloc (.cells #[.slice A n c,.int .i64 (a:Int),.int .i64 0] 154)) g A n c a 0:=by
 subst h;exact heap_alloc_new v _
theorem peval_ok{w:World}{B n c i:Nat}{A:Option Addr}{L:List Tk4}(hr:RdK w B A n c L)(hB:B≤w.heap.size)(hn:n≤400){G:Nat→Nat→Int→Nat→Prop}(hL:Siz (L.map tok) G)(hi:i≤n)(hm:MaxLen w) :
  Calls Tryz.prog 94 #[.slice A n c,.int .i64 (i:Int)] w (RetE w (evl (L.map tok) (i:Int))):=by
 have hlen:=hr.len;have HSUM:SumP L i:=psum_at hL (by omega);have d1:decide ((i:Int)<0)=false:=decide_eq_false (by omega);have d2:decide ((n:Int)<(i:Int))=false:=decide_eq_false (by omega);have d3:decide (n<i)=false:=decide_eq_false (by omega);have HV:Hid (evl (L.map tok) (i:Int)=match SUM (L.map tok) 0 i with | .inl (z,b)=>(0,0,(b:Int),z) | .inr (x,k,b)=>(x,k,(b:Int),0)):=by
  show _=_;unfold evl;rw[if_neg (by rw[List.length_map];omega)];rfl
 have E0:=(St.start w (l:=[]) (by intro q hq;cases hq)).lay (g:=w.heap.size) (x0:=.bool false) (x1:=.slice none 0 0) (x2:=.int .i64 0) (t:=39) rfl;have hb1:Below w.heap.size w ((w.alloc (.cells #[.bool false,.slice none 0 0,.int .i64 0] 39)).alloc (.cells #[.slice A n c,.int .i64 (i:Int),.int .i64 0] 154)):=((Below.refl _ _).alloc (Nat.le_refl _) _).alloc (by simp) _;have HR:=Jh (hr.on hB hb1);have HM:=Jh (hm.on hb1);have HE:=Jh (E0.alloc (.cells #[.slice A n c,.int .i64 (i:Int),.int .i64 0] 154));have HS:Hid (StP _ (w.heap.size+1) A n c i 0):=stp_new (w.alloc (.cells #[.bool false,.slice none 0 0,.int .i64 0] 39)) (by simp);clear hr hlen hb1 E0 hm;go_enter Tryz.func94,Tryz.ntmps94;go_wp2_with fail;generalize hW:World.alloc (World.alloc w _) _=W1 at HR HM HE HS ⊢;clear hW;refine(HSUM HS.out HR.out HM.out (by omega) hn (by omega)).mono ?_;rintro e w9 ⟨x9,k9,A9,n9,c9,i9,e9,rfl,hnum9,hst9,hkp9,hout⟩;have hbel:Below w.heap.size w w9:=HE.out.bel.trans (hkp9.below (Nat.le_succ _) (fun g e=>by cases e) HE.out.bel.size);have hbox:Box w9 w.heap.size (.bool false) (.slice none 0 0) (.int .i64 0):=(St.at_ HE (by simp)).kp hkp9 (by omega);have E:Hid (St w w9 [(A9,n9,c9,x9.natAbs)] [(w.heap.size,.bool false,.slice none 0 0,.int .i64 0)]):=⟨hbel,fun q hq=>by simp at hq;subst hq;exact hnum9,fun q hq=>by simp at hq;subst hq;exact⟨hbox,Nat.le_refl _⟩⟩;have S9:=Jh hst9;have hlt9:w.heap.size<w9.heap.size:=hbox.lt;have hgl9:=hst9.lt;have HV2:Hid (evl (L.map tok) (i:Int)=(x9,k9,(i9:Int),e9)):=by
  show _=_;rw[HV.out];cases hS:SUM (L.map tok) 0 i with
  | inl r=>
   obtain⟨z,b⟩:=r;rw[hS] at hout;obtain⟨-,rfl,rfl,rfl,rfl⟩:=hout;rfl
  | inr r=>
   obtain⟨j,s,b⟩:=r;rw[hS] at hout;obtain⟨rfl,rfl,rfl,rfl⟩:=hout;rfl
 clear hnum9 hst9 hkp9 hbel hbox hout HR HE HS HM HV;obtain⟨g,hg⟩:∃g,w.heap.size+1=g:=⟨_,rfl⟩;have n1:g≠w.heap.size:=by omega
 have n2:w.heap.size≠g:=by omega
 rw[hg] at S9 hgl9 ⊢;clear hg;obtain⟨p0,p1,p2,pf0,pf1,pf2,plt⟩:=S9.out.bx;obtain⟨r0,r1,r2,rf0,rf1,rf2,rlt⟩:=St.az (g:=w.heap.size) E (by simp);go_wp2_with fail;clear p0 p1 p2 pf0 pf1 pf2 plt r0 r1 r2 rf0 rf1 rf2 rlt;replace S9:=Jh (S9.out.on ((Below.refl _ w9).alloc (Nat.le_refl _) (.cells #[.bool (ngB x9),.slice A9 n9 c9,.int .i64 (k9:Int)] 39)));replace E:=Jh (E.out.lay (g:=w9.heap.size) (x0:=.bool (ngB x9)) (x1:=.slice A9 n9 c9) (x2:=.int .i64 (k9:Int)) (t:=39) rfl);generalize hV:World.alloc w9 _=V at E S9 ⊢;clear hV;obtain⟨p0,p1,p2,pf0,pf1,pf2,plt⟩:=S9.out.bx;obtain⟨r0,r1,r2,rf0,rf1,rf2,rlt⟩:=St.az (g:=w.heap.size) E (by simp);obtain⟨y0,y1,y2,yf0,yf1,yf2,ylt⟩:=St.ad x9 A9 n9 c9 k9 (g:=w9.heap.size) E (by simp);go_region
 go_wp2_with fail;clear p0 p1 p2 pf0 pf1 pf2 plt r0 r1 r2 rf0 rf1 rf2 rlt y0 y1 y2 yf0 yf1 yf2 ylt;have EF:=Jh (St.sz E.out (g:=w.heap.size) (by simp) (.bool (ngB x9)) (.slice A9 n9 c9) (.int .i64 (k9:Int)));replace EF:=Jh EF.out.drew;obtain⟨r0,r1,r2,_,_,_,_⟩:=St.ad x9 A9 n9 c9 k9 (g:=w.heap.size) EF (by simp);exact bodyPost_ret (v:=.tuple #[.agg #[.bool (ngB x9),.slice A9 n9 c9,.int .i64 (k9:Int)],.int .i64 (i9:Int),.int .i64 (e9:Int)]) (by simp[results,Tryz.results94,go_sem,r0,r1,r2]) rfl (by rw[HV2.out];exact⟨A9,n9,c9,rfl,St.got EF (by simp),EF.out.bel⟩)
theorem dayt_is{y m d:Int}{S:ByteArray}{w:World}(hok:Ok12 w)(h:dayT (y,m,d)=bs9 S):Calls Tryz.prog 52 #[.agg #[.int .i64 y,.int .i64 m,.int .i64 d]] w (Ret9 w (.string S)):=
 (Dat.text_is hok.1 (bs9_inj h)).mono fun e w' h=>⟨h.1,h.2⟩
theorem noLimb_str(s:ByteArray):NoLimb (.string s):=fun _ h=>by cases h
def Cl(xs:Array Value):Prop:=∀x∈xs.toList,NoLimb x
theorem Bk.noLimb{w:World}{g j:Nat}{xs:Array Value}{t:TypeId}(h:Bk w g xs t)(hc:Cl xs){x:Nat}(hx:w.cell? ⟨g,j,none⟩=some (.int .u32 (x:Int))):False:=by
 rw[h.cell j,← Array.getElem?_toList] at hx;exact hc _ (List.mem_of_getElem? hx) x rfl
theorem Lim.bk{w w':World}{B n c g:Nat}{A:Option Addr}{ys:List Nat}{xs:Array Value}{t:TypeId}(h:Lim w B A n c ys)(hs:Bk w g xs t)(hc:Cl xs)(hB:B≤w.heap.size)(hk:Kp g none w w'):Lim w' B A n c ys:=by
 refine⟨h.len,h.cap,h.room,h.fit,?_,h.addr⟩;rcases h.row with h' | ⟨b,o,rfl,hb,hr⟩
 ·exact .inl h'
 ·refine .inr ⟨b,o,rfl,hb,fun j u hu=>?_⟩
  have hj:=hr j u hu;by_cases hbg:b=g
  ·exfalso
   have:=List.mem_of_getElem? hu;unfold vals at this;obtain⟨x,_,rfl⟩:=List.mem_map.1 this;subst hbg;exact hs.noLimb hc hj
  ·exact(World.cell?_of_block (hk.block b (by omega) hbg (by simp))).trans hj
theorem Bk.kp{w w':World}{g q:Nat}{xs:Array Value}{t:TypeId}(h:Bk w q xs t)(hk:Kp g none w w')(hq:q≠g):Bk w' q xs t:=(hk.block q h.lt hq (by simp)).trans h
theorem Bk.set{w:World}{g:Nat}{xs:Array Value}{t:TypeId}(h:Bk w g xs t)(j:Nat)(y:Value):Bk (w.setCell ⟨g,j,none⟩ y) g (xs.setIfInBounds j y) t:=heap_setCell_same w g j _ _ _ h
theorem Bk.fz{w:World}{g:Nat}{xs:Array Value}{t:TypeId}(h:Bk w g xs t)(j:Nat):w.frozen? ⟨g,j,none⟩=false:=by
 have h2:w.heap[g]?=some (.cells xs t (0,0)):=h;simp[World.frozen?,h2]
theorem below_kp{g:Nat}{u v w:World}(h:Below u.heap.size u v)(hk:Kp g none v w)(hg:u.heap.size≤g):Below u.heap.size u w:=
 h.trans ⟨hk.os,hk.tape,hk.output,hk.size,fun k hk'=>hk.block k (Nat.lt_of_lt_of_le hk' h.size) (by omega) (by simp)⟩
section
variable {w0 w w':World}{l:List (Option Addr×Nat×Nat×Nat)}{bs:List (Nat×Array Value×TypeId)}{g:Nat}{xs xs':Array Value}{t t':TypeId}
theorem S14.turn(h:S14 w0 w l bs)(hm:(g,xs,t)∈bs)(hc:Cl xs)(hg:w0.heap.size≤g)(hk:Kp g none w w')(hb:Bk w' g xs' t')(bs':List (Nat×Array Value×TypeId))(hs:∀q∈bs',q∈bs∧q.1≠g):S14 w0 w' l ((g,xs',t')::bs'):=by
 refine⟨below_kp h.bel hk hg,fun q hq=>(Lim.bk (h.num q hq) (h.blk _ hm) hc (Nat.le_refl _) hk).more hk.size,fun q hq=>?_⟩;rcases List.mem_cons.1 hq with rfl|hq
 ·exact hb
 ·exact(h.blk q (hs q hq).1).kp hk (hs q hq).2
theorem S14.more(h:S14 w0 w l bs){A:Option Addr}{n c a:Nat}(hn:Num w w.heap.size A n c a):S14 w0 w ((A,n,c,a)::l) bs:=
 ⟨h.bel,fun q hq=>by
  rcases List.mem_cons.1 hq with rfl|hq
  ·exact hn
  ·exact h.num q hq,h.blk⟩
end
theorem kp_sets{g:Nat}:∀(ys:List (Nat×Value)) (w:World),Kp g none w (ys.foldl (fun w y=>w.setCell ⟨g,y.1,none⟩ y.2) w)
 | [],w=>Kp.refl _ _ _
 | y::r,w=>kp_trans (kp_set w g y.1 y.2) (kp_sets r _)
theorem Cl.mk{l:List Value}(h:∀x∈l,NoLimb x):Cl l.toArray:=fun x hx=>h x (by simpa using hx)
theorem cl_nil:∀x∈([]:List Value),NoLimb x:=fun x h=>by cases h
theorem cl_cons{x:Value}{l:List Value}(h:NoLimb x)(hl:∀y∈l,NoLimb y):∀y∈x::l,NoLimb y:=fun y hy=>by
 rcases List.mem_cons.1 hy with rfl|hy
 ·exact h
 ·exact hl y hy
def Q9(W:World)(v:Value)(e:Ending)(w':World):Prop:=e=.returned v∧w'=W
def isK(L:List Tok)(a:Nat)(k:Int):Bool:=(L[a]?).any fun t=>decide (t.1=k)
theorem isK_get{L:List Tk4}{i:Nat}{k:Int}{t:Tk4}(h:L[i]?=some t):isK (L.map tok) i k=decide (t.1=k):=by unfold isK;rw[List.getElem?_map,h];rfl
theorem isK_end{L:List Tk4}{i:Nat}{k:Int}(h:L.length≤i):isK (L.map tok) i k=false:=by unfold isK;rw[List.getElem?_eq_none (by rw[List.length_map];exact h)];rfl
theorem isW_none{L:List Tk4}{i:Nat}{x:List Nat}(h:L.length≤i):isW (L.map tok) i x=false:=by unfold isW;rw[List.getElem?_eq_none (by rw[List.length_map];exact h)];rfl
section
variable {w:World}{B n c i:Nat}{A:Option Addr}{L:List Tk4}
theorem iskind_is(hr:RdK w B A n c L)(hn:n≤1000){k:Int}{b:Bool}(hb:isK (L.map tok) i k=b):Calls Tryz.prog 95 #[.slice A n c,.int .i64 (i:Int),.int .i64 k] w (Q9 w (.bool b)):=by
 have hlen:=hr.len;rcases Nat.lt_or_ge i n with h|h
 ·obtain⟨t,ht⟩:∃t,L[i]?=some t:=⟨_,List.getElem?_eq_getElem (by omega)⟩
  obtain⟨q,u0,rfl,h1,h2,h3,h4,-⟩:=hr.at_ ht;obtain⟨k1,T,l,m⟩:=t;have a0:=(tok_cells hr ht).1;have e:(k1 == k)=b:=by rw[← hb,isK_get ht,Bool.eq_iff_iff,beq_iff_eq,decide_eq_true_iff]
  clear hr ht hb hlen;have d1:decide ((i:Int)<(n:Int))=true:=decide_eq_true (by omega);have d3:decide (i<n)=true:=decide_eq_true h;have d4:(0:Int)≤(i:Int):=by omega
  have d5:(i:Int)<(n:Int):=by omega
  go_enter Tryz.func95,Tryz.ntmps95;go_wp2_with fail;go_ret;exact⟨rfl,rfl⟩
 ·have e:false=b:=by rw[← hb];exact(isK_end (by omega)).symm
  subst e;have d1:decide ((i:Int)<(n:Int))=false:=decide_eq_false (by omega);have d3:decide (i<n)=false:=decide_eq_false (by omega);clear hr hb hlen;go_enter Tryz.func95,Tryz.ntmps95;go_wp2_with fail;go_ret;exact⟨rfl,rfl⟩
theorem missing_is(hi:i≤n){x:Nat}(hx:(if i<n then 3 else 2)=x):Calls Tryz.prog 96 #[.slice A n c,.int .i64 (i:Int)] w (Q9 w (.int .i64 (x:Int))):=by
 by_cases h:i=n
 ·have d:((i:Int) == (n:Int))=true:=by rw[beq_iff_eq];omega
  obtain rfl:2=x:=by rw[← hx,if_neg (by omega)]
  clear hx;go_enter Tryz.func96,Tryz.ntmps96;go_wp2_with fail;go_ret;exact⟨rfl,rfl⟩
 ·have d:((i:Int) == (n:Int))=false:=by rw[beq_eq_false_iff_ne];omega
  obtain rfl:3=x:=by rw[← hx,if_pos (by omega)]
  clear hx;go_enter Tryz.func96,Tryz.ntmps96;go_wp2_with fail;go_ret;exact⟨rfl,rfl⟩
end
section
variable {w0 w:World}{l:List (Option Addr×Nat×Nat×Nat)}{bs:List (Nat×Array Value×TypeId)}{g:Nat}{t:TypeId}
theorem S14.atv{xs:Array Value}{y:Value}(h:Hid (S14 w0 w l bs))(hm:(g,xs,t)∈bs)(j:Nat)(hj:xs[j]?=some y):w.cell? ⟨g,j,none⟩=some y:=(S14.at_ h hm j).trans hj
theorem S14.lt{xs:Array Value}(h:S14 w0 w l bs)(hm:(g,xs,t)∈bs):g<w.heap.size:=(h.blk _ hm).lt
theorem S14.all3{x0 x1 x2:Value}(h:Hid (S14 w0 w l bs))(hm:(g,#[x0,x1,x2],t)∈bs):w.cell? ⟨g,0,none⟩=some x0∧w.cell? ⟨g,1,none⟩=some x1∧w.cell? ⟨g,2,none⟩=some x2∧w.frozen? ⟨g,0,none⟩=false∧w.frozen? ⟨g,1,none⟩=false∧w.frozen? ⟨g,2,none⟩=false∧g<w.heap.size:=
 ⟨S14.atv h hm 0 rfl,S14.atv h hm 1 rfl,S14.atv h hm 2 rfl,(h.out.blk _ hm).fz 0,(h.out.blk _ hm).fz 1,(h.out.blk _ hm).fz 2,(h.out.blk _ hm).lt⟩
theorem S14.all4{x0 x1 x2 x3:Value}(h:Hid (S14 w0 w l bs))(hm:(g,#[x0,x1,x2,x3],t)∈bs):w.cell? ⟨g,0,none⟩=some x0∧w.cell? ⟨g,1,none⟩=some x1∧w.cell? ⟨g,2,none⟩=some x2∧w.cell? ⟨g,3,none⟩=some x3∧w.frozen? ⟨g,0,none⟩=false∧w.frozen? ⟨g,1,none⟩=false∧w.frozen? ⟨g,2,none⟩=false∧w.frozen? ⟨g,3,none⟩=false∧g<w.heap.size:=
 ⟨S14.atv h hm 0 rfl,S14.atv h hm 1 rfl,S14.atv h hm 2 rfl,S14.atv h hm 3 rfl,(h.out.blk _ hm).fz 0,(h.out.blk _ hm).fz 1,(h.out.blk _ hm).fz 2,(h.out.blk _ hm).fz 3,(h.out.blk _ hm).lt⟩
theorem S14.fill4{x0 x1 x2 x3:Value}(h:S14 w0 w l bs)(hm:(g,#[x0,x1,x2,x3],t)∈bs)(hc:Cl #[x0,x1,x2,x3])(hg:w0.heap.size≤g)(bs':List (Nat×Array Value×TypeId))(hs:∀q∈bs',q∈bs∧q.1≠g)(y0 y1 y2 y3:Value):S14 w0 (World.setCell (World.setCell (World.setCell (World.setCell w ⟨g,0,none⟩ y0) ⟨g,1,none⟩ y1) ⟨g,2,none⟩ y2) ⟨g,3,none⟩ y3) l ((g,#[y0,y1,y2,y3],t)::bs'):=by
 have b0:=h.blk _ hm;have b1:Bk (World.setCell w ⟨g,0,none⟩ y0) g #[y0,x1,x2,x3] t:=b0.set 0 y0;have b2:Bk (World.setCell (World.setCell w ⟨g,0,none⟩ y0) ⟨g,1,none⟩ y1) g #[y0,y1,x2,x3] t:=b1.set 1 y1;have b3:Bk (World.setCell (World.setCell (World.setCell w ⟨g,0,none⟩ y0) ⟨g,1,none⟩ y1) ⟨g,2,none⟩ y2) g #[y0,y1,y2,x3] t:=b2.set 2 y2;have b4:Bk (World.setCell (World.setCell (World.setCell (World.setCell w ⟨g,0,none⟩ y0) ⟨g,1,none⟩ y1) ⟨g,2,none⟩ y2) ⟨g,3,none⟩ y3) g #[y0,y1,y2,y3] t:=b3.set 3 y3;exact h.turn hm hc hg (kp_trans (kp_trans (kp_trans (kp_set w g 0 y0) (kp_set _ g 1 y1)) (kp_set _ g 2 y2)) (kp_set _ g 3 y3)) b4 bs' hs
end
section
variable {L:List Tok}{a b k:Nat}{x:Int}{t:Tok}
theorem amt_err{z:Nat}(h:SUM L 0 a=.inl (z,b)):amt L a=.inl (z,b):=by unfold amt;rw[h]
theorem amt_cur(h:SUM L 0 a=.inr (x,k,b))(ht:L[b]?=some t)(h3:t.1=3):amt L a=.inr (x,k,t.2,b+1):=by
 unfold amt;rw[h];dsimp only;rw[ht];dsimp only;rw[if_pos h3]
theorem amt_not(h:SUM L 0 a=.inr (x,k,b))(hk:isK L b 3=false):amt L a=.inl (if b<L.length then 3 else 2,b):=by
 unfold amt;rw[h];dsimp only;unfold isK at hk;cases ht:L[b]? with
 | none=>rw[if_neg (by have:=List.getElem?_eq_none_iff.1 ht;omega)]
 | some t=>
  rw[ht] at hk;have h3:¬t.1=3:=of_decide_eq_false hk;dsimp only
  rw[if_neg h3,if_pos (List.getElem?_eq_some_iff.1 ht).1]
theorem evl_at(ha:a≤L.length):∃(x:Int) (k b e:Nat),evl L (a:Int)=(x,k,(b:Int),e)∧((e≠0∧amt L a=.inl (e,b))∨(e=0∧b≤L.length∧SUM L 0 a=.inr (x,k,b))):=by
 have e:evl L (a:Int)=match SUM L 0 a with | .inl (z,b)=>(0,0,(b:Int),z) | .inr (x,k,b)=>(x,k,(b:Int),0):=by
  unfold evl;rw[if_neg (by omega),Int.toNat_natCast];rfl
 rw[e];cases hS:SUM L 0 a with
 | inl q=>obtain⟨z,b⟩:=q;exact⟨0,0,b,z,rfl,.inl ⟨SUM_bad hS,amt_err hS⟩⟩
 | inr q=>obtain⟨x,k,b⟩:=q;exact⟨x,k,b,0,rfl,.inr ⟨rfl,(SUM_lt hS rfl).2,rfl⟩⟩
end
theorem amount_at{w:World}{B n c i:Nat}{A:Option Addr}{L:List Tk4}{G:Nat→Nat→Int→Nat→Prop}(hr:RdK w B A n c L)(hB:B≤w.heap.size)(hn:n≤400)(hL:Siz (L.map tok) G)(hok:Ok12 w)(hi:i≤n){v:VA}{p e:Nat}(h:resA (amt (L.map tok) i)=(v,p,e)):Calls Tryz.prog 71 #[.slice A n c,.int .i64 (i:Int)] w (RvA w v p e):=by
 have hlen:=hr.len;have RD:Hid (∀{W:World},Below w.heap.size w W→RdK W B A n c L):=fun hb=>hr.on hB hb
 have OK:Hid (∀{W:World},Below w.heap.size w W→Ok12 W):=fun hb=>okw12 hok hb
 have E:=Jh (S14.start w);obtain⟨x9,k9,b9,e9,hV,hO⟩:=evl_at (L:=L.map tok) (a:=i) (by rw[List.length_map];omega);have PE:Hid (∀{W:World},Below w.heap.size w W→Calls Tryz.prog 94 #[.slice A n c,.int .i64 (i:Int)] W (RetE W (x9,k9,(b9:Int),e9))):=fun hb=>by
  have q:=peval_ok (RD.out hb) (Nat.le_trans hB hb.size) hn hL hi (OK.out hb).2.1;rw[hV] at q;exact q
 have HO:=Jh hO;have H:=Jh h;have HB:=Jh hB;have HLEN:=Jh hlen;clear hV hO h hr hok hlen hB;go_enter Tryz.func71,Tryz.ntmps71;go_wp2_with fail;replace E:=Jh (E.out.lay #[.bool false,.slice none 0 0,.int .i64 0,.string ⟨#[]⟩] 41 (g:=w.heap.size) (by simp));generalize hW:World.alloc w _=W1 at E ⊢;clear hW;refine(PE.out E.out.bel).mono ?_;rintro e1 w2 ⟨A9,n9,c9,rfl,hnum,hb⟩;replace E:=Jh (E.out.push hb hnum);clear hb hnum;rcases HO.out with⟨he,ha⟩|⟨he,hb9,hS⟩
 ·have de:((e9:Int) != 0)=true:=by rw[bne_iff_ne];omega
  have HA:=Jh ha;clear ha he;obtain⟨r0,r1,r2,r3,rf0,rf1,rf2,rf3,rlt⟩:=S14.all4 (g:=w.heap.size) (t:=41) (x0:=.bool false) (x1:=.slice none 0 0) (x2:=.int .i64 0) (x3:=.string ⟨#[]⟩) E (by simp);go_wp2_with fail;clear r0 r1 r2 r3 rf0 rf1 rf2 rf3 rlt;have EF:=Jh ((E.out.fill4 (g:=w.heap.size) (t:=41) (x0:=.bool false) (x1:=.slice none 0 0) (x2:=.int .i64 0) (x3:=.string ⟨#[]⟩) (by simp) (Cl.mk (cl_cons (noLimb_bool _) (cl_cons (noLimb_slice _ _ _) (cl_cons (noLimb_int _) (cl_cons (noLimb_str _) cl_nil))))) (by first|exact Nat.le_refl _|omega) [] (fun q hq=>by cases hq) (.bool false) (.slice none 0 0) (.int .i64 0) (.string ⟨#[]⟩)).lay #[.bool (ngB x9),.slice A9 n9 c9,.int .i64 (k9:Int)] 39 (g:=w2.heap.size) (by simp));obtain⟨r0,r1,r2,r3,-,-,-,-,-⟩:=S14.all4 (g:=w.heap.size) (t:=41) (x0:=.bool false) (x1:=.slice none 0 0) (x2:=.int .i64 0) (x3:=.string ⟨#[]⟩) EF (by simp);exact bodyPost_ret (v:=.tuple #[.agg #[.bool false,.slice none 0 0,.int .i64 0,.string ⟨#[]⟩],.int .i64 (b9:Int),.int .i64 (e9:Int)]) (by simp[results,Tryz.results71,go_sem,r0,r1,r2,r3]) rfl (by have q:=H.out;rw[HA.out] at q;cases q;exact⟨none,0,0,rfl,num_zero _ _,EF.out.bel⟩)
 ·have de:((e9:Int) != 0)=false:=by rw[he];rfl
  have HS:=Jh hS;have hbn:b9≤n:=by rw[List.length_map] at hb9;have:=HLEN.out;omega
  clear hS he hb9;go_wp2_with fail;have hlt:=E.out.lt (g:=w.heap.size) (xs:=#[.bool false,.slice none 0 0,.int .i64 0,.string ⟨#[]⟩]) (t:=41) (by simp);replace E:=Jh (E.out.lay #[.bool (ngB x9),.slice A9 n9 c9,.int .i64 (k9:Int)] 39 (g:=w2.heap.size) (by simp));generalize hW:World.alloc w2 _=W3 at E ⊢;clear hW;obtain⟨g2,hg2⟩:∃g,w2.heap.size=g:=⟨_,rfl⟩;rw[hg2] at E hlt ⊢;clear hg2;obtain⟨b2,hb2⟩:∃b2,isK (L.map tok) b9 3=b2:=⟨_,rfl⟩;refine(iskind_is (RD.out E.out.bel) (by omega) hb2).mono ?_;rintro e1 w3 ⟨rfl,hw⟩;obtain rfl:=hw.symm;clear hw;cases b2 with
  | true=>
   obtain⟨t,ht⟩:∃t,L[b9]?=some t:=by
    cases ht:L[b9]? with
    | none=>rw[isK_end (List.getElem?_eq_none_iff.1 ht)] at hb2;cases hb2
    | some t=>exact⟨t,rfl⟩
   have h3:t.1=3:=by rw[isK_get ht] at hb2;exact of_decide_eq_true hb2
   obtain⟨qq,uu,rfl,-,-,hq,hbl,a0,a1,a2,a3⟩:=(RD.out E.out.bel).at_ ht;obtain⟨k,T,l,m⟩:=t;have HA:Hid (amt (L.map tok) i=.inr (x9,k9,T,b9+1)):=amt_cur (t:=(k,T)) HS.out (by rw[List.getElem?_map,ht];rfl) h3;have hqs:qq<W3.heap.size:=by have:=E.out.bel.size;have:=HB.out;omega
   clear hb2 h3 ht;have d3:decide (b9<n)=true:=decide_eq_true hbl;have d4:(0:Int)≤(b9:Int):=by omega
   have d5:(b9:Int)<(n:Int):=by omega
   obtain⟨b10,hb10⟩:∃x,b9+1=x:=⟨_,rfl⟩;have ei:(b9:Int)+1=(b10:Int):=by omega
   rw[hb10] at HA;clear hb10;obtain⟨r0,r1,r2,r3,rf0,rf1,rf2,rf3,rlt⟩:=S14.all4 (g:=w.heap.size) (t:=41) (x0:=.bool false) (x1:=.slice none 0 0) (x2:=.int .i64 0) (x3:=.string ⟨#[]⟩) E (by simp);obtain⟨p0,p1,p2,pf0,pf1,pf2,plt⟩:=S14.all3 (g:=g2) (t:=39) (x0:=.bool (ngB x9)) (x1:=.slice A9 n9 c9) (x2:=.int .i64 (k9:Int)) E (by simp);go_wp2_with fail;go_region
   clear r0 r1 r2 r3 rf0 rf1 rf2 rf3 rlt;clear p0 p1 p2 pf0 pf1 pf2 plt;clear a0 a1 a2 a3;go_wp2_with fail;have EF:=Jh ((E.out.fill4 (g:=w.heap.size) (t:=41) (x0:=.bool false) (x1:=.slice none 0 0) (x2:=.int .i64 0) (x3:=.string ⟨#[]⟩) (by simp) (Cl.mk (cl_cons (noLimb_bool _) (cl_cons (noLimb_slice _ _ _) (cl_cons (noLimb_int _) (cl_cons (noLimb_str _) cl_nil))))) (by first|exact Nat.le_refl _|omega) [] (fun q hq=>by cases hq) (.bool (ngB x9)) (.slice A9 n9 c9) (.int .i64 (k9:Int)) (.string T)).step (Below.refl _ _).drew);obtain⟨r0,r1,r2,r3,-,-,-,-,-⟩:=S14.all4 (g:=w.heap.size) (t:=41) (x0:=.bool (ngB x9)) (x1:=.slice A9 n9 c9) (x2:=.int .i64 (k9:Int)) (x3:=.string T) EF (by simp);exact bodyPost_ret (v:=.tuple #[.agg #[.bool (ngB x9),.slice A9 n9 c9,.int .i64 (k9:Int),.string T],.int .i64 (b10:Int),.int .i64 0]) (by simp[results,Tryz.results71,go_sem,r0,r1,r2,r3]) rfl (by have q:=H.out;rw[HA.out] at q;cases q;exact⟨A9,n9,c9,rfl,S14.got EF (by simp),EF.out.bel⟩)
  | false=>
   obtain⟨x2,hx2⟩:∃x,(if b9<n then 3 else 2)=x:=⟨_,rfl⟩;have HA:Hid (amt (L.map tok) i=.inl (x2,b9)):=by
    show _=_;rw[amt_not HS.out hb2,List.length_map,← HLEN.out,hx2]
   go_wp2_with fail;refine(missing_is hbn hx2).mono ?_;rintro e1 w3 ⟨rfl,hw⟩;obtain rfl:=hw.symm;clear hw hx2 hb2;obtain⟨r0,r1,r2,r3,rf0,rf1,rf2,rf3,rlt⟩:=S14.all4 (g:=w.heap.size) (t:=41) (x0:=.bool false) (x1:=.slice none 0 0) (x2:=.int .i64 0) (x3:=.string ⟨#[]⟩) E (by simp);go_wp2_with fail;clear r0 r1 r2 r3 rf0 rf1 rf2 rf3 rlt;have EF:=Jh ((E.out.fill4 (g:=w.heap.size) (t:=41) (x0:=.bool false) (x1:=.slice none 0 0) (x2:=.int .i64 0) (x3:=.string ⟨#[]⟩) (by simp) (Cl.mk (cl_cons (noLimb_bool _) (cl_cons (noLimb_slice _ _ _) (cl_cons (noLimb_int _) (cl_cons (noLimb_str _) cl_nil))))) (by first|exact Nat.le_refl _|omega) [] (fun q hq=>by cases hq) (.bool false) (.slice none 0 0) (.int .i64 0) (.string ⟨#[]⟩)));obtain⟨r0,r1,r2,r3,-,-,-,-,-⟩:=S14.all4 (g:=w.heap.size) (t:=41) (x0:=.bool false) (x1:=.slice none 0 0) (x2:=.int .i64 0) (x3:=.string ⟨#[]⟩) EF (by simp);exact bodyPost_ret (v:=.tuple #[.agg #[.bool false,.slice none 0 0,.int .i64 0,.string ⟨#[]⟩],.int .i64 (b9:Int),.int .i64 (x2:Int)]) (by simp[results,Tryz.results71,go_sem,r0,r1,r2,r3]) rfl (by have q:=H.out;rw[HA.out] at q;cases q;exact⟨none,0,0,rfl,num_zero _ _,EF.out.bel⟩)
abbrev cR(A:Option Addr)(n c a e:Nat):Array Value:=#[.slice A n c,.int .i64 (a:Int),.int .i64 (e:Int)]
def StR(w:World)(g:Nat)(A:Option Addr)(n c a e:Nat):Prop:=Bk w g (cR A n c a e) 66
theorem cl_R(A:Option Addr)(n c a e:Nat):Cl (cR A n c a e):=Cl.mk (cl_cons (noLimb_slice _ _ _) (cl_cons (noLimb_int _) (cl_cons (noLimb_int _) cl_nil)))
section
variable {w w':World}{g n c a e:Nat}{A:Option Addr}
theorem StR.bx(h:StR w g A n c a e):Box w g (.slice A n c) (.int .i64 (a:Int)) (.int .i64 (e:Int)):=⟨Bk.cell h 0,Bk.cell h 1,Bk.cell h 2,Bk.fz h 0,Bk.fz h 1,Bk.fz h 2,Bk.lt h⟩
theorem StR.set1(h:StR w g A n c a e)(x:Nat):StR (w.setCell ⟨g,1,none⟩ (.int .i64 (x:Int))) g A n c x e:=heap_setCell_same w g 1 _ _ _ h
theorem StR.set2(h:StR w g A n c a e)(x:Nat):StR (w.setCell ⟨g,2,none⟩ (.int .i64 (x:Int))) g A n c a x:=heap_setCell_same w g 2 _ _ _ h
theorem StR.on(h:StR w g A n c a e)(hb:Below w.heap.size w w'):StR w' g A n c a e:=Bk.on h hb
end
structure CX (W0:World) (B:Nat) (A:Option Addr) (n c:Nat) (L:List Tk4) (G:Nat→Nat→Int→Nat→Prop):Prop where
 ok:Ok15 W0
 rd:RdK W0 B A n c L
 hB:B≤W0.heap.size
 hn:n≤400
 sz:Siz (L.map tok) G
theorem RdP.kp{w w':World}{A:Option Addr}{n c g:Nat}{l:List (List Nat)}(h:RdP w A n c l)(hf:∀a,A=some a→l=[]∨a.block≠g)(hk:Kp g none w w'):RdP w' A n c l:=by
 obtain⟨h1,h2,h3,h|⟨b,o,rfl,h5,h6⟩⟩:=h
 ·exact⟨h1,h2,h3,.inl h⟩
 ·rcases hf ⟨b,o,none⟩ rfl with hne|hne
  ·exact⟨h1,h2,h3,.inl hne⟩
  have hne:b≠g:=hne;exact⟨h1,h2,h3,.inr ⟨b,o,rfl,Nat.lt_of_lt_of_le h5 hk.size,fun k u hu=>(World.cell?_of_block (hk.block b h5 hne (by simp))).trans (h6 k u hu)⟩⟩
structure SR (W0 w0 w:World) (g:Nat) (A:Option Addr) (n c a e:Nat) (l:List (Option Addr×Nat×Nat×Nat)) (rs:List (Option Addr×Nat×Nat×List (List Nat)×Nat×Nat)) (bs:List (Nat×Array Value×TypeId)):Prop where
 bel:Below W0.heap.size W0 w
 kp:Kp g none w0 w
 pl:W0.heap.size≤g∧g<w0.heap.size
 st:StR w g A n c a e
 num:∀q∈l,Num w w.heap.size q.1 q.2.1 q.2.2.1 q.2.2.2
 row:∀q∈rs,RdP w q.1 q.2.1 q.2.2.1 q.2.2.2.1∧(∀x,q.1=some x→q.2.2.2.2.1≤x.block∧(q.2.2.2.1=[]∨x.block<q.2.2.2.2.2))∧w0.heap.size≤q.2.2.2.2.1
 blk:∀q∈bs,Bk w q.1 q.2.1 q.2.2∧w0.heap.size≤q.1
section
variable {W0 w0 w w':World}{g n c a e a' e':Nat}{A:Option Addr}{l:List (Option Addr×Nat×Nat×Nat)}{rs:List (Option Addr×Nat×Nat×List (List Nat)×Nat×Nat)}{bs:List (Nat×Array Value×TypeId)}
theorem SR.start(hb:Below W0.heap.size W0 w)(hg:W0.heap.size≤g)(hs:StR w g A n c a e):SR W0 w w g A n c a e [] [] []:=
 ⟨hb,Kp.refl _ _ _,⟨hg,Bk.lt hs⟩,hs,fun q hq=>(by cases hq),fun q hq=>(by cases hq),fun q hq=>(by cases hq)⟩
theorem SR.step(h:SR W0 w0 w g A n c a e l rs bs)(hb:Below w.heap.size w w'):SR W0 w0 w' g A n c a e l rs bs:=
 ⟨h.bel.trans (hb.mono h.bel.size),kp_trans h.kp (kp_of hb (Nat.le_refl _)),h.pl,h.st.on hb,fun q hq=>(h.num q hq).on hb,fun q hq=>⟨(h.row q hq).1.on hb,(h.row q hq).2⟩,fun q hq=>⟨(h.blk q hq).1.on hb,(h.blk q hq).2⟩⟩
theorem SR.call(h:SR W0 w0 w g A n c a e l rs bs)(hk:Kp g none w w')(hs:StR w' g A n c a' e'):SR W0 w0 w' g A n c a' e' l rs bs:=
 ⟨below_kp h.bel hk h.pl.1,kp_trans h.kp hk,h.pl,hs,fun q hq=>(Lim.bk (h.num q hq) h.st (cl_R _ _ _ _ _) (Nat.le_refl _) hk).more hk.size,
  fun q hq=>⟨RdP.kp (h.row q hq).1 (fun x hx=>by have:=((h.row q hq).2.1 x hx).1;have:=(h.row q hq).2.2;have:=h.pl;exact .inr (by omega)) hk,(h.row q hq).2⟩,
  fun q hq=>⟨(h.blk q hq).1.kp hk (by have:=(h.blk q hq).2;have:=h.pl;omega),(h.blk q hq).2⟩⟩
theorem SR.set1(h:SR W0 w0 w g A n c a e l rs bs)(x:Nat):SR W0 w0 (w.setCell ⟨g,1,none⟩ (.int .i64 (x:Int))) g A n c x e l rs bs:=h.call (kp_set _ _ _ _) (h.st.set1 x)
theorem SR.set2(h:SR W0 w0 w g A n c a e l rs bs)(x:Nat):SR W0 w0 (w.setCell ⟨g,2,none⟩ (.int .i64 (x:Int))) g A n c a x l rs bs:=h.call (kp_set _ _ _ _) (h.st.set2 x)
theorem SR.push(h:SR W0 w0 w g A n c a e l rs bs){A1:Option Addr}{n1 c1 x:Nat}(hn:Num w w.heap.size A1 n1 c1 x):SR W0 w0 w g A n c a e ((A1,n1,c1,x)::l) rs bs:=
 ⟨h.bel,h.kp,h.pl,h.st,fun q hq=>by
  rcases List.mem_cons.1 hq with rfl|hq
  ·exact hn
  ·exact h.num q hq,h.row,h.blk⟩
theorem SR.read(h:SR W0 w0 w g A n c a e l rs bs){A1:Option Addr}{n1 c1:Nat}{l1:List (List Nat)}(hn:RdP w A1 n1 c1 l1)(lo:Nat)(hl:∀x,A1=some x→lo≤x.block)(hw:w0.heap.size≤lo):SR W0 w0 w g A n c a e l ((A1,n1,c1,l1,lo,w.heap.size)::rs) bs:=
 ⟨h.bel,h.kp,h.pl,h.st,h.num,fun q hq=>by
  rcases List.mem_cons.1 hq with rfl|hq
  ·refine⟨hn,fun x hx=>⟨hl x hx,?_⟩,hw⟩
   obtain⟨-,-,-,h4|⟨b,o,h4,h5,-⟩⟩:=hn
   ·exact .inl h4
   ·rw[h4] at hx;cases hx;exact .inr h5
  ·exact h.row q hq,h.blk⟩
theorem SR.lay(h:SR W0 w0 w g A n c a e l rs bs)(xs:Array Value)(t:TypeId){g1:Nat}(hg:g1=w.heap.size):SR W0 w0 (w.alloc (.cells xs t)) g A n c a e l rs ((g1,xs,t)::bs):=by
 have h2:=h.step ((Below.refl _ _).alloc (Nat.le_refl _) (.cells xs t));refine⟨h2.bel,h2.kp,h2.pl,h2.st,h2.num,h2.row,fun q hq=>?_⟩;rcases List.mem_cons.1 hq with rfl|hq
 ·exact⟨Bk.new w _ _ hg,by have:=h.kp.size;show _≤g1;omega⟩
 ·exact h2.blk q hq
theorem SR.turn(h:SR W0 w0 w g A n c a e l rs bs){g1:Nat}{xs xs':Array Value}{t t':TypeId}(hm:(g1,xs,t)∈bs)(hc:Cl xs)(hr:∀q∈rs,g1<q.2.2.2.2.1∨q.2.2.2.2.2≤g1)(hk:Kp g1 none w w')(hb:Bk w' g1 xs' t')(bs':List (Nat×Array Value×TypeId))(hs:∀q∈bs',q∈bs∧q.1≠g1):SR W0 w0 w' g A n c a e l rs ((g1,xs',t')::bs'):=by
 have h1:=(h.blk _ hm).2;dsimp only at h1
 have hz:=h.kp.size;have hp:=h.pl;refine⟨below_kp h.bel hk (by omega),⟨hk.os.trans h.kp.os,hk.tape.trans h.kp.tape,hk.output.trans h.kp.output,Nat.le_trans hz hk.size,fun k hk1 hc1 hr1=>(hk.block k (by omega) (by omega) (by simp)).trans (h.kp.block k hk1 hc1 hr1)⟩,hp,Bk.kp h.st hk (by omega),
  fun q hq=>(Lim.bk (h.num q hq) (h.blk _ hm).1 hc (Nat.le_refl _) hk).more hk.size,
  fun q hq=>⟨RdP.kp (h.row q hq).1 (fun x hx=>by
   have h3:=(h.row q hq).2.1 x hx;rcases h3.2 with h4|h4
   ·exact .inl h4
   ·have:=hr q hq;have:=h3.1;exact .inr (by omega)) hk,(h.row q hq).2⟩,fun q hq=>?_⟩
 rcases List.mem_cons.1 hq with rfl|hq
 ·exact⟨hb,h1⟩
 ·exact⟨(h.blk q (hs q hq).1).1.kp hk (hs q hq).2,(h.blk q (hs q hq).1).2⟩
theorem SR.store(h:SR W0 w0 w g A n c a e l rs bs){g1:Nat}{xs:Array Value}{t:TypeId}(hm:(g1,xs,t)∈bs)(hc:Cl xs)(hr:∀q∈rs,g1<q.2.2.2.2.1∨q.2.2.2.2.2≤g1)(bs':List (Nat×Array Value×TypeId))(hs:∀q∈bs',q∈bs∧q.1≠g1)(j:Nat)(y:Value):SR W0 w0 (w.setCell ⟨g1,j,none⟩ y) g A n c a e l rs ((g1,xs.setIfInBounds j y,t)::bs'):=
 h.turn hm hc hr (kp_set _ _ _ _) ((h.blk _ hm).1.set j y) bs' hs
theorem SR.facts(h:Hid (SR W0 w0 w g A n c a e l rs bs)):Box w g (.slice A n c) (.int .i64 (a:Int)) (.int .i64 (e:Int)):=h.out.st.bx
theorem SR.got{A1:Option Addr}{n1 c1 x:Nat}(h:Hid (SR W0 w0 w g A n c a e l rs bs))(hm:(A1,n1,c1,x)∈l):Num w w.heap.size A1 n1 c1 x:=h.out.num _ hm
theorem SR.rd{A1:Option Addr}{n1 c1 lo hi:Nat}{l1:List (List Nat)}(h:Hid (SR W0 w0 w g A n c a e l rs bs))(hm:(A1,n1,c1,l1,lo,hi)∈rs):RdP w A1 n1 c1 l1:=(h.out.row _ hm).1
theorem SR.bk{g1:Nat}{xs:Array Value}{t:TypeId}(h:Hid (SR W0 w0 w g A n c a e l rs bs))(hm:(g1,xs,t)∈bs):Bk w g1 xs t:=(h.out.blk _ hm).1
theorem SR.atv{g1:Nat}{xs:Array Value}{t:TypeId}{y:Value}(h:Hid (SR W0 w0 w g A n c a e l rs bs))(hm:(g1,xs,t)∈bs)(j:Nat)(hj:xs[j]?=some y):w.cell? ⟨g1,j,none⟩=some y:=((SR.bk h hm).cell j).trans hj
theorem SR.fz{g1:Nat}{xs:Array Value}{t:TypeId}(h:Hid (SR W0 w0 w g A n c a e l rs bs))(hm:(g1,xs,t)∈bs)(j:Nat):w.frozen? ⟨g1,j,none⟩=false:=(SR.bk h hm).fz j
theorem SR.lt{g1:Nat}{xs:Array Value}{t:TypeId}(h:Hid (SR W0 w0 w g A n c a e l rs bs))(hm:(g1,xs,t)∈bs):g1<w.heap.size:=(SR.bk h hm).lt
theorem SR.ok{B:Nat}{L:List Tk4}{G:Nat→Nat→Int→Nat→Prop}(h:SR W0 w0 w g A n c a e l rs bs)(X:CX W0 B A n c L G):Ok15 w:=okw15 X.ok h.bel
end
def MR(k:Nat)(x:List Nat):Prop:=∀j,j<k→j≤4→mthT j≠x
theorem MR.next{k:Nat}{x:List Nat}(h:MR k x)(h3:x≠mthT k):MR (k+1) x:=by
 intro j hj h4 e;rcases Nat.lt_or_ge j k with h5|h5
 ·exact h j h5 h4 e
 ·obtain rfl:j=k:=by omega
  exact h3 e.symm
theorem MR.zero(x:List Nat):MR 0 x:=fun j hj=>absurd hj (Nat.not_lt_zero _)
theorem mth_at{k:Nat}(h:k≤4){s:ByteArray}(h2:bs9 s=mthT k):mthI s=(k:Int):=by
 unfold mthI;rw[h2];obtain rfl|rfl|rfl|rfl|rfl:k=0∨k=1∨k=2∨k=3∨k=4:=by omega
 all_goals rfl
theorem mth_not{s:ByteArray}(h:MR 5 (bs9 s)):mthI s = -1:=by
 unfold mthI mth;rw[if_neg (fun q=>h 0 (by decide) (by decide) q.symm),if_neg (fun q=>h 1 (by decide) (by decide) q.symm),if_neg (fun q=>h 2 (by decide) (by decide) q.symm),if_neg (fun q=>h 3 (by decide) (by decide) q.symm),if_neg (fun q=>h 4 (by decide) (by decide) q.symm)]
theorem arr15_0(w:World):(Instr.index 74 (.agg #[.string ⟨#[83,84,82,73,67,84]⟩,.string ⟨#[70,73,70,79]⟩,.string ⟨#[76,73,70,79]⟩,.string ⟨#[65,86,69,82,65,71,69]⟩,.string ⟨#[78,79,78,69]⟩]) (.int .i64 0)).run Tryz.prog w=.ok (.string ⟨#[83,84,82,73,67,84]⟩) w:=by kernel_rfl
theorem arr15_1(w:World):(Instr.index 74 (.agg #[.string ⟨#[83,84,82,73,67,84]⟩,.string ⟨#[70,73,70,79]⟩,.string ⟨#[76,73,70,79]⟩,.string ⟨#[65,86,69,82,65,71,69]⟩,.string ⟨#[78,79,78,69]⟩]) (.int .i64 1)).run Tryz.prog w=.ok (.string ⟨#[70,73,70,79]⟩) w:=by kernel_rfl
theorem arr15_2(w:World):(Instr.index 74 (.agg #[.string ⟨#[83,84,82,73,67,84]⟩,.string ⟨#[70,73,70,79]⟩,.string ⟨#[76,73,70,79]⟩,.string ⟨#[65,86,69,82,65,71,69]⟩,.string ⟨#[78,79,78,69]⟩]) (.int .i64 2)).run Tryz.prog w=.ok (.string ⟨#[76,73,70,79]⟩) w:=by kernel_rfl
theorem arr15_3(w:World):(Instr.index 74 (.agg #[.string ⟨#[83,84,82,73,67,84]⟩,.string ⟨#[70,73,70,79]⟩,.string ⟨#[76,73,70,79]⟩,.string ⟨#[65,86,69,82,65,71,69]⟩,.string ⟨#[78,79,78,69]⟩]) (.int .i64 3)).run Tryz.prog w=.ok (.string ⟨#[65,86,69,82,65,71,69]⟩) w:=by kernel_rfl
theorem arr15_4(w:World):(Instr.index 74 (.agg #[.string ⟨#[83,84,82,73,67,84]⟩,.string ⟨#[70,73,70,79]⟩,.string ⟨#[76,73,70,79]⟩,.string ⟨#[65,86,69,82,65,71,69]⟩,.string ⟨#[78,79,78,69]⟩]) (.int .i64 4)).run Tryz.prog w=.ok (.string ⟨#[78,79,78,69]⟩) w:=by kernel_rfl
theorem headm15:METH:=by
 intro w s x hok h;have HX:=Jh h;have HR:=Jh hok.2;clear h hok;go_enter Tryz.func11,Tryz.ntmps11;obtain⟨c0,c1,c2,c3,c4⟩:=HR.out;go_wp2_with fail;clear c0 c1 c2 c3 c4;go_loopw [6] (fun kv wr=>∃(y:Int) (k:Nat),kv=.int .i64 y∧y=(k:Int)∧k≤5∧MR k (bs9 s)∧wr=w) (fun kv _=>5-(intOf kv).toNat)
 case atStart=>exact⟨0,0,rfl,rfl,by decide,MR.zero _,rfl⟩
 case round=>
  obtain⟨y,k,rfl,hy,hk,hn,rfl⟩:=hrel;have HN:=Jh hn;clear hn;obtain rfl|rfl|rfl|rfl|rfl|rfl:k=0∨k=1∨k=2∨k=3∨k=4∨k=5:=by omega
  ·obtain rfl:y=0:=hy
   have ha:=arr15_0;by_cases hx:bs9 s=[83,84,82,73,67,84]
   ·have d:(([83,84,82,73,67,84]:List UInt8) == s.toList)=true:=by rw[BEq.comm];exact lit_yes hx
    have E:Hid ((0:Int)=x):=by show _=_;rw[← HX.out];exact(mth_at (k:=0) (by decide) hx).symm
    clear hx hk;go_wp2_with fail;go_ret;exact⟨by rw[← E.out];rfl,Below.refl _ _⟩
   ·have d:(([83,84,82,73,67,84]:List UInt8) == s.toList)=false:=by rw[BEq.comm];exact lit_not hx
    have E:Hid (MR 1 (bs9 s)):=HN.out.next hx;clear hx hk;go_wp2_with fail;go_roundw
    case rel=>exact⟨_,1,rfl,rfl,by decide,E.out,trivial⟩
    case measure=>simp[intOf]
  ·obtain rfl:y=1:=hy
   have ha:=arr15_1;by_cases hx:bs9 s=[70,73,70,79]
   ·have d:(([70,73,70,79]:List UInt8) == s.toList)=true:=by rw[BEq.comm];exact lit_yes hx
    have E:Hid ((1:Int)=x):=by show _=_;rw[← HX.out];exact(mth_at (k:=1) (by decide) hx).symm
    clear hx hk;go_wp2_with fail;go_ret;exact⟨by rw[← E.out];rfl,Below.refl _ _⟩
   ·have d:(([70,73,70,79]:List UInt8) == s.toList)=false:=by rw[BEq.comm];exact lit_not hx
    have E:Hid (MR 2 (bs9 s)):=HN.out.next hx;clear hx hk;go_wp2_with fail;go_roundw
    case rel=>exact⟨_,2,rfl,rfl,by decide,E.out,trivial⟩
    case measure=>simp[intOf]
  ·obtain rfl:y=2:=hy
   have ha:=arr15_2;by_cases hx:bs9 s=[76,73,70,79]
   ·have d:(([76,73,70,79]:List UInt8) == s.toList)=true:=by rw[BEq.comm];exact lit_yes hx
    have E:Hid ((2:Int)=x):=by show _=_;rw[← HX.out];exact(mth_at (k:=2) (by decide) hx).symm
    clear hx hk;go_wp2_with fail;go_ret;exact⟨by rw[← E.out];rfl,Below.refl _ _⟩
   ·have d:(([76,73,70,79]:List UInt8) == s.toList)=false:=by rw[BEq.comm];exact lit_not hx
    have E:Hid (MR 3 (bs9 s)):=HN.out.next hx;clear hx hk;go_wp2_with fail;go_roundw
    case rel=>exact⟨_,3,rfl,rfl,by decide,E.out,trivial⟩
    case measure=>simp[intOf]
  ·obtain rfl:y=3:=hy
   have ha:=arr15_3;by_cases hx:bs9 s=[65,86,69,82,65,71,69]
   ·have d:(([65,86,69,82,65,71,69]:List UInt8) == s.toList)=true:=by rw[BEq.comm];exact lit_yes hx
    have E:Hid ((3:Int)=x):=by show _=_;rw[← HX.out];exact(mth_at (k:=3) (by decide) hx).symm
    clear hx hk;go_wp2_with fail;go_ret;exact⟨by rw[← E.out];rfl,Below.refl _ _⟩
   ·have d:(([65,86,69,82,65,71,69]:List UInt8) == s.toList)=false:=by rw[BEq.comm];exact lit_not hx
    have E:Hid (MR 4 (bs9 s)):=HN.out.next hx;clear hx hk;go_wp2_with fail;go_roundw
    case rel=>exact⟨_,4,rfl,rfl,by decide,E.out,trivial⟩
    case measure=>simp[intOf]
  ·obtain rfl:y=4:=hy
   have ha:=arr15_4;by_cases hx:bs9 s=[78,79,78,69]
   ·have d:(([78,79,78,69]:List UInt8) == s.toList)=true:=by rw[BEq.comm];exact lit_yes hx
    have E:Hid ((4:Int)=x):=by show _=_;rw[← HX.out];exact(mth_at (k:=4) (by decide) hx).symm
    clear hx hk;go_wp2_with fail;go_ret;exact⟨by rw[← E.out];rfl,Below.refl _ _⟩
   ·have d:(([78,79,78,69]:List UInt8) == s.toList)=false:=by rw[BEq.comm];exact lit_not hx
    have E:Hid (MR 5 (bs9 s)):=HN.out.next hx;clear hx hk;go_wp2_with fail;go_roundw
    case rel=>exact⟨_,5,rfl,rfl,by decide,E.out,trivial⟩
    case measure=>simp[intOf]
  ·obtain rfl:y=5:=hy
   have E:Hid ((-1:Int)=x):=by show _=_;rw[← HX.out];exact(mth_not HN.out).symm
   clear hk;go_wp2_with fail;go_ret;exact⟨by rw[← E.out];rfl,Below.refl _ _⟩
theorem headw15:MWORD:=by
 intro w n s hok h;have HR:=Jh hok.2;clear hok;by_cases hn:0≤n∧n≤4
 ·obtain⟨c0,c1,c2,c3,c4⟩:=HR.out
  obtain rfl|rfl|rfl|rfl|rfl:n=0∨n=1∨n=2∨n=3∨n=4:=by omega
  ·obtain rfl:s=⟨#[83,84,82,73,67,84]⟩:=bs9_inj (h.symm.trans rfl)
   clear h hn;go_enter Tryz.func12,Tryz.ntmps12;go_wp2_with fail;go_ret;exact⟨rfl,Below.refl _ _⟩
  ·obtain rfl:s=⟨#[70,73,70,79]⟩:=bs9_inj (h.symm.trans rfl)
   clear h hn;go_enter Tryz.func12,Tryz.ntmps12;go_wp2_with fail;go_ret;exact⟨rfl,Below.refl _ _⟩
  ·obtain rfl:s=⟨#[76,73,70,79]⟩:=bs9_inj (h.symm.trans rfl)
   clear h hn;go_enter Tryz.func12,Tryz.ntmps12;go_wp2_with fail;go_ret;exact⟨rfl,Below.refl _ _⟩
  ·obtain rfl:s=⟨#[65,86,69,82,65,71,69]⟩:=bs9_inj (h.symm.trans rfl)
   clear h hn;go_enter Tryz.func12,Tryz.ntmps12;go_wp2_with fail;go_ret;exact⟨rfl,Below.refl _ _⟩
  ·obtain rfl:s=⟨#[78,79,78,69]⟩:=bs9_inj (h.symm.trans rfl)
   clear h hn;go_enter Tryz.func12,Tryz.ntmps12;go_wp2_with fail;go_ret;exact⟨rfl,Below.refl _ _⟩
 ·obtain rfl:s=⟨#[]⟩:=bs9_inj (by rw[← h];unfold mthW;rw[if_neg hn];rfl)
  clear h;rcases(show n<0∨(0≤n∧5≤n) by omega) with h|⟨h1,h2⟩
  ·have d:decide (n<0)=true:=decide_eq_true h
   clear hn h;go_enter Tryz.func12,Tryz.ntmps12;go_wp2_with fail;go_ret;exact⟨rfl,Below.refl _ _⟩
  ·have d:decide (n<0)=false:=decide_eq_false (by omega)
   have d2:decide (5≤n)=true:=decide_eq_true h2;clear hn h1 h2;go_enter Tryz.func12,Tryz.ntmps12;go_wp2_with fail;go_ret;exact⟨rfl,Below.refl _ _⟩
def RtN(w:World)(g:Nat)(A:Option Addr)(n c a e:Nat)(en:Ending)(w':World):Prop:=en=.returned (.tuple #[])∧Kp g none w w'∧StR w' g A n c a e
def RtV(w:World)(g:Nat)(A:Option Addr)(n c a e:Nat)(v:Value)(en:Ending)(w':World):Prop:=en=.returned v∧Kp g none w w'∧StR w' g A n c a e
section
variable {W0 w:World}{g B n c a e:Nat}{A:Option Addr}{L:List Tk4}{G:Nat→Nat→Int→Nat→Prop}
theorem stop_is(hs:StR w g A n c a e){p z:Int}{a' e':Nat}(h:(if e=0 then (p,z) else ((a:Int),(e:Int)))=((a':Int),(e':Int))):Calls Tryz.prog 45 #[.pointer (some ⟨g,0,none⟩),.int .i64 p,.int .i64 z] w (RtN w g A n c a' e'):=by
 obtain⟨p0,p1,p2,pf0,pf1,pf2,plt⟩:=hs.bx;have HS:=Jh hs;by_cases he:e=0
 ·have d:((e:Int) == 0)=true:=by rw[beq_iff_eq];omega
  rw[if_pos he] at h;have e1:p=(a':Int):=congrArg Prod.fst h;have e2:z=(e':Int):=congrArg Prod.snd h;subst e1;subst e2;clear h hs;go_enter Tryz.func45,Tryz.ntmps45;go_wp2_with fail;go_end0
  exact⟨rfl,kp_trans (kp_set _ _ _ _) (kp_set _ _ _ _),(HS.out.set1 a').set2 e'⟩
 ·have d:((e:Int) == 0)=false:=by rw[beq_eq_false_iff_ne];omega
  rw[if_neg he] at h;have e1:(a:Int)=(a':Int):=congrArg Prod.fst h;have e2:(e:Int)=(e':Int):=congrArg Prod.snd h;obtain rfl:a=a':=by omega
  obtain rfl:e=e':=by omega
  clear h hs;go_enter Tryz.func45,Tryz.ntmps45;go_wp2_with fail;go_end0
  exact⟨rfl,Kp.refl _ _ _,HS.out⟩
theorem refuse_is(hs:StR w g A n c a e)(ha:e=0→1≤a∧a≤1000){a' e':Nat}(h1:(if e=0 then a-1 else a)=a')(h2:(if e=0 then 3 else e)=e'):Calls Tryz.prog 68 #[.pointer (some ⟨g,0,none⟩)] w (RtN w g A n c a' e'):=by
 obtain⟨p0,p1,p2,pf0,pf1,pf2,plt⟩:=hs.bx;have ST:Hid (∀p:Int,(e=0→p=(a:Int)-1)→Calls Tryz.prog 45 #[.pointer (some ⟨g,0,none⟩),.int .i64 p,.int .i64 3] w (RtN w g A n c a' e')):=fun p hp=>stop_is hs (by
  rw[← h1,← h2];by_cases he:e=0
  ·rw[if_pos he,if_pos he,if_pos he,hp he]
   have:=ha he;rw[show((a-1:Nat):Int)=(a:Int)-1 by omega];rfl
  ·rw[if_neg he,if_neg he,if_neg he])
 by_cases he:e=0
 ·have h3:=ha he
  have h4:(a:Int)≤1000:=by omega
  have h5:(1:Int)≤(a:Int):=by omega
  have S2:=Jh (ST.out ((a:Int)-1) (fun _=>rfl));clear hs ha h1 h2 he ST;go_enter Tryz.func68,Tryz.ntmps68;go_wp2_with fail;refine S2.out.mono ?_;rintro e1 w1 ⟨rfl,hk,hst⟩;go_wp2_with fail;go_end0
  exact⟨rfl,hk,hst⟩
 ·have HE:=Jh he
  clear hs ha h1 h2 he;go_enter Tryz.func68,Tryz.ntmps68;go_wp2_with fail;refine(ST.out _ (fun h=>absurd h HE.out)).mono ?_;rintro e1 w1 ⟨rfl,hk,hst⟩;go_wp2_with fail;go_end0
  exact⟨rfl,hk,hst⟩
theorem end_is(hs:StR w g A n c a e){e':Nat}(he':(if e=0∧a<n then 3 else e)=e'):Calls Tryz.prog 19 #[.pointer (some ⟨g,0,none⟩)] w (RtN w g A n c a e'):=by
 obtain⟨p0,p1,p2,pf0,pf1,pf2,plt⟩:=hs.bx;have HS:=Jh hs;by_cases h:a<n
 ·have d1:decide ((a:Int)<(n:Int))=true:=decide_eq_true (by omega)
  have d3:decide (a<n)=true:=decide_eq_true h;have ST:Hid (∀{W:World},StR W g A n c a e→Calls Tryz.prog 45 #[.pointer (some ⟨g,0,none⟩),.int .i64 (a:Int),.int .i64 3] W (RtN W g A n c a e')):=fun hs=>stop_is hs (by
   rw[← he'];by_cases he:e=0
   ·rw[if_pos he,if_pos ⟨he,h⟩];rfl
   ·rw[if_neg he,if_neg (fun q=>he q.1)])
  clear hs he';go_enter Tryz.func19,Tryz.ntmps19;go_wp2_with fail;go_quiet (fail)
  have hb:=below_drewN (Below.refl w.heap.size w) nq;replace HS:=Jh (HS.out.on hb);obtain⟨p0,p1,p2,pf0,pf1,pf2,plt⟩:=HS.out.bx;go_wp2_with fail;refine(ST.out HS.out).mono ?_;rintro e1 w1 ⟨rfl,hk,hst⟩;go_wp2_with fail;go_end0
  exact⟨rfl,kp_trans (kp_of hb (Nat.le_refl _)) hk,hst⟩
 ·have d1:decide ((a:Int)<(n:Int))=false:=decide_eq_false (by omega)
  have d3:decide (a<n)=false:=decide_eq_false h;rw[if_neg (fun q=>h q.2)] at he';obtain rfl:=he'.symm;clear hs he';go_enter Tryz.func19,Tryz.ntmps19;go_wp2_with fail;go_quiet (fail)
  have hb:=below_drewN (Below.refl w.heap.size w) nq;go_wp2_with fail;go_end0
  exact⟨rfl,kp_of hb (Nat.le_refl _),HS.out.on hb⟩
theorem knd_get{L:List Tk4}{i:Nat}{k:Int}{t:Tk4}(h:L[i]?=some t):knd (L.map tok) i k=decide (t.1=k):=by unfold knd;rw[List.getElem?_map,h];rfl
theorem knd_over{L:List Tk4}{i:Nat}{k:Int}(h:L.length≤i):knd (L.map tok) i k=false:=by unfold knd;rw[List.getElem?_eq_none (by rw[List.length_map];exact h)];rfl
theorem psW_get{L:List Tk4}{i e:Nat}{k:Int}{x:List Nat}{t:Tk4}(h:L[i]?=some t):psW (L.map tok) e i k x=(isWd (L.map tok) e i k&&decide (bs9 t.2.1=x)):=by
 unfold psW isWd;rw[List.getElem?_map,h,Bool.and_assoc];rfl
theorem isWd_lt{L:List Tk4}{i e:Nat}{k:Int}(h:isWd (L.map tok) e i k=true):e=0∧∃t,L[i]?=some t∧t.1=k:=by
 unfold isWd at h;rw[Bool.and_eq_true,decide_eq_true_iff] at h;refine⟨h.1,?_⟩;cases ht:L[i]? with
 | none=>rw[knd_over (List.getElem?_eq_none_iff.1 ht)] at h;exact absurd h.2 (by decide)
 | some t=>rw[knd_get ht,decide_eq_true_iff] at h;exact⟨t,rfl,h.2⟩
theorem is_q(X:CX W0 B A n c L G)(hw:Below W0.heap.size W0 w)(hs:StR w g A n c a e)(k:Int){b:Bool}(hb:isWd (L.map tok) e a k=b):Calls Tryz.prog 65 #[.pointer (some ⟨g,0,none⟩),.int .i64 k] w (fun en w'=>en=.returned (.bool b)∧∃m,w'=w.drewN m):=by
 have hr:=X.rd.on X.hB hw;have hlen:=hr.len;have hn:=X.hn;by_cases he:e=0
 ·have d0:((e:Int) == 0)=true:=by rw[beq_iff_eq];omega
  rcases Nat.lt_or_ge a n with h|h
  ·obtain⟨t,ht⟩:∃t,L[a]?=some t:=⟨_,List.getElem?_eq_getElem (by omega)⟩
   obtain⟨q,u0,rfl,h1,h2,h3,h4,-⟩:=hr.at_ ht;obtain⟨k1,T,l,m⟩:=t;have a0:=(tok_cells hr ht).1;have e1:(k1 == k)=b:=by rw[← hb,isWd,knd_get ht,decide_eq_true he,Bool.true_and,Bool.eq_iff_iff,beq_iff_eq,decide_eq_true_iff]
   obtain⟨p0,p1,p2,pf0,pf1,pf2,plt⟩:=hs.bx;clear hr ht hb hlen hs X hw;have d1:decide ((a:Int)<(n:Int))=true:=decide_eq_true (by omega);have d3:decide (a<n)=true:=decide_eq_true h;have d4:(0:Int)≤(a:Int):=by omega
   have d5:(a:Int)<(n:Int):=by omega
   go_enter Tryz.func65,Tryz.ntmps65;go_wp2_with fail;go_quiet (fail)
   go_wp2_with fail;go_ret;exact⟨rfl,nq,rfl⟩
  ·have e1:false=b:=by rw[← hb,isWd,knd_over (by omega),Bool.and_false]
   subst e1;obtain⟨p0,p1,p2,pf0,pf1,pf2,plt⟩:=hs.bx;clear hr hb hlen hs X hw;have d1:decide ((a:Int)<(n:Int))=false:=decide_eq_false (by omega);have d3:decide (a<n)=false:=decide_eq_false (by omega);go_enter Tryz.func65,Tryz.ntmps65;go_wp2_with fail;go_quiet (fail)
   go_wp2_with fail;go_ret;exact⟨rfl,nq,rfl⟩
 ·have d0:((e:Int) == 0)=false:=by rw[beq_eq_false_iff_ne];omega
  have e1:false=b:=by rw[← hb,isWd,decide_eq_false he,Bool.false_and]
  subst e1;obtain⟨p0,p1,p2,pf0,pf1,pf2,plt⟩:=hs.bx;clear hr hb hlen hs X hw;go_enter Tryz.func65,Tryz.ntmps65;go_wp2_with fail;go_quiet (fail)
  go_wp2_with fail;go_ret;exact⟨rfl,nq,rfl⟩
theorem is_is(X:CX W0 B A n c L G)(hw:Below W0.heap.size W0 w)(hs:StR w g A n c a e)(k:Int){b:Bool}(hb:isWd (L.map tok) e a k=b):Calls Tryz.prog 65 #[.pointer (some ⟨g,0,none⟩),.int .i64 k] w (Ret9 w (.bool b)):=
 (is_q X hw hs k hb).mono fun en w' ⟨h1,m,h2⟩=>⟨h1,h2▸below_drewN (Below.refl _ _) m⟩
end
structure Ikd (w:World) (q n c:Nat) (K:List Int):Prop where
 len:n=K.length
 cap:n≤c
 room:c≤maxLen
 lt:q<w.heap.size
 row:∀(j:Nat) (k:Int),K[j]?=some k→w.cell? ⟨q,j,none⟩=some (.int .i64 k)
theorem Ikd.on{w w':World}{q n c:Nat}{K:List Int}(h:Ikd w q n c K)(hb:Below w.heap.size w w'):Ikd w' q n c K:=
 ⟨h.len,h.cap,h.room,Nat.lt_of_lt_of_le h.lt hb.size,fun j s hs=>(hb.cell (p:=⟨q,j,none⟩) h.lt).trans (h.row j s hs)⟩
theorem ikd_of{v:World}{q n:Nat}{K:List Int}{vs:Array Value}{t:TypeId}(hq:v.heap[q]?=some (.cells vs t (0,0)))(hv:vs.toList=K.map (Value.int .i64))(hn:n=K.length)(hm:n≤1000):Ikd v q n n K:=by
 refine⟨hn,Nat.le_refl _,by unfold maxLen;omega,?_,fun j s hs=>?_⟩
 ·rcases Nat.lt_or_ge q v.heap.size with h1|h1
  ·exact h1
  ·rw[Array.getElem?_eq_none h1] at hq;cases hq
 ·rw[cell_of_row v q j _ _ _ hq,← Array.getElem?_toList,hv,List.getElem?_map,hs];rfl
theorem ikd_one(v:World)(k:Int)(t:TypeId){q:Nat}(hq:q=v.heap.size):Ikd (v.alloc (.cells #[.int .i64 k] t)) q 1 1 [k]:=by subst hq;exact ikd_of (heap_alloc_new v _) rfl rfl (by omega)
theorem ikd_two(v:World)(k k2:Int)(t:TypeId){q:Nat}(hq:q=v.heap.size):Ikd (v.alloc (.cells #[.int .i64 k,.int .i64 k2] t)) q 2 2 [k,k2]:=by subst hq;exact ikd_of (heap_alloc_new v _) rfl rfl (by omega)
def isOneK(v:Int)(K:List Int):Bool:=K.any fun k=>decide (v=k)
theorem iindex{w:World}{q n c:Nat}{K:List Int}(h:Ikd w q n c K)(v:Int) :
  Calls Tryz.prog 90 #[.slice (some ⟨q,0,none⟩) n c,.int .i64 v] w fun e w'=>(∃r:Int,e=.returned (.int .i64 r)∧decide (0≤r)=isOneK v K)∧w=w':=by
 have hm:=h.room;have hn:=h.cap;unfold maxLen at hm;go_enter Tryz.func90,Tryz.ntmps90;go_wp2;go_loop [8] (fun i=>∃k:Nat,k≤n∧i=.int .i64 k∧isOneK v (K.take k)=false) (fun i=>n-(intOf i).toNat)
 case atStart=>exact⟨0,Nat.zero_le _,rfl,rfl⟩
 case round=>
  obtain⟨k,hk,rfl,hall⟩:=hrel;have HALL:=Jh hall;clear hall;by_cases hkn:k<n
  ·obtain⟨s,hs⟩:∃s,K[k]?=some s:=⟨_,List.getElem?_eq_getElem (by have:=h.len;omega)⟩
   have hc:=h.row k s hs;have H:=Jh h;have HS:=Jh hs;clear h hs;cases hb:decide (v=s) with
   | true=>
    have ht:(v == s)=true:=by rw[beq_iff_eq];exact of_decide_eq_true hb
    have E:Hid (isOneK v K=true):=by
     show _=_;unfold isOneK;rw[List.any_eq_true];exact⟨s,List.mem_of_getElem? HS.out,hb⟩
    clear hb;go_wp2_with fail;go_ret;exact⟨⟨_,rfl,by rw[E.out];simp⟩,rfl⟩
   | false=>
    have ht:(v == s)=false:=by rw[beq_eq_false_iff_ne];exact of_decide_eq_false hb
    have E:Hid (isOneK v (K.take (k+1))=false):=by
     show _=_;have h2:=HALL.out;unfold isOneK at h2 ⊢;rw[List.take_add_one,List.any_append,h2,HS.out];show(false||(decide (v=s)||false))=false;rw[hb];rfl
    clear hb;go_wp2_with fail;go_round
    case rel=>exact⟨k+1,by omega,by go_num,E.out⟩
    case measure=>simp[intOf];omega
  ·obtain rfl:k=n:=by omega
   have E:Hid (isOneK v K=false):=by
    show _=_;have h2:=HALL.out;rw[List.take_of_length_le (by rw[h.len];exact Nat.le_refl _)] at h2;exact h2
   clear h;go_wp2;go_ret;exact⟨⟨_,rfl,by rw[E.out];simp⟩,rfl⟩
theorem icontains{w:World}{q n c:Nat}{K:List Int}(h:Ikd w q n c K)(v:Int){b:Bool}(hb:isOneK v K=b) :
  Calls Tryz.prog 66 #[.slice (some ⟨q,0,none⟩) n c,.int .i64 v] w fun e w'=>e=.returned (.bool b)∧w'=w:=by
 have H:=Jh h;have HB:=Jh hb;clear h hb;go_enter Tryz.func66,Tryz.ntmps66;go_wp2_with fail;refine(iindex H.out v).mono ?_;rintro e w1 ⟨⟨r,rfl,hr⟩,rfl⟩;have HR:Hid (decide (0≤r)=b):=hr.trans HB.out;clear hr;go_wp2_with fail;go_ret;exact⟨ret_bool HR.out,rfl⟩
section
variable {W0 w:World}{g B n c a e:Nat}{A:Option Addr}{L:List Tk4}{G:Nat→Nat→Int→Nat→Prop}
theorem StR.drewN(h:StR w g A n c a e)(m:Nat):StR (w.drewN m) g A n c a e:=h.on (below_drewN (Below.refl _ _) m)
theorem pass_is(X:CX W0 B A n c L G)(hw:Below W0.heap.size W0 w)(hg:W0.heap.size≤g)(hs:StR w g A n c a e)(k:Int)(S:ByteArray){x:List Nat}(hS:bs9 S=x){b:Bool}(hb:psW (L.map tok) e a k x=b){a':Nat}(ha':(if b=true then a+1 else a)=a'):Calls Tryz.prog 41 #[.pointer (some ⟨g,0,none⟩),.int .i64 k,.string S] w (RtV w g A n c a' e (.bool b)):=by
 obtain⟨b2,hb2⟩:∃b2,isWd (L.map tok) e a k=b2:=⟨_,rfl⟩;have IS:Hid (∀m,Calls Tryz.prog 65 #[.pointer (some ⟨g,0,none⟩),.int .i64 k] (w.drewN m) (fun en w'=>en=.returned (.bool b2)∧∃j,w'=(w.drewN m).drewN j)):=fun m=>is_q X (below_drewN hw m) (hs.drewN m) k hb2
 have HS:=Jh hs;cases b2 with
 | true=>
  obtain⟨he,t,ht,hk⟩:=isWd_lt hb2;have hr:=X.rd.on X.hB hw;have hlen:=hr.len;have hn:=X.hn;obtain⟨q,u0,rfl,h1,h2,h3,h,-⟩:=hr.at_ ht;obtain⟨k1,T,l,m⟩:=t;have a1:=(tok_cells hr ht).2.1;have eb:(T.toList == S.toList)=b:=by rw[← hb,psW_get ht,hb2,Bool.true_and,txt_eq,hS]
  obtain⟨p0,p1,p2,pf0,pf1,pf2,plt⟩:=hs.bx;obtain⟨i1,hi1⟩:∃i1,a+1=i1:=⟨_,rfl⟩;have ei:(a:Int)+1=(i1:Int):=by omega
  have EI:=Jh hi1;clear hr ht hb hlen hs X hw hb2 hS hi1 hg;have d3:decide (a<n)=true:=decide_eq_true h;have d4:(0:Int)≤(a:Int):=by omega
  have d5:(a:Int)<(n:Int):=by omega
  cases b with
  | true=>
   rw[if_pos rfl,EI.out] at ha';obtain rfl:=ha';go_enter Tryz.func41,Tryz.ntmps41;go_wp2_with fail;go_quiet ((go_at_call 65;exact Calls.quiet_of (IS.out _)))
   replace HS:=Jh (HS.out.drewN nq);go_wp2_with fail;go_ret;exact⟨rfl,kp_trans (kp_of (below_drewN (Below.refl _ _) nq) (Nat.le_refl _)) (kp_set _ _ _ _),HS.out.set1 i1⟩
  | false=>
   rw[if_neg (by decide)] at ha';obtain rfl:=ha';go_enter Tryz.func41,Tryz.ntmps41;go_wp2_with fail;go_quiet ((go_at_call 65;exact Calls.quiet_of (IS.out _)))
   replace HS:=Jh (HS.out.drewN nq);go_wp2_with fail;go_ret;exact⟨rfl,kp_of (below_drewN (Below.refl _ _) nq) (Nat.le_refl _),HS.out⟩
 | false=>
  have e1:false=b:=by
   rw[← hb];have h2:psW (L.map tok) e a k x=(isWd (L.map tok) e a k&&(((L.map tok)[a]?).any fun t=>decide (bs9 t.2=x))):=by unfold psW isWd;rw[Bool.and_assoc]
   rw[h2,hb2,Bool.false_and]
  subst e1;rw[if_neg (by decide)] at ha';obtain rfl:=ha';obtain⟨p0,p1,p2,pf0,pf1,pf2,plt⟩:=hs.bx;clear hs X hw hb2 hb hg hS;go_enter Tryz.func41,Tryz.ntmps41;go_wp2_with fail;go_quiet ((go_at_call 65;exact Calls.quiet_of (IS.out _)))
  replace HS:=Jh (HS.out.drewN nq);go_wp2_with fail;go_ret;exact⟨rfl,kp_of (below_drewN (Below.refl _ _) nq) (Nat.le_refl _),HS.out⟩
def RtW(w:World)(g:Nat)(A:Option Addr)(n c a e:Nat)(L:List Tok)(K:List Int)(en:Ending)(w':World):Prop:=∃(s:ByteArray) (a' e':Nat),en=.returned (.string s)∧Kp g none w w'∧StR w' g A n c a' e'∧Aft (nxr e a (tkwK L K)) a' e' (· = s)∧(e'=0→e=0∧a'=a+1∧a'≤n)∧s.size≤6000
theorem word_is(X:CX W0 B A n c L G)(hw:Below W0.heap.size W0 w)(hg:W0.heap.size≤g)(hs:StR w g A n c a e){q nk ck:Nat}{K:List Int}(hk:Ikd w q nk ck K)(ha:e=0→a≤n):Calls Tryz.prog 42 #[.pointer (some ⟨g,0,none⟩),.slice (some ⟨q,0,none⟩) nk ck] w (RtW w g A n c a e (L.map tok) K):=by
 have hr:=X.rd.on X.hB hw;have hlen:=hr.len;have hn:=X.hn;have hB:B≤w.heap.size:=Nat.le_trans X.hB hw.size;have hBg:B≤g:=Nat.le_trans X.hB hg;have HS:=Jh hs;have HR:=Jh hr;have HK:=Jh hk;obtain⟨p0,p1,p2,pf0,pf1,pf2,plt⟩:=hs.bx;by_cases he:e=0
 ·have d0:((e:Int) != 0)=false:=by rw[he];rfl
  have ha1:=ha he;rcases Nat.lt_or_ge a n with h|h
  ·obtain⟨t,ht⟩:∃t,L[a]?=some t:=⟨_,List.getElem?_eq_getElem (by omega)⟩
   obtain⟨b,hb⟩:∃b,isOneK t.1 K=b:=⟨_,rfl⟩;have htx:t.2.1.size≤6000:=X.sz.txt (tok t) (List.mem_map_of_mem (List.mem_of_getElem? ht));have HT:=Jh ht;obtain⟨q0,u0,rfl,h1,h2,h3,-⟩:=hr.at_ ht;obtain⟨k1,T,l,m⟩:=t;have a0:=(tok_cells hr ht).1;have d1:((a:Int) == (n:Int))=false:=by rw[beq_eq_false_iff_ne];omega
   have d2:decide (n≤a)=false:=decide_eq_false (by omega);have d3:decide (a<n)=true:=decide_eq_true h;have d4:(0:Int)≤(a:Int):=by omega
   have d5:(a:Int)<(n:Int):=by omega
   have IC:Hid (∀{W:World},Below w.heap.size w W→∀j,Calls Tryz.prog 66 #[.slice (some ⟨q,0,none⟩) nk ck,.int .i64 k1] (W.drewN j) (fun en w'=>en=.returned (.bool b)∧w'=W.drewN j)):=fun h j=>icontains (hk.on (below_drewN h j)) k1 hb
   have E:=Jh (Below.refl w.heap.size w);have HE:=Jh he;have HBB:=Jh hB;have HBG:=Jh hBg;cases b with
   | true=>
    have HA:Hid (nxr e a (tkwK (L.map tok) K)=.inr (T,a+1)):=by
     show _=_;unfold nxr tkwK;rw[if_pos he,List.getElem?_map,ht];show(if isOneK k1 K=true then _ else _)=_;rw[hb,if_pos rfl];rfl
    obtain⟨i1,hi1⟩:∃i1,a+1=i1:=⟨_,rfl⟩;have ei:(a:Int)+1=(i1:Int):=by omega
    have em:(i1:Int)-1=(a:Int):=by omega
    have EI:=Jh hi1;have HX:=Jh htx;clear hr ht hb hlen hs X hw hk ha ha1 hi1 htx he hg hB hBg;go_enter Tryz.func42,Tryz.ntmps42;go_wp2_with fail;go_quiet (fail)
    have hb:=below_drewN (Below.refl w.heap.size w) nq;replace HS:=Jh (HS.out.on hb);replace HR:=Jh (HR.out.on (Nat.le_trans HBB.out E.out.size) hb);replace E:=Jh (E.out.trans (hb.mono E.out.size));clear hb p0 p1 p2 pf0 pf1 pf2 plt a0;generalize hW:World.drewN w nq=W1 at HS HR E ⊢;clear hW;obtain⟨p0,p1,p2,pf0,pf1,pf2,plt⟩:=HS.out.bx;have a0:=(tok_cells HR.out HT.out).1;go_wp2_with fail;go_quiet ((go_at_call 66;exact Calls.quiet_of_same (IC.out E.out _)))
    have hb:=below_drewN (Below.refl W1.heap.size W1) nq;replace HS:=Jh (HS.out.on hb);replace HR:=Jh (HR.out.on (Nat.le_trans HBB.out E.out.size) hb);replace E:=Jh (E.out.trans (hb.mono E.out.size));clear hb p0 p1 p2 pf0 pf1 pf2 plt a0;generalize hW:World.drewN W1 nq=W2 at HS HR E ⊢;clear hW;obtain⟨p0,p1,p2,pf0,pf1,pf2,plt⟩:=HS.out.bx;have a0:=(tok_cells HR.out HT.out).1;go_wp2_with fail;have HK2:Hid (Kp g none w (W2.setCell ⟨g,1,none⟩ (.int .i64 (i1:Int)))):=kp_trans (kp_of E.out (Nat.le_refl _)) (kp_set _ _ _ _);replace HS:=Jh (HS.out.set1 i1);replace HR:=Jh (HR.out.kp HBG.out (Nat.le_trans HBB.out E.out.size) (kp_set W2 g 1 (.int .i64 (i1:Int))));generalize hW:World.setCell W2 _ _=W3 at HS HR HK2 ⊢;clear hW;clear p0 p1 p2 pf0 pf1 pf2 plt a0;obtain⟨p0,p1,p2,pf0,pf1,pf2,plt⟩:=HS.out.bx;have a1:=(tok_cells HR.out HT.out).2.1;go_quiet (fail)
    go_wp2_with fail;go_ret;exact⟨T,i1,e,rfl,kp_trans HK2.out (kp_of (below_drewN (Below.refl _ _) nq) (Nat.le_refl _)),HS.out.drewN nq,by rw[HA.out,EI.out];exact⟨rfl,HE.out,rfl⟩,fun _=>⟨HE.out,EI.out.symm,by have:=EI.out;omega⟩,HX.out⟩
   | false=>
    have HA:Hid (nxr e a (tkwK (L.map tok) K)=.inl (3,a)):=by
     show _=_;unfold nxr tkwK;rw[if_pos he,List.getElem?_map,ht];show(if isOneK k1 K=true then _ else _)=_;rw[hb,if_neg (by decide)]
    clear hr ht hb hlen hs X hw hk ha ha1 htx he hg hB hBg;go_enter Tryz.func42,Tryz.ntmps42;go_wp2_with fail;go_quiet (fail)
    have hb:=below_drewN (Below.refl w.heap.size w) nq;replace HS:=Jh (HS.out.on hb);replace HR:=Jh (HR.out.on (Nat.le_trans HBB.out E.out.size) hb);replace E:=Jh (E.out.trans (hb.mono E.out.size));clear hb p0 p1 p2 pf0 pf1 pf2 plt a0;generalize hW:World.drewN w nq=W1 at HS HR E ⊢;clear hW;obtain⟨p0,p1,p2,pf0,pf1,pf2,plt⟩:=HS.out.bx;have a0:=(tok_cells HR.out HT.out).1;go_wp2_with fail;go_quiet ((go_at_call 66;exact Calls.quiet_of_same (IC.out E.out _)))
    have hb:=below_drewN (Below.refl W1.heap.size W1) nq;replace HS:=Jh (HS.out.on hb);replace HR:=Jh (HR.out.on (Nat.le_trans HBB.out E.out.size) hb);replace E:=Jh (E.out.trans (hb.mono E.out.size));clear hb p0 p1 p2 pf0 pf1 pf2 plt a0;generalize hW:World.drewN W1 nq=W2 at HS HR E ⊢;clear hW;obtain⟨p0,p1,p2,pf0,pf1,pf2,plt⟩:=HS.out.bx;have a0:=(tok_cells HR.out HT.out).1;go_wp2_with fail;refine(stop_is HS.out (p:=(a:Int)) (z:=3) (a':=a) (e':=3) (by rw[if_pos HE.out];rfl)).mono ?_;rintro e1 w1 ⟨rfl,hk1,hs1⟩;have HK2:Hid (Kp g none w w1):=kp_trans (kp_of E.out (Nat.le_refl _)) hk1;replace HS:=Jh hs1;clear hk1 hs1 p0 p1 p2 pf0 pf1 pf2 plt a0;go_wp2_with fail;go_ret;exact⟨⟨#[]⟩,a,3,rfl,HK2.out,HS.out,by rw[HA.out];exact⟨rfl,rfl,by decide⟩,fun h=>absurd h (by decide),Nat.zero_le _⟩
  ·have d1:((a:Int) == (n:Int))=true:=by rw[beq_iff_eq];omega
   have HA:Hid (nxr e a (tkwK (L.map tok) K)=.inl (2,a)):=by
    show _=_;unfold nxr tkwK;rw[if_pos he,List.getElem?_eq_none (by rw[List.length_map];omega)]
   have E:=Jh (Below.refl w.heap.size w);have HE:=Jh he;clear hr hlen hs X hw hk ha ha1 he hg hB hBg;go_enter Tryz.func42,Tryz.ntmps42;go_wp2_with fail;go_quiet (fail)
   have hb:=below_drewN (Below.refl w.heap.size w) nq;replace HS:=Jh (HS.out.on hb);replace E:=Jh (E.out.trans hb);clear hb p0 p1 p2 pf0 pf1 pf2 plt;generalize hW:World.drewN w nq=W1 at HS E ⊢;clear hW;obtain⟨p0,p1,p2,pf0,pf1,pf2,plt⟩:=HS.out.bx;go_wp2_with fail;refine(stop_is HS.out (p:=(a:Int)) (z:=2) (a':=a) (e':=2) (by rw[if_pos HE.out];rfl)).mono ?_;rintro e1 w1 ⟨rfl,hk1,hs1⟩;have HK2:Hid (Kp g none w w1):=kp_trans (kp_of E.out (Nat.le_refl _)) hk1;replace HS:=Jh hs1;clear hk1 hs1 p0 p1 p2 pf0 pf1 pf2 plt;go_wp2_with fail;go_ret;exact⟨⟨#[]⟩,a,2,rfl,HK2.out,HS.out,by rw[HA.out];exact⟨rfl,rfl,by decide⟩,fun h=>absurd h (by decide),Nat.zero_le _⟩
 ·have d0:((e:Int) != 0)=true:=by rw[bne_iff_ne];omega
  have HE:=Jh he;clear hr hlen hs X hw hk ha he hg hB hBg;go_enter Tryz.func42,Tryz.ntmps42;go_wp2_with fail;go_ret;exact⟨⟨#[]⟩,a,e,rfl,Kp.refl _ _ _,HS.out,Aft.stay HE.out,fun h=>absurd h HE.out,Nat.zero_le _⟩
end
section
variable {W0 w0 w w':World}{g n c a e a' e':Nat}{A:Option Addr}{l:List (Option Addr×Nat×Nat×Nat)}{rs:List (Option Addr×Nat×Nat×List (List Nat)×Nat×Nat)}{bs:List (Nat×Array Value×TypeId)}
theorem Bk.sets{g:Nat}{t:TypeId}:∀(ys:List (Nat×Value)) {w:World}{xs:Array Value},Bk w g xs t→Bk (ys.foldl (fun w y=>w.setCell ⟨g,y.1,none⟩ y.2) w) g (ys.foldl (fun xs y=>xs.setIfInBounds y.1 y.2) xs) t
 | [],_,_,h=>h
 | y::r,w,xs,h=>Bk.sets r (h.set y.1 y.2)
theorem SR.fill(h:SR W0 w0 w g A n c a e l rs bs){g1:Nat}{xs:Array Value}{t:TypeId}(hm:(g1,xs,t)∈bs)(hc:Cl xs)(hr:∀q∈rs,g1<q.2.2.2.2.1∨q.2.2.2.2.2≤g1)(bs':List (Nat×Array Value×TypeId))(hs:∀q∈bs',q∈bs∧q.1≠g1)(ys:List (Nat×Value)) :
  SR W0 w0 (ys.foldl (fun w y=>w.setCell ⟨g1,y.1,none⟩ y.2) w) g A n c a e l rs ((g1,ys.foldl (fun xs y=>xs.setIfInBounds y.1 y.2) xs,t)::bs'):=
 h.turn hm hc hr (kp_sets ys w) (Bk.sets ys (h.blk _ hm).1) bs' hs
theorem SR.fill3(h:SR W0 w0 w g A n c a e l rs bs){g1:Nat}{x0 x1 x2:Value}{t:TypeId}(hm:(g1,#[x0,x1,x2],t)∈bs)(hc:Cl #[x0,x1,x2])(hr:∀q∈rs,g1<q.2.2.2.2.1∨q.2.2.2.2.2≤g1)(bs':List (Nat×Array Value×TypeId))(hs:∀q∈bs',q∈bs∧q.1≠g1)(y0 y1 y2:Value) :
 SR W0 w0 (World.setCell (World.setCell (World.setCell w ⟨g1,0,none⟩ y0) ⟨g1,1,none⟩ y1) ⟨g1,2,none⟩ y2) g A n c a e l rs ((g1,#[y0,y1,y2],t)::bs'):=SR.fill h hm hc hr bs' hs [(0,y0),(1,y1),(2,y2)]
theorem SR.fill4(h:SR W0 w0 w g A n c a e l rs bs){g1:Nat}{x0 x1 x2 x3:Value}{t:TypeId}(hm:(g1,#[x0,x1,x2,x3],t)∈bs)(hc:Cl #[x0,x1,x2,x3])(hr:∀q∈rs,g1<q.2.2.2.2.1∨q.2.2.2.2.2≤g1)(bs':List (Nat×Array Value×TypeId))(hs:∀q∈bs',q∈bs∧q.1≠g1)(y0 y1 y2 y3:Value) :
 SR W0 w0 (World.setCell (World.setCell (World.setCell (World.setCell w ⟨g1,0,none⟩ y0) ⟨g1,1,none⟩ y1) ⟨g1,2,none⟩ y2) ⟨g1,3,none⟩ y3) g A n c a e l rs ((g1,#[y0,y1,y2,y3],t)::bs'):=SR.fill h hm hc hr bs' hs [(0,y0),(1,y1),(2,y2),(3,y3)]
theorem kp_setRow(w:World)(g:Nat)(cs:Array Value):Kp g none w (w.setRow g cs):=⟨rfl,rfl,rfl,by simp[World.setRow],fun k _ hc _=>setRow_other w g k cs hc⟩
theorem SR.setRow(h:SR W0 w0 w g A n c a e l rs bs){g1:Nat}{xs:Array Value}{t:TypeId}(hm:(g1,xs,t)∈bs)(hc:Cl xs)(hr:∀q∈rs,g1<q.2.2.2.2.1∨q.2.2.2.2.2≤g1)(bs':List (Nat×Array Value×TypeId))(hs:∀q∈bs',q∈bs∧q.1≠g1)(cs:Array Value) :
  SR W0 w0 (w.setRow g1 cs) g A n c a e l rs ((g1,cs,t)::bs'):=
 h.turn hm hc hr (kp_setRow w g1 cs) (setRow_heap w g1 _ cs t _ (h.blk _ hm).1) bs' hs
end
def RtD(w:World)(g:Nat)(A:Option Addr)(n c a e:Nat)(L:List Tok)(en:Ending)(w':World):Prop:=∃(i:Int) (k:Nat) (A1:Option Addr) (n1 c1 a' e':Nat),en=.returned (.agg #[.bool (ngB i),.slice A1 n1 c1,.int .i64 (k:Int)])∧Num w' w'.heap.size A1 n1 c1 i.natAbs∧Kp g none w w'∧StR w' g A n c a' e'∧Aft (nxr e a (nmr L)) a' e' (· = (i,k))∧(e'=0→e=0∧a<a'∧a'≤n)
def RtA(w:World)(g:Nat)(A:Option Addr)(n c a e:Nat)(L:List Tok)(en:Ending)(w':World):Prop:=∃(i:Int) (k:Nat) (s:ByteArray) (A1:Option Addr) (n1 c1 a' e':Nat),en=.returned (.agg #[.bool (ngB i),.slice A1 n1 c1,.int .i64 (k:Int),.string s])∧Num w' w'.heap.size A1 n1 c1 i.natAbs∧Kp g none w w'∧StR w' g A n c a' e'∧Aft (nxr e a (amr L)) a' e' (· = (i,k,s))∧(e'=0→e=0∧a<a'∧a'≤n)
theorem nmr_evl{L:List Tok}{a:Nat}(ha:a≤L.length):∃(x:Int) (k b e:Nat),evl L (a:Int)=(x,k,(b:Int),e)∧Aft (nmr L a) b e (· = (x,k))∧(e=0→a<b∧b≤L.length):=by
 have e:evl L (a:Int)=match SUM L 0 a with | .inl (z,b)=>(0,0,(b:Int),z) | .inr (x,k,b)=>(x,k,(b:Int),0):=by
  unfold evl;rw[if_neg (by omega),Int.toNat_natCast];rfl
 rw[e];unfold nmr;cases hS:SUM L 0 a with
 | inl q=>obtain⟨z,b⟩:=q;exact⟨0,0,b,z,rfl,⟨rfl,rfl,SUM_bad hS⟩,fun h=>absurd h (SUM_bad hS)⟩
 | inr q=>obtain⟨x,k,b⟩:=q;exact⟨x,k,b,0,rfl,⟨rfl,rfl,rfl⟩,fun _=>SUM_lt hS rfl⟩
theorem amr_res{L:List Tok}{a:Nat}(ha:a≤L.length):∃(v:VA) (b e:Nat),resA (amt L a)=(v,b,e)∧Aft (amr L a) b e (· = (v.i,v.k,v.s))∧(e=0→a<b∧b≤L.length):=by
 unfold amr;cases hS:amt L a with
 | inl q=>obtain⟨z,b⟩:=q;exact⟨⟨0,0,⟨#[]⟩⟩,b,z,rfl,⟨rfl,rfl,amt_bad hS⟩,fun h=>absurd h (amt_bad hS)⟩
 | inr q=>
  obtain⟨x,k,s,b⟩:=q;refine⟨⟨x,k,s⟩,b,0,rfl,⟨rfl,rfl,rfl⟩,fun _=>?_⟩;unfold amt at hS;cases hT:SUM L 0 a with
  | inl q=>rw[hT] at hS;cases hS
  | inr q=>
   obtain⟨x1,k1,b1⟩:=q;have h1:=SUM_lt hT rfl;rw[hT] at hS;dsimp only at hS
   cases hl:L[b1]? with
   | none=>rw[hl] at hS;cases hS
   | some t=>
    rw[hl] at hS;have hb:=(List.getElem?_eq_some_iff.1 hl).1;dsimp only at hS
    by_cases h3:t.1=3
    ·rw[if_pos h3] at hS
     cases hS
     omega
    ·rw[if_neg h3] at hS;cases hS
theorem reckonD_is{W0 w:World}{g B n c a e:Nat}{A:Option Addr}{L:List Tk4}{G:Nat→Nat→Int→Nat→Prop}(X:CX W0 B A n c L G)(hw:Below W0.heap.size W0 w)(hg:W0.heap.size≤g)(hs:StR w g A n c a e)(ha:e=0→a≤n):Calls Tryz.prog 97 #[.pointer (some ⟨g,0,none⟩),.func (.func 94) #[] #[]] w (RtD w g A n c a e (L.map tok)):=by
 have hlen:=X.rd.len;have E:=Jh (SR.start hw hg hs);have hgw:=Bk.lt hs;by_cases he:e=0
 ·have d0:((e:Int) != 0)=false:=by rw[he];rfl
  have han:=ha he;obtain⟨x9,k9,b9,e9,hV,hA,hlt9⟩:=nmr_evl (L:=L.map tok) (a:=a) (by rw[List.length_map];omega);have PE:Hid (∀{W:World},Below W0.heap.size W0 W→Calls Tryz.prog 94 #[.slice A n c,.int .i64 (a:Int)] W (RetE W (x9,k9,(b9:Int),e9))):=fun hb=>by
   have q:=peval_ok (X.rd.on X.hB hb) (Nat.le_trans X.hB hb.size) X.hn X.sz (by omega) (okw15 X.ok hb).1.2.1;rw[hV] at q;exact q
  have HA:Hid (Aft (nxr e a (nmr (L.map tok))) b9 e9 (· = (x9,k9))):=by
   show Aft _ _ _ _;unfold nxr;rw[if_pos he];exact hA
  have HL:Hid (e9=0→e=0∧a<b9∧b9≤n):=fun h=>⟨he,(hlt9 h).1,by have:=(hlt9 h).2;rw[List.length_map] at this;omega⟩
  clear hV hA hlt9 hs hlen he han ha hw hg;go_enter Tryz.func97,Tryz.ntmps97;obtain⟨p0,p1,p2,pf0,pf1,pf2,plt⟩:=SR.facts E;go_wp2_with fail;clear p0 p1 p2 pf0 pf1 pf2 plt;replace E:=Jh (E.out.lay #[.bool false,.slice none 0 0,.int .i64 0] 39 (g1:=w.heap.size) rfl);generalize hV4:World.alloc w _=V4 at E ⊢;clear hV4;have HZ:Hid (w.heap.size<V4.heap.size):=SR.lt E (g1:=w.heap.size) (xs:=#[.bool false,.slice none 0 0,.int .i64 0]) (t:=39) (by simp);have hlt9:=HZ.out;have S0:=(SR.facts E).c0;have S1:=(SR.facts E).c1;go_region_held3 (fun v=>v.cell? ⟨g,0,none⟩=some (.slice A n c)∧v.cell? ⟨g,1,none⟩=some (.int .i64 (a:Int))) (first|with_reducible exact⟨(SR.facts E).c0,(SR.facts E).c1⟩|with_reducible exact⟨(SR.facts (Jh (SR.lay E.out #[.bool false,.slice none 0 0,.int .i64 0] 39 rfl))).c0,(SR.facts (Jh (SR.lay E.out #[.bool false,.slice none 0 0,.int .i64 0] 39 rfl))).c1⟩|with_reducible exact⟨(SR.facts E3).c0,(SR.facts E3).c1⟩|with_reducible exact⟨(SR.facts (Jh (SR.lay E.out #[.bool (ngB x9),.slice A9 n9 c9,.int .i64 (k9:Int)] 39 rfl))).c0,(SR.facts (Jh (SR.lay E.out #[.bool (ngB x9),.slice A9 n9 c9,.int .i64 (k9:Int)] 39 rfl))).c1⟩|go_keep) (first|(go_at_call 94;refine(PE.out (by first|exact E.out.bel|exact E.out.bel.trans ((Below.refl _ _).drew.mono E.out.bel.size)|exact(SR.lay (SR.step E.out (Below.refl _ _).drew) #[.bool false,.slice none 0 0,.int .i64 0] 39 rfl).bel|exact(SR.lay E.out #[.bool false,.slice none 0 0,.int .i64 0] 39 rfl).bel)).mono ?_;rintro en w5 ⟨A9,n9,c9,rfl,hnum,hb9⟩;(first|(replace E:=Jh (SR.push (SR.step E.out ((Below.refl _ _).drew.trans hb9)) hnum))|(replace E:=Jh (SR.push (SR.step (SR.lay (g1:=V4.heap.size) (SR.step E.out (Below.refl _ _).drew) #[.bool false,.slice none 0 0,.int .i64 0] 39 rfl) hb9) hnum);have b0:=SR.atv E (g1:=V4.heap.size) (xs:=#[.bool false,.slice none 0 0,.int .i64 0]) (t:=39) (by simp) 0 rfl;have bf0:=SR.fz E (g1:=V4.heap.size) (xs:=#[.bool false,.slice none 0 0,.int .i64 0]) (t:=39) (by simp) 0;have b1:=SR.atv E (g1:=V4.heap.size) (xs:=#[.bool false,.slice none 0 0,.int .i64 0]) (t:=39) (by simp) 1 rfl;have bf1:=SR.fz E (g1:=V4.heap.size) (xs:=#[.bool false,.slice none 0 0,.int .i64 0]) (t:=39) (by simp) 1;have b2:=SR.atv E (g1:=V4.heap.size) (xs:=#[.bool false,.slice none 0 0,.int .i64 0]) (t:=39) (by simp) 2 rfl;have bf2:=SR.fz E (g1:=V4.heap.size) (xs:=#[.bool false,.slice none 0 0,.int .i64 0]) (t:=39) (by simp) 2;have blt:=SR.lt E (g1:=V4.heap.size) (xs:=#[.bool false,.slice none 0 0,.int .i64 0]) (t:=39) (by simp);have E3:=Jh (SR.fill3 E.out (g1:=V4.heap.size) (t:=39) (x0:=.bool false) (x1:=.slice none 0 0) (x2:=.int .i64 0) (by simp) (Cl.mk (cl_cons (noLimb_bool _) (cl_cons (noLimb_slice _ _ _) (cl_cons (noLimb_int _) cl_nil)))) (fun q hq=>by cases hq) [(w.heap.size,#[.bool false,.slice none 0 0,.int .i64 0],39)] (fun q hq=>by simp at hq;subst hq;exact⟨by simp,by show w.heap.size≠V4.heap.size;omega⟩) (.bool (ngB x9)) (.slice A9 n9 c9) (.int .i64 (k9:Int)))));clear hnum hb9))
  all_goals first
   | (replace E:=E3;clear E3;generalize hW5:World.setCell _ _ _=W5 at E ⊢;clear hW5;generalize V4.heap.size=g3 at E ⊢)
   | (replace E:=Jh (SR.lay (g1:=w5.heap.size) E.out #[.bool (ngB x9),.slice A9 n9 c9,.int .i64 (k9:Int)] 39 rfl);generalize hW5:World.alloc w5 _=W5 at E ⊢;generalize w5.heap.size=g3 at E ⊢;clear hW5)
  all_goals
   have HG:Hid (w.heap.size≤g3∧g<w.heap.size):=⟨(E.out.blk _ (List.mem_cons_self)).2,E.out.pl.2⟩;have n3:g≠w.heap.size:=by have:=HG.out;omega
   have n4:w.heap.size≠g:=fun h=>n3 h.symm
   have n1:g≠g3:=by have:=HG.out;omega
   have n2:g3≠g:=fun h=>n1 h.symm
   obtain⟨p0,p1,p2,pf0,pf1,pf2,plt⟩:=SR.facts E;have r0:=SR.atv E (g1:=w.heap.size) (xs:=#[.bool false,.slice none 0 0,.int .i64 0]) (t:=39) (by simp) 0 rfl;have rf0:=SR.fz E (g1:=w.heap.size) (xs:=#[.bool false,.slice none 0 0,.int .i64 0]) (t:=39) (by simp) 0;have r1:=SR.atv E (g1:=w.heap.size) (xs:=#[.bool false,.slice none 0 0,.int .i64 0]) (t:=39) (by simp) 1 rfl;have rf1:=SR.fz E (g1:=w.heap.size) (xs:=#[.bool false,.slice none 0 0,.int .i64 0]) (t:=39) (by simp) 1;have r2:=SR.atv E (g1:=w.heap.size) (xs:=#[.bool false,.slice none 0 0,.int .i64 0]) (t:=39) (by simp) 2 rfl;have rf2:=SR.fz E (g1:=w.heap.size) (xs:=#[.bool false,.slice none 0 0,.int .i64 0]) (t:=39) (by simp) 2;have rlt:=SR.lt E (g1:=w.heap.size) (xs:=#[.bool false,.slice none 0 0,.int .i64 0]) (t:=39) (by simp);have y0:=SR.atv E (g1:=g3) (xs:=#[.bool (ngB x9),.slice A9 n9 c9,.int .i64 (k9:Int)]) (t:=39) (by simp) 0 rfl;have yf0:=SR.fz E (g1:=g3) (xs:=#[.bool (ngB x9),.slice A9 n9 c9,.int .i64 (k9:Int)]) (t:=39) (by simp) 0;have y1:=SR.atv E (g1:=g3) (xs:=#[.bool (ngB x9),.slice A9 n9 c9,.int .i64 (k9:Int)]) (t:=39) (by simp) 1 rfl;have yf1:=SR.fz E (g1:=g3) (xs:=#[.bool (ngB x9),.slice A9 n9 c9,.int .i64 (k9:Int)]) (t:=39) (by simp) 1;have y2:=SR.atv E (g1:=g3) (xs:=#[.bool (ngB x9),.slice A9 n9 c9,.int .i64 (k9:Int)]) (t:=39) (by simp) 2 rfl;have yf2:=SR.fz E (g1:=g3) (xs:=#[.bool (ngB x9),.slice A9 n9 c9,.int .i64 (k9:Int)]) (t:=39) (by simp) 2;have ylt:=SR.lt E (g1:=g3) (xs:=#[.bool (ngB x9),.slice A9 n9 c9,.int .i64 (k9:Int)]) (t:=39) (by simp);go_wp2_with fail;clear p0 p1 p2 pf0 pf1 pf2 plt r0 r1 r2 rf0 rf1 rf2 rlt y0 y1 y2 yf0 yf1 yf2 ylt;replace E:=Jh ((E.out.set1 b9).set2 e9);have EF:=Jh (SR.fill3 E.out (g1:=w.heap.size) (t:=39) (x0:=.bool false) (x1:=.slice none 0 0) (x2:=.int .i64 0) (by simp) (Cl.mk (cl_cons (noLimb_bool _) (cl_cons (noLimb_slice _ _ _) (cl_cons (noLimb_int _) cl_nil)))) (fun q hq=>by cases hq) [] (fun q hq=>by cases hq) (.bool (ngB x9)) (.slice A9 n9 c9) (.int .i64 (k9:Int)));have r0:=SR.atv EF (g1:=w.heap.size) (xs:=#[.bool (ngB x9),.slice A9 n9 c9,.int .i64 (k9:Int)]) (t:=39) (by simp) 0 rfl;have rf0:=SR.fz EF (g1:=w.heap.size) (xs:=#[.bool (ngB x9),.slice A9 n9 c9,.int .i64 (k9:Int)]) (t:=39) (by simp) 0;have r1:=SR.atv EF (g1:=w.heap.size) (xs:=#[.bool (ngB x9),.slice A9 n9 c9,.int .i64 (k9:Int)]) (t:=39) (by simp) 1 rfl;have rf1:=SR.fz EF (g1:=w.heap.size) (xs:=#[.bool (ngB x9),.slice A9 n9 c9,.int .i64 (k9:Int)]) (t:=39) (by simp) 1;have r2:=SR.atv EF (g1:=w.heap.size) (xs:=#[.bool (ngB x9),.slice A9 n9 c9,.int .i64 (k9:Int)]) (t:=39) (by simp) 2 rfl;have rf2:=SR.fz EF (g1:=w.heap.size) (xs:=#[.bool (ngB x9),.slice A9 n9 c9,.int .i64 (k9:Int)]) (t:=39) (by simp) 2;have rlt:=SR.lt EF (g1:=w.heap.size) (xs:=#[.bool (ngB x9),.slice A9 n9 c9,.int .i64 (k9:Int)]) (t:=39) (by simp);exact bodyPost_ret (v:=.agg #[.bool (ngB x9),.slice A9 n9 c9,.int .i64 (k9:Int)]) (by simp[results,Tryz.results97,go_sem,r0,r1,r2]) rfl ⟨x9,k9,A9,n9,c9,b9,e9,rfl,SR.got EF (by simp),EF.out.kp,EF.out.st,HA.out,HL.out⟩
 ·have d0:((e:Int) != 0)=true:=by rw[bne_iff_ne];omega
  have HE:=Jh he;clear hs hlen he ha hw hg;go_enter Tryz.func97,Tryz.ntmps97;obtain⟨p0,p1,p2,pf0,pf1,pf2,plt⟩:=SR.facts E;go_wp2_with fail;clear p0 p1 p2 pf0 pf1 pf2 plt;replace E:=Jh ((E.out.lay #[.bool false,.slice none 0 0,.int .i64 0] 39 (g1:=w.heap.size) rfl).lay #[.bool false,.slice none 0 0,.int .i64 0] 39 (g1:=w.heap.size+1) (by simp));have r0:=SR.atv E (g1:=w.heap.size) (xs:=#[.bool false,.slice none 0 0,.int .i64 0]) (t:=39) (by simp) 0 rfl;have rf0:=SR.fz E (g1:=w.heap.size) (xs:=#[.bool false,.slice none 0 0,.int .i64 0]) (t:=39) (by simp) 0;have r1:=SR.atv E (g1:=w.heap.size) (xs:=#[.bool false,.slice none 0 0,.int .i64 0]) (t:=39) (by simp) 1 rfl;have rf1:=SR.fz E (g1:=w.heap.size) (xs:=#[.bool false,.slice none 0 0,.int .i64 0]) (t:=39) (by simp) 1;have r2:=SR.atv E (g1:=w.heap.size) (xs:=#[.bool false,.slice none 0 0,.int .i64 0]) (t:=39) (by simp) 2 rfl;have rf2:=SR.fz E (g1:=w.heap.size) (xs:=#[.bool false,.slice none 0 0,.int .i64 0]) (t:=39) (by simp) 2;have rlt:=SR.lt E (g1:=w.heap.size) (xs:=#[.bool false,.slice none 0 0,.int .i64 0]) (t:=39) (by simp);exact bodyPost_ret (v:=.agg #[.bool false,.slice none 0 0,.int .i64 0]) (by simp[results,Tryz.results97,go_sem,r0,r1,r2]) rfl ⟨0,0,none,0,0,a,e,rfl,num_zero _ _,E.out.kp,E.out.st,Aft.stay HE.out,fun h=>absurd h HE.out⟩
theorem reckonA_is{W0 w:World}{g B n c a e:Nat}{A:Option Addr}{L:List Tk4}{G:Nat→Nat→Int→Nat→Prop}(X:CX W0 B A n c L G)(hw:Below W0.heap.size W0 w)(hg:W0.heap.size≤g)(hs:StR w g A n c a e)(ha:e=0→a≤n):Calls Tryz.prog 70 #[.pointer (some ⟨g,0,none⟩),.func (.func 71) #[] #[]] w (RtA w g A n c a e (L.map tok)):=by
 have hlen:=X.rd.len;have E:=Jh (SR.start hw hg hs);have hgw:=Bk.lt hs;by_cases he:e=0
 ·have d0:((e:Int) != 0)=false:=by rw[he];rfl
  have han:=ha he;obtain⟨⟨x9,k9,s9⟩,b9,e9,hV,hA,hlt9⟩:=amr_res (L:=L.map tok) (a:=a) (by rw[List.length_map];omega);have PE:Hid (∀{W:World},Below W0.heap.size W0 W→Calls Tryz.prog 71 #[.slice A n c,.int .i64 (a:Int)] W (RvA W ⟨x9,k9,s9⟩ b9 e9)):=fun hb=>amount_at (X.rd.on X.hB hb) (Nat.le_trans X.hB hb.size) X.hn X.sz (okw15 X.ok hb).1 (by omega) hV
  have HA:Hid (Aft (nxr e a (amr (L.map tok))) b9 e9 (· = (x9,k9,s9))):=by
   show Aft _ _ _ _;unfold nxr;rw[if_pos he];exact hA
  have HL:Hid (e9=0→e=0∧a<b9∧b9≤n):=fun h=>⟨he,(hlt9 h).1,by have:=(hlt9 h).2;rw[List.length_map] at this;omega⟩
  clear hV hA hlt9 hs hlen he han ha hw hg;go_enter Tryz.func70,Tryz.ntmps70;obtain⟨p0,p1,p2,pf0,pf1,pf2,plt⟩:=SR.facts E;go_wp2_with fail;clear p0 p1 p2 pf0 pf1 pf2 plt;replace E:=Jh (E.out.lay #[.bool false,.slice none 0 0,.int .i64 0,.string ⟨#[]⟩] 41 (g1:=w.heap.size) rfl);generalize hV4:World.alloc w _=V4 at E ⊢;clear hV4;have HZ:Hid (w.heap.size<V4.heap.size):=SR.lt E (g1:=w.heap.size) (xs:=#[.bool false,.slice none 0 0,.int .i64 0,.string ⟨#[]⟩]) (t:=41) (by simp);have hlt9:=HZ.out;have S0:=(SR.facts E).c0;have S1:=(SR.facts E).c1;go_region_held3 (fun v=>v.cell? ⟨g,0,none⟩=some (.slice A n c)∧v.cell? ⟨g,1,none⟩=some (.int .i64 (a:Int))) (first|with_reducible exact⟨(SR.facts E).c0,(SR.facts E).c1⟩|with_reducible exact⟨(SR.facts (Jh (SR.lay E.out #[.bool false,.slice none 0 0,.int .i64 0,.string ⟨#[]⟩] 41 rfl))).c0,(SR.facts (Jh (SR.lay E.out #[.bool false,.slice none 0 0,.int .i64 0,.string ⟨#[]⟩] 41 rfl))).c1⟩|with_reducible exact⟨(SR.facts E3).c0,(SR.facts E3).c1⟩|with_reducible exact⟨(SR.facts (Jh (SR.lay E.out #[.bool (ngB x9),.slice A9 n9 c9,.int .i64 (k9:Int),.string s9] 41 rfl))).c0,(SR.facts (Jh (SR.lay E.out #[.bool (ngB x9),.slice A9 n9 c9,.int .i64 (k9:Int),.string s9] 41 rfl))).c1⟩|go_keep) (first|(go_at_call 71;refine(PE.out (by first|exact E.out.bel|exact E.out.bel.trans ((Below.refl _ _).drew.mono E.out.bel.size)|exact(SR.lay (SR.step E.out (Below.refl _ _).drew) #[.bool false,.slice none 0 0,.int .i64 0,.string ⟨#[]⟩] 41 rfl).bel|exact(SR.lay E.out #[.bool false,.slice none 0 0,.int .i64 0,.string ⟨#[]⟩] 41 rfl).bel)).mono ?_;rintro en w5 ⟨A9,n9,c9,rfl,hnum,hb9⟩;(first|(replace E:=Jh (SR.push (SR.step E.out ((Below.refl _ _).drew.trans hb9)) hnum))|(replace E:=Jh (SR.push (SR.step (SR.lay (g1:=V4.heap.size) (SR.step E.out (Below.refl _ _).drew) #[.bool false,.slice none 0 0,.int .i64 0,.string ⟨#[]⟩] 41 rfl) hb9) hnum);have b0:=SR.atv E (g1:=V4.heap.size) (xs:=#[.bool false,.slice none 0 0,.int .i64 0,.string ⟨#[]⟩]) (t:=41) (by simp) 0 rfl;have bf0:=SR.fz E (g1:=V4.heap.size) (xs:=#[.bool false,.slice none 0 0,.int .i64 0,.string ⟨#[]⟩]) (t:=41) (by simp) 0;have b1:=SR.atv E (g1:=V4.heap.size) (xs:=#[.bool false,.slice none 0 0,.int .i64 0,.string ⟨#[]⟩]) (t:=41) (by simp) 1 rfl;have bf1:=SR.fz E (g1:=V4.heap.size) (xs:=#[.bool false,.slice none 0 0,.int .i64 0,.string ⟨#[]⟩]) (t:=41) (by simp) 1;have b2:=SR.atv E (g1:=V4.heap.size) (xs:=#[.bool false,.slice none 0 0,.int .i64 0,.string ⟨#[]⟩]) (t:=41) (by simp) 2 rfl;have bf2:=SR.fz E (g1:=V4.heap.size) (xs:=#[.bool false,.slice none 0 0,.int .i64 0,.string ⟨#[]⟩]) (t:=41) (by simp) 2;have b3:=SR.atv E (g1:=V4.heap.size) (xs:=#[.bool false,.slice none 0 0,.int .i64 0,.string ⟨#[]⟩]) (t:=41) (by simp) 3 rfl;have bf3:=SR.fz E (g1:=V4.heap.size) (xs:=#[.bool false,.slice none 0 0,.int .i64 0,.string ⟨#[]⟩]) (t:=41) (by simp) 3;have blt:=SR.lt E (g1:=V4.heap.size) (xs:=#[.bool false,.slice none 0 0,.int .i64 0,.string ⟨#[]⟩]) (t:=41) (by simp);have E3:=Jh (SR.fill4 E.out (g1:=V4.heap.size) (t:=41) (x0:=.bool false) (x1:=.slice none 0 0) (x2:=.int .i64 0) (x3:=.string ⟨#[]⟩) (by simp) (Cl.mk (cl_cons (noLimb_bool _) (cl_cons (noLimb_slice _ _ _) (cl_cons (noLimb_int _) (cl_cons (noLimb_str _) cl_nil))))) (fun q hq=>by cases hq) [(w.heap.size,#[.bool false,.slice none 0 0,.int .i64 0,.string ⟨#[]⟩],41)] (fun q hq=>by simp at hq;subst hq;exact⟨by simp,by show w.heap.size≠V4.heap.size;omega⟩) (.bool (ngB x9)) (.slice A9 n9 c9) (.int .i64 (k9:Int)) (.string s9))));clear hnum hb9))
  all_goals first
   | (replace E:=E3;clear E3;generalize hW5:World.setCell _ _ _=W5 at E ⊢;clear hW5;generalize V4.heap.size=g3 at E ⊢)
   | (replace E:=Jh (SR.lay (g1:=w5.heap.size) E.out #[.bool (ngB x9),.slice A9 n9 c9,.int .i64 (k9:Int),.string s9] 41 rfl);generalize hW5:World.alloc w5 _=W5 at E ⊢;generalize w5.heap.size=g3 at E ⊢;clear hW5)
  all_goals
   have HG:Hid (w.heap.size≤g3∧g<w.heap.size):=⟨(E.out.blk _ (List.mem_cons_self)).2,E.out.pl.2⟩;have n3:g≠w.heap.size:=by have:=HG.out;omega
   have n4:w.heap.size≠g:=fun h=>n3 h.symm
   have n1:g≠g3:=by have:=HG.out;omega
   have n2:g3≠g:=fun h=>n1 h.symm
   obtain⟨p0,p1,p2,pf0,pf1,pf2,plt⟩:=SR.facts E;have r0:=SR.atv E (g1:=w.heap.size) (xs:=#[.bool false,.slice none 0 0,.int .i64 0,.string ⟨#[]⟩]) (t:=41) (by simp) 0 rfl;have rf0:=SR.fz E (g1:=w.heap.size) (xs:=#[.bool false,.slice none 0 0,.int .i64 0,.string ⟨#[]⟩]) (t:=41) (by simp) 0;have r1:=SR.atv E (g1:=w.heap.size) (xs:=#[.bool false,.slice none 0 0,.int .i64 0,.string ⟨#[]⟩]) (t:=41) (by simp) 1 rfl;have rf1:=SR.fz E (g1:=w.heap.size) (xs:=#[.bool false,.slice none 0 0,.int .i64 0,.string ⟨#[]⟩]) (t:=41) (by simp) 1;have r2:=SR.atv E (g1:=w.heap.size) (xs:=#[.bool false,.slice none 0 0,.int .i64 0,.string ⟨#[]⟩]) (t:=41) (by simp) 2 rfl;have rf2:=SR.fz E (g1:=w.heap.size) (xs:=#[.bool false,.slice none 0 0,.int .i64 0,.string ⟨#[]⟩]) (t:=41) (by simp) 2;have r3:=SR.atv E (g1:=w.heap.size) (xs:=#[.bool false,.slice none 0 0,.int .i64 0,.string ⟨#[]⟩]) (t:=41) (by simp) 3 rfl;have rf3:=SR.fz E (g1:=w.heap.size) (xs:=#[.bool false,.slice none 0 0,.int .i64 0,.string ⟨#[]⟩]) (t:=41) (by simp) 3;have rlt:=SR.lt E (g1:=w.heap.size) (xs:=#[.bool false,.slice none 0 0,.int .i64 0,.string ⟨#[]⟩]) (t:=41) (by simp);have y0:=SR.atv E (g1:=g3) (xs:=#[.bool (ngB x9),.slice A9 n9 c9,.int .i64 (k9:Int),.string s9]) (t:=41) (by simp) 0 rfl;have yf0:=SR.fz E (g1:=g3) (xs:=#[.bool (ngB x9),.slice A9 n9 c9,.int .i64 (k9:Int),.string s9]) (t:=41) (by simp) 0;have y1:=SR.atv E (g1:=g3) (xs:=#[.bool (ngB x9),.slice A9 n9 c9,.int .i64 (k9:Int),.string s9]) (t:=41) (by simp) 1 rfl;have yf1:=SR.fz E (g1:=g3) (xs:=#[.bool (ngB x9),.slice A9 n9 c9,.int .i64 (k9:Int),.string s9]) (t:=41) (by simp) 1;have y2:=SR.atv E (g1:=g3) (xs:=#[.bool (ngB x9),.slice A9 n9 c9,.int .i64 (k9:Int),.string s9]) (t:=41) (by simp) 2 rfl;have yf2:=SR.fz E (g1:=g3) (xs:=#[.bool (ngB x9),.slice A9 n9 c9,.int .i64 (k9:Int),.string s9]) (t:=41) (by simp) 2;have y3:=SR.atv E (g1:=g3) (xs:=#[.bool (ngB x9),.slice A9 n9 c9,.int .i64 (k9:Int),.string s9]) (t:=41) (by simp) 3 rfl;have yf3:=SR.fz E (g1:=g3) (xs:=#[.bool (ngB x9),.slice A9 n9 c9,.int .i64 (k9:Int),.string s9]) (t:=41) (by simp) 3;have ylt:=SR.lt E (g1:=g3) (xs:=#[.bool (ngB x9),.slice A9 n9 c9,.int .i64 (k9:Int),.string s9]) (t:=41) (by simp);go_wp2_with fail;clear p0 p1 p2 pf0 pf1 pf2 plt r0 r1 r2 r3 rf0 rf1 rf2 rf3 rlt y0 y1 y2 y3 yf0 yf1 yf2 yf3 ylt;replace E:=Jh ((E.out.set1 b9).set2 e9);have EF:=Jh (SR.fill4 E.out (g1:=w.heap.size) (t:=41) (x0:=.bool false) (x1:=.slice none 0 0) (x2:=.int .i64 0) (x3:=.string ⟨#[]⟩) (by simp) (Cl.mk (cl_cons (noLimb_bool _) (cl_cons (noLimb_slice _ _ _) (cl_cons (noLimb_int _) (cl_cons (noLimb_str _) cl_nil))))) (fun q hq=>by cases hq) [] (fun q hq=>by cases hq) (.bool (ngB x9)) (.slice A9 n9 c9) (.int .i64 (k9:Int)) (.string s9));have r0:=SR.atv EF (g1:=w.heap.size) (xs:=#[.bool (ngB x9),.slice A9 n9 c9,.int .i64 (k9:Int),.string s9]) (t:=41) (by simp) 0 rfl;have rf0:=SR.fz EF (g1:=w.heap.size) (xs:=#[.bool (ngB x9),.slice A9 n9 c9,.int .i64 (k9:Int),.string s9]) (t:=41) (by simp) 0;have r1:=SR.atv EF (g1:=w.heap.size) (xs:=#[.bool (ngB x9),.slice A9 n9 c9,.int .i64 (k9:Int),.string s9]) (t:=41) (by simp) 1 rfl;have rf1:=SR.fz EF (g1:=w.heap.size) (xs:=#[.bool (ngB x9),.slice A9 n9 c9,.int .i64 (k9:Int),.string s9]) (t:=41) (by simp) 1;have r2:=SR.atv EF (g1:=w.heap.size) (xs:=#[.bool (ngB x9),.slice A9 n9 c9,.int .i64 (k9:Int),.string s9]) (t:=41) (by simp) 2 rfl;have rf2:=SR.fz EF (g1:=w.heap.size) (xs:=#[.bool (ngB x9),.slice A9 n9 c9,.int .i64 (k9:Int),.string s9]) (t:=41) (by simp) 2;have r3:=SR.atv EF (g1:=w.heap.size) (xs:=#[.bool (ngB x9),.slice A9 n9 c9,.int .i64 (k9:Int),.string s9]) (t:=41) (by simp) 3 rfl;have rf3:=SR.fz EF (g1:=w.heap.size) (xs:=#[.bool (ngB x9),.slice A9 n9 c9,.int .i64 (k9:Int),.string s9]) (t:=41) (by simp) 3;have rlt:=SR.lt EF (g1:=w.heap.size) (xs:=#[.bool (ngB x9),.slice A9 n9 c9,.int .i64 (k9:Int),.string s9]) (t:=41) (by simp);exact bodyPost_ret (v:=.agg #[.bool (ngB x9),.slice A9 n9 c9,.int .i64 (k9:Int),.string s9]) (by simp[results,Tryz.results70,go_sem,r0,r1,r2,r3]) rfl ⟨x9,k9,s9,A9,n9,c9,b9,e9,rfl,SR.got EF (by simp),EF.out.kp,EF.out.st,HA.out,HL.out⟩
 ·have d0:((e:Int) != 0)=true:=by rw[bne_iff_ne];omega
  have HE:=Jh he;clear hs hlen he ha hw hg;go_enter Tryz.func70,Tryz.ntmps70;obtain⟨p0,p1,p2,pf0,pf1,pf2,plt⟩:=SR.facts E;go_wp2_with fail;clear p0 p1 p2 pf0 pf1 pf2 plt;replace E:=Jh ((E.out.lay #[.bool false,.slice none 0 0,.int .i64 0,.string ⟨#[]⟩] 41 (g1:=w.heap.size) rfl).lay #[.bool false,.slice none 0 0,.int .i64 0,.string ⟨#[]⟩] 41 (g1:=w.heap.size+1) (by simp));have r0:=SR.atv E (g1:=w.heap.size) (xs:=#[.bool false,.slice none 0 0,.int .i64 0,.string ⟨#[]⟩]) (t:=41) (by simp) 0 rfl;have rf0:=SR.fz E (g1:=w.heap.size) (xs:=#[.bool false,.slice none 0 0,.int .i64 0,.string ⟨#[]⟩]) (t:=41) (by simp) 0;have r1:=SR.atv E (g1:=w.heap.size) (xs:=#[.bool false,.slice none 0 0,.int .i64 0,.string ⟨#[]⟩]) (t:=41) (by simp) 1 rfl;have rf1:=SR.fz E (g1:=w.heap.size) (xs:=#[.bool false,.slice none 0 0,.int .i64 0,.string ⟨#[]⟩]) (t:=41) (by simp) 1;have r2:=SR.atv E (g1:=w.heap.size) (xs:=#[.bool false,.slice none 0 0,.int .i64 0,.string ⟨#[]⟩]) (t:=41) (by simp) 2 rfl;have rf2:=SR.fz E (g1:=w.heap.size) (xs:=#[.bool false,.slice none 0 0,.int .i64 0,.string ⟨#[]⟩]) (t:=41) (by simp) 2;have r3:=SR.atv E (g1:=w.heap.size) (xs:=#[.bool false,.slice none 0 0,.int .i64 0,.string ⟨#[]⟩]) (t:=41) (by simp) 3 rfl;have rf3:=SR.fz E (g1:=w.heap.size) (xs:=#[.bool false,.slice none 0 0,.int .i64 0,.string ⟨#[]⟩]) (t:=41) (by simp) 3;have rlt:=SR.lt E (g1:=w.heap.size) (xs:=#[.bool false,.slice none 0 0,.int .i64 0,.string ⟨#[]⟩]) (t:=41) (by simp);exact bodyPost_ret (v:=.agg #[.bool false,.slice none 0 0,.int .i64 0,.string ⟨#[]⟩]) (by simp[results,Tryz.results70,go_sem,r0,r1,r2,r3]) rfl ⟨0,0,⟨#[]⟩,none,0,0,a,e,rfl,num_zero _ _,E.out.kp,E.out.st,Aft.stay HE.out,fun h=>absurd h HE.out⟩
structure SC (W0 w0 w:World) (g:Nat) (xs:Array Value) (l:List (Option Addr×Nat×Nat×Nat)) (bs:List (Nat×Array Value×TypeId)):Prop where
 bel:Below W0.heap.size W0 w
 kp:Kp g none w0 w
 pl:W0.heap.size≤g∧g<w0.heap.size
 num:∀q∈l,Num w w.heap.size q.1 q.2.1 q.2.2.1 q.2.2.2
 st:Bk w g xs 264
 cl:Cl xs
 blk:∀q∈bs,Bk w q.1 q.2.1 q.2.2∧w0.heap.size≤q.1
theorem emp_facts{s:ByteArray}(h:bs9 s=[]):(s.toList == [])=true∧s.toList.isEmpty=true:=by
 have e:s.size=0:=by rw[← bs9_len,h];rfl
 exact⟨lit_yes (l:=[]) h,emp_yes e⟩
theorem emp_nots{s:ByteArray}(h:bs9 s≠[]):(s.toList == [])=false∧s.toList.isEmpty=false:=by
 have e:0<s.size:=by
  rcases Nat.eq_zero_or_pos s.size with h0|h0
  ·exact absurd (nil_of h0) h
  ·exact h0
 exact⟨lit_not (l:=[]) h,emp_not e⟩
theorem txtD_fit14{w:World}{A:Option Addr}{n c k:Nat}{i:Int}(h:Num w w.heap.size A n c i.natAbs)(hn:n≤900)(hk:k≤4010):(txtD i k).length≤12113:=by
 have h1:=txtD_len (Sz.of_len (x:=i) (s:=k) (n:=900) (by have:=h.len;omega));omega
theorem S14.bare2(w:World){A:Option Addr}{n c a:Nat}(h:Num w w.heap.size A n c a):S14 w w [(A,n,c,a)] []:=(S14.start w).more h
theorem join_tail:∀(r:List (List UInt8)),(Lib.joinTail [44,32] r).map UInt8.toNat=(r.map fun x=>44::32::x.map UInt8.toNat).flatten
 | []=>rfl
 | x::r=>by
  have e:Lib.joinTail [44,32] (x::r)=44::32::(x++Lib.joinTail [44,32] r):=rfl;rw[e,List.map_cons,List.map_cons,List.map_append,join_tail r];rfl
theorem jnT_flat:∀(x:List Nat) (r:List (List Nat)),jnT (x::r)=x++(r.map fun y=>44::32::y).flatten
 | x,[]=>by show x=x++[];rw[List.append_nil]
 | x,y::r=>by
  show x++44::32::jnT (y::r)=_;rw[jnT_flat y r];rfl
theorem bs9_join(xs:List ByteArray):bs9 ⟨(Lib.join (xs.map (·.data.toList)) [44,32]).toArray⟩=jnT (xs.map bs9):=by
 show(Lib.join (xs.map (·.data.toList)) [44,32]).map UInt8.toNat=_;cases xs with
 | nil=>rfl
 | cons x r=>
  rw[List.map_cons,Lib.join_cons,List.map_append,join_tail,List.map_cons,jnT_flat,List.map_map,List.map_map];rfl
theorem rowP_get{L:List (List Nat)}{j:Nat}{x:ByteArray}(h:(L.map st9)[j]?=some x):(row11 L)[j]?=some (.string x):=by
 unfold row11;rw[List.getElem?_map] at h ⊢;cases hj:L[j]? with
 | none=>rw[hj] at h;cases h
 | some t=>rw[hj] at h;cases h;rfl
theorem join_is{w:World}{A:Option Addr}{n c:Nat}{L:List (List Nat)}(h:RdP w A n c L)(hL:∀t∈L,∀x∈t,x<256)(hn:n≤1000000){J:ByteArray}(hJ:jnT L=bs9 J)(hs:J.size≤1000000):Calls Tryz.prog 47 #[.slice A n c,.string ⟨#[44,32]⟩] w (Ret9 w (.string J)):=by
 obtain⟨h1,h2,h3,h4⟩:=h;have e:(L.map st9).map bs9=L:=by
  rw[List.map_map];conv=>rhs;rw[← List.map_id L]
  exact List.map_congr_left fun t ht=>bs9_st9 (hL t ht)
 have hr:(⟨(Lib.join ((L.map st9).map (·.data.toList)) [44,32]).toArray⟩:ByteArray)=J:=bs9_inj (by rw[bs9_join,e,hJ]);rcases h4 with rfl|⟨b,o,rfl,hb,hc⟩
 ·obtain rfl:n=0:=h1
  obtain rfl:J=⟨#[]⟩:=bs9_inj hJ.symm;exact(Any.strings_Join_none Tryz.lays156 Tryz.Builder_Extra_156 A c ⟨#[44,32]⟩ w).mono fun e w' ⟨he,hw⟩=>⟨he,hw▸Below.refl _ _⟩
 ·have hl:(L.map st9).length=n:=by rw[List.length_map,h1]
  have q:=Tryz.strings_Join b o c (L.map st9) ⟨#[44,32]⟩ w (fun j x hx=>hc j _ (rowP_get hx)) hb (by omega) (by omega) (by
   have h9:=congrArg ByteArray.size hr;have h8:(Lib.join ((L.map st9).map (·.data.toList)) [44,32]).length=J.size:=by rw[← h9];exact List.size_toArray.symm
   show(Lib.join ((L.map st9).map (·.data.toList)) [44,32]).length≤_;omega)
  rw[hl] at q;exact q.mono fun e w' ⟨he,hw⟩=>⟨he.trans (by rw[← hr]),hw⟩
structure SJ (w0 w:World) (xs:Array Value) (v:Value) (L:List (List Nat)):Prop where
 bel:Below w0.heap.size w0 w
 box:Bk w w0.heap.size xs 264
 tol:Bk w (w0.heap.size+1) #[v] 35
 own:OwnP w (w0.heap.size+1+1) v L
end Go.Proofs.YthpmaoimceojgaaGreatDoor.Num
