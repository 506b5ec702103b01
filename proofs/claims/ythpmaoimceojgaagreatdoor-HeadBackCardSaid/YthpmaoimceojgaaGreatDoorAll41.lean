/- Lemmas of the proof: HeaE, HeaF, HeaG. -/
import Derived.Test.YthpmaoimceojgaaGreatDoorAll39
import Derived.Test.YthpmaoimceojgaaGreatDoorAll34
import Derived.Deep.WholeRow
set_option linter.unusedVariables false
set_option linter.unusedSimpArgs false
set_option maxRecDepth 100000
set_option maxHeartbeats 32000000
open Go.Lib renaming hid→Jh
namespace Go.Proofs.YthpmaoimceojgaaGreatDoor.Num
open Go.RowKit
theorem dir_size:(Tryz.prog.info? 45).map (·.size)=some 27:=by kernel_rfl
theorem cD_one(f:FD)(m:DM):(cD f m).all (·.oneCell')=true:=by simp[cD,Value.oneCell']
theorem st_new{w:World}{f:FD}{m:DM}{X Z:Array Value}(hX:cD f m=X)(hZ:cD FD.zero DM.zero=Z):(storeCells ⟨w.heap.size,0,none⟩ X.toList 0).run Tryz.prog (w.alloc (.cells Z 45))=.ok () (w.alloc (.cells X 45)):=by
 subst hX;subst hZ;exact run_storeCells_new (P:=Tryz.prog) w 45 _ _ (by rw[dir_size];rfl) rfl (cD_one f m)
theorem st_row{w:World}{g:Nat}{f:FD}{m:DM}{X Z:Array Value}{t:TypeId}(hX:cD f m=X)(hz:Z.size=27)(hb:w.heap[g]?=some (.cells Z t (0,0))):(storeCells ⟨g,0,none⟩ X.toList 0).run Tryz.prog w=.ok () (w.setRow g X):=by
 subst hX;have q:=run_storeCells_from (P:=Tryz.prog) g t (cD f m).toList 0 Z w hb (by rw[hz];rfl) (fun v hv=>(Array.all_eq_true_iff_forall_mem.1 (cD_one f m)) v (by simpa using hv));rw[List.take_zero,List.nil_append] at q;exact q
theorem results_cell_tmp{P:Program}{fn:Func}{p q:Tmp}{ty:TypeId}(h:fn.results=#[.cell p ty,.tmp q])(tmps:Array Value)(w:World)(g:Nat)(t:TypeId)(cs:Array Value)(fr:Nat×Nat)(d:TypeDesc)(v:Value)
  (hp:tmps.getD p undef=.pointer (some ⟨g,0,none⟩)) (hv:tmps.getD q undef=v) (hg:w.heap[g]?=some (.cells cs t fr))
  (hu:P.underlying ty=some d) (hd:(match d with | .struct _ | .array _ _=>true|_=>false)=true) (hi:(P.info? ty).map (·.size)=some cs.size) :
  (results fn tmps).run P w=.ok (.tuple #[.agg cs,v]) w:=by
 have hp':tmps[p]?.getD undef=.pointer (some ⟨g,0,none⟩):=by simpa using hp
 have hv':tmps[q]?.getD undef=v:=by simpa using hv
 simp[results,h,hp',hv',asAddr,run_loadVar_row w g t ty cs fr d hg hu hd hi]
theorem of15(RH':READH){w:World}{s:ByteArray}{us:List Wd}{o:Option Dr}{p e:Nat}(hok:Ok15 w)(hs:s.size≤6000)(hw:wdsOf (bs9 s)=us)(hn:us.length≤400)(hS:Wgh.ws ((tks 1 us).map tok) ((tks 1 us).map tok).length≤4010)(h:resH (hd ((tks 1 us).map tok))=(o,p,e)) :
  Calls Tryz.prog 9 #[.string s] w (fun en w'=>∃m:DM,en=.returned (.tuple #[.agg (cD (fdOf o) m),.int .i64 (e:Int)])∧MD w' (fdOf o) m∧Below w.heap.size w w'):=by
 have WD1:Hid (∀{W:World},Ok15 W→Calls Tryz.prog 13 #[.string s] W (RetL W us)):=fun hok=>by have q:=words15 hok hs;rw[hw] at q;exact q
 have OK:Hid (∀{W:World},Below w.heap.size w W→Ok15 W):=fun hb=>okw15 hok hb
 have H:=Jh h;have HS:=Jh hS;have HN:=Jh hn;have E:=Jh (S15.start w);clear h hw hok hS hs hn;obtain⟨Z,hZ⟩:∃Z,cD FD.zero DM.zero=Z:=⟨_,rfl⟩;have HZ:=Jh hZ;clear hZ;go_enter Tryz.func9,Tryz.ntmps9;go_wp2_with fail;replace E:=Jh (E.out.lay (cD FD.zero DM.zero) 45 (g:=w.heap.size) rfl);generalize hW:World.alloc w _=W1 at ⊢;have hW2:w.alloc (.cells (cD FD.zero DM.zero) 45)=W1:=hW;rw[hW2,HZ.out] at E;clear hW hW2;refine(WD1.out (OK.out E.out.bel)).mono ?_;rintro e1 w2 ⟨A,n,c,rfl,hr,hb⟩;have HG0:Hid (w.heap.size<w2.heap.size):=by have h1:=blk_lt (E.out.blk _ List.mem_cons_self);dsimp only at h1;exact Nat.lt_of_lt_of_le h1 hb.size
 replace E:=Jh (E.out.step hb);clear hb;have RK:=Jh hr;clear hr;go_wp2_with fail;have hnl:n=us.length:=by have:=RK.out.len;unfold tks at this;rw[List.length_map] at this;exact this
 refine(RH' (G:=Wgh.Grt _) RK.out (Nat.le_refl _) (by have:=HN.out;omega) (siz_weight HS.out) (OK.out E.out.bel) H.out).mono ?_;rintro e1 w3 ⟨m,rfl,hm,hfar,hb⟩;replace E:=Jh (E.out.push hb hm);have FAR:=Jh hfar;clear hb hm hnl hfar;obtain⟨X,hX⟩:∃X,cD (fdOf o) m=X:=⟨_,rfl⟩;have hXs:X.size=27:=by rw[← hX];rfl
 have hst:∀w:World,(storeCells ⟨w.heap.size,0,none⟩ X.toList 0).run Tryz.prog (w.alloc (.cells #[.int .i64 0,.int .i64 0,.int .i64 0,.int .i64 0,.string ⟨#[]⟩,.string ⟨#[]⟩,.slice none 0 0,.int .i64 0,.bool false,.slice none 0 0,.int .i64 0,.string ⟨#[]⟩,.bool false,.bool false,.slice none 0 0,.int .i64 0,.string ⟨#[]⟩,.string ⟨#[]⟩,.string ⟨#[]⟩,.slice none 0 0,.slice none 0 0,.slice none 0 0,.slice none 0 0,.string ⟨#[]⟩,.string ⟨#[]⟩,.int .i64 0,.int .i64 0] 45))=.ok () (w.alloc (.cells X 45)):=fun w=>st_new hX rfl
 have HX:=Jh hX;rw[hX];clear hX;go_upto_region 2 with fail
 have hV2:w3.alloc (.cells X 45)=w3.alloc (.cells X 45):=rfl;clear hst hV2;replace E:=Jh (E.out.lay X 45 (g:=w3.heap.size) rfl);generalize hV:World.alloc w3 _=V at E ⊢;clear hV;generalize w3.heap.size=g4 at E ⊢;have B4:=E.out.blk (g4,X,45) (by simp);have B0:=E.out.blk (w.heap.size,Z,45) (by simp);dsimp only at B4 B0
 have hst:=st_row HX.out (by rw[← HZ.out];rfl) (E.out.blk (w.heap.size,Z,45) (by simp));have HB4:=Jh B4;have HB0:=Jh B0;clear B4 B0;refine wp_region_lit ?_;refine wpList_load_row rfl 45 (.tmp 4) rfl g4 rfl 45 X (0,0) _ HB4.out Tryz.underlying45 rfl (by rw[dir_size,hXs]) ?_;go_wp2_with fail;have HMD:=(S15.got E (f:=fdOf o) (m:=m) (by simp)).row15 (cs:=X) FAR.out HG0.out HB0.out (by rw[← HZ.out];exact cD_zero_limb);have HBL:=below_setRow E.out.bel (Nat.le_refl _) X;have hrow:=setRow_heap V w.heap.size _ X _ _ HB0.out;exact bodyPost_ret (v:=.tuple #[.agg X,.int .i64 (e:Int)]) (results_cell_tmp Tryz.results9 _ _ _ 45 X (0,0) _ _ rfl rfl hrow Tryz.underlying45 rfl (by rw[dir_size,hXs])) rfl ⟨m,by rw[HX.out],HMD,HBL⟩
theorem lexw15{w:World}{s:ByteArray}(hok:Ok15 w)(hs:s.size≤6000):Calls Tryz.prog 6 #[.agg #[.int .i64 1,.string s]] w (fun en w'=>∃(A:Option Addr) (n c:Nat) (f0:Int) (k:Nat) (f2:Int),en=.returned (.tuple #[.slice A n c,.agg #[.int .i64 f0,.int .i64 f2,.int .i64 (k:Int)]])∧RdK w' w'.heap.size A n c (tks 1 (wdsOf (bs9 s)))∧Below w.heap.size w w'∧(∀ts,WD D12 N12 0 (bs9 s)=.inr ts→k=0)):=by
 have HW:=Jh (lexwords_is okw12 dayok12 (fun _ h hs=>lexunquote_is h hs _) o08 o07 o11 1 s hs w hok.1);clear hok;unfold wdsOf;cases h:WD D12 N12 0 (bs9 s) with
 | inl p=>
  obtain⟨c0,x0⟩:=p;rw[h] at HW;refine HW.out.mono ?_;rintro e v ⟨rfl,hb⟩;exact⟨_,_,_,_,x0,_,rfl,rdK_nil _ _,hb,fun ts h=>by cases h⟩
 | inr ts=>
  rw[h] at HW;refine HW.out.mono ?_;rintro e v ⟨⟨A,c,rfl,hr⟩,hb⟩;exact⟨_,_,_,_,0,_,rfl,rdK_of hr,hb,fun _ _=>rfl⟩
theorem hd_nil{p e:Nat}{o:Option Dr}(h:resH (hd [])=(o,p,e)):e≠0∧o=none:=by
 cases hh:hd [] with
 | inl q=>
  obtain⟨e1,p1⟩:=q;rw[hh] at h;cases h
  exact⟨hd_bad hh,rfl⟩
 | inr q=>
  exfalso
  revert hh;unfold hd;simp
theorem back15_long(AW:AWK15){w:World}{s:ByteArray}(hok:Ok15 w)(hs:300<s.size):Calls Tryz.prog 3 #[.string s] w (Ret9 w (.bool true)):=by
 have OK:Hid (∀{W:World},Below w.heap.size w W→Ok15 W):=fun hb=>okw15 hok hb
 have E:=Jh (S15.start w);have d:decide ((300:Int)<(s.size:Int))=true:=by simp;omega
 clear hok hs;go_enter Tryz.func3,Tryz.ntmps3;go_wp2_with fail;refine(AW _ (OK.out E.out.bel)).mono ?_;rintro e9 w9 ⟨rfl,hb⟩;replace E:=Jh (E.out.step hb);clear hb;go_wp2_with fail;go_ret;exact⟨rfl,E.out.bel⟩
theorem back15_fault(RH':READH)(SM:SAMEH)(AW:AWK15){w:World}{s:ByteArray}{p e:Nat}(hok:Ok15 w)(hs:s.size≤300)(hn:(wdsOf (bs9 s)).length≤400)(hS:Wgh.ws ((tks 1 (wdsOf (bs9 s))).map tok) ((tks 1 (wdsOf (bs9 s))).map tok).length≤4010)(h:resH (hd ((tks 1 (wdsOf (bs9 s))).map tok))=(none,p,e))(he:e≠0):Calls Tryz.prog 3 #[.string s] w (Ret9 w (.bool true)):=by
 have OK:Hid (∀{W:World},Below w.heap.size w W→Ok15 W):=fun hb=>okw15 hok hb
 obtain⟨o,ho⟩:∃o:Option Dr,o=none:=⟨_,rfl⟩;rw[← ho] at h;have SMF:Hid (∀{W:World}{m:DM},MD W (fdOf o) m→Ok15 W→∀X,cD (fdOf o) m=X→Calls Tryz.prog 8 #[.agg X,.agg #[.int .i64 0,.int .i64 0,.int .i64 0,.int .i64 0,.string ⟨#[]⟩,.string ⟨#[]⟩,.slice none 0 0,.int .i64 0,.bool false,.slice none 0 0,.int .i64 0,.string ⟨#[]⟩,.bool false,.bool false,.slice none 0 0,.int .i64 0,.string ⟨#[]⟩,.string ⟨#[]⟩,.string ⟨#[]⟩,.slice none 0 0,.slice none 0 0,.slice none 0 0,.slice none 0 0,.string ⟨#[]⟩,.string ⟨#[]⟩,.int .i64 0,.int .i64 0]] W (Ret9 W (.bool true))):=by
  intro W m hm hok X hX;subst hX;exact SM (m':=DM.zero) (o':=none) hm (MD.nil W) hok ⟨fun _=>ho,fun _=>rfl⟩
 have LX:Hid (∀{W:World},Ok15 W→_):=fun {W} hok=>lexw15 (w:=W) hok (Nat.le_trans hs (by omega))
 have H:=Jh h;have HS:=Jh hS;have HN:=Jh hn;have HE:=Jh he;have E:=Jh (S15.start w);have d:decide ((300:Int)<(s.size:Int))=false:=by simp;omega
 clear h hok hS hs hn he ho;go_enter Tryz.func3,Tryz.ntmps3;go_wp2_with fail;refine(LX.out (OK.out E.out.bel)).mono ?_;rintro e1 w1 ⟨A,n,c,f0,k,f2,rfl,hr,hb,hk⟩;replace E:=Jh (E.out.step hb);clear hb;have RK0:=Jh hr;have HK0:=Jh hk;clear hr hk;go_wp2_with fail;replace E:=Jh (E.out.lay #[.int .i64 f0,.int .i64 f2,.int .i64 (k:Int)] 28 (g:=w1.heap.size) rfl);have RK:Hid (RdK _ _ A n c (tks 1 (wdsOf (bs9 s)))):=RK0.out.on (Nat.le_refl _) ((Below.refl w1.heap.size w1).alloc (Nat.le_refl _) (.cells #[.int .i64 f0,.int .i64 f2,.int .i64 (k:Int)] 28));clear RK0;have hsz:w1.heap.size≤(w1.alloc (.cells #[.int .i64 f0,.int .i64 f2,.int .i64 (k:Int)] 28)).heap.size:=((Below.refl w1.heap.size w1).alloc (Nat.le_refl _) _).size;generalize hW:World.alloc w1 _=W1 at E RK hsz ⊢;clear hW;generalize w1.heap.size=g1 at E RK hsz ⊢;have hnl:n=(wdsOf (bs9 s)).length:=by have:=RK.out.len;unfold tks at this;rw[List.length_map] at this;exact this
 refine(RH' (G:=Wgh.Grt _) RK.out hsz (by have:=HN.out;omega) (siz_weight HS.out) (OK.out E.out.bel) H.out).mono ?_;rintro e2 w2 ⟨m,rfl,hm,hfar,hb⟩;replace E:=Jh (E.out.push hb hm);clear hb hm hnl hfar hsz;obtain⟨X,hX⟩:∃X,cD (fdOf o) m=X:=⟨_,rfl⟩;have hXs:X.size=27:=by rw[← hX];rfl
 have hst:∀w:World,(storeCells ⟨w.heap.size,0,none⟩ X.toList 0).run Tryz.prog (w.alloc (.cells #[.int .i64 0,.int .i64 0,.int .i64 0,.int .i64 0,.string ⟨#[]⟩,.string ⟨#[]⟩,.slice none 0 0,.int .i64 0,.bool false,.slice none 0 0,.int .i64 0,.string ⟨#[]⟩,.bool false,.bool false,.slice none 0 0,.int .i64 0,.string ⟨#[]⟩,.string ⟨#[]⟩,.string ⟨#[]⟩,.slice none 0 0,.slice none 0 0,.slice none 0 0,.slice none 0 0,.string ⟨#[]⟩,.string ⟨#[]⟩,.int .i64 0,.int .i64 0] 45))=.ok () (w.alloc (.cells X 45)):=fun w=>st_new hX rfl
 have HX:=Jh hX;rw[hX];clear hX;go_upto_region 5 with fail
 clear hst;replace E:=Jh (E.out.lay X 45 (g:=w2.heap.size) rfl);generalize hV:World.alloc w2 _=V at E ⊢;clear hV;generalize w2.heap.size=g2 at E ⊢;have q1:V.cell? ⟨g1,2,none⟩=some (.int .i64 (k:Int)):=S15.at_ E (g:=g1) (xs:=#[.int .i64 f0,.int .i64 f2,.int .i64 (k:Int)]) (t:=28) (by simp) 2;have he0:((e:Int) != 0)=true:=by have:=HE.out;simp;omega
 obtain⟨kb,hkb⟩:∃b,((k:Int) != 0)=b:=⟨_,rfl⟩;cases kb
 all_goals
  go_upto_region 6 with fail
  clear q1 hkb;have B2:=E.out.blk (g2,X,45) (by simp);dsimp only at B2
  refine wp_region_lit ?_;refine wpList_load_row rfl 45 (.tmp 5) rfl g2 rfl 45 X (0,0) _ B2 Tryz.underlying45 rfl (by rw[dir_size,hXs]) ?_;clear B2;go_wp2_with fail;refine(SMF.out (S15.got E (f:=fdOf o) (m:=m) (by simp)) (OK.out E.out.bel) X HX.out).mono ?_;rintro e3 w3 ⟨rfl,hb⟩;replace E:=Jh (E.out.step hb);clear hb;go_wp2_with fail;refine(AW _ (OK.out E.out.bel)).mono ?_;rintro e9 w9 ⟨rfl,hb⟩;replace E:=Jh (E.out.step hb);clear hb;go_wp2_with fail;go_ret;exact⟨rfl,E.out.bel⟩
theorem jnB_lt:∀l:List (List Nat),(∀x∈l,∀c∈x,c<256)→∀c∈jnB l,c<256
 | [],_,c,h=>by cases h
 | [x],h,c,hc=>h x List.mem_cons_self c hc
 | x::y::r,h,c,hc=>by
  rcases List.mem_append.1 hc with hc|hc
  ·exact h x List.mem_cons_self c hc
  ·rcases List.mem_cons.1 hc with rfl|hc
   ·decide
   ·exact jnB_lt (y::r) (fun z hz=>h z (List.mem_cons_of_mem _ hz)) c hc
def Pc.lt(p:Pc):Prop:=∀c∈p.t,c<256
theorem pW_lt(k:Nat){y:List Nat}(h:∀c∈y,c<256):(pW k y).lt:=nxt_txt_lt k h
theorem pS_lt(k:Nat)(y:ByteArray):(pW k (bs9 y)).lt:=pW_lt k (bs9_lt y)
theorem pD_lt(d:Int×Int×Int):(pD d).lt:=bs9_lt _
theorem pN_lt(i:Int)(k:Nat):(pN i k).lt:=Num.txtD_lt i k
theorem mthT_lt(m:Nat):∀c∈mthT m,c<256:=by
 unfold mthT;split<;>decide
theorem curP_lt:∀(l:List ByteArray),∀p∈curP l,p.lt
 | [],p,h=>by cases h
 | [x],p,h=>by rw[List.mem_singleton.1 h];exact pS_lt _ _
 | x::y::r,p,h=>by
  rcases List.mem_cons.1 h with rfl|h
  ·intro c hc
   rcases List.mem_append.1 hc with hc|hc
   ·exact bs9_lt _ c hc
   ·rw[List.mem_singleton.1 hc];decide
  ·exact curP_lt (y::r) p h
theorem lit_lt:(∀c∈wOption,c<256)∧(∀c∈wOpen,c<256)∧(∀c∈wClose,c<256)∧(∀c∈wCommodity,c<256)∧(∀c∈wPrice,c<256)∧(∀c∈wPad,c<256)∧(∀c∈wBalance,c<256)∧(∀c∈wNote,c<256):=by
 refine⟨?_,?_,?_,?_,?_,?_,?_,?_⟩<;>decide
theorem pcs_lt(d:Dr):∀p∈pcs d,p.lt:=by
 obtain⟨l1,l2,l3,l4,l5,l6,l7,l8⟩:=lit_lt;have nil:∀p∈([]:List Pc),p.lt:=fun p h=>by cases h
 have cons:∀{p:Pc}{l:List Pc},p.lt→(∀q∈l,q.lt)→∀q∈p::l,q.lt:=fun h1 h2 q hq=>by
  rcases List.mem_cons.1 hq with rfl|hq
  ·exact h1
  ·exact h2 q hq
 have app:∀{l k:List Pc},(∀q∈l,q.lt)→(∀q∈k,q.lt)→∀q∈l++k,q.lt:=fun h1 h2 q hq=>(List.mem_append.1 hq).elim (h1 q) (h2 q)
 have mp:∀(k:Nat) (l:List ByteArray),∀q∈l.map (fun x=>pW k (bs9 x)),q.lt:=fun k l q hq=>by
  obtain⟨x,-,rfl⟩:=List.mem_map.1 hq;exact pS_lt _ _
 cases d with
 | opn d a cs b=>
  refine cons (pD_lt _) (cons (pW_lt 8 l2) (cons (pS_lt _ _) (app (curP_lt cs) ?_)));split
  ·exact nil
  ·exact cons (pW_lt 5 (mthT_lt b)) nil
 | cls d a=>exact cons (pD_lt _) (cons (pW_lt 8 l3) (cons (pS_lt _ _) nil))
 | com d c=>exact cons (pD_lt _) (cons (pW_lt 8 l4) (cons (pS_lt _ _) nil))
 | prc d c i k x=>exact cons (pD_lt _) (cons (pW_lt 8 l5) (cons (pS_lt _ _) (cons (pN_lt _ _) (cons (pS_lt _ _) nil))))
 | pad d a b=>exact cons (pD_lt _) (cons (pW_lt 8 l6) (cons (pS_lt _ _) (cons (pS_lt _ _) nil)))
 | bal d a i k t x=>
  refine cons (pD_lt _) (cons (pW_lt 8 l7) (cons (pS_lt _ _) (cons (pN_lt _ _) (app ?_ (cons (pS_lt _ _) nil)))));cases t with
  | none=>exact nil
  | some n=>exact cons (pW_lt 10 (by decide)) (cons (pN_lt _ _) nil)
 | txn d f p n T K=>
  refine cons (pD_lt _) (cons (pW_lt 10 (by split<;>decide)) (app ?_ (cons (pS_lt _ _) (app (mp 6 T) (mp 7 K)))));split
  ·exact nil
  ·exact cons (pS_lt _ _) nil
 | nte d a x=>exact cons (pD_lt _) (cons (pW_lt 8 l8) (cons (pS_lt _ _) (cons (pS_lt _ _) nil)))
 | opt n x=>exact cons (pW_lt 8 l1) (cons (pS_lt _ _) (cons (pS_lt _ _) nil))
theorem drT_lt(d:Dr):∀c∈drT d,c<256:=jnB_lt _ fun x hx=>by
 obtain⟨p,hp,rfl⟩:=List.mem_map.1 hx;exact pcs_lt d p hp
theorem kind_ok(d:Dr):1≤(fdOf (some d)).kind∧(fdOf (some d)).kind≤9:=by
 cases d with
 | bal x a i k t u=>cases t<;>exact⟨by show 1≤6;decide,by show 6≤9;decide⟩
 | opn=>exact⟨by show 1≤1;decide,by show 1≤9;decide⟩
 | cls=>exact⟨by show 1≤2;decide,by show 2≤9;decide⟩
 | com=>exact⟨by show 1≤3;decide,by show 3≤9;decide⟩
 | prc=>exact⟨by show 1≤4;decide,by show 4≤9;decide⟩
 | pad=>exact⟨by show 1≤5;decide,by show 5≤9;decide⟩
 | txn=>exact⟨by show 1≤7;decide,by show 7≤9;decide⟩
 | nte=>exact⟨by show 1≤8;decide,by show 8≤9;decide⟩
 | opt=>exact⟨by show 1≤9;decide,by show 9≤9;decide⟩
def Two15(g1 g2:Nat)(xs ys:Array Value)(v:World):Prop:=v.heap[g1]?=some (.cells xs 45 (0,0))∧v.heap[g2]?=some (.cells ys 45 (0,0))
section
variable {o:Oper}{ρ:Operand→Value}{x y:Operand}{w:World}
theorem e_loadD{g:Nat}{X:Array Value}(hs:X.size=27)(h:o.op=.load 45 x)(hx:ρ x=.pointer (some ⟨g,0,none⟩))(hb:w.heap[g]?=some (.cells X 45 (0,0))):(execOp ρ o).run Tryz.prog w=.ok (.value (.agg X)) w:=by
 unfold execOp;simp only[h,hx,Instr.loadAt,Instr.sureAddr,Sem.run_bind,Sem.run_pure,Result.andThen_ok,run_loadVar_row w g 45 45 X (0,0) _ hb Tryz.underlying45 rfl (by rw[dir_size,hs])]
theorem e_fieldD{g:Nat}(h:o.op=.fieldAddr 45 x 0)(hx:ρ x=.pointer (some ⟨g,0,none⟩)):(execOp ρ o).run Tryz.prog w=.ok (.value (.pointer (some ⟨g,0,none⟩))) w:=by
 unfold execOp;rw[h];simp only[hx]
 go_simp
theorem e_cellI15{g k:Nat}{v:Value}(h:o.op=.load 3 x)(hx:ρ x=.pointer (some ⟨g,k,none⟩))(hc:w.cell? ⟨g,k,none⟩=some v):(execOp ρ o).run Tryz.prog w=.ok (.value v) w:=by
 unfold execOp;rw[h];simp only[hx]
 go_simp
theorem e_eqI15{i j:Int}{b:Bool}{t t':TypeId}(hb:(i == j)=b)(h:o.op=.binOp .eql t x y t')(hx:ρ x=.int .i64 i)(hy:ρ y=.int .i64 j):(execOp ρ o).run Tryz.prog w=.ok (.value (.bool b)) w:=by
 subst hb;unfold execOp;rw[h];simp only[hx,hy]
 go_simp
theorem e_geI15{i j:Int}{b:Bool}{t t':TypeId}(hb:decide (j≤i)=b)(h:o.op=.binOp .geq t x y t')(hx:ρ x=.int .i64 i)(hy:ρ y=.int .i64 j):(execOp ρ o).run Tryz.prog w=.ok (.value (.bool b)) w:=by
 subst hb;unfold execOp;rw[h];simp only[hx,hy]
 go_simp
theorem e_leI15{i j:Int}{b:Bool}{t t':TypeId}(hb:decide (i≤j)=b)(h:o.op=.binOp .leq t x y t')(hx:ρ x=.int .i64 i)(hy:ρ y=.int .i64 j):(execOp ρ o).run Tryz.prog w=.ok (.value (.bool b)) w:=by
 subst hb;unfold execOp;rw[h];simp only[hx,hy]
 go_simp
theorem e_eqS15{a b:ByteArray}{c:Bool}{t t':TypeId}(hb:(a.toList == b.toList)=c)(h:o.op=.binOp .eql t x y t')(hx:ρ x=.string a)(hy:ρ y=.string b):(execOp ρ o).run Tryz.prog w=.ok (.value (.bool c)) w:=by
 subst hb;unfold execOp;rw[h];simp only[hx,hy]
 go_simp
end
def hb15T:List Row3:=[(some 48,none,.move (.tmp 9)),(some 49,none,.binOp .eql 26 (.tmp 48) (.const (.int .i64 0)) 26),(some 50,none,.move (.tmp 49)),(some 51,some (2,true),.load 45 (.tmp 5)),(some 52,some (2,true),.load 45 (.tmp 8)),(some 53,some (2,true),.call { callee:=.value (.func 8),args:=#[.tmp 51,.tmp 52],argTypes:=#[45,45] }),(some 54,none,.pick (.tmp 50) (.tmp 53) (.const (.bool false))),(some 55,none,.move (.tmp 54)),(some 56,some (7,true),.load 45 (.tmp 8)),(some 57,some (7,true),.call { callee:=.value (.func 10),args:=#[.tmp 56],argTypes:=#[45] }),(some 58,some (7,true),.load 45 (.tmp 5)),(some 59,some (7,true),.call { callee:=.value (.func 10),args:=#[.tmp 58],argTypes:=#[45] }),(some 60,some (7,true),.binOp .eql 9 (.tmp 57) (.tmp 59) 9),(some 61,none,.pick (.tmp 55) (.tmp 60) (.const (.bool false))),(some 62,none,.move (.tmp 61)),(some 63,some (14,true),.fieldAddr 45 (.tmp 5) 0),(some 64,some (14,true),.load 3 (.tmp 63)),(some 65,some (14,true),.binOp .geq 3 (.tmp 64) (.const (.int .i64 1)) 3),(some 66,none,.pick (.tmp 62) (.tmp 65) (.const (.bool false))),(some 67,none,.move (.tmp 66)),(some 68,some (19,true),.fieldAddr 45 (.tmp 5) 0),(some 69,some (19,true),.load 3 (.tmp 68)),(some 70,some (19,true),.binOp .leq 3 (.tmp 69) (.const (.int .i64 9)) 3),(some 71,none,.pick (.tmp 67) (.tmp 70) (.const (.bool false))),(some 72,none,.move (.tmp 71)),(some 73,some (24,true),.call { callee:=.value (.func 5),args:=#[],argTypes:=#[] }),(some 74,none,.pick (.tmp 72) (.tmp 73) (.const (.bool false))),(some 2,none,.assign (.tmp 74))]
theorem hb15Row:(opsAt Tryz.prog 3 8).toList.map row3=hb15T:=by kernel_rfl
theorem hb15Sel:Region.noSelect (opsAt Tryz.prog 3 8)=true:=by kernel_rfl
theorem hb15Done:Region.ready .any (opsAt Tryz.prog 3 8) (upto (opsAt Tryz.prog 3 8).size (opsAt Tryz.prog 3 8).size [])=[]:=by kernel_rfl
theorem hb15still0:[(0,[],0),(1,[],1),(2,[],2),(3,[],3),(4,[],4),(6,[],6),(7,[],7),(8,[],8),(9,[],10),(12,[],12)].all (stillB (opsAt Tryz.prog 3 8))=true:=by kernel_rfl
theorem hb15still1:[(13,[],13),(14,[],14),(15,[],15),(16,[],16),(17,[],17),(18,[],18),(19,[],19),(20,[],20),(21,[],21),(22,[],22)].all (stillB (opsAt Tryz.prog 3 8))=true:=by kernel_rfl
theorem hb15still2:[(23,[],23),(24,[],24),(26,[],26),(27,[],27)].all (stillB (opsAt Tryz.prog 3 8))=true:=by kernel_rfl
theorem hb15sole0:[(5,[],5),(9,[10],9),(11,[],11),(25,[],25)].all (soleB (opsAt Tryz.prog 3 8))=true:=by kernel_rfl
theorem hb15R:Reg (opsAt Tryz.prog 3 8) hb15T [(0,[],0),(1,[],1),(2,[],2),(3,[],3),(4,[],4),(6,[],6),(7,[],7),(8,[],8),(9,[],10),(12,[],12),(13,[],13),(14,[],14),(15,[],15),(16,[],16),(17,[],17),(18,[],18),(19,[],19),(20,[],20),(21,[],21),(22,[],22),(23,[],23),(24,[],24),(26,[],26),(27,[],27)] [(5,[],5),(9,[10],9),(11,[],11),(25,[],25)]:=⟨hb15Row,hb15Sel,(all_parts hb15still0 (all_parts hb15still1 (all_parts hb15still2 (fun k h=>by cases h)))),(all_parts hb15sole0 (fun k h=>by cases h)),hb15Done⟩
theorem back15_good(RH':READH)(TX:TEXTH)(SM:SAMEH)(AW:AWK15){w:World}{s:ByteArray}{ts:List Wd}{dd:Dr}{p:Nat}(hok:Ok15 w)(hs:s.size≤300)(hts:WD D12 N12 0 (bs9 s)=.inr ts)(hdd:hd ((tks 1 ts).map tok)=.inr (dd,p)):Calls Tryz.prog 3 #[.string s] w (Ret9 w (.bool true)):=by
 have OK:Hid (∀{W:World},Below w.heap.size w W→Ok15 W):=fun hb=>okw15 hok hb
 obtain⟨T,hT⟩:∃T,drT dd=bs9 T:=⟨_,(bs9_st9 (drT_lt _)).symm⟩;obtain⟨hdok,-,hTs,us,hu1,hu2,hu3,hu4,hu5⟩:=dr_line hs hts hdd hT;have hfit:=hd_fit (line_few hs hts).1 hdd;have hw:wdsOf (bs9 s)=ts:=by unfold wdsOf;rw[hts]
 obtain⟨-,hS0,hn0⟩:=line_few hs hts;have hS:Wgh.ws ((tks 1 (wdsOf (bs9 s))).map tok) ((tks 1 (wdsOf (bs9 s))).map tok).length≤4010:=by rw[hw];exact hS0
 have hn:(wdsOf (bs9 s)).length≤400:=by rw[hw];omega
 obtain⟨o,ho⟩:∃o:Option Dr,o=some dd:=⟨_,rfl⟩;obtain⟨e,he⟩:∃e:Nat,e=0:=⟨_,rfl⟩;have h:resH (hd ((tks 1 (wdsOf (bs9 s))).map tok))=(o,p,e):=by rw[hw,hdd,ho,he];rfl
 have hkd:1≤(fdOf o).kind∧(fdOf o).kind≤9:=by rw[ho];exact kind_ok dd
 have TXX:Hid (∀{W:World}{m:DM},MD W (fdOf o) m→Ok15 W→∀X,cD (fdOf o) m=X→Calls Tryz.prog 10 #[.agg X] W (Ret9 W (.string T))):=by
  intro W m hm hok X hX;subst hX;subst ho;exact TX hm hfit hTs hok hT
 have SMX:Hid (∀{W:World}{m m':DM},MD W (fdOf o) m→MD W (fdOf o) m'→Ok15 W→∀X X',cD (fdOf o) m=X→cD (fdOf o) m'=X'→Calls Tryz.prog 8 #[.agg X,.agg X'] W (Ret9 W (.bool true))):=by
  intro W m m' hm hm' hok X X' hX hX';subst hX;subst hX';exact SM hm hm' hok ⟨fun _=>rfl,fun _=>rfl⟩
 have OFX:Hid (∀{W:World},Ok15 W→Calls Tryz.prog 9 #[.string T] W (fun en w'=>∃m:DM,en=.returned (.tuple #[.agg (cD (fdOf o) m),.int .i64 0])∧MD w' (fdOf o) m∧Below W.heap.size W w')):=by
  intro W hok;subst ho;exact of15 RH' hok (Nat.le_trans hTs (by omega)) hu2 hu3 hu4 (p:=us.length) (e:=0) (by rw[hu5];rfl)
 have LX:Hid (∀{W:World},Ok15 W→_):=fun {W} hok=>lexw15 (w:=W) hok (Nat.le_trans hs (by omega))
 have H:=Jh h;have HS:=Jh hS;have HN:=Jh hn;have HE:=Jh he;have HTS:=Jh hts;have HKD:=Jh hkd;have hTT:(T.toList == T.toList)=true:=beq_self_eq_true _;have HTT:=Jh hTT;have E:=Jh (S15.start w);have d:decide ((300:Int)<(s.size:Int))=false:=by simp;omega
 clear h hok hS hs hn he ho hTT hkd hts hdd hfit hw hS0 hn0 hT hdok hTs hu1 hu2 hu3 hu4 hu5;go_enter Tryz.func3,Tryz.ntmps3;go_wp2_with fail;refine(LX.out (OK.out E.out.bel)).mono ?_;rintro e1 w1 ⟨A,n,c,f0,k,f2,rfl,hr,hb,hk⟩;replace E:=Jh (E.out.step hb);clear hb;have RK0:=Jh hr;have HK0:=Jh hk;clear hr hk;go_wp2_with fail;replace E:=Jh (E.out.lay #[.int .i64 f0,.int .i64 f2,.int .i64 (k:Int)] 28 (g:=w1.heap.size) rfl);have RK:Hid (RdK _ _ A n c (tks 1 (wdsOf (bs9 s)))):=RK0.out.on (Nat.le_refl _) ((Below.refl w1.heap.size w1).alloc (Nat.le_refl _) (.cells #[.int .i64 f0,.int .i64 f2,.int .i64 (k:Int)] 28));clear RK0;have hsz:w1.heap.size≤(w1.alloc (.cells #[.int .i64 f0,.int .i64 f2,.int .i64 (k:Int)] 28)).heap.size:=((Below.refl w1.heap.size w1).alloc (Nat.le_refl _) _).size;generalize hW:World.alloc w1 _=W1 at E RK hsz ⊢;clear hW;generalize w1.heap.size=g1 at E RK hsz ⊢;have hnl:n=(wdsOf (bs9 s)).length:=by have:=RK.out.len;unfold tks at this;rw[List.length_map] at this;exact this
 refine(RH' (G:=Wgh.Grt _) RK.out hsz (by have:=HN.out;omega) (siz_weight HS.out) (OK.out E.out.bel) H.out).mono ?_;rintro e2 w2 ⟨m,rfl,hm,hfar,hb⟩;replace E:=Jh (E.out.push hb hm);clear hb hm hnl hfar hsz;obtain⟨X,hX⟩:∃X,cD (fdOf o) m=X:=⟨_,rfl⟩;have hXs:X.size=27:=by rw[← hX];rfl
 have hst:∀w:World,(storeCells ⟨w.heap.size,0,none⟩ X.toList 0).run Tryz.prog (w.alloc (.cells #[.int .i64 0,.int .i64 0,.int .i64 0,.int .i64 0,.string ⟨#[]⟩,.string ⟨#[]⟩,.slice none 0 0,.int .i64 0,.bool false,.slice none 0 0,.int .i64 0,.string ⟨#[]⟩,.bool false,.bool false,.slice none 0 0,.int .i64 0,.string ⟨#[]⟩,.string ⟨#[]⟩,.string ⟨#[]⟩,.slice none 0 0,.slice none 0 0,.slice none 0 0,.slice none 0 0,.string ⟨#[]⟩,.string ⟨#[]⟩,.int .i64 0,.int .i64 0] 45))=.ok () (w.alloc (.cells X 45)):=fun w=>st_new hX rfl
 have HX:=Jh hX;rw[hX];clear hX;go_upto_region 5 with fail
 clear hst;replace E:=Jh (E.out.lay X 45 (g:=w2.heap.size) rfl);generalize hV:World.alloc w2 _=V at E ⊢;clear hV;generalize w2.heap.size=g2 at E ⊢;have q1:V.cell? ⟨g1,2,none⟩=some (.int .i64 (k:Int)):=S15.at_ E (g:=g1) (xs:=#[.int .i64 f0,.int .i64 f2,.int .i64 (k:Int)]) (t:=28) (by simp) 2;have hk0:k=0:=HK0.out ts HTS.out;have hk1:((k:Int) != 0)=false:=by rw[hk0];rfl
 have he1:((e:Int) != 0)=false:=by rw[HE.out];rfl
 clear hk0;go_upto_region 7 with fail
 clear q1 hk1 he1;have B2:=E.out.blk (g2,X,45) (by simp);dsimp only at B2
 refine wp_region_lit ?_;refine wpList_load_row rfl 45 (.tmp 5) rfl g2 rfl 45 X (0,0) _ B2 Tryz.underlying45 rfl (by rw[dir_size,hXs]) ?_;clear B2;go_wp2_with fail;refine(TXX.out (S15.got E (f:=fdOf o) (m:=m) (by simp)) (OK.out E.out.bel) X HX.out).mono ?_;rintro e3 w3 ⟨rfl,hb⟩;replace E:=Jh (E.out.step hb);clear hb;go_wp2_with fail;refine(OFX.out (OK.out E.out.bel)).mono ?_;rintro e4 w4 ⟨m2,rfl,hm2,hb⟩;replace E:=Jh (E.out.push hb hm2);clear hb hm2;obtain⟨X2,hX2⟩:∃X,cD (fdOf o) m2=X:=⟨_,rfl⟩;have hXs2:X2.size=27:=by rw[← hX2];rfl
 have hst:∀w:World,(storeCells ⟨w.heap.size,0,none⟩ X2.toList 0).run Tryz.prog (w.alloc (.cells #[.int .i64 0,.int .i64 0,.int .i64 0,.int .i64 0,.string ⟨#[]⟩,.string ⟨#[]⟩,.slice none 0 0,.int .i64 0,.bool false,.slice none 0 0,.int .i64 0,.string ⟨#[]⟩,.bool false,.bool false,.slice none 0 0,.int .i64 0,.string ⟨#[]⟩,.string ⟨#[]⟩,.string ⟨#[]⟩,.slice none 0 0,.slice none 0 0,.slice none 0 0,.slice none 0 0,.string ⟨#[]⟩,.string ⟨#[]⟩,.int .i64 0,.int .i64 0] 45))=.ok () (w.alloc (.cells X2 45)):=fun w=>st_new hX2 rfl
 have HX2:=Jh hX2;rw[hX2];clear hX2;go_upto_region 8 with fail
 clear hst;replace E:=Jh (E.out.lay X2 45 (g:=w4.heap.size) rfl);generalize hV:World.alloc w4 _=V4 at E ⊢;clear hV;generalize w4.heap.size=g3 at E ⊢;obtain⟨kd,hkd⟩:∃kd:Nat,(fdOf o).kind=kd:=⟨_,rfl⟩;have HC0:Hid (X[0]?=some (.int .i64 (kd:Int))):=by rw[← HX.out,← hkd];rfl
 have hgk:decide ((1:Int)≤(kd:Int))=true:=by have:=HKD.out.1;rw[hkd] at this;simp;omega
 have hlk:decide ((kd:Int)≤9)=true:=by have:=HKD.out.2;rw[hkd] at this;simp;omega
 clear hkd;have HGK:=Jh hgk;have HLK:=Jh hlk;clear hgk hlk;go_wp2_with fail;replace E:=Jh (E.out.step (Below.refl _ _).drew);rename_i K hK
 refine line_start (ops:=opsAt Tryz.prog 3 8) (S:=Two15 g2 g3 X X2) (by kernel_rfl) (by kernel_rfl) (⟨E.out.blk (g2,X,45) (by simp),E.out.blk (g3,X2,45) (by simp)⟩) ?_;have hSw:(Two15 g2 g3 X X2) V4.drew:=⟨E.out.blk (g2,X,45) (by simp),E.out.blk (g3,X2,45) (by simp)⟩;generalize hA:Act.mk _ _=a;have ha:Fr 75 a [(5,.pointer (some ⟨g2,0,none⟩)),(8,.pointer (some ⟨g3,0,none⟩)),(9,.int .i64 0)]:=by rw[← hA];exact⟨rfl,rfl,by intro q hq;simp at hq;rcases hq with rfl|rfl|rfl<;>rfl⟩
 clear hA;refine line_still hb15R 0 0 [] 48 (.int .i64 0) [(5,.pointer (some ⟨g2,0,none⟩)),(8,.pointer (some ⟨g3,0,none⟩))] rfl (by decide) (by decide) (by decide) ha (fun o ho hg=>y_of (wanted_none hg) (fun wx hS=>e_move (.inl ho) (ha.ev (i:=9) (v:=.int .i64 0) (by simp)))) (by simp) hSw ?_;intro a ha;refine line_still hb15R 1 1 [] 49 (.bool true) [(5,.pointer (some ⟨g2,0,none⟩)),(8,.pointer (some ⟨g3,0,none⟩))] rfl (by decide) (by decide) (by decide) ha (fun o ho hg=>y_of (wanted_none hg) (fun wx hS=>e_eqI15 (i:=0) (j:=0) (b:=true) rfl ho (ha.ev (i:=48) (v:=.int .i64 0) (by simp)) rfl)) (by simp) hSw ?_;intro a ha;refine line_still hb15R 2 2 [] 50 (.bool true) [(5,.pointer (some ⟨g2,0,none⟩)),(8,.pointer (some ⟨g3,0,none⟩))] rfl (by decide) (by decide) (by decide) ha (fun o ho hg=>y_of (wanted_none hg) (fun wx hS=>e_move (.inl ho) (ha.ev (i:=49) (v:=.bool true) (by simp)))) (by simp) hSw ?_;intro a ha;refine line_still hb15R 3 3 [] 51 (.agg X) [(50,.bool true),(5,.pointer (some ⟨g2,0,none⟩)),(8,.pointer (some ⟨g3,0,none⟩))] rfl (by decide) (by decide) (by decide) ha (fun o ho hg=>y_of (hb15R.wanted hg rfl ha (d:=50) (by simp)) (fun wx hS=>e_loadD hXs ho (ha.ev (i:=5) (v:=.pointer (some ⟨g2,0,none⟩)) (by simp)) hS.1)) (by simp) hSw ?_;intro a ha;refine line_still hb15R 4 4 [] 52 (.agg X2) [(51,.agg X),(50,.bool true),(5,.pointer (some ⟨g2,0,none⟩)),(8,.pointer (some ⟨g3,0,none⟩))] rfl (by decide) (by decide) (by decide) ha (fun o ho hg=>y_of (hb15R.wanted hg rfl ha (d:=50) (by simp)) (fun wx hS=>e_loadD hXs2 ho (ha.ev (i:=8) (v:=.pointer (some ⟨g3,0,none⟩)) (by simp)) hS.2)) (by simp) hSw ?_;intro a ha;refine line_call hb15R 5 5 [] 53 (args:=#[.agg X,.agg X2]) [(50,.bool true),(5,.pointer (some ⟨g2,0,none⟩)),(8,.pointer (some ⟨g3,0,none⟩))] rfl (by decide) (by decide) (by decide) ha (fun o ho hg=>⟨(hb15R.wanted hg rfl ha (d:=50) (by simp)),e_call13 (by kernel_rfl) ho rfl (by have q0:=ha.ev (i:=51) (v:=.agg X) (by simp);have q1:=ha.ev (i:=52) (v:=.agg X2) (by simp);simp only[List.map_toArray,List.map_cons,List.map_nil,ev_const,q0,q1])⟩) (by simp) ?_;refine(SMX.out (S15.got E (f:=fdOf o) (m:=m) (by simp)) (S15.got E (f:=fdOf o) (m:=m2) (by simp)) (OK.out E.out.bel) X X2 HX.out HX2.out).mono ?_;rintro e y1 ⟨rfl,hb⟩;replace E:=Jh (E.out.step hb);clear hb;have hSw:Two15 g2 g3 X X2 _:=⟨E.out.blk (g2,X,45) (by simp),E.out.blk (g3,X2,45) (by simp)⟩;refine⟨_,rfl,hSw,?_⟩;intro a ha;refine line_still hb15R 6 6 [] 54 (.bool true) [(5,.pointer (some ⟨g2,0,none⟩)),(8,.pointer (some ⟨g3,0,none⟩))] rfl (by decide) (by decide) (by decide) ha (fun o ho hg=>y_of (wanted_none hg) (fun wx hS=>e_pick ho (ha.ev (i:=50) (v:=.bool true) (by simp)) (ha.ev (i:=53) (v:=.bool true) (by simp)) rfl)) (by simp) hSw ?_;intro a ha;refine line_still hb15R 7 7 [] 55 (.bool true) [(5,.pointer (some ⟨g2,0,none⟩)),(8,.pointer (some ⟨g3,0,none⟩))] rfl (by decide) (by decide) (by decide) ha (fun o ho hg=>y_of (wanted_none hg) (fun wx hS=>e_move (.inl ho) (ha.ev (i:=54) (v:=.bool true) (by simp)))) (by simp) hSw ?_;intro a ha;refine line_still hb15R 8 8 [] 56 (.agg X2) [(55,.bool true),(5,.pointer (some ⟨g2,0,none⟩))] rfl (by decide) (by decide) (by decide) ha (fun o ho hg=>y_of (hb15R.wanted hg rfl ha (d:=55) (by simp)) (fun wx hS=>e_loadD hXs2 ho (ha.ev (i:=8) (v:=.pointer (some ⟨g3,0,none⟩)) (by simp)) hS.2)) (by simp) hSw ?_;intro a ha;refine line_ahead hb15R 9 9 [] 10 58 (.agg X) [(56,.agg X2),(55,.bool true),(5,.pointer (some ⟨g2,0,none⟩))] rfl (by decide) (by decide) (by decide) ha (fun o ho hg=>y_of (hb15R.wanted hg rfl ha (d:=55) (by simp)) (fun wx hS=>e_loadD hXs ho (ha.ev (i:=5) (v:=.pointer (some ⟨g2,0,none⟩)) (by simp)) hS.1)) (by simp) hSw ?_;intro a ha;refine line_call hb15R 10 9 [10] 57 (args:=#[.agg X2]) [(58,.agg X),(55,.bool true),(5,.pointer (some ⟨g2,0,none⟩))] rfl (by decide) (by decide) (by decide) ha (fun o ho hg=>⟨(hb15R.wanted hg rfl ha (d:=55) (by simp)),e_call13 (by kernel_rfl) ho rfl (by have q0:=ha.ev (i:=56) (v:=.agg X2) (by simp);simp only[List.map_toArray,List.map_cons,List.map_nil,ev_const,q0])⟩) (by simp) ?_;refine(TXX.out (S15.got E (f:=fdOf o) (m:=m2) (by simp)) (OK.out E.out.bel) X2 HX2.out).mono ?_;rintro e y2 ⟨rfl,hb⟩;replace E:=Jh (E.out.step hb);clear hb;have hSw:Two15 g2 g3 X X2 _:=⟨E.out.blk (g2,X,45) (by simp),E.out.blk (g3,X2,45) (by simp)⟩;refine⟨_,rfl,hSw,?_⟩;intro a ha;refine line_skip [] (by intro i;simp<;>omega) ?_;refine line_call hb15R 11 11 [] 59 (args:=#[.agg X]) [(57,.string T),(55,.bool true),(5,.pointer (some ⟨g2,0,none⟩))] rfl (by decide) (by decide) (by decide) ha (fun o ho hg=>⟨(hb15R.wanted hg rfl ha (d:=55) (by simp)),e_call13 (by kernel_rfl) ho rfl (by have q0:=ha.ev (i:=58) (v:=.agg X) (by simp);simp only[List.map_toArray,List.map_cons,List.map_nil,ev_const,q0])⟩) (by simp) ?_;refine(TXX.out (S15.got E (f:=fdOf o) (m:=m) (by simp)) (OK.out E.out.bel) X HX.out).mono ?_;rintro e y3 ⟨rfl,hb⟩;replace E:=Jh (E.out.step hb);clear hb;have hSw:Two15 g2 g3 X X2 _:=⟨E.out.blk (g2,X,45) (by simp),E.out.blk (g3,X2,45) (by simp)⟩;refine⟨_,rfl,hSw,?_⟩;intro a ha;refine line_still hb15R 12 12 [] 60 (.bool true) [(55,.bool true),(5,.pointer (some ⟨g2,0,none⟩))] rfl (by decide) (by decide) (by decide) ha (fun o ho hg=>y_of (hb15R.wanted hg rfl ha (d:=55) (by simp)) (fun wx hS=>e_eqS15 HTT.out ho (ha.ev (i:=57) (v:=.string T) (by simp)) (ha.ev (i:=59) (v:=.string T) (by simp)))) (by simp) hSw ?_;intro a ha;refine line_still hb15R 13 13 [] 61 (.bool true) [(5,.pointer (some ⟨g2,0,none⟩))] rfl (by decide) (by decide) (by decide) ha (fun o ho hg=>y_of (wanted_none hg) (fun wx hS=>e_pick ho (ha.ev (i:=55) (v:=.bool true) (by simp)) (ha.ev (i:=60) (v:=.bool true) (by simp)) rfl)) (by simp) hSw ?_;intro a ha;refine line_still hb15R 14 14 [] 62 (.bool true) [(5,.pointer (some ⟨g2,0,none⟩))] rfl (by decide) (by decide) (by decide) ha (fun o ho hg=>y_of (wanted_none hg) (fun wx hS=>e_move (.inl ho) (ha.ev (i:=61) (v:=.bool true) (by simp)))) (by simp) hSw ?_;intro a ha;refine line_still hb15R 15 15 [] 63 (.pointer (some ⟨g2,0,none⟩)) [(62,.bool true),(5,.pointer (some ⟨g2,0,none⟩))] rfl (by decide) (by decide) (by decide) ha (fun o ho hg=>y_of (hb15R.wanted hg rfl ha (d:=62) (by simp)) (fun wx hS=>e_fieldD ho (ha.ev (i:=5) (v:=.pointer (some ⟨g2,0,none⟩)) (by simp)))) (by simp) hSw ?_;intro a ha;refine line_still hb15R 16 16 [] 64 (.int .i64 (kd:Int)) [(62,.bool true),(5,.pointer (some ⟨g2,0,none⟩))] rfl (by decide) (by decide) (by decide) ha (fun o ho hg=>y_of (hb15R.wanted hg rfl ha (d:=62) (by simp)) (fun wx hS=>e_cellI15 ho (ha.ev (i:=63) (v:=.pointer (some ⟨g2,0,none⟩)) (by simp)) ((cell_of_row _ g2 0 _ _ _ hS.1).trans HC0.out))) (by simp) hSw ?_;intro a ha;refine line_still hb15R 17 17 [] 65 (.bool true) [(62,.bool true),(5,.pointer (some ⟨g2,0,none⟩))] rfl (by decide) (by decide) (by decide) ha (fun o ho hg=>y_of (hb15R.wanted hg rfl ha (d:=62) (by simp)) (fun wx hS=>e_geI15 HGK.out ho (ha.ev (i:=64) (v:=.int .i64 (kd:Int)) (by simp)) rfl)) (by simp) hSw ?_;intro a ha;refine line_still hb15R 18 18 [] 66 (.bool true) [(5,.pointer (some ⟨g2,0,none⟩))] rfl (by decide) (by decide) (by decide) ha (fun o ho hg=>y_of (wanted_none hg) (fun wx hS=>e_pick ho (ha.ev (i:=62) (v:=.bool true) (by simp)) (ha.ev (i:=65) (v:=.bool true) (by simp)) rfl)) (by simp) hSw ?_;intro a ha;refine line_still hb15R 19 19 [] 67 (.bool true) [(5,.pointer (some ⟨g2,0,none⟩))] rfl (by decide) (by decide) (by decide) ha (fun o ho hg=>y_of (wanted_none hg) (fun wx hS=>e_move (.inl ho) (ha.ev (i:=66) (v:=.bool true) (by simp)))) (by simp) hSw ?_;intro a ha;refine line_still hb15R 20 20 [] 68 (.pointer (some ⟨g2,0,none⟩)) [(67,.bool true)] rfl (by decide) (by decide) (by decide) ha (fun o ho hg=>y_of (hb15R.wanted hg rfl ha (d:=67) (by simp)) (fun wx hS=>e_fieldD ho (ha.ev (i:=5) (v:=.pointer (some ⟨g2,0,none⟩)) (by simp)))) (by simp) hSw ?_;intro a ha;refine line_still hb15R 21 21 [] 69 (.int .i64 (kd:Int)) [(67,.bool true)] rfl (by decide) (by decide) (by decide) ha (fun o ho hg=>y_of (hb15R.wanted hg rfl ha (d:=67) (by simp)) (fun wx hS=>e_cellI15 ho (ha.ev (i:=68) (v:=.pointer (some ⟨g2,0,none⟩)) (by simp)) ((cell_of_row _ g2 0 _ _ _ hS.1).trans HC0.out))) (by simp) hSw ?_;intro a ha;refine line_still hb15R 22 22 [] 70 (.bool true) [(67,.bool true)] rfl (by decide) (by decide) (by decide) ha (fun o ho hg=>y_of (hb15R.wanted hg rfl ha (d:=67) (by simp)) (fun wx hS=>e_leI15 HLK.out ho (ha.ev (i:=69) (v:=.int .i64 (kd:Int)) (by simp)) rfl)) (by simp) hSw ?_;intro a ha;refine line_still hb15R 23 23 [] 71 (.bool true) [] rfl (by decide) (by decide) (by decide) ha (fun o ho hg=>y_of (wanted_none hg) (fun wx hS=>e_pick ho (ha.ev (i:=67) (v:=.bool true) (by simp)) (ha.ev (i:=70) (v:=.bool true) (by simp)) rfl)) (by simp) hSw ?_;intro a ha;refine line_still hb15R 24 24 [] 72 (.bool true) [] rfl (by decide) (by decide) (by decide) ha (fun o ho hg=>y_of (wanted_none hg) (fun wx hS=>e_move (.inl ho) (ha.ev (i:=71) (v:=.bool true) (by simp)))) (by simp) hSw ?_;intro a ha;refine line_call hb15R 25 25 [] 73 (args:=#[]) [(72,.bool true)] rfl (by decide) (by decide) (by decide) ha (fun o ho hg=>⟨(hb15R.wanted hg rfl ha (d:=72) (by simp)),e_call13 (by kernel_rfl) ho rfl (by simp)⟩) (by simp) ?_;refine(AW _ (OK.out E.out.bel)).mono ?_;rintro e y4 ⟨rfl,hb⟩;replace E:=Jh (E.out.step hb);clear hb;have hSw:Two15 g2 g3 X X2 _:=⟨E.out.blk (g2,X,45) (by simp),E.out.blk (g3,X2,45) (by simp)⟩;refine⟨_,rfl,hSw,?_⟩;intro a ha;refine line_still hb15R 26 26 [] 74 (.bool true) [] rfl (by decide) (by decide) (by decide) ha (fun o ho hg=>y_of (wanted_none hg) (fun wx hS=>e_pick ho (ha.ev (i:=72) (v:=.bool true) (by simp)) (ha.ev (i:=73) (v:=.bool true) (by simp)) rfl)) (by simp) hSw ?_;intro a ha;refine line_still hb15R 27 27 [] 2 (.bool true) [] rfl (by decide) (by decide) (by decide) ha (fun o ho hg=>y_of (wanted_none hg) (fun wx hS=>e_move (.inr ho) (ha.ev (i:=74) (v:=.bool true) (by simp)))) (by simp) hSw ?_;intro a ha;refine line_end hb15R rfl ?_;simp only[Exit.then]
 refine hK _ _ ?_;go_wp2;exact bodyPost_ret (v:=.bool true) (by have:=ha.2.2 (2,.bool true) (by simp);simp[results,Tryz.results3,go_sem,Array.getD_eq_getD_getElem?,this]) ha.2.1 ⟨rfl,E.out.bel⟩
theorem back15_law(RH':READH)(TX:TEXTH)(SM:SAMEH)(AW:AWK15){w:World}{s:ByteArray}(hok:Ok15 w):Calls Tryz.prog 3 #[.string s] w (Ret9 w (.bool true)):=by
 rcases Nat.lt_or_ge 300 s.size with hs|hs
 ·exact back15_long AW hok hs
 cases hts:WD D12 N12 0 (bs9 s) with
 | inl q=>
  have hw:wdsOf (bs9 s)=[]:=by unfold wdsOf;rw[hts]
  obtain⟨⟨o,p,e⟩,hr⟩:∃x,resH (hd [])=x:=⟨_,rfl⟩;obtain⟨he,rfl⟩:=hd_nil hr;exact back15_fault RH' SM AW hok hs (by rw[hw];exact Nat.zero_le _) (by rw[hw];exact Nat.zero_le _) (p:=p) (e:=e) (by rw[hw];exact hr) he
 | inr ts=>
  have hw:wdsOf (bs9 s)=ts:=by unfold wdsOf;rw[hts]
  obtain⟨-,hS0,hn0⟩:=line_few hs hts;cases hh:hd ((tks 1 ts).map tok) with
  | inl q=>
   obtain⟨e,p⟩:=q;exact back15_fault RH' SM AW hok hs (by rw[hw];omega) (by rw[hw];exact hS0) (p:=p) (e:=e) (by rw[hw,hh];rfl) (hd_bad hh)
  | inr q=>
   obtain⟨dd,p⟩:=q;exact back15_good RH' TX SM AW hok hs hts hh
end Go.Proofs.YthpmaoimceojgaaGreatDoor.Num
