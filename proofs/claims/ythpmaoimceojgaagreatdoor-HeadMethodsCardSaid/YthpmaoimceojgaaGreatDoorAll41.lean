/- Lemmas of the proof: HeaE, HeaF, HeaG. -/
import Derived.Test.YthpmaoimceojgaaGreatDoorAll39
import Derived.Test.YthpmaoimceojgaaGreatDoorAll34
import Derived.Deep.WholeRow
set_option linter.unusedVariables false
set_option linter.unusedSimpArgs false
set_option maxRecDepth 100000
set_option maxHeartbeats 32000000
open Go.Lib renaming hid→Jh
namespace Go.Proofs.YthpmaoimceojgaaGreatDoor.Num
open Go.RowKit
theorem dir_size:(Tryz.prog.info? 45).map (·.size)=some 27:=by kernel_rfl
theorem cD_one(f:FD)(m:DM):(cD f m).all (·.oneCell')=true:=by simp[cD,Value.oneCell']
theorem st_new{w:World}{f:FD}{m:DM}{X Z:Array Value}(hX:cD f m=X)(hZ:cD FD.zero DM.zero=Z):(storeCells ⟨w.heap.size,0,none⟩ X.toList 0).run Tryz.prog (w.alloc (.cells Z 45))=.ok () (w.alloc (.cells X 45)):=by
 subst hX;subst hZ;exact run_storeCells_new (P:=Tryz.prog) w 45 _ _ (by rw[dir_size];rfl) rfl (cD_one f m)
theorem st_row{w:World}{g:Nat}{f:FD}{m:DM}{X Z:Array Value}{t:TypeId}(hX:cD f m=X)(hz:Z.size=27)(hb:w.heap[g]?=some (.cells Z t (0,0))):(storeCells ⟨g,0,none⟩ X.toList 0).run Tryz.prog w=.ok () (w.setRow g X):=by
 subst hX;have q:=run_storeCells_from (P:=Tryz.prog) g t (cD f m).toList 0 Z w hb (by rw[hz];rfl) (fun v hv=>(Array.all_eq_true_iff_forall_mem.1 (cD_one f m)) v (by simpa using hv));rw[List.take_zero,List.nil_append] at q;exact q
theorem results_cell_tmp{P:Program}{fn:Func}{p q:Tmp}{ty:TypeId}(h:fn.results=#[.cell p ty,.tmp q])(tmps:Array Value)(w:World)(g:Nat)(t:TypeId)(cs:Array Value)(fr:Nat×Nat)(d:TypeDesc)(v:Value)
  (hp:tmps.getD p undef=.pointer (some ⟨g,0,none⟩)) (hv:tmps.getD q undef=v) (hg:w.heap[g]?=some (.cells cs t fr))
  (hu:P.underlying ty=some d) (hd:(match d with | .struct _ | .array _ _=>true|_=>false)=true) (hi:(P.info? ty).map (·.size)=some cs.size) :
  (results fn tmps).run P w=.ok (.tuple #[.agg cs,v]) w:=by
 have hp':tmps[p]?.getD undef=.pointer (some ⟨g,0,none⟩):=by simpa using hp
 have hv':tmps[q]?.getD undef=v:=by simpa using hv
 simp[results,h,hp',hv',asAddr,run_loadVar_row w g t ty cs fr d hg hu hd hi]
theorem of15(RH':READH){w:World}{s:ByteArray}{us:List Wd}{o:Option Dr}{p e:Nat}(hok:Ok15 w)(hs:s.size≤6000)(hw:wdsOf (bs9 s)=us)(hn:us.length≤400)(hS:Wgh.ws ((tks 1 us).map tok) ((tks 1 us).map tok).length≤4010)(h:resH (hd ((tks 1 us).map tok))=(o,p,e)) :
  Calls Tryz.prog 9 #[.string s] w (fun en w'=>∃m:DM,en=.returned (.tuple #[.agg (cD (fdOf o) m),.int .i64 (e:Int)])∧MD w' (fdOf o) m∧Below w.heap.size w w'):=by
 have WD1:Hid (∀{W:World},Ok15 W→Calls Tryz.prog 13 #[.string s] W (RetL W us)):=fun hok=>by have q:=words15 hok hs;rw[hw] at q;exact q
 have OK:Hid (∀{W:World},Below w.heap.size w W→Ok15 W):=fun hb=>okw15 hok hb
 have H:=Jh h;have HS:=Jh hS;have HN:=Jh hn;have E:=Jh (S15.start w);clear h hw hok hS hs hn;obtain⟨Z,hZ⟩:∃Z,cD FD.zero DM.zero=Z:=⟨_,rfl⟩;have HZ:=Jh hZ;clear hZ;go_enter Tryz.func9,Tryz.ntmps9;go_wp2_with fail;replace E:=Jh (E.out.lay (cD FD.zero DM.zero) 45 (g:=w.heap.size) rfl);generalize hW:World.alloc w _=W1 at ⊢;have hW2:w.alloc (.cells (cD FD.zero DM.zero) 45)=W1:=hW;rw[hW2,HZ.out] at E;clear hW hW2;refine(WD1.out (OK.out E.out.bel)).mono ?_;rintro e1 w2 ⟨A,n,c,rfl,hr,hb⟩;have HG0:Hid (w.heap.size<w2.heap.size):=by have h1:=blk_lt (E.out.blk _ List.mem_cons_self);dsimp only at h1;exact Nat.lt_of_lt_of_le h1 hb.size
 replace E:=Jh (E.out.step hb);clear hb;have RK:=Jh hr;clear hr;go_wp2_with fail;have hnl:n=us.length:=by have:=RK.out.len;unfold tks at this;rw[List.length_map] at this;exact this
 refine(RH' (G:=Wgh.Grt _) RK.out (Nat.le_refl _) (by have:=HN.out;omega) (siz_weight HS.out) (OK.out E.out.bel) H.out).mono ?_;rintro e1 w3 ⟨m,rfl,hm,hfar,hb⟩;replace E:=Jh (E.out.push hb hm);have FAR:=Jh hfar;clear hb hm hnl hfar;obtain⟨X,hX⟩:∃X,cD (fdOf o) m=X:=⟨_,rfl⟩;have hXs:X.size=27:=by rw[← hX];rfl
 have hst:∀w:World,(storeCells ⟨w.heap.size,0,none⟩ X.toList 0).run Tryz.prog (w.alloc (.cells #[.int .i64 0,.int .i64 0,.int .i64 0,.int .i64 0,.string ⟨#[]⟩,.string ⟨#[]⟩,.slice none 0 0,.int .i64 0,.bool false,.slice none 0 0,.int .i64 0,.string ⟨#[]⟩,.bool false,.bool false,.slice none 0 0,.int .i64 0,.string ⟨#[]⟩,.string ⟨#[]⟩,.string ⟨#[]⟩,.slice none 0 0,.slice none 0 0,.slice none 0 0,.slice none 0 0,.string ⟨#[]⟩,.string ⟨#[]⟩,.int .i64 0,.int .i64 0] 45))=.ok () (w.alloc (.cells X 45)):=fun w=>st_new hX rfl
 have HX:=Jh hX;rw[hX];clear hX;go_upto_region 2 with fail
 have hV2:w3.alloc (.cells X 45)=w3.alloc (.cells X 45):=rfl;clear hst hV2;replace E:=Jh (E.out.lay X 45 (g:=w3.heap.size) rfl);generalize hV:World.alloc w3 _=V at E ⊢;clear hV;generalize w3.heap.size=g4 at E ⊢;have B4:=E.out.blk (g4,X,45) (by simp);have B0:=E.out.blk (w.heap.size,Z,45) (by simp);dsimp only at B4 B0
 have hst:=st_row HX.out (by rw[← HZ.out];rfl) (E.out.blk (w.heap.size,Z,45) (by simp));have HB4:=Jh B4;have HB0:=Jh B0;clear B4 B0;refine wp_region_lit ?_;refine wpList_load_row rfl 45 (.tmp 4) rfl g4 rfl 45 X (0,0) _ HB4.out Tryz.underlying45 rfl (by rw[dir_size,hXs]) ?_;go_wp2_with fail;have HMD:=(S15.got E (f:=fdOf o) (m:=m) (by simp)).row15 (cs:=X) FAR.out HG0.out HB0.out (by rw[← HZ.out];exact cD_zero_limb);have HBL:=below_setRow E.out.bel (Nat.le_refl _) X;have hrow:=setRow_heap V w.heap.size _ X _ _ HB0.out;exact bodyPost_ret (v:=.tuple #[.agg X,.int .i64 (e:Int)]) (results_cell_tmp Tryz.results9 _ _ _ 45 X (0,0) _ _ rfl rfl hrow Tryz.underlying45 rfl (by rw[dir_size,hXs])) rfl ⟨m,by rw[HX.out],HMD,HBL⟩
def Pc.lt(p:Pc):Prop:=∀c∈p.t,c<256
theorem pW_lt(k:Nat){y:List Nat}(h:∀c∈y,c<256):(pW k y).lt:=nxt_txt_lt k h
end Go.Proofs.YthpmaoimceojgaaGreatDoor.Num
