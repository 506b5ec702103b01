/- Lemmas of the proof: BodE, HeaO. -/
import Derived.Test.YtpbbolgnnegmlaaGreatDoorAll41
import Derived.Test.YtpbbolgnnegmlaaGreatDoorAll43
import Derived.Test.YtpbbolgnnegmlaaGreatDoorAll36
import Derived.Test.YtpbbolgnnegmlaaGreatDoorAll40
set_option linter.unusedVariables false
set_option linter.unusedSimpArgs false
set_option maxRecDepth 100000
set_option maxHeartbeats 32000000
open Go.Lib renaming hid→Jh
namespace Go.Proofs.YtpbbolgnnegmlaaGreatDoor.Num
open Go.RowKit
theorem words16{w:World}{s:ByteArray}(hok:Ok12 w)(hs:s.size≤6000):Calls Tryz.prog 11 #[.string s] w (RetL w (wdsOf (bs9 s))):=by
 have HW:=Jh (lexwords_is okw12 dayok12 (fun _ h hs=>lexunquote_is h hs _) o08 o07 o11 1 s hs w hok);clear hok;unfold wdsOf;cases h:WD D12 N12 0 (bs9 s) with
 | inl p=>
  obtain⟨c0,x0⟩:=p;rw[h] at HW;go_enter Tryz.func11,Tryz.ntmps11;go_wp2_with fail;refine HW.out.mono ?_;rintro e v ⟨rfl,hb⟩;have E:=Jh hb;clear hb;go_wp2_with fail;go_ret;exact⟨_,_,_,rfl,rdK_nil _ _,E.out.alloc E.out.size _⟩
 | inr ts=>
  rw[h] at HW;go_enter Tryz.func11,Tryz.ntmps11;go_wp2_with fail;refine HW.out.mono ?_;rintro e v ⟨⟨A,c,rfl,hr⟩,hb⟩;have R1:=Jh hr;have E:=Jh hb;clear hr hb;go_wp2_with fail;go_ret;have hb2:=(Below.refl v.heap.size v).alloc (Nat.le_refl _) (.cells #[.int .i64 0,.int .i64 0,.int .i64 0] 28);exact⟨_,_,_,rfl,rdK_of (R1.out.on hb2),E.out.alloc E.out.size _⟩
theorem lexw16{w:World}{s:ByteArray}(hok:Ok12 w)(hs:s.size≤6000):Calls Tryz.prog 5 #[.agg #[.int .i64 1,.string s]] w (fun en w'=>∃(A:Option Addr) (n c:Nat) (f0:Int) (k:Nat) (f2:Int),en=.returned (.tuple #[.slice A n c,.agg #[.int .i64 f0,.int .i64 f2,.int .i64 (k:Int)]])∧RdK w' w'.heap.size A n c (tks 1 (wdsOf (bs9 s)))∧Below w.heap.size w w'∧(∀ts,WD D12 N12 0 (bs9 s)=.inr ts→k=0)):=by
 have HW:=Jh (lexwords_is okw12 dayok12 (fun _ h hs=>lexunquote_is h hs _) o08 o07 o11 1 s hs w hok);clear hok;unfold wdsOf;cases h:WD D12 N12 0 (bs9 s) with
 | inl p=>
  obtain⟨c0,x0⟩:=p;rw[h] at HW;refine HW.out.mono ?_;rintro e v ⟨rfl,hb⟩;exact⟨_,_,_,_,x0,_,rfl,rdK_nil _ _,hb,fun ts h=>by cases h⟩
 | inr ts=>
  rw[h] at HW;refine HW.out.mono ?_;rintro e v ⟨⟨A,c,rfl,hr⟩,hb⟩;exact⟨_,_,_,_,0,_,rfl,rdK_of hr,hb,fun _ _=>rfl⟩
theorem of16(RO:READO){w:World}{s:ByteArray}{us:List Wd}{o:Option Po}{p e:Nat}(hok:Ok12 w)(hs:s.size≤6000)(hw:wdsOf (bs9 s)=us)(hn:us.length≤400)(hS:Wgh.ws ((tks 1 us).map tok) ((tks 1 us).map tok).length≤4010)(h:resPo (pst ((tks 1 us).map tok))=(o,p,e)) :
  Calls Tryz.prog 7 #[.string s] w (fun en w'=>∃m:PM,en=.returned (.tuple #[.agg (cO (fpOf o) m),.int .i64 (e:Int)])∧MP w' (fpOf o) m∧Below w.heap.size w w'):=by
 have WD1:Hid (∀{W:World},Ok12 W→Calls Tryz.prog 11 #[.string s] W (RetL W us)):=fun hok=>by have q:=words16 hok hs;rw[hw] at q;exact q
 have OK:Hid (∀{W:World},Below w.heap.size w W→Ok12 W):=fun hb=>okw12 hok hb
 have H:=Jh h;have HS:=Jh hS;have HN:=Jh hn;have E:=Jh (S16.start w);clear h hw hok hS hs hn;obtain⟨Z,hZ⟩:∃Z:Array Value,#[.string ⟨#[]⟩,.string ⟨#[]⟩,.bool false,.bool false,.slice none 0 0,.int .i64 0,.string ⟨#[]⟩,.bool false,.bool false,.bool false,.bool false,.slice none 0 0,.int .i64 0,.string ⟨#[]⟩,.int .i64 0,.int .i64 0,.int .i64 0,.string ⟨#[]⟩,.bool false,.bool false,.bool false,.bool false,.slice none 0 0,.int .i64 0,.string ⟨#[]⟩,.slice none 0 0,.int .i64 0,.int .i64 0]=Z:=⟨_,rfl⟩;have HRZ:Hid (Row28 Z):=by rw[← hZ];exact row28_cO FP.zero PM.zero
 have HZ:=Jh hZ;clear hZ;go_enter Tryz.func7,Tryz.ntmps7;go_wp2_with fail;replace E:=Jh (E.out.lay #[.string ⟨#[]⟩,.string ⟨#[]⟩,.bool false,.bool false,.slice none 0 0,.int .i64 0,.string ⟨#[]⟩,.bool false,.bool false,.bool false,.bool false,.slice none 0 0,.int .i64 0,.string ⟨#[]⟩,.int .i64 0,.int .i64 0,.int .i64 0,.string ⟨#[]⟩,.bool false,.bool false,.bool false,.bool false,.slice none 0 0,.int .i64 0,.string ⟨#[]⟩,.slice none 0 0,.int .i64 0,.int .i64 0] 47 (g:=w.heap.size) rfl);generalize hW:World.alloc w _=W1 at ⊢;have hW2:w.alloc (.cells #[.string ⟨#[]⟩,.string ⟨#[]⟩,.bool false,.bool false,.slice none 0 0,.int .i64 0,.string ⟨#[]⟩,.bool false,.bool false,.bool false,.bool false,.slice none 0 0,.int .i64 0,.string ⟨#[]⟩,.int .i64 0,.int .i64 0,.int .i64 0,.string ⟨#[]⟩,.bool false,.bool false,.bool false,.bool false,.slice none 0 0,.int .i64 0,.string ⟨#[]⟩,.slice none 0 0,.int .i64 0,.int .i64 0] 47)=W1:=hW;rw[hW2,HZ.out] at E;clear hW hW2;refine(WD1.out (OK.out E.out.bel)).mono ?_;rintro e1 w2 ⟨A,n,c,rfl,hr,hb⟩;replace E:=Jh (E.out.step hb);clear hb;have RK:=Jh hr;clear hr;go_wp2_with fail;have hnl:n=us.length:=by have:=RK.out.len;unfold tks at this;rw[List.length_map] at this;exact this
 refine(RO (G:=Wgh.Grt _) RK.out (Nat.le_refl _) (by have:=HN.out;omega) (siz_weight HS.out) (OK.out E.out.bel) H.out).mono ?_;rintro e1 w3 ⟨m,rfl,hm,hb⟩;replace E:=Jh (E.out.push hb hm);clear hb hm hnl;obtain⟨X,hX⟩:∃X,cO (fpOf o) m=X:=⟨_,rfl⟩;have HR:Hid (Row28 X):=by rw[← hX];exact row28_cO _ _
 have hXs:=HR.out.size;have hst:=st_new28 HR.out;have HX:=Jh hX;rw[hX];clear hX;go_upto_region 2 with fail
 clear hst;replace E:=Jh (E.out.lay X 47 (g:=w3.heap.size) rfl);generalize hV:World.alloc w3 _=V at E ⊢;clear hV;generalize w3.heap.size=g4 at E ⊢;have B4:=E.out.blk (g4,X,47) (by simp);have B0:=E.out.blk (w.heap.size,Z,47) (by simp);dsimp only at B4 B0
 have hst:=st_row28 HR.out HRZ.out.size B0;have HB4:=Jh B4;have HB0:=Jh B0;clear B4 B0;refine wp_region_lit ?_;refine wpList_load_row rfl 47 (.tmp 4) rfl g4 rfl 47 X (0,0) _ HB4.out Tryz.underlying47 rfl (by rw[post_size,hXs]) ?_;go_wp2_with fail;have HMD:=(S16.got E (f:=fpOf o) (m:=m) (by simp)).row16 (cs:=X) HB0.out HRZ.out.cl;have HBL:=below_setRow E.out.bel (Nat.le_refl _) X;have hrow:=setRow_heap V w.heap.size _ X _ _ HB0.out;exact bodyPost_ret (v:=.tuple #[.agg X,.int .i64 (e:Int)]) (results_cell_tmp Tryz.results7 _ _ _ 47 X (0,0) _ _ rfl rfl hrow Tryz.underlying47 rfl (by rw[post_size,hXs])) rfl ⟨m,by rw[HX.out],HMD,HBL⟩
structure Row27 (X:Array Value):Prop where
 size:X.size=27
 one:X.all (·.oneCell')=true
 cl:Cl X
theorem wp_build{P:Program}{o:Oper}{a:Act}{w:World}{K:Act→World→Prop}{Q:Exit→Act→World→Prop}(t:TypeId)(parts:Array (Nat×Operand))(ho:o.op=.build t parts)(vs:Array (Nat×Value))(hp:(parts.map fun(i,x)=>(i,a.eval x))=vs)(v:Value)(hrun:(Instr.build t vs).run P w=.ok v w)(h:K (a.put o.dst v) w):o.wp P a w K Q:=by
 unfold Oper.wp execOp;simp only[ho,hp,Sem.run_bind,Sem.run_pure,Result.andThen_ok,hrun]
 exact h
theorem wpList_build{P:Program}{ops:Array Oper}{rest:List Oper}{o:Oper}{a:Act}{w:World}{Q:Exit→Act→World→Prop}(hgd:o.guard=none)(t:TypeId)(parts:Array (Nat×Operand))(ho:o.op=.build t parts)(vs:Array (Nat×Value))(hp:(parts.map fun(i,x)=>(i,a.eval x))=vs)(v:Value)(hrun:(Instr.build t vs).run P w=.ok v w)(h:wpList P ops Q rest (a.put o.dst v) w):wpList P ops Q (o::rest) a w:=
 wpList_plain hgd fun _ hK=>wp_build t parts ho vs hp v hrun (hK _ _ h)
end Go.Proofs.YtpbbolgnnegmlaaGreatDoor.Num
