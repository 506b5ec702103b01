/- HeadMethods answers true for every input: each method's word is that method's, no others are. No condition. -/
import Derived.Test.YthpmaoimceojgaaGreatDoorAll42
import Derived.Test.YthpmaoimceojgaaGreatDoorCards
import Derived.Test.YthpmaoimceojgaaGreatDoorTie
import Derived.Test.YthpmaoimceojgaaGreatDoorAll43
import Derived.Test.YthpmaoimceojgaaGreatDoorAll46
import Derived.Test.YthpmaoimceojgaaGreatDoorAll39
set_option linter.unusedVariables false
set_option linter.unusedSimpArgs false
set_option maxRecDepth 100000
set_option maxHeartbeats 32000000
namespace Go.Proofs.YthpmaoimceojgaaGreatDoor.Num.HeaMethodsLaw
open Go.ChangeShapes Go.WideShapes Go.ChangeAt Go.RowKit
open Go.ChangeMaps (open_string shut_string)
theorem lifted(os:Os)(started:os.Started)(H:Type)(enc:TypeId×Value→H) :
  ReturnsInHanded {} Tryz.checked os 4 .any (fun w args=>(Rows.headMethodsSpec.pre enc Tryz.prog Tryz.f4 Rows.headMethodsRow.domain false w args∧laidMetH Tryz.prog Rows.headMethodsRow.laid w)∧sizedMet enc Tryz.prog Tryz.f4 (OpenSpec.ofChange Rows.headMethodsSpec) false w args)
   (Rows.headMethodsSpec.post enc Tryz.prog Tryz.f4 false true false false):=by
 refine wrap_shaped (C:=Tryz.checked) (X:=fun w _=>laidMetH Tryz.prog Rows.headMethodsRow.laid w) (fun _ _ _ hh h=>h.of_heap hh) knob12 started (by kernel_rfl) Tryz.func4
  (ChangeSpec.witness_shaped (enc:=enc) (C:=Tryz.checked) (os:=os) (X:=fun w _=>laidMetH Tryz.prog Rows.headMethodsRow.laid w) false (World.laidAll Tryz.prog os Rows.headMethodsRow.laid) #[.string ⟨#[]⟩,.int .i64 0] 8 (World.laidAll_os _ _ _)
   (World.shaped_of_ZipB (by kernel_rfl) (by kernel_rfl)) (by kernel_rfl) (by kernel_rfl) (by kernel_rfl)
   (by rw[MakeChecks.laidMetH_plain _ _ _ (by kernel_rfl)];exact laidMet_laidAll _ (by kernel_rfl) (by kernel_rfl))) ?_
 intro W base args ds gs before hval0 hW hcnd hL hsh _;rw[MakeChecks.laidMetH_plain _ _ _ (by kernel_rfl)] at hL;have hok:Ok15 W:=⟨⟨(laid_came15 hL).1.1,max_came hsh,(laid_came15 hL).1.2⟩,(laid_came15 hL).2⟩;clear hL;have hval:∀(j:Nat) t v,Tryz.f4.params[j]?=some t→args[j]?=some v→Value.okWide Tryz.prog W .any base t v:=hval0;have hW':=hW;obtain⟨p,q,hA0,hV,rfl,hfz,hnd⟩:=hW;have hA:DataW.TrodAll enc Tryz.prog W 0 (fun _=>true) true Tryz.f4.params.toList args.toList ds p:=hA0;rw[Tryz.params4] at hA hval;obtain⟨v0,v1,d0,d1,p0,p1,rfl,rfl,rfl,h0,h1⟩:=trodAll_two hA;obtain⟨rfl,rfl⟩:=trodVars_none hV;obtain⟨s0,rfl,rfl,rfl,w0⟩:=open_string Tryz.underlying9 (hval 0 9 v0 rfl rfl) h0;obtain⟨z1,rfl,rfl,rfl,w1⟩:=open_int Tryz.underlying3 (hval 1 3 v1 rfl rfl) h1;have b1:=bounds_i64 w1;clear hA0 hval0 hsh;refine((fun s n=>meth15_law headm15 headw15 (awake15 heads15 headt15 heade15 headm15 headw15) (s:=s) (n:=n) hok) s0 z1  ).mono fun e W' ⟨he,bel⟩=>?_
 subst he;exact⟨_,rfl,_,_,_,[],_,[],hW',trodAll_mk1 (shut_bool Tryz.underlying4 _),trodAll_mk2 (shut_string Tryz.underlying9 w0) (shut_int Tryz.underlying3 w1),rfl,bel.frame _,fun h=>by cases h⟩
theorem methods_row:Rows.HeadMethodsSaid:=
 OpenClaim.holds_of_wide 4 Tryz.f4 rfl rfl rfl rfl rfl rfl rfl ⟨rfl,rfl,rfl,rfl,rfl⟩ rfl rfl rfl rfl rfl (by kernel_rfl) Tryz.func4 (by kernel_rfl)
  (of_decide_eq_true (by kernel_rfl)) (by unfold Func.isWrapper;first|(rw[if_pos (by decide +kernel)];kernel_rfl)|(rw[if_neg (by decide +kernel)];exact⟨rfl,rfl⟩))
  (fun os started H enc _=>lifted os started H enc)
theorem methods_holds:Rows.HeadMethodsCardSaid:=
 Claim7.holds_tied_plain_at .later [] Rows.headMethodsCard.laidKinds true Rows.headMethodsCard.stood.harness false methods_row (fun _ h=>by cases h) (by kernel_rfl) (fun _ h=>by cases h) headMethods_row_tie rfl ⟨rfl,rfl⟩ (by kernel_rfl) rfl
  (fun f fn hf hfn=>by
   obtain rfl:f=4:=Option.some.inj ((show Tryz.prog.funcNamed "quittance/quittancelaw15.HeadMethods" = some 4 by kernel_rfl).symm.trans hf) |>.symm
   obtain rfl:fn=Tryz.f4:=(Option.some.inj (Tryz.func4.symm.trans hfn)).symm;exact⟨by kernel_rfl,fun j t ht=>by
    rw[Tryz.params4] at ht;have hm:t∈[9,3]:=by simpa using Array.mem_of_getElem? ht
    have hall:([9,3].all fun u => !Tryz.prog.wantsStandIn u)=true:=by kernel_rfl
    exact(show Tryz.prog.wantsStandIn t=false by simpa using List.all_eq_true.1 hall t hm)⟩)
  (by kernel_rfl)
end Go.Proofs.YthpmaoimceojgaaGreatDoor.Num.HeaMethodsLaw
