/- BodyBack answers true for every input: of any text (of at most 300 bytes) the posting that it is, or what it says of one, read again from its own text, is the same. No condition. -/
import Derived.Test.YtpbbolgnnegmlaaGreatDoorAll42
import Derived.Test.YtpbbolgnnegmlaaGreatDoorCards
import Derived.Test.YtpbbolgnnegmlaaGreatDoorTie
import Derived.Test.YtpbbolgnnegmlaaGreatDoorAll46
import Derived.Test.YtpbbolgnnegmlaaGreatDoorAll49
set_option linter.unusedVariables false
set_option linter.unusedSimpArgs false
set_option maxRecDepth 100000
set_option maxHeartbeats 32000000
namespace Go.Proofs.YtpbbolgnnegmlaaGreatDoor.Num.BodBackLaw
open Go.ChangeShapes Go.WideShapes Go.ChangeAt Go.RowKit
open Go.ChangeMaps (open_string shut_string)
theorem lifted(os:Os)(started:os.Started)(H:Type)(enc:TypeId×Value→H) :
  ReturnsInHanded {} Tryz.checked os 3 .any (fun w args=>(Rows.bodyBackSpec.pre enc Tryz.prog Tryz.f3 Rows.bodyBackRow.domain false w args∧laidMetH Tryz.prog Rows.bodyBackRow.laid w)∧sizedMet enc Tryz.prog Tryz.f3 (OpenSpec.ofChange Rows.bodyBackSpec) false w args)
   (Rows.bodyBackSpec.post enc Tryz.prog Tryz.f3 false true false false):=by
 refine wrap_shaped (C:=Tryz.checked) (X:=fun w _=>laidMetH Tryz.prog Rows.bodyBackRow.laid w) (fun _ _ _ hh h=>h.of_heap hh) knob12 started (by kernel_rfl) Tryz.func3
  (ChangeSpec.witness_shaped (enc:=enc) (C:=Tryz.checked) (os:=os) (X:=fun w _=>laidMetH Tryz.prog Rows.bodyBackRow.laid w) false (World.laidAll Tryz.prog os Rows.bodyBackRow.laid) #[.string ⟨#[]⟩] 8 (World.laidAll_os _ _ _)
   (World.shaped_of_ZipB (by kernel_rfl) (by kernel_rfl)) (by kernel_rfl) (by kernel_rfl) (by kernel_rfl)
   (by rw[MakeChecks.laidMetH_plain _ _ _ (by kernel_rfl)];exact laidMet_laidAll _ (by kernel_rfl) (by kernel_rfl))) ?_
 intro W base args ds gs before hval0 hW hcnd hL hsh _;rw[MakeChecks.laidMetH_plain _ _ _ (by kernel_rfl)] at hL;have hok:Ok12 W:=⟨(laid_came16 hL).1,max_came hsh,(laid_came16 hL).2⟩;clear hL;have hval:∀(j:Nat) t v,Tryz.f3.params[j]?=some t→args[j]?=some v→Value.okWide Tryz.prog W .any base t v:=hval0;have hW':=hW;obtain⟨p,q,hA0,hV,rfl,hfz,hnd⟩:=hW;have hA:DataW.TrodAll enc Tryz.prog W 0 (fun _=>true) true Tryz.f3.params.toList args.toList ds p:=hA0;rw[Tryz.params3] at hA hval;obtain⟨v0,d0,rfl,rfl,h0⟩:=trodAll_one hA;obtain⟨rfl,rfl⟩:=trodVars_none hV;obtain⟨s0,rfl,rfl,rfl,w0⟩:=open_string Tryz.underlying9 (hval 0 9 v0 rfl rfl) h0;clear hA0 hval0 hsh;refine((fun s=>back16_law posts16 textp16 sames16 metas16 textm16 (awake16 posts16 textp16 sames16 metas16 textm16) (s:=s) hok) s0 ).mono fun e W' ⟨he,bel⟩=>?_
 subst he;exact⟨_,rfl,_,_,_,[],_,[],hW',trodAll_mk1 (shut_bool Tryz.underlying4 _),trodAll_mk1 (shut_string Tryz.underlying9 w0),rfl,bel.frame _,fun h=>by cases h⟩
theorem back_row:Rows.BodyBackSaid:=
 OpenClaim.holds_of_wide 3 Tryz.f3 rfl rfl rfl rfl rfl rfl rfl ⟨rfl,rfl,rfl,rfl,rfl⟩ rfl rfl rfl rfl rfl (by kernel_rfl) Tryz.func3 (by kernel_rfl)
  (of_decide_eq_true (by kernel_rfl)) (by unfold Func.isWrapper;first|(rw[if_pos (by decide +kernel)];kernel_rfl)|(rw[if_neg (by decide +kernel)];exact⟨rfl,rfl⟩))
  (fun os started H enc _=>lifted os started H enc)
theorem back_holds:Rows.BodyBackCardSaid:=
 Claim7.holds_tied_plain_at .later [] Rows.bodyBackCard.laidKinds true Rows.bodyBackCard.stood.harness false back_row (fun _ h=>by cases h) (by kernel_rfl) (fun _ h=>by cases h) bodyBack_row_tie rfl ⟨rfl,rfl⟩ (by kernel_rfl) rfl
  (fun f fn hf hfn=>by
   obtain rfl:f=3:=Option.some.inj ((show Tryz.prog.funcNamed "quittance/quittancelaw16.BodyBack" = some 3 by kernel_rfl).symm.trans hf) |>.symm
   obtain rfl:fn=Tryz.f3:=(Option.some.inj (Tryz.func3.symm.trans hfn)).symm;exact⟨by kernel_rfl,fun j t ht=>by
    rw[Tryz.params3] at ht;have hm:t∈[9]:=by simpa using Array.mem_of_getElem? ht
    have hall:([9].all fun u => !Tryz.prog.wantsStandIn u)=true:=by kernel_rfl
    exact(show Tryz.prog.wantsStandIn t=false by simpa using List.all_eq_true.1 hall t hm)⟩)
  (by kernel_rfl)
end Go.Proofs.YtpbbolgnnegmlaaGreatDoor.Num.BodBackLaw
