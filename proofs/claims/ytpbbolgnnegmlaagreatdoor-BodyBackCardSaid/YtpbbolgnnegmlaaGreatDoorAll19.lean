/- Lemmas of the proof: Comm. -/
import Derived.Test.YtpbbolgnnegmlaaGreatDoorChecked
import Derived.Conc.LoneCalls
import Derived.Conc.LoneSelectN
import Derived.Lib.Hide
set_option linter.unusedVariables false
set_option linter.unusedSimpArgs false
set_option maxRecDepth 100000
set_option maxHeartbeats 32000000
namespace Go.Proofs.YtpbbolgnnegmlaaGreatDoor
open Go.RowKit Go.Conc
def CommTo(P:Program)(o:Oper)(a:Act)(w:World)(v:Value)(w':World):Prop:=
 ∃cases blocking shape,(execOp a.eval o).run P w=.ok (.comm cases blocking shape) w∧∀fr cs es,
  stepG P true (G fr cs) w=.comm (G fr cs) cases blocking shape w es→step P (solo (G fr cs) w)=.next (solo (G (fr.finish v) cs) w')
section
variable {P:Program}{o:Oper}{a:Act}{w:World}{cases:Array CommCase}{blocking:Bool}{k c cap s r:Nat}{buf:Array Value}{closed tm:Bool}{v z:Value}
theorem comm_sel_send(h:(execOp a.eval o).run P w=.ok (.comm cases blocking .select) w)(k:Nat)(hk:cases[k]?=some (scase c v z))(ho:∀(m:Nat) (c':CommCase),m≠k→cases[m]?=some c'→NoWay w c')
  (hc:w.heap[c]?=some (.chan cap buf false s r tm)) (hroom:buf.size<cap):CommTo P o a w (commResult cases .select k undef false) (w.setChan c cap (buf.push v) false (s+1) r tm):=
 ⟨_,_,_,h,fun _ _ _ hs=>step_lone_sel_send_room hs hk ho hc hroom⟩
theorem comm_sel_recv(h:(execOp a.eval o).run P w=.ok (.comm cases blocking .select) w)(k:Nat)(hk:cases[k]?=some (rcase c z))(ho:∀(m:Nat) (c':CommCase),m≠k→cases[m]?=some c'→NoWay w c')
  (hc:w.heap[c]?=some (.chan cap buf closed s r tm)) (hsome:0<buf.size):CommTo P o a w (commResult cases .select k (buf.getD 0 undef) true) (w.setChan c cap (buf.extract 1 buf.size) closed s (r+1) tm):=
 ⟨_,_,_,h,fun _ _ _ hs=>step_lone_sel_recv_buf hs hk ho hc hsome⟩
theorem comm_sel_default(h:(execOp a.eval o).run P w=.ok (.comm cases false .select) w)(ho:∀cc∈cases,NoWay w cc):CommTo P o a w (commResult cases .select (-1) undef false) w:=
 ⟨_,_,_,h,fun _ _ _ hs=>step_lone_sel_default hs ho⟩
end
theorem wp_region_comm{P:Program}{id:Nat}{o:Oper}{post:List Oper}{Q:Exit→Act→World→Prop}{a:Act}{w:World}(v:Value)(w':World)(hw:Region.wanted o (yielded (o::post).toArray a.tmps)=true)
  (hc:CommTo P o a w v w') (h:wpList P (o::post).toArray Q post (a.put o.dst v) w'):(Code.region id (o::post).toArray false).wp P Q a w:=by
 intro b k cs;obtain⟨cases,blocking,shape,hr,hstep⟩:=hc;have e:List.range (o::post).toArray.size=0::List.range' 1 post.length:=by
  rw[List.range_eq_range',List.size_toArray,List.length_cons,List.range'_succ]
 have ho:(o::post).toArray[0]?=some o:=by simp
 have h2:=wpOps_eq_wpList (P:=P) (Q:=Q) (ops:=(o::post).toArray) post 1 (fun j=>by simp[Nat.add_comm 1 j]);rw[← h2] at h;obtain⟨x,a',w'',hq,harr⟩:=wp_ops _ _ _ h b k cs;refine⟨x,a',w'',hq,.of_steps (.one step_region) ?_⟩;rw[e];refine .of_steps (.one ?_) harr;have hes:∃es,stepG P true (G (b.at a (.inRegion (o::post).toArray (0::List.range' 1 post.length)::k)) cs) w=.comm (G (b.at a (.inRegion (o::post).toArray (0::List.range' 1 post.length)::k)) cs) cases blocking shape w es:=by
  rw[stepG_oper ho hw];simp only[stepG.apply,Sem.runT_eq,hr,G]
  exact⟨_,rfl⟩
 obtain⟨es,hs⟩:=hes;have:=hstep _ _ _ hs;rw[Frame.finish_at,ho] at this;exact this
end Go.Proofs.YtpbbolgnnegmlaaGreatDoor
