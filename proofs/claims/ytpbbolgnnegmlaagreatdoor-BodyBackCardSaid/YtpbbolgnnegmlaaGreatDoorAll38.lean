/- Lemmas of the proof: DatL, DatT, DatU. -/
import Derived.Test.YtpbbolgnnegmlaaGreatDoorAll20
import Derived.Test.YtpbbolgnnegmlaaGreatDoorAll35
set_option linter.unusedVariables false
set_option linter.unusedSimpArgs false
set_option maxRecDepth 100000
set_option maxHeartbeats 32000000
namespace Go.Proofs.YtpbbolgnnegmlaaGreatDoor.Dat
open Go.RowKit
theorem isd8_dg(k:Nat)(h:k<10):isd8 (dg8 k)=true∧(dg8 k).toNat-48=k:=by
 have:k=0∨k=1∨k=2∨k=3∨k=4∨k=5∨k=6∨k=7∨k=8∨k=9:=by omega
 rcases this with rfl|rfl|rfl|rfl|rfl|rfl|rfl|rfl|rfl|rfl<;>decide
theorem nm8_two{n:Nat}(h:n<100):nm8 (two8 n)=n:=by
 have a:=isd8_dg (n/10%10) (by omega);have b:=isd8_dg (n%10) (by omega);unfold nm8 two8;rw[if_pos (by simp[a.1,b.1])];unfold nmv8;simp only[List.foldl_cons,List.foldl_nil,a.2,b.2]
 omega
theorem nm8_four{n:Nat}(h:n<10000):nm8 (four8 n)=n:=by
 have a:=isd8_dg (n/1000%10) (by omega);have b:=isd8_dg (n/100%10) (by omega);have c:=isd8_dg (n/10%10) (by omega);have d:=isd8_dg (n%10) (by omega);unfold nm8 four8;rw[if_pos (by simp[a.1,b.1,c.1,d.1])];unfold nmv8;simp only[List.foldl_cons,List.foldl_nil,a.2,b.2,c.2,d.2]
 omega
theorem txt8_size(y m d:Nat):(txt8 y m d).size=10:=rfl
theorem told8{y m d:Nat}(hy:y<10000)(hm:m<100)(hd:d<100):frm8 (txt8 y m d)=true∧prY (txt8 y m d)=y∧prM (txt8 y m d)=m∧prD (txt8 y m d)=d:=by
 refine⟨?_,?_,?_,?_⟩
 ·rw[frm8_iff (txt8_size y m d)]
  exact⟨rfl,.inl rfl⟩
 ·exact(show prY (txt8 y m d)=nm8 (four8 y) by rfl).trans (nm8_four hy)
 ·exact(show prM (txt8 y m d)=nm8 (two8 m) by rfl).trans (nm8_two hm)
 ·exact(show prD (txt8 y m d)=nm8 (two8 d) by rfl).trans (nm8_two hd)
theorem told_day{y m d:Int}(h:ok8 y m d=true):(text8 y m d).size=10∧frm8 (text8 y m d)=true∧prY (text8 y m d)=y∧prM (text8 y m d)=m∧prD (text8 y m d)=d:=by
 obtain⟨h1,h2,h3,h4,h5,h6⟩:=ok8_iff.1 h;have hl:=len8_bd y m;rw[text8_ok h];obtain⟨g1,g2,g3,g4⟩:=told8 (y:=y.toNat) (m:=m.toNat) (d:=d.toNat) (by omega) (by omega) (by omega);exact⟨txt8_size _ _ _,g1,by rw[g2];omega,by rw[g3];omega,by rw[g4];omega⟩
end Go.Proofs.YtpbbolgnnegmlaaGreatDoor.Dat
