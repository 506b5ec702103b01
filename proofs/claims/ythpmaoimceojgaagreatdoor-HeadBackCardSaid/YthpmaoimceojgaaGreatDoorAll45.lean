/- Lemmas of the proof: HeaP, HeaQ, HeaR, HeaS, HeaT, HeaU, HeaV, HeaW, HeaX, HeaY, HeaSa. -/
import Derived.Test.YthpmaoimceojgaaGreatDoorAll44
import Derived.Maps.OwnSet
import Derived.Maps.AppendAt
import Derived.Test.YthpmaoimceojgaaGreatDoorAll39
import Derived.Laws.OwnMore
import Derived.Deep.AppendLies
set_option linter.unusedVariables false
set_option linter.unusedSimpArgs false
set_option maxRecDepth 100000
set_option maxHeartbeats 32000000
open Go.Lib renaming hid→Jh
namespace Go.Proofs.YthpmaoimceojgaaGreatDoor.Num
open Go.RowKit
theorem law15:Go.Maps.Keyed Tryz.prog 9:=Go.Maps.string_keyed Tryz.underlying9
theorem unit15(w:World):(zeroValue 167).run Tryz.prog w=.ok (.agg #[]) w:=by kernel_rfl
def SetOf15(D:DataW Unit)(l:List ByteArray):Prop:=Maps.IsMap D∧∀s:ByteArray,Maps.has D (.string s.data.toList)=l.any fun x=>decide (bs9 x=bs9 s)
theorem SetOf15.nil:SetOf15 (.map []) []:=⟨⟨_,rfl⟩,fun s=>rfl⟩
theorem SetOf15.put{D:DataW Unit}{l:List ByteArray}(h:SetOf15 D l)(s:ByteArray):SetOf15 (D.put (.string s.data.toList) (.agg [])) (l++[s]):=by
 obtain⟨⟨es,rfl⟩,h2⟩:=h;refine⟨?_,fun t=>?_⟩
 ·rw[DataW.put_eq];exact⟨_,rfl⟩
 ·rw[List.any_append,← h2 t]
  show _=(_||(decide (bs9 s=bs9 t)||false));by_cases e:bs9 s=bs9 t
  ·obtain rfl:=bs9_inj e
   rw[Maps.has_put_same ⟨_,rfl⟩ (show WideAt.IsKeyLit (.string s.data.toList) from trivial),decide_eq_true rfl];simp
  ·rw[Maps.has_put_other (fun q=>e (by
    injection q with q
    unfold bs9;rw[q])),decide_eq_false e];simp
theorem onceL_take{l:List ByteArray}{k:Nat}{s:ByteArray}(h:l[k]?=some s):onceL (l.take (k+1))=adds (onceL (l.take k)) s:=by
 rw[List.take_add_one,h];exact onceL_push _ _
theorem adds_len(l:List ByteArray)(s:ByteArray):(adds l s).length≤l.length+1:=by
 unfold adds;split
 ·omega
 ·rw[List.length_append];exact Nat.le_refl _
theorem once_len:∀(l acc:List ByteArray),(l.foldl adds acc).length≤acc.length+l.length
 | [],acc=>Nat.le_refl _
 | s::r,acc=>by
  have h1:=once_len r (adds acc s);have h2:=adds_len acc s;show(r.foldl adds (adds acc s)).length≤acc.length+(r.length+1);omega
theorem onceL_len(l:List ByteArray):(onceL l).length≤l.length:=by
 have:=once_len l [];simp only[List.length_nil,Nat.zero_add] at this
 exact this
theorem row_ne15{w:World}{base:Nat}{e:TypeId}{size:Nat}{v:Value}{n:Nat}{xs:List Value}(h:w.ownsRow base e size v n xs){b:Nat}(hb:b<base):some b≠v.ownBlock:=fun e1=>by
 have:=(World.ownsRow.lt h b e1.symm).1;omega
theorem row11_one(L:List (List Nat))(s:ByteArray):row11 (L++[bs9 s])=row11 L++[.string s]:=by rw[row11_push,st9_bs9]
def RtO(w:World)(l:List ByteArray)(en:Ending)(w':World):Prop:=∃(A':Option Addr) (n' c':Nat),en=.returned (.slice A' n' c')∧RdP w' A' n' c' (l.map bs9)∧(∀x,A'=some x→w.heap.size≤x.block)∧Below w.heap.size w w'
theorem RtO.of{w w':World}{v:Value}{l:List ByteArray}{k:Nat}(h:OwnP w' (w.heap.size+k) v (l.map bs9))(hb:Below w.heap.size w w'):RtO w l (.returned v) w':=by
 have hlt:=World.ownsRow.lt h;obtain⟨A',c',rfl,hr⟩:=h.rd;refine⟨A',_,c',rfl,hr,fun x hx=>?_,hb⟩;subst hx;have:=(hlt x.block rfl).1;omega
theorem once_is{w:World}{A:Option Addr}{n c:Nat}{l:List ByteArray}(h:RdP w A n c (l.map bs9))(hn:n≤1000)(hs:∀s∈l,s.size≤6000):Calls Tryz.prog 114 #[.slice A n c] w (RtO w (onceL l)):=by
 have hlen:n=l.length:=by rw[h.1,List.length_map]
 have hmm:=@run_makeMap Tryz.prog;rcases Nat.eq_zero_or_pos n with h0|h0
 ·subst h0
  obtain rfl:l=[]:=List.eq_nil_of_length_eq_zero hlen.symm;clear h hs hn hlen;go_enter Tryz.func114,Tryz.ntmps114;go_wp2;refine wp_loop_rounds 1 ?_;rw[rounds_succ];go_wp2;go_ret;exact⟨none,0,0,rfl,rdP_nil _,fun x hx=>(by cases hx),(Below.refl _ _).alloc (Nat.le_refl _) _⟩
 ·obtain⟨b,o,rfl,hnc,hcm,hb,-⟩:=h.at_ h0
  have HC:∀k s,l[k]?=some s→w.cell? ⟨b,o+k,none⟩=some (.string s):=fun k s hk=>by
   have hkl:=(List.getElem?_eq_some_iff.1 hk).1;obtain⟨b1,o1,e1,-,-,-,t,ht,hc⟩:=h.at_ (k:=k) (by omega);cases e1
   rw[List.getElem?_map,hk] at ht;obtain rfl:=Option.some.inj ht;rw[st9_bs9] at hc;exact hc
  obtain⟨i0,hi0,hz0,hz1,hz2⟩:=info_parts11 info_txt;have HL:=Jh hlen;clear h hlen h0;go_enter Tryz.func114,Tryz.ntmps114;go_wp2;go_loopw [3,12] (fun v i wr=>∃(k:Nat) (D:DataW Unit),k≤n∧i=.int .i64 k∧wr.ownsMap Tryz.prog 9 unitElem w.heap.size k D∧SetOf15 D (onceL (l.take k))∧OwnP wr (w.heap.size+1) v ((onceL (l.take k)).map bs9)∧Below w.heap.size w wr∧w.heap.size+1≤wr.heap.size)
   (fun _ i _=>n-(intOf i).toNat)
  case atStart=>exact⟨0,.map [],Nat.zero_le _,rfl,World.ownsMap_made _ _ _ _,SetOf15.nil,OwnP.start _ _,(Below.refl _ _).alloc (Nat.le_refl _) _,by simp⟩
  case round=>
   obtain⟨k,D,hk,rfl,hown,hset,hrow,hnx,hws⟩:=hrel;have HSET:=Jh hset;clear hset;by_cases hkn:k<n
   ·obtain⟨s,hks⟩:∃s,l[k]?=some s:=⟨_,List.getElem?_eq_getElem (by have:=HL.out;omega)⟩
    have hcx:=(hnx.cell (p:=⟨b,o+k,none⟩) hb).trans (HC k s hks);have hsz:=hs s (List.mem_of_getElem? hks);have hkey:keyOf Tryz.prog 9 (.string s)=some (.string s.data.toList):=Go.WideMaps.keyOf_string_mk Tryz.underlying9 (by unfold maxLen;omega);have hal:((onceL (l.take k)).map bs9).length≤k:=by rw[List.length_map];exact Nat.le_trans (onceL_len _) (List.length_take_le _ _)
    have hrl:=row11_flat ((onceL (l.take k)).map bs9);have HT:=Jh (onceL_take hks);have hd:=HSET.out.2 s;have d1:decide (k<n)=true:=decide_eq_true hkn;clear HC hks;cases hq:(onceL (l.take k)).any (fun x=>decide (bs9 x=bs9 s)) with
    | true=>
     rw[hq] at hd;have HQ:=Jh hq;clear hq;go_wp2_with (first
      | (at_lookup;refine wpList_lookup_own_unit _ rfl _ _ 166 rfl 9 167 law15 Tryz.underlying166 (unit15 _) w.heap.size k _ rfl hown _ _ rfl hkey ?_)
      | go_in)
     go_roundw
     case rel=>
      refine⟨k+1,D,by omega,by go_num,(hown.alloc _).mono (Nat.le_succ _),?_,?_,hnx.alloc hnx.size _,by simp;omega⟩
      ·rw[HT.out];unfold adds;rw[if_pos HQ.out];exact HSET.out
      ·rw[HT.out];unfold adds;rw[if_pos HQ.out];exact hrow.on ((Below.refl _ _).alloc (Nat.le_refl _) _)
     case measure=>simp[intOf];omega
    | false=>
     rw[hq] at hd;have HQ:=Jh hq;clear hq;have hrw0:wr.ownsRow (w.heap.size+1) 9 1 _ _ _:=hrow;go_wp2_with (first
      | (at_lookup;refine wpList_lookup_own_unit _ rfl _ _ 166 rfl 9 167 law15 Tryz.underlying166 (unit15 _) w.heap.size k _ rfl hown _ _ rfl hkey ?_)
      | (at_mapUpdate;refine wpList_mapUpdate_own _ rfl _ _ _ 166 rfl 9 167 law15 Tryz.underlying166 (unitElem (H:=Unit)) w.heap.size k _ rfl (hown.alloc _) (by unfold maxLen;omega) _ _ _ rfl rfl hkey _ [] unitElem_mk ?_;intro w1 hown1 hgrow1)
      | (at_builtin;refine wpList_append_own _ rfl _ _ 35 rfl (w.heap.size+1) 9 i0 (.string ⟨#[]⟩) 1 16 Tryz.underlying35 hi0 hz0 hz1 hz2 zcells1 (by decide) _ _ _ rfl (((hrw0.alloc _).kept hgrow1 (Or.inr (row_ne15 hrw0 (Nat.lt_succ_self _)).symm)).alloc _) ⟨w1.heap.size,0,none⟩ 1 1 [.string s] rfl rfl (txt_new s _) (by intro u hu;simp at hu;subst hu;rfl) (by unfold maxLen;omega) (by omega) (by have:=hgrow1.size;simp at this ⊢;omega) ?_;intro v' w2 hown' hgrow2 hnil2)
      | go_in)
     have hr1:=(hrw0.alloc (.cells #[] 167)).kept hgrow1 (Or.inr (row_ne15 hrw0 (Nat.lt_succ_self _)).symm);have s1:=hgrow1.size;have s2:=hgrow2.size;simp at s1 s2
     go_roundw
     case rel=>
      have e1:onceL (l.take (k+1))=onceL (l.take k)++[s]:=by rw[HT.out];unfold adds;rw[if_neg (by rw[HQ.out];decide)]
      refine⟨k+1,_,by omega,by go_num,(hown1.alloc _).kept hgrow2 (row_ne15 hr1 (Nat.lt_succ_self _)),?_,?_,?_,by omega⟩
      ·rw[e1];exact HSET.out.put s
      ·rw[e1,List.map_append]
       show OwnP _ _ _ (_++[bs9 s]);unfold OwnP;rw[row11_one,List.length_append];exact hown'
      ·exact((((hnx.alloc hnx.size _).grown hgrow1 (by simp;omega) (fun j hj=>by cases hj;exact Nat.le_refl _)).alloc (by omega) _).grown hgrow2 (by simp;omega) (fun j hj=>Nat.le_trans (Nat.le_succ _) (hr1.lt j hj).1))
     case measure=>simp[intOf];omega
   ·obtain rfl:k=n:=by omega
    have d1:decide (k<k)=false:=decide_eq_false (Nat.lt_irrefl _);have e1:l.take k=l:=List.take_of_length_le (by have:=HL.out;omega);rw[e1] at hrow;go_wp2;go_ret;exact RtO.of hrow hnx
theorem Aft.refuse{α:Type}{a e a' e':Nat}{P:α→Prop}(h1:(if e=0 then a-1 else a)=a')(h2:(if e=0 then 3 else e)=e'):Aft (nxr e a (fun b=>(.inl (3,b-1):RH α))) a' e' P:=by
 unfold nxr;by_cases he:e=0
 ·rw[if_pos he] at h1 h2 ⊢;subst h1;subst h2;exact⟨rfl,rfl,by decide⟩
 ·rw[if_neg he] at h1 h2 ⊢;subst h1;subst h2;exact⟨rfl,rfl,he⟩
theorem Aft.of{α:Type}{a e a' e':Nat}{P:α→Prop}{m m':Nat→RH α}(h:∀b,m b=m' b)(h2:Aft (nxr e a m') a' e' P):Aft (nxr e a m) a' e' P:=by
 rw[show m=m' from funext h];exact h2
theorem pday_yes{s:ByteArray}{w:World}(hok:Ok12 w)(hp:Dat.prOk s=true){y m d:Int}(h:pday s=(y,m,d)):Calls Tryz.prog 67 #[.string s] w (Ret9 w (.tuple #[.agg #[.int .i64 y,.int .i64 m,.int .i64 d],.int .i64 0])):=by
 unfold pday at h;rw[hp,if_pos rfl] at h;have hp2:=hp;unfold Dat.prOk at hp2;rw[Bool.and_eq_true] at hp2;have e1:Dat.prY s=y:=congrArg Prod.fst h;have e2:Dat.prM s=m:=congrArg (fun x=>x.2.1) h;have e3:Dat.prD s=d:=congrArg (fun x=>x.2.2) h;exact(Dat.parse_is hok.1 hp2.1 e1 e2 e3 (by rw[← e1,← e2,← e3];exact hp2.2)).mono fun e w' h=>⟨h.1,h.2⟩
theorem pday_not{s:ByteArray}{w:World}(hok:Ok12 w)(hs:s.size≤6000)(hp:Dat.prOk s=false):Calls Tryz.prog 67 #[.string s] w (Ret9 w (.tuple #[.agg #[.int .i64 0,.int .i64 0,.int .i64 0],.int .i64 3])):=
 (Dat.parse_no hok.1 hs hp).mono fun e w' h=>⟨h.1,h.2⟩
def RtDay(w:World)(g:Nat)(A:Option Addr)(n c a e:Nat)(L:List Tok)(en:Ending)(w':World):Prop:=∃(y m d:Int) (a' e':Nat),en=.returned (.agg #[.int .i64 y,.int .i64 m,.int .i64 d])∧Kp g none w w'∧StR w' g A n c a' e'∧Aft (nxr e a (dayR L)) a' e' (· = (y,m,d))∧(e'=0→e=0∧a'≤n)
def RtMth(w:World)(g:Nat)(A:Option Addr)(n c a e:Nat)(L:List Tok)(en:Ending)(w':World):Prop:=∃(x:Int) (a' e':Nat),en=.returned (.int .i64 x)∧Kp g none w w'∧StR w' g A n c a' e'∧Aft (nxr e a (mthR L)) a' e' (fun m=>x=(m:Int))∧(e'=0→e=0∧a'≤n)
def RtTol(w:World)(g:Nat)(A:Option Addr)(n c a e:Nat)(L:List Tok)(en:Ending)(w':World):Prop:=∃(i:Int) (k:Nat) (A1:Option Addr) (n1 c1 a' e':Nat),en=.returned (.agg #[.bool (ngB i),.slice A1 n1 c1,.int .i64 (k:Int)])∧Num w' w'.heap.size A1 n1 c1 i.natAbs∧Kp g none w w'∧StR w' g A n c a' e'∧Aft (nxr e a (tolR L)) a' e' (· = (i,k))∧(e'=0→e=0∧a'≤n)
theorem day_is{W0 w:World}{g B n c a e:Nat}{A:Option Addr}{L:List Tk4}{G:Nat→Nat→Int→Nat→Prop}(X:CX W0 B A n c L G)(hw:Below W0.heap.size W0 w)(hg:W0.heap.size≤g)(hs:StR w g A n c a e)(ha:e=0→a≤n):Calls Tryz.prog 43 #[.pointer (some ⟨g,0,none⟩)] w (RtDay w g A n c a e (L.map tok)):=by
 have E:=Jh (SR.start hw hg hs);have HA0:=Jh ha;have hgw:=Bk.lt hs;clear hw hg hs ha;go_enter Tryz.func43,Tryz.ntmps43;go_wp2_with fail;replace E:=Jh (E.out.lay #[.int .i64 0,.int .i64 0,.int .i64 0] 34 (g1:=w.heap.size) rfl);generalize hW:World.alloc w _=Y0 at E ⊢;have HY:w.heap.size+1=Y0.heap.size:=by rw[← hW];simp
 clear hW;have IK:=Jh (ikd_one Y0 (1) 3 (q:=w.heap.size+1) HY);replace E:=Jh (E.out.step ((Below.refl _ _).alloc (Nat.le_refl _) (.cells #[.int .i64 1] 3)));generalize hW:World.alloc Y0 _=V1 at E IK ⊢;clear hW;generalize w.heap.size+1=q1 at IK ⊢;refine(word_is X E.out.bel E.out.pl.1 E.out.st IK.out HA0.out).mono ?_;rintro en w1 ⟨s1,a1,e1,rfl,hk,hst,haft,hlt,hsz⟩;replace E:=Jh (E.out.call hk hst);rw[tkwK_one] at haft;have F1:=Jh haft;have L1:=Jh hlt;have Z1:=Jh hsz;clear hk hst haft hlt hsz IK;go_wp2_with fail;have HL1:Hid (e1=0→1≤a1∧a1≤1000):=fun h=>by have q:=L1.out h;have:=X.hn;omega
 cases hp:Dat.prOk s1 with
 | true=>
  obtain⟨y,m,d,hpd⟩:∃y m d,pday s1=(y,m,d):=⟨_,_,_,rfl⟩;refine(pday_yes (E.out.ok X).1 hp hpd).mono ?_;rintro en w2 ⟨rfl,hb⟩;replace E:=Jh (E.out.step hb);clear hb;go_upto_region 2 with fail
  have E0:Hid (w.heap.size<w2.heap.size):=SR.lt E (g1:=w.heap.size) (xs:=#[.int .i64 0,.int .i64 0,.int .i64 0]) (t:=34) (by simp);replace E:=Jh (E.out.lay #[.int .i64 y,.int .i64 m,.int .i64 d] 34 (g1:=w2.heap.size) rfl);generalize hW:World.alloc w2 _=Y1 at E ⊢;clear hW;have HNE:Hid (w.heap.size≠w2.heap.size):=by have:=E0.out;show _≠_;omega
  clear E0;generalize w2.heap.size=g2 at E HNE ⊢;have HA:Hid (Aft (nxr e a (dayR (L.map tok))) a1 e1 (· = (y,m,d))):=F1.out.go (by rw[hp,hpd];exact Aft.ret rfl);have HE2:Hid (e1=0→e=0∧a1≤n):=fun h=>⟨(L1.out h).1,(L1.out h).2.2⟩
  have r0:=SR.atv E (g1:=w.heap.size) (xs:=#[.int .i64 0,.int .i64 0,.int .i64 0]) (t:=34) (by simp) 0 rfl;have rf0:=SR.fz E (g1:=w.heap.size) (xs:=#[.int .i64 0,.int .i64 0,.int .i64 0]) (t:=34) (by simp) 0;have r1:=SR.atv E (g1:=w.heap.size) (xs:=#[.int .i64 0,.int .i64 0,.int .i64 0]) (t:=34) (by simp) 1 rfl;have rf1:=SR.fz E (g1:=w.heap.size) (xs:=#[.int .i64 0,.int .i64 0,.int .i64 0]) (t:=34) (by simp) 1;have r2:=SR.atv E (g1:=w.heap.size) (xs:=#[.int .i64 0,.int .i64 0,.int .i64 0]) (t:=34) (by simp) 2 rfl;have rf2:=SR.fz E (g1:=w.heap.size) (xs:=#[.int .i64 0,.int .i64 0,.int .i64 0]) (t:=34) (by simp) 2;have rlt:=SR.lt E (g1:=w.heap.size) (xs:=#[.int .i64 0,.int .i64 0,.int .i64 0]) (t:=34) (by simp);have y0:=SR.atv E (g1:=g2) (xs:=#[.int .i64 y,.int .i64 m,.int .i64 d]) (t:=34) (by simp) 0 rfl;have yf0:=SR.fz E (g1:=g2) (xs:=#[.int .i64 y,.int .i64 m,.int .i64 d]) (t:=34) (by simp) 0;have y1:=SR.atv E (g1:=g2) (xs:=#[.int .i64 y,.int .i64 m,.int .i64 d]) (t:=34) (by simp) 1 rfl;have yf1:=SR.fz E (g1:=g2) (xs:=#[.int .i64 y,.int .i64 m,.int .i64 d]) (t:=34) (by simp) 1;have y2:=SR.atv E (g1:=g2) (xs:=#[.int .i64 y,.int .i64 m,.int .i64 d]) (t:=34) (by simp) 2 rfl;have yf2:=SR.fz E (g1:=g2) (xs:=#[.int .i64 y,.int .i64 m,.int .i64 d]) (t:=34) (by simp) 2;have ylt:=SR.lt E (g1:=g2) (xs:=#[.int .i64 y,.int .i64 m,.int .i64 d]) (t:=34) (by simp);go_wp2_with fail;clear r0 rf0 r1 rf1 r2 rf2 rlt y0 yf0 y1 yf1 y2 yf2 ylt;have EF:=Jh (SR.fill3 E.out (g1:=w.heap.size) (t:=34) (x0:=.int .i64 0) (x1:=.int .i64 0) (x2:=.int .i64 0) (by simp) (Cl.mk (cl_cons (noLimb_int _) (cl_cons (noLimb_int _) (cl_cons (noLimb_int _) cl_nil)))) (fun q hq=>by cases hq) [] (fun q hq=>by cases hq) (.int .i64 y) (.int .i64 m) (.int .i64 d));have r0:=SR.atv EF (g1:=w.heap.size) (xs:=#[.int .i64 y,.int .i64 m,.int .i64 d]) (t:=34) (by simp) 0 rfl;have rf0:=SR.fz EF (g1:=w.heap.size) (xs:=#[.int .i64 y,.int .i64 m,.int .i64 d]) (t:=34) (by simp) 0;have r1:=SR.atv EF (g1:=w.heap.size) (xs:=#[.int .i64 y,.int .i64 m,.int .i64 d]) (t:=34) (by simp) 1 rfl;have rf1:=SR.fz EF (g1:=w.heap.size) (xs:=#[.int .i64 y,.int .i64 m,.int .i64 d]) (t:=34) (by simp) 1;have r2:=SR.atv EF (g1:=w.heap.size) (xs:=#[.int .i64 y,.int .i64 m,.int .i64 d]) (t:=34) (by simp) 2 rfl;have rf2:=SR.fz EF (g1:=w.heap.size) (xs:=#[.int .i64 y,.int .i64 m,.int .i64 d]) (t:=34) (by simp) 2;have rlt:=SR.lt EF (g1:=w.heap.size) (xs:=#[.int .i64 y,.int .i64 m,.int .i64 d]) (t:=34) (by simp);exact bodyPost_ret (v:=.agg #[.int .i64 y,.int .i64 m,.int .i64 d]) (by simp[results,Tryz.results43,go_sem,r0,r1,r2]) rfl ⟨y,m,d,a1,e1,rfl,EF.out.kp,EF.out.st,HA.out,HE2.out⟩
 | false=>
  refine(pday_not (E.out.ok X).1 Z1.out hp).mono ?_;rintro en w2 ⟨rfl,hb⟩;replace E:=Jh (E.out.step hb);clear hb;go_wp2_with fail;have E0:Hid (w.heap.size<w2.heap.size):=SR.lt E (g1:=w.heap.size) (xs:=#[.int .i64 0,.int .i64 0,.int .i64 0]) (t:=34) (by simp);replace E:=Jh (E.out.lay #[.int .i64 0,.int .i64 0,.int .i64 0] 34 (g1:=w2.heap.size) rfl);generalize hW:World.alloc w2 _=Y1 at E ⊢;clear hW;have HNE:Hid (w.heap.size≠w2.heap.size):=by have:=E0.out;show _≠_;omega
  clear E0;generalize w2.heap.size=g2 at E HNE ⊢;obtain⟨a2,ha2⟩:∃x,(if e1=0 then a1-1 else a1)=x:=⟨_,rfl⟩;obtain⟨e2,he2⟩:∃x,(if e1=0 then 3 else e1)=x:=⟨_,rfl⟩;refine(refuse_is E.out.st HL1.out ha2 he2).mono ?_;rintro en w3 ⟨rfl,hk,hst⟩;replace E:=Jh (E.out.call hk hst);clear hk hst;have HA:Hid (Aft (nxr e a (dayR (L.map tok))) a2 e2 (· = ((0:Int),(0:Int),(0:Int)))):=F1.out.go (by rw[hp];exact Aft.refuse ha2 he2);have HE2:Hid (e2=0→e=0∧a2≤n):=fun h=>by exfalso;rw[← he2] at h;split at h<;>omega
  have r0:=SR.atv E (g1:=w.heap.size) (xs:=#[.int .i64 0,.int .i64 0,.int .i64 0]) (t:=34) (by simp) 0 rfl;have rf0:=SR.fz E (g1:=w.heap.size) (xs:=#[.int .i64 0,.int .i64 0,.int .i64 0]) (t:=34) (by simp) 0;have r1:=SR.atv E (g1:=w.heap.size) (xs:=#[.int .i64 0,.int .i64 0,.int .i64 0]) (t:=34) (by simp) 1 rfl;have rf1:=SR.fz E (g1:=w.heap.size) (xs:=#[.int .i64 0,.int .i64 0,.int .i64 0]) (t:=34) (by simp) 1;have r2:=SR.atv E (g1:=w.heap.size) (xs:=#[.int .i64 0,.int .i64 0,.int .i64 0]) (t:=34) (by simp) 2 rfl;have rf2:=SR.fz E (g1:=w.heap.size) (xs:=#[.int .i64 0,.int .i64 0,.int .i64 0]) (t:=34) (by simp) 2;have rlt:=SR.lt E (g1:=w.heap.size) (xs:=#[.int .i64 0,.int .i64 0,.int .i64 0]) (t:=34) (by simp);have y0:=SR.atv E (g1:=g2) (xs:=#[.int .i64 0,.int .i64 0,.int .i64 0]) (t:=34) (by simp) 0 rfl;have yf0:=SR.fz E (g1:=g2) (xs:=#[.int .i64 0,.int .i64 0,.int .i64 0]) (t:=34) (by simp) 0;have y1:=SR.atv E (g1:=g2) (xs:=#[.int .i64 0,.int .i64 0,.int .i64 0]) (t:=34) (by simp) 1 rfl;have yf1:=SR.fz E (g1:=g2) (xs:=#[.int .i64 0,.int .i64 0,.int .i64 0]) (t:=34) (by simp) 1;have y2:=SR.atv E (g1:=g2) (xs:=#[.int .i64 0,.int .i64 0,.int .i64 0]) (t:=34) (by simp) 2 rfl;have yf2:=SR.fz E (g1:=g2) (xs:=#[.int .i64 0,.int .i64 0,.int .i64 0]) (t:=34) (by simp) 2;have ylt:=SR.lt E (g1:=g2) (xs:=#[.int .i64 0,.int .i64 0,.int .i64 0]) (t:=34) (by simp);go_wp2_with fail;clear r0 rf0 r1 rf1 r2 rf2 rlt y0 yf0 y1 yf1 y2 yf2 ylt;have EF:=Jh (SR.fill3 E.out (g1:=w.heap.size) (t:=34) (x0:=.int .i64 0) (x1:=.int .i64 0) (x2:=.int .i64 0) (by simp) (Cl.mk (cl_cons (noLimb_int _) (cl_cons (noLimb_int _) (cl_cons (noLimb_int _) cl_nil)))) (fun q hq=>by cases hq) [] (fun q hq=>by cases hq) (.int .i64 0) (.int .i64 0) (.int .i64 0));have r0:=SR.atv EF (g1:=w.heap.size) (xs:=#[.int .i64 0,.int .i64 0,.int .i64 0]) (t:=34) (by simp) 0 rfl;have rf0:=SR.fz EF (g1:=w.heap.size) (xs:=#[.int .i64 0,.int .i64 0,.int .i64 0]) (t:=34) (by simp) 0;have r1:=SR.atv EF (g1:=w.heap.size) (xs:=#[.int .i64 0,.int .i64 0,.int .i64 0]) (t:=34) (by simp) 1 rfl;have rf1:=SR.fz EF (g1:=w.heap.size) (xs:=#[.int .i64 0,.int .i64 0,.int .i64 0]) (t:=34) (by simp) 1;have r2:=SR.atv EF (g1:=w.heap.size) (xs:=#[.int .i64 0,.int .i64 0,.int .i64 0]) (t:=34) (by simp) 2 rfl;have rf2:=SR.fz EF (g1:=w.heap.size) (xs:=#[.int .i64 0,.int .i64 0,.int .i64 0]) (t:=34) (by simp) 2;have rlt:=SR.lt EF (g1:=w.heap.size) (xs:=#[.int .i64 0,.int .i64 0,.int .i64 0]) (t:=34) (by simp);exact bodyPost_ret (v:=.agg #[.int .i64 0,.int .i64 0,.int .i64 0]) (by simp[results,Tryz.results43,go_sem,r0,r1,r2]) rfl ⟨0,0,0,a2,e2,rfl,EF.out.kp,EF.out.st,HA.out,HE2.out⟩
theorem method_is{W0 w:World}{g B n c a e:Nat}{A:Option Addr}{L:List Tk4}{G:Nat→Nat→Int→Nat→Prop}(X:CX W0 B A n c L G)(hw:Below W0.heap.size W0 w)(hg:W0.heap.size≤g)(hs:StR w g A n c a e)(ha:e=0→a≤n):Calls Tryz.prog 93 #[.pointer (some ⟨g,0,none⟩)] w (RtMth w g A n c a e (L.map tok)):=by
 have E:=Jh (SR.start hw hg hs);have HA0:=Jh ha;have hgw:=Bk.lt hs;clear hw hg hs ha;go_enter Tryz.func93,Tryz.ntmps93;go_wp2_with fail;have IK:=Jh (ikd_one w (5) 3 (q:=w.heap.size) rfl);replace E:=Jh (E.out.step ((Below.refl _ _).alloc (Nat.le_refl _) (.cells #[.int .i64 5] 3)));generalize hW:World.alloc w _=V1 at E IK ⊢;clear hW;generalize w.heap.size=q1 at IK ⊢;refine(word_is X E.out.bel E.out.pl.1 E.out.st IK.out HA0.out).mono ?_;rintro en w1 ⟨s1,a1,e1,rfl,hk,hst,haft,hlt,hsz⟩;replace E:=Jh (E.out.call hk hst);rw[tkwK_one] at haft;have F1:=Jh haft;have L1:=Jh hlt;have Z1:=Jh hsz;clear hk hst haft hlt hsz IK;go_wp2_with fail;refine(headm15 (E.out.ok X) (s:=s1) rfl).mono ?_;rintro en w2 ⟨rfl,hb⟩;replace E:=Jh (E.out.step hb);clear hb;have HL1:Hid (e1=0→1≤a1∧a1≤1000):=fun h=>by have q:=L1.out h;have:=X.hn;omega
 cases hm:mth (bs9 s1) with
 | some m=>
  have hx:mthI s1=(m:Int):=by unfold mthI;rw[hm]
  rw[hx];have d1:decide ((m:Int)<0)=false:=decide_eq_false (by omega);have HA:Hid (Aft (nxr e a (mthR (L.map tok))) a1 e1 (fun x=>(m:Int)=(x:Int))):=F1.out.go (by rw[hm];exact Aft.ret rfl);clear hm hx;go_wp2_with fail;go_ret;exact⟨_,a1,e1,rfl,E.out.kp,E.out.st,HA.out,fun h=>⟨(L1.out h).1,(L1.out h).2.2⟩⟩
 | none=>
  have hx:mthI s1 = -1:=by unfold mthI;rw[hm]
  rw[hx];obtain⟨a2,ha2⟩:∃x,(if e1=0 then a1-1 else a1)=x:=⟨_,rfl⟩;obtain⟨e2,he2⟩:∃x,(if e1=0 then 3 else e1)=x:=⟨_,rfl⟩;have HA:Hid (Aft (nxr e a (mthR (L.map tok))) a2 e2 (fun x=>(-1:Int)=(x:Int))):=F1.out.go (by rw[hm];exact Aft.refuse ha2 he2);have HE2:Hid (e2=0→e=0∧a2≤n):=fun h=>by exfalso;rw[← he2] at h;split at h<;>omega
  have HR:Hid (∀{W:World},StR W g A n c a1 e1→Calls Tryz.prog 68 #[.pointer (some ⟨g,0,none⟩)] W (RtN W g A n c a2 e2)):=fun h=>refuse_is h HL1.out ha2 he2
  clear hm hx ha2 he2;go_wp2_with fail;refine(HR.out E.out.st).mono ?_;rintro en w3 ⟨rfl,hk,hst⟩;replace E:=Jh (E.out.call hk hst);clear hk hst;go_wp2_with fail;go_ret;exact⟨_,a2,e2,rfl,E.out.kp,E.out.st,HA.out,HE2.out⟩
theorem tolerance_is{W0 w:World}{g B n c a e:Nat}{A:Option Addr}{L:List Tk4}{G:Nat→Nat→Int→Nat→Prop}(X:CX W0 B A n c L G)(hw:Below W0.heap.size W0 w)(hg:W0.heap.size≤g)(hs:StR w g A n c a e)(ha:e=0→a≤n):Calls Tryz.prog 98 #[.pointer (some ⟨g,0,none⟩)] w (RtTol w g A n c a e (L.map tok)):=by
 have E:=Jh (SR.start hw hg hs);have HA0:=Jh ha;have hgw:=Bk.lt hs;clear hw hg hs ha;go_enter Tryz.func98,Tryz.ntmps98;go_wp2_with fail;replace E:=Jh (E.out.lay #[.bool false,.slice none 0 0,.int .i64 0] 39 (g1:=w.heap.size) rfl);generalize hW:World.alloc w _=Y0 at E ⊢;clear hW;refine(reckonD_is X E.out.bel E.out.pl.1 E.out.st HA0.out).mono ?_;rintro en w1 ⟨i,k,A1,n1,c1,a1,e1,rfl,hnum,hk,hst,haft,hlt⟩;replace E:=Jh ((E.out.call hk hst).push hnum);have F1:=Jh haft;have L1:=Jh hlt;clear hnum hk hst haft hlt;have HL1:Hid (e1=0→1≤a1∧a1≤1000):=fun h=>by have q:=L1.out h;have:=X.hn;omega
 have E0:Hid (w.heap.size<w1.heap.size):=SR.lt E (g1:=w.heap.size) (xs:=#[.bool false,.slice none 0 0,.int .i64 0]) (t:=39) (by simp);replace E:=Jh (E.out.lay #[.bool (ngB i),.slice A1 n1 c1,.int .i64 (k:Int)] 39 (g1:=w1.heap.size) rfl);have HNE:Hid (w.heap.size≠w1.heap.size):=by have:=E0.out;show _≠_;omega
 go_wp2_with fail;generalize hW:World.alloc w1 _=Y1 at E ⊢;clear hW;generalize w1.heap.size=g2 at E HNE ⊢;refine(sign_is (SR.got E (by simp)) rfl).mono ?_;rintro en w2 ⟨rfl,hb⟩;replace E:=Jh (E.out.step hb);clear hb;rcases(show i<0∨0≤i by omega) with hi|hi
 ·have d2:decide (i<0)=true:=decide_eq_true hi
  have d1:decide (i.sign<0)=true:=decide_eq_true (by rw[Int.sign_eq_neg_one_of_neg hi];decide);obtain⟨a2,ha2⟩:∃x,(if e1=0 then a1-1 else a1)=x:=⟨_,rfl⟩;obtain⟨e2,he2⟩:∃x,(if e1=0 then 3 else e1)=x:=⟨_,rfl⟩;have HA:Hid (Aft (nxr e a (tolR (L.map tok))) a2 e2 (· = (i,k))):=F1.out.go (Aft.of (fun b=>if_pos hi) (Aft.refuse ha2 he2));have HE2:Hid (e2=0→e=0∧a2≤n):=fun h=>by exfalso;rw[← he2] at h;split at h<;>omega
  have HR:Hid (∀{W:World},StR W g A n c a1 e1→Calls Tryz.prog 68 #[.pointer (some ⟨g,0,none⟩)] W (RtN W g A n c a2 e2)):=fun h=>refuse_is h HL1.out ha2 he2
  clear ha2 he2 hi;go_wp2_with fail;refine(HR.out E.out.st).mono ?_;rintro en w3 ⟨rfl,hk,hst⟩;replace E:=Jh (E.out.call hk hst);clear hk hst;have r0:=SR.atv E (g1:=w.heap.size) (xs:=#[.bool false,.slice none 0 0,.int .i64 0]) (t:=39) (by simp) 0 rfl;have rf0:=SR.fz E (g1:=w.heap.size) (xs:=#[.bool false,.slice none 0 0,.int .i64 0]) (t:=39) (by simp) 0;have r1:=SR.atv E (g1:=w.heap.size) (xs:=#[.bool false,.slice none 0 0,.int .i64 0]) (t:=39) (by simp) 1 rfl;have rf1:=SR.fz E (g1:=w.heap.size) (xs:=#[.bool false,.slice none 0 0,.int .i64 0]) (t:=39) (by simp) 1;have r2:=SR.atv E (g1:=w.heap.size) (xs:=#[.bool false,.slice none 0 0,.int .i64 0]) (t:=39) (by simp) 2 rfl;have rf2:=SR.fz E (g1:=w.heap.size) (xs:=#[.bool false,.slice none 0 0,.int .i64 0]) (t:=39) (by simp) 2;have rlt:=SR.lt E (g1:=w.heap.size) (xs:=#[.bool false,.slice none 0 0,.int .i64 0]) (t:=39) (by simp);have y0:=SR.atv E (g1:=g2) (xs:=#[.bool (ngB i),.slice A1 n1 c1,.int .i64 (k:Int)]) (t:=39) (by simp) 0 rfl;have yf0:=SR.fz E (g1:=g2) (xs:=#[.bool (ngB i),.slice A1 n1 c1,.int .i64 (k:Int)]) (t:=39) (by simp) 0;have y1:=SR.atv E (g1:=g2) (xs:=#[.bool (ngB i),.slice A1 n1 c1,.int .i64 (k:Int)]) (t:=39) (by simp) 1 rfl;have yf1:=SR.fz E (g1:=g2) (xs:=#[.bool (ngB i),.slice A1 n1 c1,.int .i64 (k:Int)]) (t:=39) (by simp) 1;have y2:=SR.atv E (g1:=g2) (xs:=#[.bool (ngB i),.slice A1 n1 c1,.int .i64 (k:Int)]) (t:=39) (by simp) 2 rfl;have yf2:=SR.fz E (g1:=g2) (xs:=#[.bool (ngB i),.slice A1 n1 c1,.int .i64 (k:Int)]) (t:=39) (by simp) 2;have ylt:=SR.lt E (g1:=g2) (xs:=#[.bool (ngB i),.slice A1 n1 c1,.int .i64 (k:Int)]) (t:=39) (by simp);go_wp2_with fail;clear r0 rf0 r1 rf1 r2 rf2 rlt y0 yf0 y1 yf1 y2 yf2 ylt;have EF:=Jh (SR.fill3 E.out (g1:=w.heap.size) (t:=39) (x0:=.bool false) (x1:=.slice none 0 0) (x2:=.int .i64 0) (by simp) (Cl.mk (cl_cons (noLimb_bool _) (cl_cons (noLimb_slice _ _ _) (cl_cons (noLimb_int _) cl_nil)))) (fun q hq=>by cases hq) [] (fun q hq=>by cases hq) (.bool (ngB i)) (.slice A1 n1 c1) (.int .i64 (k:Int)));have r0:=SR.atv EF (g1:=w.heap.size) (xs:=#[.bool (ngB i),.slice A1 n1 c1,.int .i64 (k:Int)]) (t:=39) (by simp) 0 rfl;have rf0:=SR.fz EF (g1:=w.heap.size) (xs:=#[.bool (ngB i),.slice A1 n1 c1,.int .i64 (k:Int)]) (t:=39) (by simp) 0;have r1:=SR.atv EF (g1:=w.heap.size) (xs:=#[.bool (ngB i),.slice A1 n1 c1,.int .i64 (k:Int)]) (t:=39) (by simp) 1 rfl;have rf1:=SR.fz EF (g1:=w.heap.size) (xs:=#[.bool (ngB i),.slice A1 n1 c1,.int .i64 (k:Int)]) (t:=39) (by simp) 1;have r2:=SR.atv EF (g1:=w.heap.size) (xs:=#[.bool (ngB i),.slice A1 n1 c1,.int .i64 (k:Int)]) (t:=39) (by simp) 2 rfl;have rf2:=SR.fz EF (g1:=w.heap.size) (xs:=#[.bool (ngB i),.slice A1 n1 c1,.int .i64 (k:Int)]) (t:=39) (by simp) 2;have rlt:=SR.lt EF (g1:=w.heap.size) (xs:=#[.bool (ngB i),.slice A1 n1 c1,.int .i64 (k:Int)]) (t:=39) (by simp);exact bodyPost_ret (v:=.agg #[.bool (ngB i),.slice A1 n1 c1,.int .i64 (k:Int)]) (by simp[results,Tryz.results98,go_sem,r0,r1,r2]) rfl ⟨i,k,A1,n1,c1,a2,e2,rfl,SR.got EF (by simp),EF.out.kp,EF.out.st,HA.out,HE2.out⟩
 ·have d2:decide (i<0)=false:=decide_eq_false (Int.not_lt.2 hi)
  have d1:decide (i.sign<0)=false:=decide_eq_false (Int.not_lt.2 (Int.sign_nonneg_iff.2 hi));have HA:Hid (Aft (nxr e a (tolR (L.map tok))) a1 e1 (· = (i,k))):=F1.out.go (Aft.of (fun b=>if_neg (Int.not_lt.2 hi)) (Aft.ret rfl));have HE2:Hid (e1=0→e=0∧a1≤n):=fun h=>⟨(L1.out h).1,(L1.out h).2.2⟩
  clear hi;have r0:=SR.atv E (g1:=w.heap.size) (xs:=#[.bool false,.slice none 0 0,.int .i64 0]) (t:=39) (by simp) 0 rfl;have rf0:=SR.fz E (g1:=w.heap.size) (xs:=#[.bool false,.slice none 0 0,.int .i64 0]) (t:=39) (by simp) 0;have r1:=SR.atv E (g1:=w.heap.size) (xs:=#[.bool false,.slice none 0 0,.int .i64 0]) (t:=39) (by simp) 1 rfl;have rf1:=SR.fz E (g1:=w.heap.size) (xs:=#[.bool false,.slice none 0 0,.int .i64 0]) (t:=39) (by simp) 1;have r2:=SR.atv E (g1:=w.heap.size) (xs:=#[.bool false,.slice none 0 0,.int .i64 0]) (t:=39) (by simp) 2 rfl;have rf2:=SR.fz E (g1:=w.heap.size) (xs:=#[.bool false,.slice none 0 0,.int .i64 0]) (t:=39) (by simp) 2;have rlt:=SR.lt E (g1:=w.heap.size) (xs:=#[.bool false,.slice none 0 0,.int .i64 0]) (t:=39) (by simp);have y0:=SR.atv E (g1:=g2) (xs:=#[.bool (ngB i),.slice A1 n1 c1,.int .i64 (k:Int)]) (t:=39) (by simp) 0 rfl;have yf0:=SR.fz E (g1:=g2) (xs:=#[.bool (ngB i),.slice A1 n1 c1,.int .i64 (k:Int)]) (t:=39) (by simp) 0;have y1:=SR.atv E (g1:=g2) (xs:=#[.bool (ngB i),.slice A1 n1 c1,.int .i64 (k:Int)]) (t:=39) (by simp) 1 rfl;have yf1:=SR.fz E (g1:=g2) (xs:=#[.bool (ngB i),.slice A1 n1 c1,.int .i64 (k:Int)]) (t:=39) (by simp) 1;have y2:=SR.atv E (g1:=g2) (xs:=#[.bool (ngB i),.slice A1 n1 c1,.int .i64 (k:Int)]) (t:=39) (by simp) 2 rfl;have yf2:=SR.fz E (g1:=g2) (xs:=#[.bool (ngB i),.slice A1 n1 c1,.int .i64 (k:Int)]) (t:=39) (by simp) 2;have ylt:=SR.lt E (g1:=g2) (xs:=#[.bool (ngB i),.slice A1 n1 c1,.int .i64 (k:Int)]) (t:=39) (by simp);go_wp2_with fail;clear r0 rf0 r1 rf1 r2 rf2 rlt y0 yf0 y1 yf1 y2 yf2 ylt;have EF:=Jh (SR.fill3 E.out (g1:=w.heap.size) (t:=39) (x0:=.bool false) (x1:=.slice none 0 0) (x2:=.int .i64 0) (by simp) (Cl.mk (cl_cons (noLimb_bool _) (cl_cons (noLimb_slice _ _ _) (cl_cons (noLimb_int _) cl_nil)))) (fun q hq=>by cases hq) [] (fun q hq=>by cases hq) (.bool (ngB i)) (.slice A1 n1 c1) (.int .i64 (k:Int)));have r0:=SR.atv EF (g1:=w.heap.size) (xs:=#[.bool (ngB i),.slice A1 n1 c1,.int .i64 (k:Int)]) (t:=39) (by simp) 0 rfl;have rf0:=SR.fz EF (g1:=w.heap.size) (xs:=#[.bool (ngB i),.slice A1 n1 c1,.int .i64 (k:Int)]) (t:=39) (by simp) 0;have r1:=SR.atv EF (g1:=w.heap.size) (xs:=#[.bool (ngB i),.slice A1 n1 c1,.int .i64 (k:Int)]) (t:=39) (by simp) 1 rfl;have rf1:=SR.fz EF (g1:=w.heap.size) (xs:=#[.bool (ngB i),.slice A1 n1 c1,.int .i64 (k:Int)]) (t:=39) (by simp) 1;have r2:=SR.atv EF (g1:=w.heap.size) (xs:=#[.bool (ngB i),.slice A1 n1 c1,.int .i64 (k:Int)]) (t:=39) (by simp) 2 rfl;have rf2:=SR.fz EF (g1:=w.heap.size) (xs:=#[.bool (ngB i),.slice A1 n1 c1,.int .i64 (k:Int)]) (t:=39) (by simp) 2;have rlt:=SR.lt EF (g1:=w.heap.size) (xs:=#[.bool (ngB i),.slice A1 n1 c1,.int .i64 (k:Int)]) (t:=39) (by simp);exact bodyPost_ret (v:=.agg #[.bool (ngB i),.slice A1 n1 c1,.int .i64 (k:Int)]) (by simp[results,Tryz.results98,go_sem,r0,r1,r2]) rfl ⟨i,k,A1,n1,c1,a1,e1,rfl,SR.got EF (by simp),EF.out.kp,EF.out.st,HA.out,HE2.out⟩
def msrR(g n:Nat)(w:World):Nat:=if (w.cell? ⟨g,2,none⟩).any (fun v=>decide (intOf v=0))=true then n+1-(match w.cell? ⟨g,1,none⟩ with|some v=>(intOf v).toNat|none=>0) else 0
theorem msrR_is{w:World}{g n c a e:Nat}{A:Option Addr}(h:StR w g A n c a e):msrR g n w=if e=0 then n+1-a else 0:=by
 have p:=h.bx;unfold msrR;rw[p.c2,p.c1];show(if decide ((e:Int)=0)=true then n+1-((a:Int)).toNat else 0)=_;rw[Int.toNat_natCast];by_cases he:e=0
 ·subst he
  simp
 ·rw[if_neg he,if_neg (by rw[decide_eq_true_iff];omega)]
theorem own_kp{w w':World}{base g:Nat}{v:Value}{L:List (List Nat)}(h:OwnP w base v L)(hk:Kp g none w w')(hg:g<base):OwnP w' base v L:=
 World.ownsRow.kept h ⟨hk.os,hk.tape,hk.output,hk.size,fun k hk1 hne=>hk.block k hk1 (fun e=>hne (by rw[e])) (by simp)⟩ (.inr fun e=>by have:=(World.ownsRow.lt h g e).1;omega)
theorem own_lit(w:World)(s:ByteArray){base:Nat}(hb:base≤w.heap.size):OwnP (w.alloc (.cells #[.string s] 9)) base (.slice (some ⟨w.heap.size,0,none⟩) 1 1) ([s].map bs9):=by
 have h:=World.ownsRow_lit (base:=base) (size:=1) (e:=9) w #[.string s] 1 hb (by decide) rfl;have e:row11 ([s].map bs9)=[.string s]:=by show [Value.string (st9 (bs9 s))]=_;rw[st9_bs9]
 unfold OwnP;rw[e];exact h
theorem SR.grown{W0 w0 w w':World}{g n c a e:Nat}{A:Option Addr}{row:Option Nat}(h:SR W0 w0 w g A n c a e [] [] [])(hg:w.grownBy w' row)(hr:∀k,row=some k→w0.heap.size≤k):SR W0 w0 w' g A n c a e [] [] []:=by
 have hz:=h.kp.size;have hp:=h.pl;have hB:∀k,k<w0.heap.size→w'.heap[k]?=w.heap[k]?:=fun k hk=>hg.block k (by omega) (fun e=>by have:=hr k e.symm;omega)
 exact⟨h.bel.trans ⟨hg.os,hg.tape,hg.output,hg.size,fun k hk=>hB k (by omega)⟩,⟨hg.os.trans h.kp.os,hg.tape.trans h.kp.tape,hg.output.trans h.kp.output,Nat.le_trans hz hg.size,fun k hk hc hr2=>(hB k hk).trans (h.kp.block k hk hc hr2)⟩,hp,(hB g hp.2).trans h.st,fun q hq=>(by cases hq),fun q hq=>(by cases hq),fun q hq=>(by cases hq)⟩
theorem Aft.zero{α:Type}{e a a':Nat}{m:Nat→RH α}{P:α→Prop}(h:Aft (nxr e a m) a' 0 P):e=0:=by
 by_cases he:e=0
 ·exact he
 ·unfold nxr at h;rw[if_neg he] at h;exact absurd h.2.1.symm h.2.2
theorem row11_map(l:List ByteArray)(s:ByteArray):row11 ((l++[s]).map bs9)=row11 (l.map bs9)++[.string s]:=by rw[List.map_append];exact row11_one _ s
def RtC(w:World)(g:Nat)(A:Option Addr)(n c a e:Nat)(L:List Tok)(en:Ending)(w':World):Prop:=∃(cs:List ByteArray) (A1:Option Addr) (n1 c1 a' e':Nat),en=.returned (.slice A1 n1 c1)∧RdP w' A1 n1 c1 (cs.map bs9)∧(∀x,A1=some x→w.heap.size≤x.block)∧Kp g none w w'∧StR w' g A n c a' e'∧Aft (nxr e a (curR L)) a' e' (· = cs)∧(e'=0→e=0∧a'≤n)
theorem psW_44{L:List Tok}{a:Nat}:psW L 0 a 10 [44]=isW L a [44]:=psW_sign L a [44]
theorem psW_bad{L:List Tok}{e a:Nat}{k:Int}{x:List Nat}(h:e≠0):psW L e a k x=false:=by unfold psW;rw[decide_eq_false h];rfl
theorem cur_stop{L:List Tok}{e a f:Nat}{acc:List ByteArray}(h:psW L e a 10 [44]=false):Aft (nxr e a (curAcc L f acc)) a e (· = acc):=by
 by_cases he:e=0
 ·subst he
  rw[psW_44] at h;unfold nxr;rw[if_pos rfl,curAcc_stop h];exact⟨rfl,rfl,rfl⟩
 ·exact Aft.stay he
theorem currencies_is{W0 w:World}{g B n c a e:Nat}{A:Option Addr}{L:List Tk4}{G:Nat→Nat→Int→Nat→Prop}(X:CX W0 B A n c L G)(hw:Below W0.heap.size W0 w)(hg:W0.heap.size≤g)(hs:StR w g A n c a e)(ha:e=0→a≤n):Calls Tryz.prog 92 #[.pointer (some ⟨g,0,none⟩)] w (RtC w g A n c a e (L.map tok)):=by
 have E:=Jh (SR.start hw hg hs);have HA0:=Jh ha;have hgw:=Bk.lt hs;have HL400:=X.hn;have hlen:=X.rd.len;obtain⟨i0,hi0,hz0,hz1,hz2⟩:=info_parts11 info_txt;clear hw hg hs ha;go_enter Tryz.func92,Tryz.ntmps92;go_wp2_with fail;have IK:=Jh (ikd_one w (3) 3 (q:=w.heap.size) rfl);replace E:=Jh (E.out.step ((Below.refl _ _).alloc (Nat.le_refl _) (.cells #[.int .i64 3] 3)));generalize hW:World.alloc w _=V1 at E IK ⊢;clear hW;generalize w.heap.size=q1 at IK ⊢;refine(word_is X E.out.bel E.out.pl.1 E.out.st IK.out HA0.out).mono ?_;rintro en w1 ⟨s1,a1,e1,rfl,hk,hst,haft,hlt,hsz⟩;replace E:=Jh (E.out.call hk hst);rw[tkwK_one] at haft;have F1:=Jh haft;have L1:=Jh hlt;have Z1:=Jh hsz;clear hk hst haft hlt hsz IK;have O1:=Jh (own_lit w1 s1 (base:=w.heap.size) E.out.kp.size);replace E:=Jh (E.out.step ((Below.refl _ _).alloc (Nat.le_refl _) (.cells #[.string s1] 9)));have I1:Hid (∀R af ef,Aft (nxr e1 a1 (curAcc (L.map tok) n [s1])) af ef R→Aft (nxr e a (curR (L.map tok))) af ef R):=fun R af ef h=>by
  have e0:curR (L.map tok)=fun a=>thn (tkw (L.map tok) a 3) fun x b=>curAcc (L.map tok) n [x] b:=by funext a;rw[curR_acc,List.length_map,← hlen]
  rw[e0];exact F1.out.go h
 go_wp2_with fail;generalize hW:World.alloc w1 _=V2 at E O1 ⊢;clear hW;generalize w1.heap.size=g1 at O1 ⊢;go_loopw [3] (fun v wr=>∃(acc:List ByteArray) (f a2 e2:Nat),SR W0 w wr g A n c a2 e2 [] [] []∧OwnP wr w.heap.size v (acc.map bs9)∧(e2=0→a2≤n∧n≤f+a2∧acc.length≤a2)∧acc.length≤401∧(∀R af ef,Aft (nxr e2 a2 (curAcc (L.map tok) f acc)) af ef R→Aft (nxr e a (curR (L.map tok))) af ef R)) (fun _ wr=>msrR g n wr)
 case atStart=>exact⟨[s1],n,a1,e1,E.out,O1.out,fun h=>by have q:=L1.out h;have q2:a≤n:=HA0.out q.1;exact⟨by omega,by omega,by show 1≤a1;omega⟩,(by show 1≤401;decide),I1.out⟩
 case round=>
  obtain⟨acc,f,a2,e2,hE,hO,hF,hC,hI⟩:=hrel;replace E:=Jh hE;replace O1:=Jh hO;have F2:=Jh hF;replace I1:=Jh hI;have C2:=Jh hC;clear hE hO hF hI hC;have MS:=Jh (msrR_is (n:=n) E.out.st);go_wp2_with fail;obtain⟨b3,hb3⟩:∃b,psW (L.map tok) e2 a2 10 [44]=b:=⟨_,rfl⟩;obtain⟨a3,ha3⟩:∃a,(if b3=true then a2+1 else a2)=a:=⟨_,rfl⟩;refine(pass_is X E.out.bel E.out.pl.1 E.out.st 10 ⟨#[44]⟩ rfl hb3 ha3).mono ?_;rintro en w3 ⟨rfl,hk,hst⟩;replace E:=Jh (E.out.call hk hst);replace O1:=Jh (own_kp O1.out hk hgw);clear hk hst;cases b3 with
  | false=>
   rw[if_neg (by decide)] at ha3;subst ha3;have R2:=Jh (I1.out _ _ _ (cur_stop hb3));clear hb3;go_wp2_with fail;go_ret;have hlt:=World.ownsRow.lt O1.out;obtain⟨A1,c1,rfl,hr⟩:=O1.out.rd;exact⟨acc,A1,_,c1,a2,e2,rfl,hr,fun x hx=>by subst hx;exact(hlt x.block rfl).1,E.out.kp,E.out.st,R2.out,fun h=>⟨by subst h;exact Aft.zero R2.out,(F2.out h).1⟩⟩
  | true=>
   rw[if_pos rfl] at ha3;subst ha3;have he2:e2=0:=by
    by_cases h:e2=0
    ·exact h
    ·rw[psW_bad h] at hb3;cases hb3
   subst he2;rw[psW_44] at hb3;have hlt2:a2<n:=by
    rcases Nat.lt_or_ge a2 n with h|h
    ·exact h
    ·rw[isW_none (by omega)] at hb3;cases hb3
   obtain⟨h21,h22,h23⟩:=F2.out rfl;obtain⟨f,rfl⟩:∃f1,f=f1+1:=⟨f-1,by omega⟩;have HA3:Hid (a2+1≤n):=by show _≤_;omega
   go_wp2_with fail;have IK:=Jh (ikd_one w3 (3) 3 (q:=w3.heap.size) rfl);replace E:=Jh (E.out.step ((Below.refl _ _).alloc (Nat.le_refl _) (.cells #[.int .i64 3] 3)));replace O1:=Jh (O1.out.on ((Below.refl _ _).alloc (Nat.le_refl _) (.cells #[.int .i64 3] 3)));generalize hW:World.alloc w3 _=V5 at E O1 IK ⊢;clear hW;generalize w3.heap.size=q5 at IK ⊢;refine(word_is X E.out.bel E.out.pl.1 E.out.st IK.out (fun _=>HA3.out)).mono ?_;rintro en w5 ⟨s5,a5,e5,rfl,hk,hst,haft,hlt,hsz⟩;replace E:=Jh (E.out.call hk hst);replace O1:=Jh (own_kp O1.out hk hgw);rw[tkwK_one] at haft;have F5:=Jh haft;have L5:=Jh hlt;have Z5:=Jh hsz;clear hk hst haft hlt hsz IK;have hrw:w5.ownsRow w.heap.size 9 1 _ _ _:=O1.out;have hws:=E.out.kp.size;have hal:(acc.map bs9).length≤401:=by rw[List.length_map];exact C2.out
   go_wp2_with (at_builtin;refine wpList_append_own _ rfl _ _ 35 rfl w.heap.size 9 i0 (.string ⟨#[]⟩) 1 16 Tryz.underlying35 hi0 hz0 hz1 hz2 zcells1 (by decide) _ _ _ rfl (hrw.alloc _) ⟨w5.heap.size,0,none⟩ 1 1 [.string s5] rfl rfl (txt_new s5 _) (by intro u hu;simp at hu;subst hu;rfl) (by unfold maxLen;omega) (by omega) (by simp;omega) ?_;intro v6 w6 hown6 hgrow6 hnil6);have I2:Hid (∀R af ef,Aft (nxr e5 a5 (curAcc (L.map tok) f (acc++[s5]))) af ef R→Aft (nxr e a (curR (L.map tok))) af ef R):=fun R af ef h=>I1.out R af ef (by
    have e0:nxr 0 a2 (curAcc (L.map tok) (f+1) acc)=nxr 0 (a2+1) (fun b=>thn (tkw (L.map tok) b 3) fun x c=>curAcc (L.map tok) f (acc++[x]) c):=by unfold nxr;rw[if_pos rfl,if_pos rfl,curAcc_go hb3]
    rw[e0];exact F5.out.go h)
   have E6:=Jh ((E.out.step ((Below.refl _ _).alloc (Nat.le_refl _) (.cells #[.string s5] 9))).grown hgrow6 (fun k hk=>((World.ownsRow.lt hrw) k hk).1));have O6:Hid (OwnP w6 w.heap.size v6 ((acc++[s5]).map bs9)):=by
    show OwnP _ _ _ _;unfold OwnP;rw[row11_map,List.length_map,List.length_append];rw[List.length_map] at hown6;exact hown6
   clear hb3 hrw hown6 hgrow6 hnil6;go_roundw
   case rel=>exact⟨acc++[s5],f,a5,e5,E6.out,O6.out,fun h=>by have q:=L5.out h;rw[List.length_append];show _∧_∧_+1≤_;omega,by rw[List.length_append];show _+1≤_;omega,I2.out⟩
   case measure=>
    have m1:=msrR_is (n:=n) E6.out.st;have m0:=MS.out;first|rw[if_pos rfl] at m0|rw[if_pos trivial] at m0
    rw[m1,m0];split
    ·have q:=L5.out (by assumption);omega
    ·omega
def RtMk(w:World)(g:Nat)(A:Option Addr)(n c a e:Nat)(L:List Tok)(en:Ending)(w':World):Prop:=∃(T K:List ByteArray) (A1:Option Addr) (n1 c1:Nat) (A2:Option Addr) (n2 c2 a':Nat),en=.returned (.tuple #[.slice A1 n1 c1,.slice A2 n2 c2])∧RdP w' A1 n1 c1 (T.map bs9)∧(∀x,A1=some x→w.heap.size≤x.block)∧RdP w' A2 n2 c2 (K.map bs9)∧(∀x,A2=some x→w.heap.size≤x.block)∧Kp g none w w'∧StR w' g A n c a' e∧(e=0→rTgs L (L.length+1) [] [] a=((T,K),a')∧a'≤n)∧(e≠0→a'=a)
theorem word_yes{L:List Tk4}{e a a' e':Nat}{k:Int}{s:ByteArray}(hb:isWd (L.map tok) e a k=true)(h:Aft (nxr e a (fun a=>tkw (L.map tok) a k)) a' e' (· = s)):e'=e∧a'=a+1∧e=0∧∃t,(L.map tok)[a]?=some t∧t.1=k∧t.2=s:=by
 obtain⟨he,t,ht,hk⟩:=isWd_lt hb;subst he;have ht2:(L.map tok)[a]?=some (tok t):=by rw[List.getElem?_map,ht];rfl
 replace h:Aft (tkw (L.map tok) a k) a' e' (· = s):=by unfold nxr at h;rw[if_pos rfl] at h;exact h
 rw[tkw_some ht2 hk] at h;obtain⟨h1,h2,h3⟩:=h;exact⟨h2,h1,rfl,tok t,ht2,hk,h3⟩
def Sep15(v v':Value):Prop:=∀k,v.ownBlock=some k→v'.ownBlock≠some k
theorem rTgP_tag{L:List Tok}{f a:Nat}{T K:List ByteArray}{t:Tok}(h:L[a]?=some t)(hk:t.1=6):rTgP L (f+1) T K a=rTgP L f (T++[t.2]) K (a+1):=by rw[rTgP,h];dsimp only;rw[if_pos hk]
theorem rTgP_link{L:List Tok}{f a:Nat}{T K:List ByteArray}{t:Tok}(h:L[a]?=some t)(hk:t.1=7):rTgP L (f+1) T K a=rTgP L f T (K++[t.2]) (a+1):=by rw[rTgP,h];dsimp only;rw[if_neg (by omega),if_pos hk]
theorem rTgP_end{L:List Tok}{f a:Nat}{T K:List ByteArray}(h6:isWd L 0 a 6=false)(h7:isWd L 0 a 7=false):rTgP L f T K a=((T,K),a):=by
 cases f with
 | zero=>rfl
 | succ f=>
  unfold isWd knd at h6 h7;rw[rTgP];cases h:L[a]? with
  | none=>rfl
  | some t=>
   rw[h] at h6 h7;dsimp only
   rw[if_neg (of_decide_eq_false (by simpa using h6)),if_neg (of_decide_eq_false (by simpa using h7))]
structure MkI (L:List Tok) (n a e f a2:Nat) (T K:List ByteArray):Prop where
 run:e=0→rTgP L f T K a2=rTgP L (n+1) [] [] a∧a2≤n∧n<f+a2∧T.length+K.length≤a2
 halt:e≠0→a2=a
 few:T.length≤400∧K.length≤400
 szT:∀s∈T,s.size≤6000
 szK:∀s∈K,s.size≤6000
theorem mem_push{l:List ByteArray}{s:ByteArray}(h:∀x∈l,x.size≤6000)(hs:s.size≤6000):∀x∈l++[s],x.size≤6000:=fun x hx=>by
 rcases List.mem_append.1 hx with hx|hx
 ·exact h x hx
 ·rw[List.mem_singleton.1 hx];exact hs
theorem MkI.tag{L:List Tok}{n a f a2:Nat}{T K:List ByteArray}(h:MkI L n a 0 f a2 T K)(hn:n≤400){t:Tok}(ht:L[a2]?=some t)(hl:L.length=n)(hk:t.1=6)(hs:t.2.size≤6000):∃f2,MkI L n a 0 f2 (a2+1) (T++[t.2]) K:=by
 obtain⟨h1,h2,h3,h4⟩:=h.run rfl;have hlt:=(List.getElem?_eq_some_iff.1 ht).1;obtain⟨f,rfl⟩:∃f1,f=f1+1:=⟨f-1,by omega⟩;rw[rTgP_tag ht hk] at h1;refine⟨f,fun _=>⟨h1,by omega,by omega,by rw[List.length_append];show _+1+_≤_;omega⟩,fun q=>absurd rfl q,⟨by rw[List.length_append];show _+1≤_;omega,h.few.2⟩,mem_push h.szT hs,h.szK⟩
theorem MkI.link{L:List Tok}{n a f a2:Nat}{T K:List ByteArray}(h:MkI L n a 0 f a2 T K)(hn:n≤400){t:Tok}(ht:L[a2]?=some t)(hl:L.length=n)(hk:t.1=7)(hs:t.2.size≤6000):∃f2,MkI L n a 0 f2 (a2+1) T (K++[t.2]):=by
 obtain⟨h1,h2,h3,h4⟩:=h.run rfl;have hlt:=(List.getElem?_eq_some_iff.1 ht).1;obtain⟨f,rfl⟩:∃f1,f=f1+1:=⟨f-1,by omega⟩;rw[rTgP_link ht hk] at h1;refine⟨f,fun _=>⟨h1,by omega,by omega,by rw[List.length_append];show _+(_+1)≤_;omega⟩,fun q=>absurd rfl q,⟨h.few.1,by rw[List.length_append];show _+1≤_;omega⟩,h.szT,mem_push h.szK hs⟩
theorem own_le{w:World}{base:Nat}{v:Value}{L:List (List Nat)}(h:OwnP w base v L):∀k,v.ownBlock=some k→base≤k∧k<w.heap.size:=World.ownsRow.lt h
theorem marks_is{W0 w:World}{g B n c a e:Nat}{A:Option Addr}{L:List Tk4}{G:Nat→Nat→Int→Nat→Prop}(X:CX W0 B A n c L G)(hw:Below W0.heap.size W0 w)(hg:W0.heap.size≤g)(hs:StR w g A n c a e)(ha:e=0→a≤n):Calls Tryz.prog 99 #[.pointer (some ⟨g,0,none⟩)] w (RtMk w g A n c a e (L.map tok)):=by
 have E:=Jh (SR.start hw hg hs);have HA0:=Jh ha;have hgw:=Bk.lt hs;have HL400:=X.hn;have hlen:(L.map tok).length=n:=by rw[List.length_map];exact X.rd.len.symm
 have HLEN:=Jh hlen;obtain⟨i0,hi0,hz0,hz1,hz2⟩:=info_parts11 info_txt;have I0:Hid (MkI (L.map tok) n a e (n+1) a [] []):=⟨fun h=>⟨rfl,ha h,by have:=ha h;omega,Nat.zero_le _⟩,fun _=>rfl,⟨Nat.zero_le _,Nat.zero_le _⟩,fun s h=>(by cases h),fun s h=>(by cases h)⟩;clear hw hg hs ha hlen;go_enter Tryz.func99,Tryz.ntmps99;go_wp2_with fail;go_loopw [2,3] (fun v2 v3 wr=>∃(T K:List ByteArray) (f a2:Nat),SR W0 w wr g A n c a2 e [] [] []∧OwnP wr w.heap.size v2 (T.map bs9)∧OwnP wr w.heap.size v3 (K.map bs9)∧Sep15 v2 v3∧MkI (L.map tok) n a e f a2 T K) (fun _ _ wr=>msrR g n wr)
 case atStart=>exact⟨[],[],n+1,a,E.out,OwnP.start _ _,OwnP.start _ _,fun k h=>(by cases h),I0.out⟩
 case round=>
  obtain⟨T,K,f,a2,hE,hT,hK,hS,hI⟩:=hrel;replace E:=Jh hE;have OT:=Jh hT;have OK:=Jh hK;have SP:=Jh hS;replace I0:=Jh hI;clear hE hT hK hS hI;have MS:=Jh (msrR_is (n:=n) E.out.st);go_wp2_with fail;obtain⟨b3,hb3⟩:∃b,isWd (L.map tok) e a2 6=b:=⟨_,rfl⟩;refine(is_is X E.out.bel E.out.st 6 hb3).mono ?_;rintro en w3 ⟨rfl,hb⟩;replace E:=Jh (E.out.step hb);replace OT:=Jh (OT.out.on hb);replace OK:=Jh (OK.out.on hb);clear hb;cases b3 with
  | true=>
   have HA3:Hid (e=0→a2≤n):=fun h=>(I0.out.run h).2.1
   go_wp2_with fail;have IK:=Jh (ikd_one w3 (6) 3 (q:=w3.heap.size) rfl);replace E:=Jh (E.out.step ((Below.refl _ _).alloc (Nat.le_refl _) (.cells #[.int .i64 6] 3)));replace OT:=Jh (OT.out.on ((Below.refl _ _).alloc (Nat.le_refl _) (.cells #[.int .i64 6] 3)));replace OK:=Jh (OK.out.on ((Below.refl _ _).alloc (Nat.le_refl _) (.cells #[.int .i64 6] 3)));generalize hW:World.alloc w3 _=V6 at E OT OK IK ⊢;clear hW;generalize w3.heap.size=q6 at IK ⊢;refine(word_is X E.out.bel E.out.pl.1 E.out.st IK.out HA3.out).mono ?_;rintro en w6 ⟨s6,a6,e6,rfl,hk,hst,haft,hlt,hsz⟩;replace E:=Jh (E.out.call hk hst);replace OT:=Jh (own_kp OT.out hk hgw);replace OK:=Jh (own_kp OK.out hk hgw);rw[tkwK_one] at haft;have F6:=Jh haft;have L6:=Jh hlt;have Z6:=Jh hsz;clear hk hst haft hlt hsz IK;obtain⟨q1,q2,q3,t,ht,htk,hts⟩:=word_yes hb3 F6.out;rw[q1,q2] at E;have HE0:=Jh q3;obtain⟨f2,hI2⟩:∃f2,MkI (L.map tok) n a e f2 (a2+1) (T++[s6]) K:=by
    have h:=I0.out;rw[q3] at h ⊢;rw[← hts];exact h.tag HL400 ht HLEN.out htk (by rw[hts];exact Z6.out)
   have I2:=Jh hI2;have hws:=E.out.kp.size;have HRW:Hid (OwnP w6 w.heap.size _ _):=OT.out;have hrw:w6.ownsRow w.heap.size 9 1 _ _ _:=OT.out;have hal:(T.map bs9).length≤400:=by rw[List.length_map];exact I0.out.few.1
   clear ht htk hts hI2 q1 q2 q3;go_wp2_with (at_builtin;refine wpList_append_lies _ rfl _ _ 35 rfl w.heap.size 9 i0 (.string ⟨#[]⟩) 1 16 Tryz.underlying35 hi0 hz0 hz1 hz2 zcells1 (by decide) u2 _ _ rfl (hrw.alloc _) ⟨w6.heap.size,0,none⟩ 1 1 [.string s6] rfl rfl (txt_new s6 _) (by intro u hu;simp at hu;subst hu;rfl) (by decide) (by unfold maxLen;omega) (by omega) (by simp;omega) _ rfl ?_;intro g9 cap9 w9 hown9 hgrow9 hlie9 hlt9);have E9:=Jh ((E.out.step ((Below.refl _ _).alloc (Nat.le_refl _) (.cells #[.string s6] 9))).grown hgrow9 (fun k hk=>((World.ownsRow.lt hrw) k hk).1));have O9:Hid (OwnP w9 w.heap.size (.slice (some ⟨g9,0,none⟩) (T.length+1) cap9) ((T++[s6]).map bs9)):=by
    show OwnP _ _ _ _;unfold OwnP;rw[row11_map];simp only[List.length_map,List.length_append,List.length_singleton] at hown9 ⊢
    exact hown9
   have hoth:OwnP (w6.alloc (.cells #[.string s6] 9)) w.heap.size _ _:=OK.out.on ((Below.refl _ _).alloc (Nat.le_refl _) _);have PB:Hid (OwnP w9 w.heap.size _ _):=World.ownsRow.kept hoth hgrow9 (by
    rcases hq:Value.ownBlock u3 with _|k
    ·exact .inl rfl
    ·refine .inr (fun q=>?_)
     exact SP.out k q.symm hq)
   have S9:Hid (Sep15 (.slice (some ⟨g9,0,none⟩) (T.length+1) cap9) u3):=fun k hk=>by
    have hk2:g9=k:=by cases hk;rfl
    subst hk2;intro q;have hb9:=(own_le OK.out g9 q).2;rcases hlie9 with hl|hl
    ·exact SP.out g9 hl q
    ·simp at hl;omega
   clear hrw hown9 hgrow9 hlie9 hlt9 hoth;go_roundw
   case rel=>exact⟨T++[s6],K,f2,a2+1,E9.out,O9.out,PB.out,S9.out,I2.out⟩
   case measure=>
    have m1:=msrR_is (n:=n) E9.out.st;have m0:=MS.out;have q2:=(I2.out.run HE0.out).2.1;rw[if_pos HE0.out] at m0 m1;rw[m1,m0];omega
  | false=>
   go_wp2_with fail;obtain⟨b4,hb4⟩:∃b,isWd (L.map tok) e a2 7=b:=⟨_,rfl⟩;refine(is_is X E.out.bel E.out.st 7 hb4).mono ?_;rintro en w4 ⟨rfl,hb⟩;replace E:=Jh (E.out.step hb);replace OT:=Jh (OT.out.on hb);replace OK:=Jh (OK.out.on hb);clear hb;cases b4 with
   | true=>
    have HA3:Hid (e=0→a2≤n):=fun h=>(I0.out.run h).2.1
    go_wp2_with fail;have IK:=Jh (ikd_one w4 (7) 3 (q:=w4.heap.size) rfl);replace E:=Jh (E.out.step ((Below.refl _ _).alloc (Nat.le_refl _) (.cells #[.int .i64 7] 3)));replace OT:=Jh (OT.out.on ((Below.refl _ _).alloc (Nat.le_refl _) (.cells #[.int .i64 7] 3)));replace OK:=Jh (OK.out.on ((Below.refl _ _).alloc (Nat.le_refl _) (.cells #[.int .i64 7] 3)));generalize hW:World.alloc w4 _=V8 at E OT OK IK ⊢;clear hW;generalize w4.heap.size=q8 at IK ⊢;refine(word_is X E.out.bel E.out.pl.1 E.out.st IK.out HA3.out).mono ?_;rintro en w8 ⟨s8,a8,e8,rfl,hk,hst,haft,hlt,hsz⟩;replace E:=Jh (E.out.call hk hst);replace OT:=Jh (own_kp OT.out hk hgw);replace OK:=Jh (own_kp OK.out hk hgw);rw[tkwK_one] at haft;have F8:=Jh haft;have L8:=Jh hlt;have Z8:=Jh hsz;clear hk hst haft hlt hsz IK;obtain⟨q1,q2,q3,t,ht,htk,hts⟩:=word_yes hb4 F8.out;rw[q1,q2] at E;have HE0:=Jh q3;obtain⟨f2,hI2⟩:∃f2,MkI (L.map tok) n a e f2 (a2+1) T (K++[s8]):=by
     have h:=I0.out;rw[q3] at h ⊢;rw[← hts];exact h.link HL400 ht HLEN.out htk (by rw[hts];exact Z8.out)
    have I2:=Jh hI2;have hws:=E.out.kp.size;have HRW:Hid (OwnP w8 w.heap.size _ _):=OK.out;have hrw:w8.ownsRow w.heap.size 9 1 _ _ _:=OK.out;have hal:(K.map bs9).length≤400:=by rw[List.length_map];exact I0.out.few.2
    clear ht htk hts hI2 q1 q2 q3;go_wp2_with (at_builtin;refine wpList_append_lies _ rfl _ _ 35 rfl w.heap.size 9 i0 (.string ⟨#[]⟩) 1 16 Tryz.underlying35 hi0 hz0 hz1 hz2 zcells1 (by decide) u3 _ _ rfl (hrw.alloc _) ⟨w8.heap.size,0,none⟩ 1 1 [.string s8] rfl rfl (txt_new s8 _) (by intro u hu;simp at hu;subst hu;rfl) (by decide) (by unfold maxLen;omega) (by omega) (by simp;omega) _ rfl ?_;intro g9 cap9 w9 hown9 hgrow9 hlie9 hlt9);have E9:=Jh ((E.out.step ((Below.refl _ _).alloc (Nat.le_refl _) (.cells #[.string s8] 9))).grown hgrow9 (fun k hk=>((World.ownsRow.lt hrw) k hk).1));have O9:Hid (OwnP w9 w.heap.size (.slice (some ⟨g9,0,none⟩) (K.length+1) cap9) ((K++[s8]).map bs9)):=by
     show OwnP _ _ _ _;unfold OwnP;rw[row11_map];simp only[List.length_map,List.length_append,List.length_singleton] at hown9 ⊢
     exact hown9
    have hoth:OwnP (w8.alloc (.cells #[.string s8] 9)) w.heap.size _ _:=OT.out.on ((Below.refl _ _).alloc (Nat.le_refl _) _);have PB:Hid (OwnP w9 w.heap.size _ _):=World.ownsRow.kept hoth hgrow9 (by
     rcases hq:Value.ownBlock u2 with _|k
     ·exact .inl rfl
     ·refine .inr (fun q=>?_)
      exact SP.out k hq q.symm)
    have S9:Hid (Sep15 u2 (.slice (some ⟨g9,0,none⟩) (K.length+1) cap9)):=fun k hk=>by
     intro q;have hk2:g9=k:=by cases q;rfl
     subst hk2;have hb9:=(own_le OT.out g9 hk).2;rcases hlie9 with hl|hl
     ·exact SP.out g9 hk hl
     ·simp at hl;omega
    clear hrw hown9 hgrow9 hlie9 hlt9 hoth;go_roundw
    case rel=>exact⟨T,K++[s8],f2,a2+1,E9.out,PB.out,O9.out,S9.out,I2.out⟩
    case measure=>
     have m1:=msrR_is (n:=n) E9.out.st;have m0:=MS.out;have q2:=(I2.out.run HE0.out).2.1;rw[if_pos HE0.out] at m0 m1;rw[m1,m0];omega
   | false=>
    have HR:Hid (e=0→rTgs (L.map tok) ((L.map tok).length+1) [] [] a=((onceL T,onceL K),a2)∧a2≤n):=fun h=>by
     have q:=I0.out.run h;rw[h] at hb3 hb4;have q1:=q.1;rw[rTgP_end hb3 hb4] at q1;have q2:=rTg_once (L.map tok) (n+1) [] [] a;rw[← q1] at q2;rw[HLEN.out];exact⟨q2,q.2.1⟩
    have HH:Hid (e≠0→a2=a):=I0.out.halt;clear hb3 hb4;obtain⟨A1,c1,rfl,hr1⟩:=OT.out.rd;obtain⟨A2,c2,rfl,hr2⟩:=OK.out.rd;have hws:=E.out.kp.size;rw[List.length_map] at hr1 hr2;have R2:=Jh hr2;have R1:=Jh hr1;clear hr1 hr2;have hl1:T.length≤1000:=by have:=I0.out.few.1;omega
    have hl2:K.length≤1000:=by have:=I0.out.few.2;omega
    go_wp2_with fail;refine(once_is R1.out hl1 I0.out.szT).mono ?_;rintro en w5 ⟨A3,n3,c3,rfl,hr3,hlo3,hb⟩;replace E:=Jh (E.out.step hb);replace R2:=Jh (R2.out.on hb);have R3:=Jh hr3;have LO3:=Jh hlo3;have HS5:=Jh hb.size;clear hb hr3 hlo3;go_wp2_with fail;refine(once_is R2.out hl2 I0.out.szK).mono ?_;rintro en w6 ⟨A4,n4,c4,rfl,hr4,hlo4,hb⟩;replace E:=Jh (E.out.step hb);replace R3:=Jh (R3.out.on hb);have R4:=Jh hr4;have LO4:=Jh hlo4;clear hb hr4 hlo4;go_wp2_with fail;go_ret2
    exact⟨onceL T,onceL K,A3,n3,c3,A4,n4,c4,a2,rfl,R3.out,fun x hx=>by have:=LO3.out x hx;omega,R4.out,fun x hx=>by have:=LO4.out x hx;have:=HS5.out;omega,E.out.kp,E.out.st,HR.out,HH.out⟩
theorem aftT{α:Type}{L:List Tok}{e a a' e':Nat}{k:Int}{m1 m2:Nat→RH α}{P:α→Prop}(hb:isWd L e a k=true)(h:Aft (nxr e a m1) a' e' P):Aft (nxr e a (fun a=>if knd L a k=true then m1 a else m2 a)) a' e' P:=by
 unfold isWd at hb;rw[Bool.and_eq_true,decide_eq_true_iff] at hb;obtain⟨rfl,hk⟩:=hb;unfold nxr at h ⊢;rw[if_pos rfl] at h ⊢;dsimp only
 rw[if_pos hk];exact h
theorem aftF{α:Type}{L:List Tok}{e a a' e':Nat}{k:Int}{m1 m2:Nat→RH α}{P:α→Prop}(hb:isWd L e a k=false)(h:Aft (nxr e a m2) a' e' P):Aft (nxr e a (fun a=>if knd L a k=true then m1 a else m2 a)) a' e' P:=by
 unfold nxr at h ⊢;by_cases he:e=0
 ·unfold isWd at hb
  rw[decide_eq_true he,Bool.true_and] at hb;rw[if_pos he] at h ⊢;dsimp only
  rw[if_neg (by rw[hb];decide)];exact h
 ·rw[if_neg he] at h ⊢;exact h
theorem aftP{α β:Type}{e a a' e':Nat}{m:Nat→RH α}{P:α→Prop}{R:β→Prop}{g:α→β}(h:Aft (nxr e a m) a' e' P)(h2:∀v,P v→R (g v)):Aft (nxr e a (fun b=>thn (m b) fun x c=>.inr (g x,c))) a' e' R:=by
 rw[nxr_thn];rcases hr:nxr e a m with⟨z,p⟩|⟨x,b⟩
 ·rw[hr] at h;exact h
 ·rw[hr] at h;exact⟨h.1,h.2.1,h2 x h.2.2⟩
theorem aftT2{β:Type}{L:List Tok}{e a a' e':Nat}{P:Nat→Prop}{R:β→Prop}{g:Nat→β}(hb:isWd L e a 5=true)(h:Aft (nxr e a (mthR L)) a' e' P)(h2:∀v,P v→R (g v)):Aft (nxr e a (fun b=>thn (if knd L b 5=true then mthR L b else .inr (0,b)) fun x c=>.inr (g x,c))) a' e' R:=aftP (aftT hb h) h2
theorem aftF2{β:Type}{L:List Tok}{e a:Nat}{R:β→Prop}{g:Nat→β}(hb:isWd L e a 5=false)(h2:∀v,v=0→R (g v)):Aft (nxr e a (fun b=>thn (if knd L b 5=true then mthR L b else .inr (0,b)) fun x c=>.inr (g x,c))) a e R:=aftP (aftF hb (Aft.ret (R:=(· = 0)) rfl)) h2
theorem SR.far{W0 w0 w:World}{g n c a e:Nat}{A:Option Addr}{l:List (Option Addr×Nat×Nat×Nat)}{rs:List (Option Addr×Nat×Nat×List (List Nat)×Nat×Nat)}{bs:List (Nat×Array Value×TypeId)}{A1:Option Addr}{n1 c1 lo hi:Nat}{l1:List (List Nat)}(h:Hid (SR W0 w0 w g A n c a e l rs bs))(hm:(A1,n1,c1,l1,lo,hi)∈rs):∀x,A1=some x→w0.heap.size≤x.block:=fun x hx=>Nat.le_trans (h.out.row _ hm).2.2 ((h.out.row _ hm).2.1 x hx).1
theorem nofar{lo:Nat}:∀x:Addr,(none:Option Addr)=some x→lo≤x.block:=fun x h=>by cases h
theorem open_is {W0 w : World} {g B n c a e : Nat} {A : Option Addr} {L : List Tk4} {G : Nat → Nat → Int → Nat → Prop} (X : CX W0 B A n c L G) (hw : Below W0.heap.size W0 w) (hg : W0.heap.size ≤ g) (hs : StR w g A n c a e) (ha : e = 0 → a ≤ n) : Calls Tryz.prog 69 #[.pointer (some ⟨g, 0, none⟩)] w (RtX w g A n c a e (fun a => rOpen (L.map tok) (0, 0, 0) a)) := by
  have E := Jh (SR.start hw hg hs)
  have HA0 := Jh ha
  have hgw := Bk.lt hs
  obtain ⟨Z, hZ⟩ : ∃ Z, cD FD.zero DM.zero = Z := ⟨_, rfl⟩
  have HZ := Jh hZ
  clear hZ
  have RO : Hid ((fun a => rOpen (L.map tok) (0, 0, 0) a) = opnR (L.map tok)) := by show _ = _; funext a; exact rOpen_eq _ a
  rw [RO.out]
  clear RO hw hg hs ha
  go_enter Tryz.func69, Tryz.ntmps69
  go_wp2_with fail
  replace E := Jh (E.out.lay (cD FD.zero DM.zero) 45 (g1 := w.heap.size) rfl)
  generalize hW : World.alloc w _ = Y0 at ⊢
  have hW2 : w.alloc (.cells (cD FD.zero DM.zero) 45) = Y0 := hW
  rw [hW2, HZ.out] at E
  have HY : w.heap.size + 1 = Y0.heap.size := by rw [← hW2]; simp
  clear hW hW2
  have IK := Jh (ikd_one Y0 (2) 3 (q := w.heap.size + 1) HY)
  replace E := Jh (E.out.step ((Below.refl _ _).alloc (Nat.le_refl _) (.cells #[.int .i64 2] 3)))
  generalize hW : World.alloc Y0 _ = V1 at E IK ⊢
  clear hW
  generalize w.heap.size + 1 = q1 at IK ⊢
  refine (word_is X E.out.bel E.out.pl.1 E.out.st IK.out HA0.out).mono ?_; rintro en w1 ⟨s1, a1, e1, rfl, hk, hst, haft, hlt, hsz⟩
  replace E := Jh (E.out.call hk hst)
  rw [tkwK_one] at haft
  have F1 := Jh haft
  have L1 := Jh hlt
  have Z1 := Jh hsz
  clear hk hst haft hlt hsz IK
  obtain ⟨X0, hX⟩ : ∃ X, cD { FD.at_ 1 (0, 0, 0) with acc := s1 } DM.zero = X := ⟨_, rfl⟩
  have HR0 : Hid (Row27 X0) := by rw [← hX]; exact row27_cD _ _
  have HX0 := Jh hX
  have HBD : Hid (∀ w : World, (Instr.build 45 #[(0, .int .i64 1), (2, .string s1)]).run Tryz.prog w = .ok (.agg X0) w) := by rw [← hX]; exact bd_opn s1
  clear hX
  have hXs0 := HR0.out.size
  have hst := st_newL HR0.out
  go_wp2_with (refine wpList_build rfl 45 _ rfl #[(0, .int .i64 1), (2, .string s1)] (by go_simp) (.agg X0) (HBD.out _) ?_)
  clear hst hXs0
  have E0 : Hid (w.heap.size < w1.heap.size) := SR.lt E (g1 := w.heap.size) (xs := Z) (t := 45) (by simp)
  replace E := Jh (E.out.lay X0 45 (g1 := w1.heap.size) rfl)
  generalize hW : World.alloc w1 _ = V0 at E ⊢
  clear hW
  have HNE : Hid (w.heap.size ≠ w1.heap.size) := by have := E0.out; show _ ≠ _; omega
  clear E0
  generalize w1.heap.size = g3 at E HNE ⊢
  have HG3 : Hid (w.heap.size ≤ g3) := by have := E.out.kp.size; exact (E.out.blk _ List.mem_cons_self).2
  obtain ⟨b2, hb2⟩ : ∃ b, isWd (L.map tok) e1 a1 3 = b := ⟨_, rfl⟩
  refine (is_is X E.out.bel E.out.st 3 hb2).mono ?_; rintro en w2 ⟨rfl, hb⟩
  replace E := Jh (E.out.step hb)
  clear hb
  cases b2 with
  | true =>
    go_wp2_with fail
    have hws := E.out.kp.size
    have HLO0 : Hid (g3 < w2.heap.size) := SR.lt E (g1 := g3) (xs := X0) (t := 45) (by simp)
    have HLZ0 : Hid (w.heap.size < w2.heap.size) := SR.lt E (g1 := w.heap.size) (xs := Z) (t := 45) (by simp)
    refine (currencies_is X E.out.bel E.out.pl.1 E.out.st (fun h => (L1.out h).2.2)).mono ?_; rintro en w4 ⟨cs, A1, n1, c1, a4, e4, rfl, hr, hlo, hk, hst, haft, hlt⟩
    replace E := Jh ((E.out.call hk hst).read hr _ hlo hws)
    have F4 := Jh haft
    have L4 := Jh hlt
    clear hk hst haft hlt hr hlo hws
    obtain ⟨cv6, hcv6⟩ : ∃ v, X0[6]? = some v := ⟨_, Array.getElem?_eq_getElem (by rw [HR0.out.size]; decide)⟩
    have c6 := SR.atv E (g1 := g3) (xs := X0) (t := 45) (by simp) 6 hcv6
    have cf6 := SR.fz E (g1 := g3) (xs := X0) (t := 45) (by simp) 6
    have clt := SR.lt E (g1 := g3) (xs := X0) (t := 45) (by simp)
    go_wp2_with fail
    clear c6 cf6 clt
    replace E := Jh (E.out.store (g1 := g3) (xs := X0) (t := 45) (by simp) HR0.out.cl (fun q hq => by simp at hq; subst hq; exact .inl HLO0.out) [(w.heap.size, Z, 45)] (fun q hq => by simp at hq; subst hq; exact ⟨by simp, HNE.out⟩) 6 (.slice A1 n1 c1))
    obtain ⟨X1, hX⟩ : ∃ X, X0.setIfInBounds 6 (.slice A1 n1 c1) = X := ⟨_, rfl⟩
    have HR1 : Hid (Row27 X1) := by rw [← hX]; exact HR0.out.set rfl (noLimb_slice _ _ _)
    have HX1 := Jh hX
    rw [hX] at E
    clear hX
    generalize hW : World.setCell w4 _ _ = U1 at E ⊢
    clear hW
    obtain ⟨b5, hb5⟩ : ∃ b, isWd (L.map tok) e4 a4 5 = b := ⟨_, rfl⟩
    refine (is_is X E.out.bel E.out.st 5 hb5).mono ?_; rintro en w5 ⟨rfl, hb⟩
    replace E := Jh (E.out.step hb)
    clear hb
    cases b5 with
    | true =>
      go_wp2_with fail
      refine (method_is X E.out.bel E.out.pl.1 E.out.st (fun h => (L4.out h).2)).mono ?_; rintro en w6 ⟨x6, a6, e6, rfl, hk, hst, haft, hlt⟩
      replace E := Jh (E.out.call hk hst)
      have F6 := Jh haft
      have L6 := Jh hlt
      clear hk hst haft hlt
      obtain ⟨cv7, hcv7⟩ : ∃ v, X1[7]? = some v := ⟨_, Array.getElem?_eq_getElem (by rw [HR1.out.size]; decide)⟩
      have c7 := SR.atv E (g1 := g3) (xs := X1) (t := 45) (by simp) 7 hcv7
      have cf7 := SR.fz E (g1 := g3) (xs := X1) (t := 45) (by simp) 7
      have clt := SR.lt E (g1 := g3) (xs := X1) (t := 45) (by simp)
      go_upto_region 6 with fail
      clear c7 cf7 clt
      replace E := Jh (E.out.store (g1 := g3) (xs := X1) (t := 45) (by simp) HR1.out.cl (fun q hq => by simp at hq; subst hq; exact .inl HLO0.out) [(w.heap.size, Z, 45)] (fun q hq => by simp at hq; subst hq; exact ⟨by simp, HNE.out⟩) 7 (.int .i64 x6))
      obtain ⟨X2, hX⟩ : ∃ X, X1.setIfInBounds 7 (.int .i64 x6) = X := ⟨_, rfl⟩
      have HR2 : Hid (Row27 X2) := by rw [← hX]; exact HR1.out.set rfl (noLimb_int _)
      have HX2 := Jh hX
      rw [hX] at E
      clear hX
      generalize hW : World.setCell w6 _ _ = U2 at E ⊢
      clear hW
      have B3 := SR.bk E (g1 := g3) (xs := X2) (t := 45) (by simp)
      have BZ := SR.bk E (g1 := w.heap.size) (xs := Z) (t := 45) (by simp)
      have hXs := HR2.out.size
      have hst := st_rowX HR2.out (by rw [← HZ.out]; rfl) BZ
      refine wp_region_lit ?_
      refine wpList_load_row rfl 45 (.tmp 3) rfl g3 rfl 45 X2 (0, 0) _ B3 Tryz.underlying45 rfl (by rw [dir_size, HR2.out.size]) ?_
      go_wp2_with fail
      have hrow := setRow_heap U2 w.heap.size _ X2 _ _ BZ
      have EF := Jh (E.out.setRow (g1 := w.heap.size) (xs := Z) (t := 45) (by simp) (by rw [← HZ.out]; exact (row27_cD _ _).cl) (fun q hq => by simp at hq; subst hq; exact .inl HLZ0.out) [] (fun q hq => by cases hq) X2)
      exact bodyPost_ret (v := .agg X2) (results_cell_row Tryz.results69 _ _ _ 45 X2 (0, 0) _ rfl hrow Tryz.underlying45 rfl (by rw [dir_size, HR2.out.size])) rfl ⟨X2, { FD.at_ 1 (0, 0, 0) with acc := s1, curs := cs, book := x6.toNat }, { DM.zero with Ac := A1, nc := n1, cc := c1 }, a6, e6, rfl, HR2.out, EF.out.kp, EF.out.st, (fun h => by
              obtain ⟨mm, -, hm⟩ := Aft.ok (h ▸ F6.out)
              refine ⟨?_, ?_, (L6.out h).2⟩
              · rw [← HX2.out, hm]; rw [← HX1.out]; rw [← HX0.out]; rfl
              · have q := L6.out h; have q2 := L4.out q.1; exact (L1.out q2.1).1), ⟨num_zero _ _, num_zero _ _, SR.rd EF List.mem_cons_self, rdP_nil _, rdP_nil _⟩, ⟨SR.far EF List.mem_cons_self, nofar, nofar⟩, (F1.out.go ((aftT hb2 F4.out).go (aftT2 hb5 F6.out (fun mm hm => by subst hm; rfl))))⟩
    | false =>
      go_upto_region 6 with fail
      have B3 := SR.bk E (g1 := g3) (xs := X1) (t := 45) (by simp)
      have BZ := SR.bk E (g1 := w.heap.size) (xs := Z) (t := 45) (by simp)
      have hXs := HR1.out.size
      have hst := st_rowX HR1.out (by rw [← HZ.out]; rfl) BZ
      refine wp_region_lit ?_
      refine wpList_load_row rfl 45 (.tmp 3) rfl g3 rfl 45 X1 (0, 0) _ B3 Tryz.underlying45 rfl (by rw [dir_size, HR1.out.size]) ?_
      go_wp2_with fail
      have hrow := setRow_heap w5 w.heap.size _ X1 _ _ BZ
      have EF := Jh (E.out.setRow (g1 := w.heap.size) (xs := Z) (t := 45) (by simp) (by rw [← HZ.out]; exact (row27_cD _ _).cl) (fun q hq => by simp at hq; subst hq; exact .inl HLZ0.out) [] (fun q hq => by cases hq) X1)
      exact bodyPost_ret (v := .agg X1) (results_cell_row Tryz.results69 _ _ _ 45 X1 (0, 0) _ rfl hrow Tryz.underlying45 rfl (by rw [dir_size, HR1.out.size])) rfl ⟨X1, { FD.at_ 1 (0, 0, 0) with acc := s1, curs := cs, book := 0 }, { DM.zero with Ac := A1, nc := n1, cc := c1 }, a4, e4, rfl, HR1.out, EF.out.kp, EF.out.st, (fun h => ⟨by rw [← HX1.out]; rw [← HX0.out]; rfl, (L1.out (L4.out h).1).1, (L4.out h).2⟩), ⟨num_zero _ _, num_zero _ _, SR.rd EF List.mem_cons_self, rdP_nil _, rdP_nil _⟩, ⟨SR.far EF List.mem_cons_self, nofar, nofar⟩, (F1.out.go ((aftT hb2 F4.out).go (aftF2 hb5 (fun mm hm => by subst hm; rfl))))⟩
  | false =>
    go_wp2_with fail
    obtain ⟨b3, hb3⟩ : ∃ b, isWd (L.map tok) e1 a1 5 = b := ⟨_, rfl⟩
    refine (is_is X E.out.bel E.out.st 5 hb3).mono ?_; rintro en w3 ⟨rfl, hb⟩
    replace E := Jh (E.out.step hb)
    clear hb
    cases b3 with
    | true =>
      go_wp2_with fail
      refine (method_is X E.out.bel E.out.pl.1 E.out.st (fun h => (L1.out h).2.2)).mono ?_; rintro en w4 ⟨x4, a4, e4, rfl, hk, hst, haft, hlt⟩
      replace E := Jh (E.out.call hk hst)
      have F4 := Jh haft
      have L4 := Jh hlt
      clear hk hst haft hlt
      obtain ⟨cv7, hcv7⟩ : ∃ v, X0[7]? = some v := ⟨_, Array.getElem?_eq_getElem (by rw [HR0.out.size]; decide)⟩
      have c7 := SR.atv E (g1 := g3) (xs := X0) (t := 45) (by simp) 7 hcv7
      have cf7 := SR.fz E (g1 := g3) (xs := X0) (t := 45) (by simp) 7
      have clt := SR.lt E (g1 := g3) (xs := X0) (t := 45) (by simp)
      go_upto_region 6 with fail
      clear c7 cf7 clt
      replace E := Jh (E.out.store (g1 := g3) (xs := X0) (t := 45) (by simp) HR0.out.cl (fun q hq => by cases hq) [(w.heap.size, Z, 45)] (fun q hq => by simp at hq; subst hq; exact ⟨by simp, HNE.out⟩) 7 (.int .i64 x4))
      obtain ⟨X1, hX⟩ : ∃ X, X0.setIfInBounds 7 (.int .i64 x4) = X := ⟨_, rfl⟩
      have HR1 : Hid (Row27 X1) := by rw [← hX]; exact HR0.out.set rfl (noLimb_int _)
      have HX1 := Jh hX
      rw [hX] at E
      clear hX
      generalize hW : World.setCell w4 _ _ = U1 at E ⊢
      clear hW
      have B3 := SR.bk E (g1 := g3) (xs := X1) (t := 45) (by simp)
      have BZ := SR.bk E (g1 := w.heap.size) (xs := Z) (t := 45) (by simp)
      have hXs := HR1.out.size
      have hst := st_rowX HR1.out (by rw [← HZ.out]; rfl) BZ
      refine wp_region_lit ?_
      refine wpList_load_row rfl 45 (.tmp 3) rfl g3 rfl 45 X1 (0, 0) _ B3 Tryz.underlying45 rfl (by rw [dir_size, HR1.out.size]) ?_
      go_wp2_with fail
      have hrow := setRow_heap U1 w.heap.size _ X1 _ _ BZ
      have EF := Jh (E.out.setRow (g1 := w.heap.size) (xs := Z) (t := 45) (by simp) (by rw [← HZ.out]; exact (row27_cD _ _).cl) (fun q hq => by cases hq) [] (fun q hq => by cases hq) X1)
      exact bodyPost_ret (v := .agg X1) (results_cell_row Tryz.results69 _ _ _ 45 X1 (0, 0) _ rfl hrow Tryz.underlying45 rfl (by rw [dir_size, HR1.out.size])) rfl ⟨X1, { FD.at_ 1 (0, 0, 0) with acc := s1, curs := [], book := x4.toNat }, DM.zero, a4, e4, rfl, HR1.out, EF.out.kp, EF.out.st, (fun h => by
              obtain ⟨mm, -, hm⟩ := Aft.ok (h ▸ F4.out)
              refine ⟨?_, ?_, (L4.out h).2⟩
              · rw [← HX1.out, hm]; rw [← HX0.out]; rfl
              · have q := L4.out h; exact (L1.out q.1).1), ⟨num_zero _ _, num_zero _ _, rdP_nil _, rdP_nil _, rdP_nil _⟩, ⟨nofar, nofar, nofar⟩, (F1.out.go ((aftF hb2 (Aft.ret (R := (· = ([] : List ByteArray))) rfl)).go (aftT2 hb3 F4.out (fun mm hm => by subst hm; rfl))))⟩
    | false =>
      go_upto_region 6 with fail
      have B3 := SR.bk E (g1 := g3) (xs := X0) (t := 45) (by simp)
      have BZ := SR.bk E (g1 := w.heap.size) (xs := Z) (t := 45) (by simp)
      have hXs := HR0.out.size
      have hst := st_rowX HR0.out (by rw [← HZ.out]; rfl) BZ
      refine wp_region_lit ?_
      refine wpList_load_row rfl 45 (.tmp 3) rfl g3 rfl 45 X0 (0, 0) _ B3 Tryz.underlying45 rfl (by rw [dir_size, HR0.out.size]) ?_
      go_wp2_with fail
      have hrow := setRow_heap w3 w.heap.size _ X0 _ _ BZ
      have EF := Jh (E.out.setRow (g1 := w.heap.size) (xs := Z) (t := 45) (by simp) (by rw [← HZ.out]; exact (row27_cD _ _).cl) (fun q hq => by cases hq) [] (fun q hq => by cases hq) X0)
      exact bodyPost_ret (v := .agg X0) (results_cell_row Tryz.results69 _ _ _ 45 X0 (0, 0) _ rfl hrow Tryz.underlying45 rfl (by rw [dir_size, HR0.out.size])) rfl ⟨X0, { FD.at_ 1 (0, 0, 0) with acc := s1, curs := [], book := 0 }, DM.zero, a1, e1, rfl, HR0.out, EF.out.kp, EF.out.st, (fun h => ⟨by rw [← HX0.out]; rfl, (L1.out h).1, (L1.out h).2.2⟩), ⟨num_zero _ _, num_zero _ _, rdP_nil _, rdP_nil _, rdP_nil _⟩, ⟨nofar, nofar, nofar⟩, (F1.out.go ((aftF hb2 (Aft.ret (R := (· = ([] : List ByteArray))) rfl)).go (aftF2 hb3 (fun mm hm => by subst hm; rfl))))⟩
theorem get_set15{X:Array Value}{j:Nat}{y:Value}(h:Row27 X)(hj:j<27):(X.setIfInBounds j y)[j]?=some y:=by
 rw[Array.getElem?_setIfInBounds_self_of_lt (by rw[h.size];exact hj)]
def tolO(L:List Tok)(a:Nat):RH (Option (Int×Nat)):=if isW L a [126]=true then thn (tolR L (a+1)) fun t b=>.inr (some t,b) else .inr (none,a)
theorem psW_yes{L:List Tk4}{e a:Nat}{k:Int}{x:List Nat}(h:psW (L.map tok) e a k x=true):e=0∧a<L.length:=by
 unfold psW at h;rw[Bool.and_eq_true,Bool.and_eq_true,decide_eq_true_iff] at h;obtain⟨t,ht,-⟩:=knd_some h.2.1;have:=(List.getElem?_eq_some_iff.1 ht).1;rw[List.length_map] at this;exact⟨h.1,this⟩
theorem tolO_T{L:List Tok}{e a a' e':Nat}{t:Int×Nat}(hb:psW L e a 10 [126]=true)(h:Aft (nxr e (a+1) (tolR L)) a' e' (· = t)):Aft (nxr e a (tolO L)) a' e' (· = some t):=by
 have he:e=0:=by
  by_cases he:e=0
  ·exact he
  ·rw[psW_bad he] at hb;cases hb
 subst he;rw[psW_sign] at hb;have e1:nxr 0 a (tolO L)=thn (nxr 0 (a+1) (tolR L)) fun t b=>.inr (some t,b):=by
  unfold nxr tolO;rw[if_pos rfl,if_pos rfl,if_pos hb]
 rw[e1];rcases hr:nxr 0 (a+1) (tolR L) with⟨z,p⟩|⟨x,b⟩
 ·rw[hr] at h;exact h
 ·rw[hr] at h;exact⟨h.1,h.2.1,congrArg some h.2.2⟩
theorem tolO_F{L:List Tok}{e a:Nat}(hb:psW L e a 10 [126]=false):Aft (nxr e a (tolO L)) a e (· = none):=by
 unfold nxr;by_cases he:e=0
 ·subst he
  rw[psW_sign] at hb;rw[if_pos rfl];unfold tolO;rw[if_neg (by rw[hb];decide)];exact⟨rfl,rfl,rfl⟩
 ·rw[if_neg he];exact⟨rfl,rfl,he⟩
theorem balance_is{W0 w:World}{g B n c a e:Nat}{A:Option Addr}{L:List Tk4}{G:Nat→Nat→Int→Nat→Prop}(X:CX W0 B A n c L G)(hw:Below W0.heap.size W0 w)(hg:W0.heap.size≤g)(hs:StR w g A n c a e)(ha:e=0→a≤n):Calls Tryz.prog 72 #[.pointer (some ⟨g,0,none⟩)] w (RtX w g A n c a e (fun a=>rBal (L.map tok) (0,0,0) a)):=by
 have E:=Jh (SR.start hw hg hs);have HA0:=Jh ha;have hgw:=Bk.lt hs;obtain⟨Z,hZ⟩:∃Z,cD FD.zero DM.zero=Z:=⟨_,rfl⟩;have HZ:=Jh hZ;clear hZ;have hlen:=X.rd.len;have HLEN:=Jh hlen;have RO:Hid ((fun a=>rBal (L.map tok) (0,0,0) a)=balR (L.map tok)):=by show _=_;funext a;exact rBal_eq _ a
 rw[RO.out];clear RO hw hg hs ha hlen;go_enter Tryz.func72,Tryz.ntmps72;go_wp2_with fail;replace E:=Jh (E.out.lay (cD FD.zero DM.zero) 45 (g1:=w.heap.size) rfl);generalize hW:World.alloc w _=Y0 at ⊢;have hW2:w.alloc (.cells (cD FD.zero DM.zero) 45)=Y0:=hW;rw[hW2,HZ.out] at E;have HY:w.heap.size+1=Y0.heap.size:=by rw[← hW2];simp
 clear hW hW2;have IK:=Jh (ikd_one Y0 (2) 3 (q:=w.heap.size+1) HY);replace E:=Jh (E.out.step ((Below.refl _ _).alloc (Nat.le_refl _) (.cells #[.int .i64 2] 3)));generalize hW:World.alloc Y0 _=V1 at E IK ⊢;clear hW;generalize w.heap.size+1=q1 at IK ⊢;refine(word_is X E.out.bel E.out.pl.1 E.out.st IK.out HA0.out).mono ?_;rintro en w1 ⟨s1,a1,e1,rfl,hk,hst,haft,hlt,hsz⟩;replace E:=Jh (E.out.call hk hst);rw[tkwK_one] at haft;have F1:=Jh haft;have L1:=Jh hlt;have Z1:=Jh hsz;clear hk hst haft hlt hsz IK;obtain⟨X0,hX⟩:∃X,cD { FD.at_ 6 (0,0,0) with acc:=s1 } DM.zero=X:=⟨_,rfl⟩;have HR0:Hid (Row27 X0):=by rw[← hX];exact row27_cD _ _
 have HX0:=Jh hX;have HBD:Hid (∀w:World,(Instr.build 45 #[(0,.int .i64 6),(2,.string s1)]).run Tryz.prog w=.ok (.agg X0) w):=by rw[← hX];exact bd_bal s1
 clear hX;have hXs0:=HR0.out.size;have hst:=st_newL HR0.out;go_wp2_with (refine wpList_build rfl 45 _ rfl #[(0,.int .i64 6),(2,.string s1)] (by go_simp) (.agg X0) (HBD.out _) ?_);clear hst hXs0;have E0:Hid (w.heap.size<w1.heap.size):=SR.lt E (g1:=w.heap.size) (xs:=Z) (t:=45) (by simp);replace E:=Jh (E.out.lay X0 45 (g1:=w1.heap.size) rfl);generalize hW:World.alloc w1 _=V0 at E ⊢;clear hW;have HNE:Hid (w.heap.size≠w1.heap.size):=by have:=E0.out;show _≠_;omega
 clear E0;generalize w1.heap.size=g3 at E HNE ⊢;have HG3:Hid (w.heap.size≤g3):=by have:=E.out.kp.size;exact(E.out.blk _ List.mem_cons_self).2
 refine(reckonD_is X E.out.bel E.out.pl.1 E.out.st (fun h=>(L1.out h).2.2)).mono ?_;rintro en w2 ⟨i2,k2,A2,n2,c2,a2,e2,rfl,hnum,hk,hst,haft,hlt⟩;replace E:=Jh ((E.out.call hk hst).push hnum);have F2:=Jh haft;have L2:=Jh hlt;clear hnum hk hst haft hlt;obtain⟨cv8,hcv8⟩:∃v,X0[8]?=some v:=⟨_,Array.getElem?_eq_getElem (by rw[HR0.out.size];decide)⟩;have c8:=SR.atv E (g1:=g3) (xs:=X0) (t:=45) (by simp) 8 hcv8;have cf8:=SR.fz E (g1:=g3) (xs:=X0) (t:=45) (by simp) 8;obtain⟨cv9,hcv9⟩:∃v,X0[9]?=some v:=⟨_,Array.getElem?_eq_getElem (by rw[HR0.out.size];decide)⟩;have c9:=SR.atv E (g1:=g3) (xs:=X0) (t:=45) (by simp) 9 hcv9;have cf9:=SR.fz E (g1:=g3) (xs:=X0) (t:=45) (by simp) 9;obtain⟨cv10,hcv10⟩:∃v,X0[10]?=some v:=⟨_,Array.getElem?_eq_getElem (by rw[HR0.out.size];decide)⟩;have c10:=SR.atv E (g1:=g3) (xs:=X0) (t:=45) (by simp) 10 hcv10;have cf10:=SR.fz E (g1:=g3) (xs:=X0) (t:=45) (by simp) 10;have clt:=SR.lt E (g1:=g3) (xs:=X0) (t:=45) (by simp);go_wp2_with fail;clear c8 cf8 c9 cf9 c10 cf10 clt;replace E:=Jh (E.out.store (g1:=g3) (xs:=X0) (t:=45) (by simp) HR0.out.cl (fun q hq=>by cases hq) [(w.heap.size,Z,45)] (fun q hq=>by simp at hq;subst hq;exact⟨by simp,HNE.out⟩) 8 (.bool (ngB i2)));obtain⟨X1,hX⟩:∃X,X0.setIfInBounds 8 (.bool (ngB i2))=X:=⟨_,rfl⟩;have HR1:Hid (Row27 X1):=by rw[← hX];exact HR0.out.set rfl (noLimb_bool _)
 have HX1:=Jh hX;rw[hX] at E;clear hX;replace E:=Jh (E.out.store (g1:=g3) (xs:=X1) (t:=45) (by simp) HR1.out.cl (fun q hq=>by cases hq) [(w.heap.size,Z,45)] (fun q hq=>by simp at hq;subst hq;exact⟨by simp,HNE.out⟩) 9 (.slice A2 n2 c2));obtain⟨X2,hX⟩:∃X,X1.setIfInBounds 9 (.slice A2 n2 c2)=X:=⟨_,rfl⟩;have HR2:Hid (Row27 X2):=by rw[← hX];exact HR1.out.set rfl (noLimb_slice _ _ _)
 have HX2:=Jh hX;rw[hX] at E;clear hX;replace E:=Jh (E.out.store (g1:=g3) (xs:=X2) (t:=45) (by simp) HR2.out.cl (fun q hq=>by cases hq) [(w.heap.size,Z,45)] (fun q hq=>by simp at hq;subst hq;exact⟨by simp,HNE.out⟩) 10 (.int .i64 (k2:Int)));obtain⟨X3,hX⟩:∃X,X2.setIfInBounds 10 (.int .i64 (k2:Int))=X:=⟨_,rfl⟩;have HR3:Hid (Row27 X3):=by rw[← hX];exact HR2.out.set rfl (noLimb_int _)
 have HX3:=Jh hX;rw[hX] at E;clear hX;generalize hW:World.setCell (World.setCell (World.setCell w2 _ _) _ _) _ _=U1 at E ⊢;clear hW;obtain⟨b3,hb3⟩:∃b,psW (L.map tok) e2 a2 10 [126]=b:=⟨_,rfl⟩;obtain⟨a3,ha3⟩:∃a,(if b3=true then a2+1 else a2)=a:=⟨_,rfl⟩;refine(pass_is X E.out.bel E.out.pl.1 E.out.st 10 ⟨#[126]⟩ rfl hb3 ha3).mono ?_;rintro en w3 ⟨rfl,hk,hst⟩;replace E:=Jh (E.out.call hk hst);clear hk hst;cases b3 with
 | true=>
  rw[if_pos rfl] at ha3;subst ha3;obtain⟨cv12,hcv12⟩:∃v,X3[12]?=some v:=⟨_,Array.getElem?_eq_getElem (by rw[HR3.out.size];decide)⟩;have c12:=SR.atv E (g1:=g3) (xs:=X3) (t:=45) (by simp) 12 hcv12;have cf12:=SR.fz E (g1:=g3) (xs:=X3) (t:=45) (by simp) 12;have clt:=SR.lt E (g1:=g3) (xs:=X3) (t:=45) (by simp);go_upto_region 4 with fail
  clear c12 cf12 clt;replace E:=Jh (E.out.store (g1:=g3) (xs:=X3) (t:=45) (by simp) HR3.out.cl (fun q hq=>by cases hq) [(w.heap.size,Z,45)] (fun q hq=>by simp at hq;subst hq;exact⟨by simp,HNE.out⟩) 12 (.bool true));obtain⟨X4,hX⟩:∃X,X3.setIfInBounds 12 (.bool true)=X:=⟨_,rfl⟩;have HR4:Hid (Row27 X4):=by rw[← hX];exact HR3.out.set rfl (noLimb_bool _)
  have HX4:=Jh hX;rw[hX] at E;clear hX;generalize hW:World.setCell w3 _ _=U2 at E ⊢;clear hW;have c12:=SR.atv E (g1:=g3) (xs:=X4) (t:=45) (by simp) 12 (by rw[← HX4.out];exact get_set15 HR3.out (by decide));have clt:=SR.lt E (g1:=g3) (xs:=X4) (t:=45) (by simp);go_wp2_with fail;clear c12 clt;obtain⟨hz2,hl2⟩:=psW_yes hb3;have HA3:Hid (e2=0→a2+1≤n):=fun _=>by have:=HLEN.out;omega
  clear hz2 hl2;refine(tolerance_is X E.out.bel E.out.pl.1 E.out.st HA3.out).mono ?_;rintro en w4 ⟨i4,k4,A4,n4,c4,a4,e4,rfl,hnum,hk,hst,haft,hlt⟩;replace E:=Jh ((E.out.call hk hst).push hnum);have F4:=Jh (tolO_T hb3 haft);have L4:=Jh hlt;clear hnum hk hst haft hlt hb3;obtain⟨cv13,hcv13⟩:∃v,X4[13]?=some v:=⟨_,Array.getElem?_eq_getElem (by rw[HR4.out.size];decide)⟩;have c13:=SR.atv E (g1:=g3) (xs:=X4) (t:=45) (by simp) 13 hcv13;have cf13:=SR.fz E (g1:=g3) (xs:=X4) (t:=45) (by simp) 13;obtain⟨cv14,hcv14⟩:∃v,X4[14]?=some v:=⟨_,Array.getElem?_eq_getElem (by rw[HR4.out.size];decide)⟩;have c14:=SR.atv E (g1:=g3) (xs:=X4) (t:=45) (by simp) 14 hcv14;have cf14:=SR.fz E (g1:=g3) (xs:=X4) (t:=45) (by simp) 14;obtain⟨cv15,hcv15⟩:∃v,X4[15]?=some v:=⟨_,Array.getElem?_eq_getElem (by rw[HR4.out.size];decide)⟩;have c15:=SR.atv E (g1:=g3) (xs:=X4) (t:=45) (by simp) 15 hcv15;have cf15:=SR.fz E (g1:=g3) (xs:=X4) (t:=45) (by simp) 15;have clt:=SR.lt E (g1:=g3) (xs:=X4) (t:=45) (by simp);go_wp2_with fail;clear c13 cf13 c14 cf14 c15 cf15 clt;replace E:=Jh (E.out.store (g1:=g3) (xs:=X4) (t:=45) (by simp) HR4.out.cl (fun q hq=>by cases hq) [(w.heap.size,Z,45)] (fun q hq=>by simp at hq;subst hq;exact⟨by simp,HNE.out⟩) 13 (.bool (ngB i4)));obtain⟨X5,hX⟩:∃X,X4.setIfInBounds 13 (.bool (ngB i4))=X:=⟨_,rfl⟩;have HR5:Hid (Row27 X5):=by rw[← hX];exact HR4.out.set rfl (noLimb_bool _)
  have HX5:=Jh hX;rw[hX] at E;clear hX;replace E:=Jh (E.out.store (g1:=g3) (xs:=X5) (t:=45) (by simp) HR5.out.cl (fun q hq=>by cases hq) [(w.heap.size,Z,45)] (fun q hq=>by simp at hq;subst hq;exact⟨by simp,HNE.out⟩) 14 (.slice A4 n4 c4));obtain⟨X6,hX⟩:∃X,X5.setIfInBounds 14 (.slice A4 n4 c4)=X:=⟨_,rfl⟩;have HR6:Hid (Row27 X6):=by rw[← hX];exact HR5.out.set rfl (noLimb_slice _ _ _)
  have HX6:=Jh hX;rw[hX] at E;clear hX;replace E:=Jh (E.out.store (g1:=g3) (xs:=X6) (t:=45) (by simp) HR6.out.cl (fun q hq=>by cases hq) [(w.heap.size,Z,45)] (fun q hq=>by simp at hq;subst hq;exact⟨by simp,HNE.out⟩) 15 (.int .i64 (k4:Int)));obtain⟨X7,hX⟩:∃X,X6.setIfInBounds 15 (.int .i64 (k4:Int))=X:=⟨_,rfl⟩;have HR7:Hid (Row27 X7):=by rw[← hX];exact HR6.out.set rfl (noLimb_int _)
  have HX7:=Jh hX;rw[hX] at E;clear hX;generalize hW:World.setCell (World.setCell (World.setCell w4 _ _) _ _) _ _=U3 at E ⊢;have HY:w4.heap.size=U3.heap.size:=by rw[← hW];simp
  clear hW;have IK:=Jh (ikd_one U3 (3) 3 (q:=w4.heap.size) HY);replace E:=Jh (E.out.step ((Below.refl _ _).alloc (Nat.le_refl _) (.cells #[.int .i64 3] 3)));generalize hW:World.alloc U3 _=V5 at E IK ⊢;clear hW;generalize w4.heap.size=q5 at IK ⊢;refine(word_is X E.out.bel E.out.pl.1 E.out.st IK.out (fun h=>(L4.out h).2)).mono ?_;rintro en w5 ⟨s5,a5,e5,rfl,hk,hst,haft,hlt,hsz⟩;replace E:=Jh (E.out.call hk hst);rw[tkwK_one] at haft;have F5:=Jh haft;have L5:=Jh hlt;have Z5:=Jh hsz;clear hk hst haft hlt hsz IK;obtain⟨cv11,hcv11⟩:∃v,X7[11]?=some v:=⟨_,Array.getElem?_eq_getElem (by rw[HR7.out.size];decide)⟩;have c11:=SR.atv E (g1:=g3) (xs:=X7) (t:=45) (by simp) 11 hcv11;have cf11:=SR.fz E (g1:=g3) (xs:=X7) (t:=45) (by simp) 11;have clt:=SR.lt E (g1:=g3) (xs:=X7) (t:=45) (by simp);go_upto_region 7 with fail
  clear c11 cf11 clt;replace E:=Jh (E.out.store (g1:=g3) (xs:=X7) (t:=45) (by simp) HR7.out.cl (fun q hq=>by cases hq) [(w.heap.size,Z,45)] (fun q hq=>by simp at hq;subst hq;exact⟨by simp,HNE.out⟩) 11 (.string s5));obtain⟨X8,hX⟩:∃X,X7.setIfInBounds 11 (.string s5)=X:=⟨_,rfl⟩;have HR8:Hid (Row27 X8):=by rw[← hX];exact HR7.out.set rfl (noLimb_str _)
  have HX8:=Jh hX;rw[hX] at E;clear hX;generalize hW:World.setCell w5 _ _=U4 at E ⊢;clear hW;have AF:Hid (Aft (nxr e a (balR (L.map tok))) a5 e5 (fun d=>{ FD.at_ 6 (0,0,0) with acc:=s1,i:=i2,k:=k2,cur:=s5,hasTol:=true,ti:=i4,tk:=k4 }=fdOf (some d))):=F1.out.go (F2.out.go (F4.out.go (F5.out.go (Aft.ret rfl))));have B3:=SR.bk E (g1:=g3) (xs:=X8) (t:=45) (by simp);have BZ:=SR.bk E (g1:=w.heap.size) (xs:=Z) (t:=45) (by simp);have hXs:=HR8.out.size;have hst:=st_rowX HR8.out (by rw[← HZ.out];rfl) BZ;refine wp_region_lit ?_;refine wpList_load_row rfl 45 (.tmp 3) rfl g3 rfl 45 X8 (0,0) _ B3 Tryz.underlying45 rfl (by rw[dir_size,HR8.out.size]) ?_;go_wp2_with fail;have hrow:=setRow_heap U4 w.heap.size _ X8 _ _ BZ;have EF:=Jh (E.out.setRow (g1:=w.heap.size) (xs:=Z) (t:=45) (by simp) (by rw[← HZ.out];exact(row27_cD _ _).cl) (fun q hq=>by cases hq) [] (fun q hq=>by cases hq) X8);have MDX:MD _ { FD.at_ 6 (0,0,0) with acc:=s1,i:=i2,k:=k2,cur:=s5,hasTol:=true,ti:=i4,tk:=k4 } { DM.zero with A:=A2,n:=n2,c:=c2,At:=A4,nt:=n4,ct:=c4 }:=⟨(SR.got EF (A1:=A2) (n1:=n2) (c1:=c2) (x:=i2.natAbs) (by simp)),(SR.got EF (A1:=A4) (n1:=n4) (c1:=c4) (x:=i4.natAbs) (by simp)),rdP_nil _,rdP_nil _,rdP_nil _⟩;have MDH:=Jh MDX;clear MDX;exact bodyPost_ret (v:=.agg X8) (results_cell_row Tryz.results72 _ _ _ 45 X8 (0,0) _ rfl hrow Tryz.underlying45 rfl (by rw[dir_size,HR8.out.size])) rfl ⟨X8,{ FD.at_ 6 (0,0,0) with acc:=s1,i:=i2,k:=k2,cur:=s5,hasTol:=true,ti:=i4,tk:=k4 },{ DM.zero with A:=A2,n:=n2,c:=c2,At:=A4,nt:=n4,ct:=c4 },a5,e5,rfl,HR8.out,EF.out.kp,EF.out.st,(fun h=>⟨by rw[← HX8.out];rw[← HX7.out];rw[← HX6.out];rw[← HX5.out];rw[← HX4.out];rw[← HX3.out];rw[← HX2.out];rw[← HX1.out];rw[← HX0.out];simp only[cD,List.setIfInBounds_toArray,List.set_cons_succ,List.set_cons_zero];(try rfl),Aft.zero (h▸AF.out),(L5.out h).2.2⟩),MDH.out,⟨nofar,nofar,nofar⟩,AF.out⟩
 | false=>
  rw[if_neg (by decide)] at ha3;subst ha3;obtain⟨cv12,hcv12⟩:∃v,X3[12]?=some v:=⟨_,Array.getElem?_eq_getElem (by rw[HR3.out.size];decide)⟩;have c12:=SR.atv E (g1:=g3) (xs:=X3) (t:=45) (by simp) 12 hcv12;have cf12:=SR.fz E (g1:=g3) (xs:=X3) (t:=45) (by simp) 12;have clt:=SR.lt E (g1:=g3) (xs:=X3) (t:=45) (by simp);go_upto_region 4 with fail
  clear c12 cf12 clt;replace E:=Jh (E.out.store (g1:=g3) (xs:=X3) (t:=45) (by simp) HR3.out.cl (fun q hq=>by cases hq) [(w.heap.size,Z,45)] (fun q hq=>by simp at hq;subst hq;exact⟨by simp,HNE.out⟩) 12 (.bool false));obtain⟨X4,hX⟩:∃X,X3.setIfInBounds 12 (.bool false)=X:=⟨_,rfl⟩;have HR4:Hid (Row27 X4):=by rw[← hX];exact HR3.out.set rfl (noLimb_bool _)
  have HX4:=Jh hX;rw[hX] at E;clear hX;generalize hW:World.setCell w3 _ _=U2 at E ⊢;clear hW;have c12:=SR.atv E (g1:=g3) (xs:=X4) (t:=45) (by simp) 12 (by rw[← HX4.out];exact get_set15 HR3.out (by decide));have clt:=SR.lt E (g1:=g3) (xs:=X4) (t:=45) (by simp);go_wp2_with fail;clear c12 clt;have F4:=Jh (tolO_F hb3);clear hb3;have IK:=Jh (ikd_one U2 (3) 3 (q:=U2.heap.size) rfl);replace E:=Jh (E.out.step ((Below.refl _ _).alloc (Nat.le_refl _) (.cells #[.int .i64 3] 3)));generalize hW:World.alloc U2 _=V5 at E IK ⊢;clear hW;generalize U2.heap.size=q5 at IK ⊢;refine(word_is X E.out.bel E.out.pl.1 E.out.st IK.out (fun h=>(L2.out h).2.2)).mono ?_;rintro en w5 ⟨s5,a5,e5,rfl,hk,hst,haft,hlt,hsz⟩;replace E:=Jh (E.out.call hk hst);rw[tkwK_one] at haft;have F5:=Jh haft;have L5:=Jh hlt;have Z5:=Jh hsz;clear hk hst haft hlt hsz IK;obtain⟨cv11,hcv11⟩:∃v,X4[11]?=some v:=⟨_,Array.getElem?_eq_getElem (by rw[HR4.out.size];decide)⟩;have c11:=SR.atv E (g1:=g3) (xs:=X4) (t:=45) (by simp) 11 hcv11;have cf11:=SR.fz E (g1:=g3) (xs:=X4) (t:=45) (by simp) 11;have clt:=SR.lt E (g1:=g3) (xs:=X4) (t:=45) (by simp);go_upto_region 7 with fail
  clear c11 cf11 clt;replace E:=Jh (E.out.store (g1:=g3) (xs:=X4) (t:=45) (by simp) HR4.out.cl (fun q hq=>by cases hq) [(w.heap.size,Z,45)] (fun q hq=>by simp at hq;subst hq;exact⟨by simp,HNE.out⟩) 11 (.string s5));obtain⟨X5,hX⟩:∃X,X4.setIfInBounds 11 (.string s5)=X:=⟨_,rfl⟩;have HR5:Hid (Row27 X5):=by rw[← hX];exact HR4.out.set rfl (noLimb_str _)
  have HX5:=Jh hX;rw[hX] at E;clear hX;generalize hW:World.setCell w5 _ _=U3 at E ⊢;clear hW;have AF:Hid (Aft (nxr e a (balR (L.map tok))) a5 e5 (fun d=>{ FD.at_ 6 (0,0,0) with acc:=s1,i:=i2,k:=k2,cur:=s5 }=fdOf (some d))):=F1.out.go (F2.out.go (F4.out.go (F5.out.go (Aft.ret rfl))));have B3:=SR.bk E (g1:=g3) (xs:=X5) (t:=45) (by simp);have BZ:=SR.bk E (g1:=w.heap.size) (xs:=Z) (t:=45) (by simp);have hXs:=HR5.out.size;have hst:=st_rowX HR5.out (by rw[← HZ.out];rfl) BZ;refine wp_region_lit ?_;refine wpList_load_row rfl 45 (.tmp 3) rfl g3 rfl 45 X5 (0,0) _ B3 Tryz.underlying45 rfl (by rw[dir_size,HR5.out.size]) ?_;go_wp2_with fail;have hrow:=setRow_heap U3 w.heap.size _ X5 _ _ BZ;have EF:=Jh (E.out.setRow (g1:=w.heap.size) (xs:=Z) (t:=45) (by simp) (by rw[← HZ.out];exact(row27_cD _ _).cl) (fun q hq=>by cases hq) [] (fun q hq=>by cases hq) X5);have MDX:MD _ { FD.at_ 6 (0,0,0) with acc:=s1,i:=i2,k:=k2,cur:=s5 } { DM.zero with A:=A2,n:=n2,c:=c2 }:=⟨(SR.got EF (A1:=A2) (n1:=n2) (c1:=c2) (x:=i2.natAbs) (by simp)),num_zero _ _,rdP_nil _,rdP_nil _,rdP_nil _⟩;have MDH:=Jh MDX;clear MDX;exact bodyPost_ret (v:=.agg X5) (results_cell_row Tryz.results72 _ _ _ 45 X5 (0,0) _ rfl hrow Tryz.underlying45 rfl (by rw[dir_size,HR5.out.size])) rfl ⟨X5,{ FD.at_ 6 (0,0,0) with acc:=s1,i:=i2,k:=k2,cur:=s5 },{ DM.zero with A:=A2,n:=n2,c:=c2 },a5,e5,rfl,HR5.out,EF.out.kp,EF.out.st,(fun h=>⟨by rw[← HX5.out];rw[← HX4.out];rw[← HX3.out];rw[← HX2.out];rw[← HX1.out];rw[← HX0.out];simp only[cD,List.setIfInBounds_toArray,List.set_cons_succ,List.set_cons_zero];(try rfl),Aft.zero (h▸AF.out),(L5.out h).2.2⟩),MDH.out,⟨nofar,nofar,nofar⟩,AF.out⟩
theorem txn_aft{L:List Tok}{e a a2 a':Nat}{p q:ByteArray}{T K:List ByteArray}(fl:Bool)(h:e=0→rTxt L a=((p,q),a2))(hm:e=0→rTgs L (L.length+1) [] [] a2=((T,K),a'))(he:e≠0→a'=a):Aft (nxr e a (fun a=>rTxn L (0,0,0) fl a)) a' e (fun d=>d=.txn (0,0,0) fl p q T K):=by
 unfold nxr;by_cases h0:e=0
 ·rw[if_pos h0]
  show Aft (rTxn L (0,0,0) fl a) a' e _;unfold rTxn;rw[h h0,hm h0];exact⟨rfl,h0,rfl⟩
 ·rw[if_neg h0];exact⟨he h0,rfl,h0⟩
theorem isWd_knd{L:List Tok}{e a:Nat}{k:Int}(h:isWd L e a k=false)(he:e=0):knd L a k=false:=by
 unfold isWd at h;rw[decide_eq_true he,Bool.true_and] at h;exact h
theorem transaction_is{W0 w:World}{g B n c a e:Nat}{A:Option Addr}{L:List Tk4}{G:Nat→Nat→Int→Nat→Prop}(X:CX W0 B A n c L G)(hw:Below W0.heap.size W0 w)(hg:W0.heap.size≤g)(hs:StR w g A n c a e)(ha:e=0→a≤n){F:ByteArray}{fl:Bool}(hF:(if fl=true then ⟨#[33]⟩ else ⟨#[42]⟩)=F):Calls Tryz.prog 73 #[.pointer (some ⟨g,0,none⟩),.string F] w (RtX w g A n c a e (fun a=>rTxn (L.map tok) (0,0,0) fl a)):=by
 have E:=Jh (SR.start hw hg hs);have HA0:=Jh ha;have hgw:=Bk.lt hs;obtain⟨Z,hZ⟩:∃Z,cD FD.zero DM.zero=Z:=⟨_,rfl⟩;have HZ:=Jh hZ;clear hZ;have HFL:=Jh hF;clear hw hg hs ha hF;obtain⟨X0,hX⟩:∃X,cD { FD.at_ 7 (0,0,0) with flag:=F } DM.zero=X:=⟨_,rfl⟩;have HR0:Hid (Row27 X0):=by rw[← hX];exact row27_cD _ _
 have HX0:=Jh hX;have HBD:Hid (∀w:World,(Instr.build 45 #[(0,.int .i64 7),(9,.string F)]).run Tryz.prog w=.ok (.agg X0) w):=by rw[← hX];exact bd_txn F
 clear hX;go_enter Tryz.func73,Tryz.ntmps73;go_upto_region 1 with fail
 replace E:=Jh (E.out.lay (cD FD.zero DM.zero) 45 (g1:=w.heap.size) rfl);generalize hW:World.alloc w _=Y0 at ⊢;have hW2:w.alloc (.cells (cD FD.zero DM.zero) 45)=Y0:=hW;rw[hW2,HZ.out] at E;have HY:w.heap.size+1=Y0.heap.size:=by rw[← hW2];simp
 clear hW hW2;have hXs0:=HR0.out.size;have hst:=st_newL HR0.out;go_wp2_with (refine wpList_build rfl 45 _ rfl #[(0,.int .i64 7),(9,.string F)] (by go_simp) (.agg X0) (HBD.out _) ?_);clear hst hXs0;have E0:Hid (w.heap.size<Y0.heap.size):=SR.lt E (g1:=w.heap.size) (xs:=Z) (t:=45) (by simp);replace E:=Jh (E.out.lay X0 45 (g1:=Y0.heap.size) rfl);generalize hW:World.alloc Y0 _=V0 at E ⊢;clear hW;have HNE:Hid (w.heap.size≠Y0.heap.size):=by have:=E0.out;show _≠_;omega
 clear E0;generalize Y0.heap.size=g3 at E HNE ⊢;have HG3:Hid (w.heap.size≤g3):=by have:=E.out.kp.size;exact(E.out.blk _ List.mem_cons_self).2
 obtain⟨b1,hb1⟩:∃b,isWd (L.map tok) e a 5=b:=⟨_,rfl⟩;refine(is_is X E.out.bel E.out.st 5 hb1).mono ?_;rintro en w1 ⟨rfl,hb⟩;replace E:=Jh (E.out.step hb);clear hb;cases b1 with
 | true=>
  go_wp2_with fail;have IK:=Jh (ikd_one w1 (5) 3 (q:=w1.heap.size) rfl);replace E:=Jh (E.out.step ((Below.refl _ _).alloc (Nat.le_refl _) (.cells #[.int .i64 5] 3)));generalize hW:World.alloc w1 _=V2 at E IK ⊢;clear hW;generalize w1.heap.size=q2 at IK ⊢;refine(word_is X E.out.bel E.out.pl.1 E.out.st IK.out HA0.out).mono ?_;rintro en w2 ⟨s2,a2,e2,rfl,hk,hst,haft,hlt,hsz⟩;replace E:=Jh (E.out.call hk hst);rw[tkwK_one] at haft;have F2:=Jh haft;have L2:=Jh hlt;have Z2:=Jh hsz;clear hk hst haft hlt hsz IK;obtain⟨q1,q2,q3,t2,ht2,hk2,hs2⟩:=word_yes hb1 F2.out;have HT2:=Jh ht2;have HK2:=Jh hk2;have HS2:=Jh hs2;rw[q1,q2] at E;have HE0:=Jh q3;have HN2:Hid ((a+1)≤n):=by have q:=L2.out (q1.trans q3);rw[← q2];exact q.2.2
  clear q1 q2 q3 ht2 hk2 hs2;obtain⟨cv18,hcv18⟩:∃v,X0[18]?=some v:=⟨_,Array.getElem?_eq_getElem (by rw[HR0.out.size];decide)⟩;have c18:=SR.atv E (g1:=g3) (xs:=X0) (t:=45) (by simp) 18 hcv18;have cf18:=SR.fz E (g1:=g3) (xs:=X0) (t:=45) (by simp) 18;have clt:=SR.lt E (g1:=g3) (xs:=X0) (t:=45) (by simp);go_wp2_with fail;clear c18 cf18 clt;replace E:=Jh (E.out.store (g1:=g3) (xs:=X0) (t:=45) (by simp) HR0.out.cl (fun q hq=>by cases hq) [(w.heap.size,Z,45)] (fun q hq=>by simp at hq;subst hq;exact⟨by simp,HNE.out⟩) 18 (.string s2));obtain⟨X1,hX⟩:∃X,X0.setIfInBounds 18 (.string s2)=X:=⟨_,rfl⟩;have HR1:Hid (Row27 X1):=by rw[← hX];exact HR0.out.set rfl (noLimb_str _)
  have HX1:=Jh hX;rw[hX] at E;clear hX;generalize hW:World.setCell w2 _ _=U1 at E ⊢;clear hW;obtain⟨b3,hb3⟩:∃b,isWd (L.map tok) e (a+1) 5=b:=⟨_,rfl⟩;refine(is_is X E.out.bel E.out.st 5 hb3).mono ?_;rintro en w3 ⟨rfl,hb⟩;replace E:=Jh (E.out.step hb);clear hb;cases b3 with
  | true=>
   have d18:=SR.atv E (g1:=g3) (xs:=X1) (t:=45) (by simp) 18 (by rw[← HX1.out];exact get_set15 HR0.out (by decide));obtain⟨cv17,hcv17⟩:∃v,X1[17]?=some v:=⟨_,Array.getElem?_eq_getElem (by rw[HR1.out.size];decide)⟩;have c17:=SR.atv E (g1:=g3) (xs:=X1) (t:=45) (by simp) 17 hcv17;have cf17:=SR.fz E (g1:=g3) (xs:=X1) (t:=45) (by simp) 17;have clt:=SR.lt E (g1:=g3) (xs:=X1) (t:=45) (by simp);go_wp2_with fail;clear d18;clear c17 cf17 clt;replace E:=Jh (E.out.store (g1:=g3) (xs:=X1) (t:=45) (by simp) HR1.out.cl (fun q hq=>by cases hq) [(w.heap.size,Z,45)] (fun q hq=>by simp at hq;subst hq;exact⟨by simp,HNE.out⟩) 17 (.string s2));obtain⟨X2,hX⟩:∃X,X1.setIfInBounds 17 (.string s2)=X:=⟨_,rfl⟩;have HR2:Hid (Row27 X2):=by rw[← hX];exact HR1.out.set rfl (noLimb_str _)
   have HX2:=Jh hX;rw[hX] at E;clear hX;generalize hW:World.setCell w3 _ _=U2 at E ⊢;have HY:w3.heap.size=U2.heap.size:=by rw[← hW];simp
   clear hW;have IK:=Jh (ikd_one U2 (5) 3 (q:=w3.heap.size) HY);replace E:=Jh (E.out.step ((Below.refl _ _).alloc (Nat.le_refl _) (.cells #[.int .i64 5] 3)));generalize hW:World.alloc U2 _=V4 at E IK ⊢;clear hW;generalize w3.heap.size=q4 at IK ⊢;refine(word_is X E.out.bel E.out.pl.1 E.out.st IK.out (fun _=>HN2.out)).mono ?_;rintro en w4 ⟨s4,a4,e4,rfl,hk,hst,haft,hlt,hsz⟩;replace E:=Jh (E.out.call hk hst);rw[tkwK_one] at haft;have F4:=Jh haft;have L4:=Jh hlt;have Z4:=Jh hsz;clear hk hst haft hlt hsz IK;obtain⟨q1,q2,q3,t4,ht4,hk4,hs4⟩:=word_yes hb3 F4.out;have HT4:=Jh ht4;have HK4:=Jh hk4;have HS4:=Jh hs4;rw[q1,q2] at E;have HN4:Hid ((a+1+1)≤n):=by have q:=L4.out (q1.trans q3);rw[← q2];exact q.2.2
   clear q1 q2 q3 ht4 hk4 hs4;obtain⟨cv18,hcv18⟩:∃v,X2[18]?=some v:=⟨_,Array.getElem?_eq_getElem (by rw[HR2.out.size];decide)⟩;have c18:=SR.atv E (g1:=g3) (xs:=X2) (t:=45) (by simp) 18 hcv18;have cf18:=SR.fz E (g1:=g3) (xs:=X2) (t:=45) (by simp) 18;have clt:=SR.lt E (g1:=g3) (xs:=X2) (t:=45) (by simp);go_wp2_with fail;clear c18 cf18 clt;replace E:=Jh (E.out.store (g1:=g3) (xs:=X2) (t:=45) (by simp) HR2.out.cl (fun q hq=>by cases hq) [(w.heap.size,Z,45)] (fun q hq=>by simp at hq;subst hq;exact⟨by simp,HNE.out⟩) 18 (.string s4));obtain⟨X3,hX⟩:∃X,X2.setIfInBounds 18 (.string s4)=X:=⟨_,rfl⟩;have HR3:Hid (Row27 X3):=by rw[← hX];exact HR2.out.set rfl (noLimb_str _)
   have HX3:=Jh hX;rw[hX] at E;clear hX;generalize hW:World.setCell w4 _ _=U3 at E ⊢;clear hW;have hws:=E.out.kp.size;have HLO0:Hid (g3<U3.heap.size):=SR.lt E (g1:=g3) (xs:=X3) (t:=45) (by simp);have HLZ0:Hid (w.heap.size<U3.heap.size):=SR.lt E (g1:=w.heap.size) (xs:=Z) (t:=45) (by simp);refine(marks_is X E.out.bel E.out.pl.1 E.out.st (fun _=>HN4.out)).mono ?_;rintro en w9 ⟨T,K,A1,n1,c1,A2,n2,c2,a9,rfl,hr1,hlo1,hr2,hlo2,hk,hst,hrun,hhalt⟩;replace E:=Jh (((E.out.call hk hst).read hr1 _ hlo1 hws).read hr2 _ hlo2 hws);have HRN:=Jh hrun;have HHT:=Jh hhalt;clear hk hst hrun hhalt hr1 hlo1 hr2 hlo2 hws;obtain⟨cv19,hcv19⟩:∃v,X3[19]?=some v:=⟨_,Array.getElem?_eq_getElem (by rw[HR3.out.size];decide)⟩;have c19:=SR.atv E (g1:=g3) (xs:=X3) (t:=45) (by simp) 19 hcv19;have cf19:=SR.fz E (g1:=g3) (xs:=X3) (t:=45) (by simp) 19;obtain⟨cv20,hcv20⟩:∃v,X3[20]?=some v:=⟨_,Array.getElem?_eq_getElem (by rw[HR3.out.size];decide)⟩;have c20:=SR.atv E (g1:=g3) (xs:=X3) (t:=45) (by simp) 20 hcv20;have cf20:=SR.fz E (g1:=g3) (xs:=X3) (t:=45) (by simp) 20;have clt:=SR.lt E (g1:=g3) (xs:=X3) (t:=45) (by simp);go_upto_region 8 with fail
   clear c19 cf19 c20 cf20 clt;replace E:=Jh (E.out.store (g1:=g3) (xs:=X3) (t:=45) (by simp) HR3.out.cl (fun q hq=>by simp at hq;rcases hq with rfl|rfl<;>exact .inl HLO0.out) [(w.heap.size,Z,45)] (fun q hq=>by simp at hq;subst hq;exact⟨by simp,HNE.out⟩) 19 (.slice A1 n1 c1));obtain⟨X4,hX⟩:∃X,X3.setIfInBounds 19 (.slice A1 n1 c1)=X:=⟨_,rfl⟩;have HR4:Hid (Row27 X4):=by rw[← hX];exact HR3.out.set rfl (noLimb_slice _ _ _)
   have HX4:=Jh hX;rw[hX] at E;clear hX;replace E:=Jh (E.out.store (g1:=g3) (xs:=X4) (t:=45) (by simp) HR4.out.cl (fun q hq=>by simp at hq;rcases hq with rfl|rfl<;>exact .inl HLO0.out) [(w.heap.size,Z,45)] (fun q hq=>by simp at hq;subst hq;exact⟨by simp,HNE.out⟩) 20 (.slice A2 n2 c2));obtain⟨X5,hX⟩:∃X,X4.setIfInBounds 20 (.slice A2 n2 c2)=X:=⟨_,rfl⟩;have HR5:Hid (Row27 X5):=by rw[← hX];exact HR4.out.set rfl (noLimb_slice _ _ _)
   have HX5:=Jh hX;rw[hX] at E;clear hX;generalize hW:World.setCell (World.setCell w9 _ _) _ _=U4 at E ⊢;clear hW;have AF:Hid (Aft (nxr e a (fun a=>rTxn (L.map tok) (0,0,0) fl a)) a9 e (fun d=>{ FD.at_ 7 (0,0,0) with flag:=F,pay:=s2,nar:=s4,tags:=T,links:=K }=fdOf (some d))):=(txn_aft fl (fun h=>by rw[rTxt_two HT2.out HK2.out HT4.out HK4.out,HS2.out,HS4.out]) (fun h=>(HRN.out h).1) (fun h=>absurd HE0.out h)).mono (fun d hd=>by subst hd;have q:=HFL.out;subst q;rfl);have B3:=SR.bk E (g1:=g3) (xs:=X5) (t:=45) (by simp);have BZ:=SR.bk E (g1:=w.heap.size) (xs:=Z) (t:=45) (by simp);have hXs:=HR5.out.size;have hst:=st_rowX HR5.out (by rw[← HZ.out];rfl) BZ;refine wp_region_lit ?_;refine wpList_load_row rfl 45 (.tmp 5) rfl g3 rfl 45 X5 (0,0) _ B3 Tryz.underlying45 rfl (by rw[dir_size,HR5.out.size]) ?_;go_wp2_with fail;have hrow:=setRow_heap U4 w.heap.size _ X5 _ _ BZ;have EF:=Jh (E.out.setRow (g1:=w.heap.size) (xs:=Z) (t:=45) (by simp) (by rw[← HZ.out];exact(row27_cD _ _).cl) (fun q hq=>by simp at hq;rcases hq with rfl|rfl<;>exact .inl HLZ0.out) [] (fun q hq=>by cases hq) X5);exact bodyPost_ret (v:=.agg X5) (results_cell_row Tryz.results73 _ _ _ 45 X5 (0,0) _ rfl hrow Tryz.underlying45 rfl (by rw[dir_size,HR5.out.size])) rfl ⟨X5,{ FD.at_ 7 (0,0,0) with flag:=F,pay:=s2,nar:=s4,tags:=T,links:=K },{ DM.zero with Ag:=A1,ng:=n1,cg:=c1,Al:=A2,nl:=n2,cl:=c2 },a9,e,rfl,HR5.out,EF.out.kp,EF.out.st,(fun h=>⟨by rw[← HX5.out];rw[← HX4.out];rw[← HX3.out];rw[← HX2.out];rw[← HX1.out];rw[← HX0.out];simp only[cD,List.setIfInBounds_toArray,List.set_cons_succ,List.set_cons_zero];(try rfl),h,(HRN.out h).2⟩),⟨num_zero _ _,num_zero _ _,rdP_nil _,SR.rd EF (List.mem_cons_of_mem _ List.mem_cons_self),SR.rd EF List.mem_cons_self⟩,⟨nofar,SR.far EF (List.mem_cons_of_mem _ List.mem_cons_self),SR.far EF List.mem_cons_self⟩,AF.out⟩
  | false=>
   go_wp2_with fail;have hws:=E.out.kp.size;have HLO0:Hid (g3<w3.heap.size):=SR.lt E (g1:=g3) (xs:=X1) (t:=45) (by simp);have HLZ0:Hid (w.heap.size<w3.heap.size):=SR.lt E (g1:=w.heap.size) (xs:=Z) (t:=45) (by simp);refine(marks_is X E.out.bel E.out.pl.1 E.out.st (fun _=>HN2.out)).mono ?_;rintro en w9 ⟨T,K,A1,n1,c1,A2,n2,c2,a9,rfl,hr1,hlo1,hr2,hlo2,hk,hst,hrun,hhalt⟩;replace E:=Jh (((E.out.call hk hst).read hr1 _ hlo1 hws).read hr2 _ hlo2 hws);have HRN:=Jh hrun;have HHT:=Jh hhalt;clear hk hst hrun hhalt hr1 hlo1 hr2 hlo2 hws;obtain⟨cv19,hcv19⟩:∃v,X1[19]?=some v:=⟨_,Array.getElem?_eq_getElem (by rw[HR1.out.size];decide)⟩;have c19:=SR.atv E (g1:=g3) (xs:=X1) (t:=45) (by simp) 19 hcv19;have cf19:=SR.fz E (g1:=g3) (xs:=X1) (t:=45) (by simp) 19;obtain⟨cv20,hcv20⟩:∃v,X1[20]?=some v:=⟨_,Array.getElem?_eq_getElem (by rw[HR1.out.size];decide)⟩;have c20:=SR.atv E (g1:=g3) (xs:=X1) (t:=45) (by simp) 20 hcv20;have cf20:=SR.fz E (g1:=g3) (xs:=X1) (t:=45) (by simp) 20;have clt:=SR.lt E (g1:=g3) (xs:=X1) (t:=45) (by simp);go_upto_region 8 with fail
   clear c19 cf19 c20 cf20 clt;replace E:=Jh (E.out.store (g1:=g3) (xs:=X1) (t:=45) (by simp) HR1.out.cl (fun q hq=>by simp at hq;rcases hq with rfl|rfl<;>exact .inl HLO0.out) [(w.heap.size,Z,45)] (fun q hq=>by simp at hq;subst hq;exact⟨by simp,HNE.out⟩) 19 (.slice A1 n1 c1));obtain⟨X2,hX⟩:∃X,X1.setIfInBounds 19 (.slice A1 n1 c1)=X:=⟨_,rfl⟩;have HR2:Hid (Row27 X2):=by rw[← hX];exact HR1.out.set rfl (noLimb_slice _ _ _)
   have HX2:=Jh hX;rw[hX] at E;clear hX;replace E:=Jh (E.out.store (g1:=g3) (xs:=X2) (t:=45) (by simp) HR2.out.cl (fun q hq=>by simp at hq;rcases hq with rfl|rfl<;>exact .inl HLO0.out) [(w.heap.size,Z,45)] (fun q hq=>by simp at hq;subst hq;exact⟨by simp,HNE.out⟩) 20 (.slice A2 n2 c2));obtain⟨X3,hX⟩:∃X,X2.setIfInBounds 20 (.slice A2 n2 c2)=X:=⟨_,rfl⟩;have HR3:Hid (Row27 X3):=by rw[← hX];exact HR2.out.set rfl (noLimb_slice _ _ _)
   have HX3:=Jh hX;rw[hX] at E;clear hX;generalize hW:World.setCell (World.setCell w9 _ _) _ _=U2 at E ⊢;clear hW;have AF:Hid (Aft (nxr e a (fun a=>rTxn (L.map tok) (0,0,0) fl a)) a9 e (fun d=>{ FD.at_ 7 (0,0,0) with flag:=F,pay:=⟨#[]⟩,nar:=s2,tags:=T,links:=K }=fdOf (some d))):=(txn_aft fl (fun h=>by rw[rTxt_one HT2.out HK2.out (isWd_knd hb3 h),HS2.out]) (fun h=>(HRN.out h).1) (fun h=>absurd HE0.out h)).mono (fun d hd=>by subst hd;have q:=HFL.out;subst q;rfl);have B3:=SR.bk E (g1:=g3) (xs:=X3) (t:=45) (by simp);have BZ:=SR.bk E (g1:=w.heap.size) (xs:=Z) (t:=45) (by simp);have hXs:=HR3.out.size;have hst:=st_rowX HR3.out (by rw[← HZ.out];rfl) BZ;refine wp_region_lit ?_;refine wpList_load_row rfl 45 (.tmp 5) rfl g3 rfl 45 X3 (0,0) _ B3 Tryz.underlying45 rfl (by rw[dir_size,HR3.out.size]) ?_;go_wp2_with fail;have hrow:=setRow_heap U2 w.heap.size _ X3 _ _ BZ;have EF:=Jh (E.out.setRow (g1:=w.heap.size) (xs:=Z) (t:=45) (by simp) (by rw[← HZ.out];exact(row27_cD _ _).cl) (fun q hq=>by simp at hq;rcases hq with rfl|rfl<;>exact .inl HLZ0.out) [] (fun q hq=>by cases hq) X3);exact bodyPost_ret (v:=.agg X3) (results_cell_row Tryz.results73 _ _ _ 45 X3 (0,0) _ rfl hrow Tryz.underlying45 rfl (by rw[dir_size,HR3.out.size])) rfl ⟨X3,{ FD.at_ 7 (0,0,0) with flag:=F,pay:=⟨#[]⟩,nar:=s2,tags:=T,links:=K },{ DM.zero with Ag:=A1,ng:=n1,cg:=c1,Al:=A2,nl:=n2,cl:=c2 },a9,e,rfl,HR3.out,EF.out.kp,EF.out.st,(fun h=>⟨by rw[← HX3.out];rw[← HX2.out];rw[← HX1.out];rw[← HX0.out];simp only[cD,List.setIfInBounds_toArray,List.set_cons_succ,List.set_cons_zero];(try rfl),h,(HRN.out h).2⟩),⟨num_zero _ _,num_zero _ _,rdP_nil _,SR.rd EF (List.mem_cons_of_mem _ List.mem_cons_self),SR.rd EF List.mem_cons_self⟩,⟨nofar,SR.far EF (List.mem_cons_of_mem _ List.mem_cons_self),SR.far EF List.mem_cons_self⟩,AF.out⟩
 | false=>
  go_wp2_with fail;refine(is_is X E.out.bel E.out.st 5 hb1).mono ?_;rintro en w3 ⟨rfl,hb⟩;replace E:=Jh (E.out.step hb);clear hb;go_wp2_with fail;have hws:=E.out.kp.size;have HLO0:Hid (g3<w3.heap.size):=SR.lt E (g1:=g3) (xs:=X0) (t:=45) (by simp);have HLZ0:Hid (w.heap.size<w3.heap.size):=SR.lt E (g1:=w.heap.size) (xs:=Z) (t:=45) (by simp);refine(marks_is X E.out.bel E.out.pl.1 E.out.st HA0.out).mono ?_;rintro en w9 ⟨T,K,A1,n1,c1,A2,n2,c2,a9,rfl,hr1,hlo1,hr2,hlo2,hk,hst,hrun,hhalt⟩;replace E:=Jh (((E.out.call hk hst).read hr1 _ hlo1 hws).read hr2 _ hlo2 hws);have HRN:=Jh hrun;have HHT:=Jh hhalt;clear hk hst hrun hhalt hr1 hlo1 hr2 hlo2 hws;obtain⟨cv19,hcv19⟩:∃v,X0[19]?=some v:=⟨_,Array.getElem?_eq_getElem (by rw[HR0.out.size];decide)⟩;have c19:=SR.atv E (g1:=g3) (xs:=X0) (t:=45) (by simp) 19 hcv19;have cf19:=SR.fz E (g1:=g3) (xs:=X0) (t:=45) (by simp) 19;obtain⟨cv20,hcv20⟩:∃v,X0[20]?=some v:=⟨_,Array.getElem?_eq_getElem (by rw[HR0.out.size];decide)⟩;have c20:=SR.atv E (g1:=g3) (xs:=X0) (t:=45) (by simp) 20 hcv20;have cf20:=SR.fz E (g1:=g3) (xs:=X0) (t:=45) (by simp) 20;have clt:=SR.lt E (g1:=g3) (xs:=X0) (t:=45) (by simp);go_upto_region 8 with fail
  clear c19 cf19 c20 cf20 clt;replace E:=Jh (E.out.store (g1:=g3) (xs:=X0) (t:=45) (by simp) HR0.out.cl (fun q hq=>by simp at hq;rcases hq with rfl|rfl<;>exact .inl HLO0.out) [(w.heap.size,Z,45)] (fun q hq=>by simp at hq;subst hq;exact⟨by simp,HNE.out⟩) 19 (.slice A1 n1 c1));obtain⟨X1,hX⟩:∃X,X0.setIfInBounds 19 (.slice A1 n1 c1)=X:=⟨_,rfl⟩;have HR1:Hid (Row27 X1):=by rw[← hX];exact HR0.out.set rfl (noLimb_slice _ _ _)
  have HX1:=Jh hX;rw[hX] at E;clear hX;replace E:=Jh (E.out.store (g1:=g3) (xs:=X1) (t:=45) (by simp) HR1.out.cl (fun q hq=>by simp at hq;rcases hq with rfl|rfl<;>exact .inl HLO0.out) [(w.heap.size,Z,45)] (fun q hq=>by simp at hq;subst hq;exact⟨by simp,HNE.out⟩) 20 (.slice A2 n2 c2));obtain⟨X2,hX⟩:∃X,X1.setIfInBounds 20 (.slice A2 n2 c2)=X:=⟨_,rfl⟩;have HR2:Hid (Row27 X2):=by rw[← hX];exact HR1.out.set rfl (noLimb_slice _ _ _)
  have HX2:=Jh hX;rw[hX] at E;clear hX;generalize hW:World.setCell (World.setCell w9 _ _) _ _=U1 at E ⊢;clear hW;have AF:Hid (Aft (nxr e a (fun a=>rTxn (L.map tok) (0,0,0) fl a)) a9 e (fun d=>{ FD.at_ 7 (0,0,0) with flag:=F,pay:=⟨#[]⟩,nar:=⟨#[]⟩,tags:=T,links:=K }=fdOf (some d))):=(txn_aft fl (fun h=>rTxt_none (isWd_knd hb1 h)) (fun h=>(HRN.out h).1) (fun h=>HHT.out h)).mono (fun d hd=>by subst hd;have q:=HFL.out;subst q;rfl);have B3:=SR.bk E (g1:=g3) (xs:=X2) (t:=45) (by simp);have BZ:=SR.bk E (g1:=w.heap.size) (xs:=Z) (t:=45) (by simp);have hXs:=HR2.out.size;have hst:=st_rowX HR2.out (by rw[← HZ.out];rfl) BZ;refine wp_region_lit ?_;refine wpList_load_row rfl 45 (.tmp 5) rfl g3 rfl 45 X2 (0,0) _ B3 Tryz.underlying45 rfl (by rw[dir_size,HR2.out.size]) ?_;go_wp2_with fail;have hrow:=setRow_heap U1 w.heap.size _ X2 _ _ BZ;have EF:=Jh (E.out.setRow (g1:=w.heap.size) (xs:=Z) (t:=45) (by simp) (by rw[← HZ.out];exact(row27_cD _ _).cl) (fun q hq=>by simp at hq;rcases hq with rfl|rfl<;>exact .inl HLZ0.out) [] (fun q hq=>by cases hq) X2);exact bodyPost_ret (v:=.agg X2) (results_cell_row Tryz.results73 _ _ _ 45 X2 (0,0) _ rfl hrow Tryz.underlying45 rfl (by rw[dir_size,HR2.out.size])) rfl ⟨X2,{ FD.at_ 7 (0,0,0) with flag:=F,pay:=⟨#[]⟩,nar:=⟨#[]⟩,tags:=T,links:=K },{ DM.zero with Ag:=A1,ng:=n1,cg:=c1,Al:=A2,nl:=n2,cl:=c2 },a9,e,rfl,HR2.out,EF.out.kp,EF.out.st,(fun h=>⟨by rw[← HX2.out];rw[← HX1.out];rw[← HX0.out];simp only[cD,List.setIfInBounds_toArray,List.set_cons_succ,List.set_cons_zero];(try rfl),h,(HRN.out h).2⟩),⟨num_zero _ _,num_zero _ _,rdP_nil _,SR.rd EF (List.mem_cons_of_mem _ List.mem_cons_self),SR.rd EF List.mem_cons_self⟩,⟨nofar,SR.far EF (List.mem_cons_of_mem _ List.mem_cons_self),SR.far EF List.mem_cons_self⟩,AF.out⟩
theorem rdP_bk{w:World}{g:Nat}{s:ByteArray}{t:TypeId}(h:Bk w g #[.string s] t):RdP w (some ⟨g,0,none⟩) 1 1 ([s].map bs9):=by
 refine⟨rfl,Nat.le_refl _,by decide,.inr ⟨g,0,rfl,Bk.lt h,fun j u hu=>?_⟩⟩;have e:row11 ([s].map bs9)=[.string s]:=by show [Value.string (st9 (bs9 s))]=_;rw[st9_bs9]
 rw[e] at hu;rw[Nat.zero_add,h.cell j,← Array.getElem?_toList];exact hu
theorem SR.md15{W0 w0 w:World}{g n c a e:Nat}{A:Option Addr}{l:List (Option Addr×Nat×Nat×Nat)}{rs:List (Option Addr×Nat×Nat×List (List Nat)×Nat×Nat)}{bs:List (Nat×Array Value×TypeId)}(_h:Hid (SR W0 w0 w g A n c a e l rs bs)){f:FD}{m:DM}(hm:MD w f m):MD w f m:=hm
theorem farg{g lo:Nat}(h:lo≤g):∀x:Addr,some (⟨g,0,none⟩:Addr)=some x→lo≤x.block:=fun x hx=>by cases hx;exact h
theorem rest_wOpen(L:List Tok):(fun a=>rest15 L (0,0,0) wOpen a)=fun a=>rOpen L (0,0,0) a:=by funext a;rfl
theorem rest_wClose(L:List Tok):(fun a=>rest15 L (0,0,0) wClose a)=fun a=>thn (tkw L a 2) fun ac a=>.inr (.cls (0,0,0) ac,a):=by funext a;rfl
theorem rest_wCommodity(L:List Tok):(fun a=>rest15 L (0,0,0) wCommodity a)=fun a=>thn (tkw L a 3) fun c a=>.inr (.com (0,0,0) c,a):=by funext a;rfl
theorem rest_wPrice(L:List Tok):(fun a=>rest15 L (0,0,0) wPrice a)=fun a=>thn (tkw L a 3) fun c a=>thn (amr L a) fun n a=>.inr (.prc (0,0,0) c n.1 n.2.1 n.2.2,a):=by funext a;rfl
theorem rest_wPad(L:List Tok):(fun a=>rest15 L (0,0,0) wPad a)=fun a=>thn (tkw L a 2) fun x a=>thn (tkw L a 2) fun y a=>.inr (.pad (0,0,0) x y,a):=by funext a;rfl
theorem rest_wNote(L:List Tok):(fun a=>rest15 L (0,0,0) wNote a)=fun a=>thn (tkw L a 2) fun x a=>thn (tkw L a 5) fun y a=>.inr (.nte (0,0,0) x y,a):=by funext a;rfl
theorem rest_wBalance(L:List Tok):(fun a=>rest15 L (0,0,0) wBalance a)=fun a=>rBal L (0,0,0) a:=by funext a;rfl
theorem rest_wTxn(L:List Tok):(fun a=>rest15 L (0,0,0) wTxn a)=fun a=>rTxn L (0,0,0) false a:=by funext a;rfl
theorem rest_star(L:List Tok):(fun a=>rest15 L (0,0,0) [42] a)=fun a=>rTxn L (0,0,0) false a:=by funext a;rfl
theorem rest_bang(L:List Tok):(fun a=>rest15 L (0,0,0) [33] a)=fun a=>rTxn L (0,0,0) true a:=by funext a;rfl
theorem rest_else{L:List Tok}{w:List Nat}(h0:w≠wOpen)(h1:w≠wClose)(h2:w≠wCommodity)(h3:w≠wPrice)(h4:w≠wPad)(h5:w≠wNote)(h6:w≠wBalance)(h7:w≠wTxn)(h8:w≠[42])(h9:w≠[33]):(fun a=>rest15 L (0,0,0) w a)=fun a=>.inl (3,a-1):=by
 funext a
 unfold rest15;rw[if_neg h0,if_neg h1,if_neg h2,if_neg h3,if_neg h4,if_neg h6,if_neg h5,if_neg (fun q=>q.elim h7 h8),if_neg h9]
theorem behind_wOpen{W0 w:World}{g B n c a e:Nat}{A:Option Addr}{L:List Tk4}{G:Nat→Nat→Int→Nat→Prop}(X:CX W0 B A n c L G)(hw:Below W0.heap.size W0 w)(hg:W0.heap.size≤g)(hs:StR w g A n c a e)(ha:e=0→a≤n)(ha1:e=0→1≤a)(S:ByteArray)(h:bs9 S=wOpen):Calls Tryz.prog 44 #[.pointer (some ⟨g,0,none⟩),.string S] w (RtX w g A n c a e (fun a=>rest15 (L.map tok) (0,0,0) (bs9 S) a)):=by
 have d0:(S.toList == ([111,112,101,110]:List UInt8))=true:=lit_yes h;rw[h,rest_wOpen];have E:=Jh (SR.start hw hg hs);have HA0:=Jh ha;have hgw:=Bk.lt hs;obtain⟨Z,hZ⟩:∃Z,cD FD.zero DM.zero=Z:=⟨_,rfl⟩;have HZ:=Jh hZ;clear hZ;have HA1:=Jh ha1;clear hw hg hs ha ha1 h;go_enter Tryz.func44,Tryz.ntmps44;go_wp2_with fail;replace E:=Jh (E.out.lay (cD FD.zero DM.zero) 45 (g1:=w.heap.size) rfl);generalize hW:World.alloc w _=Y0 at ⊢;have hW2:w.alloc (.cells (cD FD.zero DM.zero) 45)=Y0:=hW;rw[hW2,HZ.out] at E;have HY:w.heap.size+1=Y0.heap.size:=by rw[← hW2];simp
 clear hW hW2;have hws:=E.out.kp.size;have HLZ0:Hid (w.heap.size<Y0.heap.size):=SR.lt E (g1:=w.heap.size) (xs:=Z) (t:=45) (by simp);refine(open_is X E.out.bel E.out.pl.1 E.out.st HA0.out).mono ?_;rintro en w1 ⟨X0,f,md,a1,e1,rfl,hrw,hk,hst,hx,hmd,hfar,haft⟩;replace E:=Jh ((((((E.out.call hk hst).push hmd.num).push hmd.tol).read hmd.cur _ hfar.cur hws).read hmd.tag _ hfar.tag hws).read hmd.lnk _ hfar.lnk hws);have HR0:=Jh hrw;have HXX:=Jh hx;have AF:=Jh haft;clear hrw hk hst hx hmd hfar haft hws;have BZ:=SR.bk E (g1:=w.heap.size) (xs:=Z) (t:=45) (by simp);have hXs:=HR0.out.size;have hst:=st_rowX HR0.out (by rw[← HZ.out];rfl) BZ;go_wp2_with fail;have hrow:=setRow_heap _ w.heap.size _ X0 _ _ BZ;have EF:=Jh (E.out.setRow (g1:=w.heap.size) (xs:=Z) (t:=45) (by simp) (by rw[← HZ.out];exact(row27_cD _ _).cl) (fun q hq=>by simp at hq;rcases hq with rfl|rfl|rfl<;>exact .inl HLZ0.out) [] (fun q hq=>by cases hq) X0);have MDX:=SR.md15 EF (f:=f) (m:=md) ⟨SR.got EF (A1:=md.A) (n1:=md.n) (c1:=md.c) (x:=f.i.natAbs) (by simp),SR.got EF (A1:=md.At) (n1:=md.nt) (c1:=md.ct) (x:=f.ti.natAbs) (by simp),SR.rd EF (List.mem_cons_of_mem _ (List.mem_cons_of_mem _ List.mem_cons_self)),SR.rd EF (List.mem_cons_of_mem _ List.mem_cons_self),SR.rd EF List.mem_cons_self⟩;have MDH:=Jh MDX;clear MDX;exact bodyPost_ret (v:=.agg X0) (results_cell_row Tryz.results44 _ _ _ 45 X0 (0,0) _ rfl hrow Tryz.underlying45 rfl (by rw[dir_size,HR0.out.size])) rfl ⟨X0,f,md,a1,e1,rfl,HR0.out,EF.out.kp,EF.out.st,HXX.out,MDH.out,⟨SR.far EF (List.mem_cons_of_mem _ (List.mem_cons_of_mem _ List.mem_cons_self)),SR.far EF (List.mem_cons_of_mem _ List.mem_cons_self),SR.far EF List.mem_cons_self⟩,AF.out⟩
theorem behind_wClose{W0 w:World}{g B n c a e:Nat}{A:Option Addr}{L:List Tk4}{G:Nat→Nat→Int→Nat→Prop}(X:CX W0 B A n c L G)(hw:Below W0.heap.size W0 w)(hg:W0.heap.size≤g)(hs:StR w g A n c a e)(ha:e=0→a≤n)(ha1:e=0→1≤a)(S:ByteArray)(h:bs9 S=wClose):Calls Tryz.prog 44 #[.pointer (some ⟨g,0,none⟩),.string S] w (RtX w g A n c a e (fun a=>rest15 (L.map tok) (0,0,0) (bs9 S) a)):=by
 have d0:(S.toList == ([111,112,101,110]:List UInt8))=false:=lit_not (by rw[h];decide);have d1:(S.toList == ([99,108,111,115,101]:List UInt8))=true:=lit_yes h;rw[h,rest_wClose];have E:=Jh (SR.start hw hg hs);have HA0:=Jh ha;have hgw:=Bk.lt hs;obtain⟨Z,hZ⟩:∃Z,cD FD.zero DM.zero=Z:=⟨_,rfl⟩;have HZ:=Jh hZ;clear hZ;have HA1:=Jh ha1;clear hw hg hs ha ha1 h;go_enter Tryz.func44,Tryz.ntmps44;go_wp2_with fail;replace E:=Jh (E.out.lay (cD FD.zero DM.zero) 45 (g1:=w.heap.size) rfl);generalize hW:World.alloc w _=Y0 at ⊢;have hW2:w.alloc (.cells (cD FD.zero DM.zero) 45)=Y0:=hW;rw[hW2,HZ.out] at E;have HY:w.heap.size+1=Y0.heap.size:=by rw[← hW2];simp
 clear hW hW2;have IK:=Jh (ikd_one Y0 (2) 3 (q:=w.heap.size+1) HY);replace E:=Jh (E.out.step ((Below.refl _ _).alloc (Nat.le_refl _) (.cells #[.int .i64 2] 3)));generalize hW:World.alloc Y0 _=V1 at E IK ⊢;clear hW;generalize w.heap.size+1=q1 at IK ⊢;refine(word_is X E.out.bel E.out.pl.1 E.out.st IK.out HA0.out).mono ?_;rintro en w1 ⟨s1,a1,e1,rfl,hk,hst,haft,hlt,hsz⟩;replace E:=Jh (E.out.call hk hst);rw[tkwK_one] at haft;have F1:=Jh haft;have L1:=Jh hlt;have Z1:=Jh hsz;clear hk hst haft hlt hsz IK;obtain⟨X0,hX⟩:∃X,cD { FD.at_ 2 (0,0,0) with acc:=s1 } DM.zero=X:=⟨_,rfl⟩;have HR0:Hid (Row27 X0):=by rw[← hX];exact row27_cD _ _
 have HX0:=Jh hX;have HBD:Hid (∀w:World,(Instr.build 45 #[(0,.int .i64 2),(2,.string s1)]).run Tryz.prog w=.ok (.agg X0) w):=by rw[← hX];exact bd_cls s1
 clear hX;have AF:Hid (Aft (nxr e a (fun a=>thn (tkw (L.map tok) a 2) fun ac a=>.inr (.cls (0,0,0) ac,a))) a1 e1 (fun d=>{ FD.at_ 2 (0,0,0) with acc:=s1 }=fdOf (some d))):=F1.out.go (Aft.ret rfl);have BZ:=SR.bk E (g1:=w.heap.size) (xs:=Z) (t:=45) (by simp);have hXs:=HR0.out.size;have hst:=st_rowX HR0.out (by rw[← HZ.out];rfl) BZ;go_wp2_with (refine wpList_build rfl 45 _ rfl #[(0,.int .i64 2),(2,.string s1)] (by go_simp) (.agg X0) (HBD.out _) ?_);have hrow:=setRow_heap _ w.heap.size _ X0 _ _ BZ;have EF:=Jh (E.out.setRow (g1:=w.heap.size) (xs:=Z) (t:=45) (by simp) (by rw[← HZ.out];exact(row27_cD _ _).cl) (fun q hq=>by cases hq) [] (fun q hq=>by cases hq) X0);have MDX:=SR.md15 EF (f:={ FD.at_ 2 (0,0,0) with acc:=s1 }) (m:=DM.zero) ⟨num_zero _ _,num_zero _ _,rdP_nil _,rdP_nil _,rdP_nil _⟩;have MDH:=Jh MDX;clear MDX;exact bodyPost_ret (v:=.agg X0) (results_cell_row Tryz.results44 _ _ _ 45 X0 (0,0) _ rfl hrow Tryz.underlying45 rfl (by rw[dir_size,HR0.out.size])) rfl ⟨X0,{ FD.at_ 2 (0,0,0) with acc:=s1 },DM.zero,a1,e1,rfl,HR0.out,EF.out.kp,EF.out.st,(fun h=>⟨HX0.out.symm,(L1.out h).1,(L1.out h).2.2⟩),MDH.out,⟨nofar,nofar,nofar⟩,AF.out⟩
theorem behind_wCommodity{W0 w:World}{g B n c a e:Nat}{A:Option Addr}{L:List Tk4}{G:Nat→Nat→Int→Nat→Prop}(X:CX W0 B A n c L G)(hw:Below W0.heap.size W0 w)(hg:W0.heap.size≤g)(hs:StR w g A n c a e)(ha:e=0→a≤n)(ha1:e=0→1≤a)(S:ByteArray)(h:bs9 S=wCommodity):Calls Tryz.prog 44 #[.pointer (some ⟨g,0,none⟩),.string S] w (RtX w g A n c a e (fun a=>rest15 (L.map tok) (0,0,0) (bs9 S) a)):=by
 have d0:(S.toList == ([111,112,101,110]:List UInt8))=false:=lit_not (by rw[h];decide);have d1:(S.toList == ([99,108,111,115,101]:List UInt8))=false:=lit_not (by rw[h];decide);have d2:(S.toList == ([99,111,109,109,111,100,105,116,121]:List UInt8))=true:=lit_yes h;rw[h,rest_wCommodity];have E:=Jh (SR.start hw hg hs);have HA0:=Jh ha;have hgw:=Bk.lt hs;obtain⟨Z,hZ⟩:∃Z,cD FD.zero DM.zero=Z:=⟨_,rfl⟩;have HZ:=Jh hZ;clear hZ;have HA1:=Jh ha1;clear hw hg hs ha ha1 h;go_enter Tryz.func44,Tryz.ntmps44;go_wp2_with fail;replace E:=Jh (E.out.lay (cD FD.zero DM.zero) 45 (g1:=w.heap.size) rfl);generalize hW:World.alloc w _=Y0 at ⊢;have hW2:w.alloc (.cells (cD FD.zero DM.zero) 45)=Y0:=hW;rw[hW2,HZ.out] at E;have HY:w.heap.size+1=Y0.heap.size:=by rw[← hW2];simp
 clear hW hW2;have IK:=Jh (ikd_one Y0 (3) 3 (q:=w.heap.size+1) HY);replace E:=Jh (E.out.step ((Below.refl _ _).alloc (Nat.le_refl _) (.cells #[.int .i64 3] 3)));generalize hW:World.alloc Y0 _=V1 at E IK ⊢;clear hW;generalize w.heap.size+1=q1 at IK ⊢;refine(word_is X E.out.bel E.out.pl.1 E.out.st IK.out HA0.out).mono ?_;rintro en w1 ⟨s1,a1,e1,rfl,hk,hst,haft,hlt,hsz⟩;replace E:=Jh (E.out.call hk hst);rw[tkwK_one] at haft;have F1:=Jh haft;have L1:=Jh hlt;have Z1:=Jh hsz;clear hk hst haft hlt hsz IK;have HLZ:Hid (w.heap.size<w1.heap.size):=SR.lt E (g1:=w.heap.size) (xs:=Z) (t:=45) (by simp);replace E:=Jh (E.out.lay #[.string s1] 9 (g1:=w1.heap.size) rfl);have HWS:Hid (w.heap.size≤w1.heap.size):=by have:=HLZ.out;show _≤_;omega
 obtain⟨X0,hX⟩:∃X,cD { FD.at_ 3 (0,0,0) with curs:=[s1] } { DM.zero with Ac:=some ⟨w1.heap.size,0,none⟩,nc:=1,cc:=1 }=X:=⟨_,rfl⟩;have HR0:Hid (Row27 X0):=by rw[← hX];exact row27_cD _ _
 have HX0:=Jh hX;have HBD:Hid (∀w:World,(Instr.build 45 #[(0,.int .i64 3),(4,.slice (some ⟨w1.heap.size,0,none⟩) 1 1)]).run Tryz.prog w=.ok (.agg X0) w):=by rw[← hX];exact bd_com s1 _ _ _
 clear hX;have AF:Hid (Aft (nxr e a (fun a=>thn (tkw (L.map tok) a 3) fun c a=>.inr (.com (0,0,0) c,a))) a1 e1 (fun d=>{ FD.at_ 3 (0,0,0) with curs:=[s1] }=fdOf (some d))):=F1.out.go (Aft.ret rfl);have BZ:=SR.bk E (g1:=w.heap.size) (xs:=Z) (t:=45) (by simp);have hXs:=HR0.out.size;have hst:=st_rowX HR0.out (by rw[← HZ.out];rfl) BZ;go_wp2_with (refine wpList_build rfl 45 _ rfl #[(0,.int .i64 3),(4,.slice (some ⟨w1.heap.size,0,none⟩) 1 1)] (by go_simp) (.agg X0) (HBD.out _) ?_);have hrow:=setRow_heap _ w.heap.size _ X0 _ _ BZ;have EF:=Jh (E.out.setRow (g1:=w.heap.size) (xs:=Z) (t:=45) (by simp) (by rw[← HZ.out];exact(row27_cD _ _).cl) (fun q hq=>by cases hq) [(w1.heap.size,#[.string s1],9)] (fun q hq=>by simp at hq;subst hq;exact⟨by simp,by have:=HLZ.out;show w1.heap.size≠w.heap.size;omega⟩) X0);have MDX:=SR.md15 EF (f:={ FD.at_ 3 (0,0,0) with curs:=[s1] }) (m:={ DM.zero with Ac:=some ⟨w1.heap.size,0,none⟩,nc:=1,cc:=1 }) ⟨num_zero _ _,num_zero _ _,rdP_bk (SR.bk EF (g1:=w1.heap.size) (xs:=#[.string s1]) (t:=9) (by simp)),rdP_nil _,rdP_nil _⟩;have MDH:=Jh MDX;clear MDX;exact bodyPost_ret (v:=.agg X0) (results_cell_row Tryz.results44 _ _ _ 45 X0 (0,0) _ rfl hrow Tryz.underlying45 rfl (by rw[dir_size,HR0.out.size])) rfl ⟨X0,{ FD.at_ 3 (0,0,0) with curs:=[s1] },{ DM.zero with Ac:=some ⟨w1.heap.size,0,none⟩,nc:=1,cc:=1 },a1,e1,rfl,HR0.out,EF.out.kp,EF.out.st,(fun h=>⟨HX0.out.symm,(L1.out h).1,(L1.out h).2.2⟩),MDH.out,⟨farg HWS.out,nofar,nofar⟩,AF.out⟩
theorem behind_wPrice{W0 w:World}{g B n c a e:Nat}{A:Option Addr}{L:List Tk4}{G:Nat→Nat→Int→Nat→Prop}(X:CX W0 B A n c L G)(hw:Below W0.heap.size W0 w)(hg:W0.heap.size≤g)(hs:StR w g A n c a e)(ha:e=0→a≤n)(ha1:e=0→1≤a)(S:ByteArray)(h:bs9 S=wPrice):Calls Tryz.prog 44 #[.pointer (some ⟨g,0,none⟩),.string S] w (RtX w g A n c a e (fun a=>rest15 (L.map tok) (0,0,0) (bs9 S) a)):=by
 have d0:(S.toList == ([111,112,101,110]:List UInt8))=false:=lit_not (by rw[h];decide);have d1:(S.toList == ([99,108,111,115,101]:List UInt8))=false:=lit_not (by rw[h];decide);have d2:(S.toList == ([99,111,109,109,111,100,105,116,121]:List UInt8))=false:=lit_not (by rw[h];decide);have d3:(S.toList == ([112,114,105,99,101]:List UInt8))=true:=lit_yes h;rw[h,rest_wPrice];have E:=Jh (SR.start hw hg hs);have HA0:=Jh ha;have hgw:=Bk.lt hs;obtain⟨Z,hZ⟩:∃Z,cD FD.zero DM.zero=Z:=⟨_,rfl⟩;have HZ:=Jh hZ;clear hZ;have HA1:=Jh ha1;clear hw hg hs ha ha1 h;go_enter Tryz.func44,Tryz.ntmps44;go_wp2_with fail;replace E:=Jh (E.out.lay (cD FD.zero DM.zero) 45 (g1:=w.heap.size) rfl);generalize hW:World.alloc w _=Y0 at ⊢;have hW2:w.alloc (.cells (cD FD.zero DM.zero) 45)=Y0:=hW;rw[hW2,HZ.out] at E;have HY:w.heap.size+1=Y0.heap.size:=by rw[← hW2];simp
 clear hW hW2;have IK:=Jh (ikd_one Y0 (3) 3 (q:=w.heap.size+1) HY);replace E:=Jh (E.out.step ((Below.refl _ _).alloc (Nat.le_refl _) (.cells #[.int .i64 3] 3)));generalize hW:World.alloc Y0 _=V1 at E IK ⊢;clear hW;generalize w.heap.size+1=q1 at IK ⊢;refine(word_is X E.out.bel E.out.pl.1 E.out.st IK.out HA0.out).mono ?_;rintro en w1 ⟨s1,a1,e1,rfl,hk,hst,haft,hlt,hsz⟩;replace E:=Jh (E.out.call hk hst);rw[tkwK_one] at haft;have F1:=Jh haft;have L1:=Jh hlt;have Z1:=Jh hsz;clear hk hst haft hlt hsz IK;go_wp2_with fail;have HLZ:Hid (w.heap.size<w1.heap.size):=SR.lt E (g1:=w.heap.size) (xs:=Z) (t:=45) (by simp);replace E:=Jh (E.out.lay #[.string s1] 9 (g1:=w1.heap.size) rfl);generalize hW:World.alloc w1 _=V9 at E ⊢;clear hW;have HWS:Hid (w.heap.size<w1.heap.size):=HLZ.out;generalize w1.heap.size=g5 at E HWS ⊢;refine(reckonA_is X E.out.bel E.out.pl.1 E.out.st (fun h=>(L1.out h).2.2)).mono ?_;rintro en w2 ⟨i2,k2,u2,A2,n2,c2,a2,e2,rfl,hnum,hk,hst,haft,hlt⟩;replace E:=Jh ((E.out.call hk hst).push hnum);have F2:=Jh haft;have L2:=Jh hlt;clear hnum hk hst haft hlt HLZ;obtain⟨X0,hX⟩:∃X,cD { FD.at_ 4 (0,0,0) with curs:=[s1],i:=i2,k:=k2,cur:=u2 } { DM.zero with Ac:=some ⟨g5,0,none⟩,nc:=1,cc:=1,A:=A2,n:=n2,c:=c2 }=X:=⟨_,rfl⟩;have HR0:Hid (Row27 X0):=by rw[← hX];exact row27_cD _ _
 have HX0:=Jh hX;have HBD:Hid (∀w:World,(Instr.build 45 #[(0,.int .i64 4),(4,.slice (some ⟨g5,0,none⟩) 1 1),(6,.agg #[.bool (ngB i2),.slice A2 n2 c2,.int .i64 (k2:Int),.string u2])]).run Tryz.prog w=.ok (.agg X0) w):=by rw[← hX];exact bd_prc s1 u2 _ _ _ _ _ _ _ _
 clear hX;have AF:Hid (Aft (nxr e a (fun a=>thn (tkw (L.map tok) a 3) fun c a=>thn (amr (L.map tok) a) fun n a=>.inr (.prc (0,0,0) c n.1 n.2.1 n.2.2,a))) a2 e2 (fun d=>{ FD.at_ 4 (0,0,0) with curs:=[s1],i:=i2,k:=k2,cur:=u2 }=fdOf (some d))):=F1.out.go (F2.out.go (Aft.ret rfl));have BZ:=SR.bk E (g1:=w.heap.size) (xs:=Z) (t:=45) (by simp);have hXs:=HR0.out.size;have hst:=st_rowX HR0.out (by rw[← HZ.out];rfl) BZ;go_wp2_with (refine wpList_build rfl 45 _ rfl #[(0,.int .i64 4),(4,.slice (some ⟨g5,0,none⟩) 1 1),(6,.agg #[.bool (ngB i2),.slice A2 n2 c2,.int .i64 (k2:Int),.string u2])] (by go_simp) (.agg X0) (HBD.out _) ?_);have hrow:=setRow_heap _ w.heap.size _ X0 _ _ BZ;have EF:=Jh (E.out.setRow (g1:=w.heap.size) (xs:=Z) (t:=45) (by simp) (by rw[← HZ.out];exact(row27_cD _ _).cl) (fun q hq=>by cases hq) [(g5,#[.string s1],9)] (fun q hq=>by simp at hq;subst hq;exact⟨by simp,by have:=HWS.out;show g5≠w.heap.size;omega⟩) X0);have MDX:=SR.md15 EF (f:={ FD.at_ 4 (0,0,0) with curs:=[s1],i:=i2,k:=k2,cur:=u2 }) (m:={ DM.zero with Ac:=some ⟨g5,0,none⟩,nc:=1,cc:=1,A:=A2,n:=n2,c:=c2 }) ⟨SR.got EF (A1:=A2) (n1:=n2) (c1:=c2) (x:=i2.natAbs) (by simp),num_zero _ _,rdP_bk (SR.bk EF (g1:=g5) (xs:=#[.string s1]) (t:=9) (by simp)),rdP_nil _,rdP_nil _⟩;have MDH:=Jh MDX;clear MDX;exact bodyPost_ret (v:=.agg X0) (results_cell_row Tryz.results44 _ _ _ 45 X0 (0,0) _ rfl hrow Tryz.underlying45 rfl (by rw[dir_size,HR0.out.size])) rfl ⟨X0,{ FD.at_ 4 (0,0,0) with curs:=[s1],i:=i2,k:=k2,cur:=u2 },{ DM.zero with Ac:=some ⟨g5,0,none⟩,nc:=1,cc:=1,A:=A2,n:=n2,c:=c2 },a2,e2,rfl,HR0.out,EF.out.kp,EF.out.st,(fun h=>⟨HX0.out.symm,Aft.zero (h▸AF.out),(L2.out h).2.2⟩),MDH.out,⟨farg (Nat.le_of_lt HWS.out),nofar,nofar⟩,AF.out⟩
theorem behind_wPad{W0 w:World}{g B n c a e:Nat}{A:Option Addr}{L:List Tk4}{G:Nat→Nat→Int→Nat→Prop}(X:CX W0 B A n c L G)(hw:Below W0.heap.size W0 w)(hg:W0.heap.size≤g)(hs:StR w g A n c a e)(ha:e=0→a≤n)(ha1:e=0→1≤a)(S:ByteArray)(h:bs9 S=wPad):Calls Tryz.prog 44 #[.pointer (some ⟨g,0,none⟩),.string S] w (RtX w g A n c a e (fun a=>rest15 (L.map tok) (0,0,0) (bs9 S) a)):=by
 have d0:(S.toList == ([111,112,101,110]:List UInt8))=false:=lit_not (by rw[h];decide);have d1:(S.toList == ([99,108,111,115,101]:List UInt8))=false:=lit_not (by rw[h];decide);have d2:(S.toList == ([99,111,109,109,111,100,105,116,121]:List UInt8))=false:=lit_not (by rw[h];decide);have d3:(S.toList == ([112,114,105,99,101]:List UInt8))=false:=lit_not (by rw[h];decide);have d4:(S.toList == ([112,97,100]:List UInt8))=true:=lit_yes h;rw[h,rest_wPad];have E:=Jh (SR.start hw hg hs);have HA0:=Jh ha;have hgw:=Bk.lt hs;obtain⟨Z,hZ⟩:∃Z,cD FD.zero DM.zero=Z:=⟨_,rfl⟩;have HZ:=Jh hZ;clear hZ;have HA1:=Jh ha1;clear hw hg hs ha ha1 h;go_enter Tryz.func44,Tryz.ntmps44;go_wp2_with fail;replace E:=Jh (E.out.lay (cD FD.zero DM.zero) 45 (g1:=w.heap.size) rfl);generalize hW:World.alloc w _=Y0 at ⊢;have hW2:w.alloc (.cells (cD FD.zero DM.zero) 45)=Y0:=hW;rw[hW2,HZ.out] at E;have HY:w.heap.size+1=Y0.heap.size:=by rw[← hW2];simp
 clear hW hW2;have IK:=Jh (ikd_one Y0 (2) 3 (q:=w.heap.size+1) HY);replace E:=Jh (E.out.step ((Below.refl _ _).alloc (Nat.le_refl _) (.cells #[.int .i64 2] 3)));generalize hW:World.alloc Y0 _=V1 at E IK ⊢;clear hW;generalize w.heap.size+1=q1 at IK ⊢;refine(word_is X E.out.bel E.out.pl.1 E.out.st IK.out HA0.out).mono ?_;rintro en w1 ⟨s1,a1,e1,rfl,hk,hst,haft,hlt,hsz⟩;replace E:=Jh (E.out.call hk hst);rw[tkwK_one] at haft;have F1:=Jh haft;have L1:=Jh hlt;have Z1:=Jh hsz;clear hk hst haft hlt hsz IK;go_wp2_with fail;have IK:=Jh (ikd_one w1 (2) 3 (q:=w1.heap.size) rfl);replace E:=Jh (E.out.step ((Below.refl _ _).alloc (Nat.le_refl _) (.cells #[.int .i64 2] 3)));generalize hW:World.alloc w1 _=V2 at E IK ⊢;clear hW;generalize w1.heap.size=q2 at IK ⊢;refine(word_is X E.out.bel E.out.pl.1 E.out.st IK.out (fun h=>(L1.out h).2.2)).mono ?_;rintro en w2 ⟨s2,a2,e2,rfl,hk,hst,haft,hlt,hsz⟩;replace E:=Jh (E.out.call hk hst);rw[tkwK_one] at haft;have F2:=Jh haft;have L2:=Jh hlt;have Z2:=Jh hsz;clear hk hst haft hlt hsz IK;obtain⟨X0,hX⟩:∃X,cD { FD.at_ 5 (0,0,0) with acc:=s1,oth:=s2 } DM.zero=X:=⟨_,rfl⟩;have HR0:Hid (Row27 X0):=by rw[← hX];exact row27_cD _ _
 have HX0:=Jh hX;have HBD:Hid (∀w:World,(Instr.build 45 #[(0,.int .i64 5),(2,.string s1),(3,.string s2)]).run Tryz.prog w=.ok (.agg X0) w):=by rw[← hX];exact bd_pad s1 s2
 clear hX;have AF:Hid (Aft (nxr e a (fun a=>thn (tkw (L.map tok) a 2) fun x a=>thn (tkw (L.map tok) a 2) fun y a=>.inr (.pad (0,0,0) x y,a))) a2 e2 (fun d=>{ FD.at_ 5 (0,0,0) with acc:=s1,oth:=s2 }=fdOf (some d))):=F1.out.go (F2.out.go (Aft.ret rfl));have BZ:=SR.bk E (g1:=w.heap.size) (xs:=Z) (t:=45) (by simp);have hXs:=HR0.out.size;have hst:=st_rowX HR0.out (by rw[← HZ.out];rfl) BZ;go_wp2_with (refine wpList_build rfl 45 _ rfl #[(0,.int .i64 5),(2,.string s1),(3,.string s2)] (by go_simp) (.agg X0) (HBD.out _) ?_);have hrow:=setRow_heap _ w.heap.size _ X0 _ _ BZ;have EF:=Jh (E.out.setRow (g1:=w.heap.size) (xs:=Z) (t:=45) (by simp) (by rw[← HZ.out];exact(row27_cD _ _).cl) (fun q hq=>by cases hq) [] (fun q hq=>by cases hq) X0);have MDX:=SR.md15 EF (f:={ FD.at_ 5 (0,0,0) with acc:=s1,oth:=s2 }) (m:=DM.zero) ⟨num_zero _ _,num_zero _ _,rdP_nil _,rdP_nil _,rdP_nil _⟩;have MDH:=Jh MDX;clear MDX;exact bodyPost_ret (v:=.agg X0) (results_cell_row Tryz.results44 _ _ _ 45 X0 (0,0) _ rfl hrow Tryz.underlying45 rfl (by rw[dir_size,HR0.out.size])) rfl ⟨X0,{ FD.at_ 5 (0,0,0) with acc:=s1,oth:=s2 },DM.zero,a2,e2,rfl,HR0.out,EF.out.kp,EF.out.st,(fun h=>⟨HX0.out.symm,Aft.zero (h▸AF.out),(L2.out h).2.2⟩),MDH.out,⟨nofar,nofar,nofar⟩,AF.out⟩
theorem behind_wNote{W0 w:World}{g B n c a e:Nat}{A:Option Addr}{L:List Tk4}{G:Nat→Nat→Int→Nat→Prop}(X:CX W0 B A n c L G)(hw:Below W0.heap.size W0 w)(hg:W0.heap.size≤g)(hs:StR w g A n c a e)(ha:e=0→a≤n)(ha1:e=0→1≤a)(S:ByteArray)(h:bs9 S=wNote):Calls Tryz.prog 44 #[.pointer (some ⟨g,0,none⟩),.string S] w (RtX w g A n c a e (fun a=>rest15 (L.map tok) (0,0,0) (bs9 S) a)):=by
 have d0:(S.toList == ([111,112,101,110]:List UInt8))=false:=lit_not (by rw[h];decide);have d1:(S.toList == ([99,108,111,115,101]:List UInt8))=false:=lit_not (by rw[h];decide);have d2:(S.toList == ([99,111,109,109,111,100,105,116,121]:List UInt8))=false:=lit_not (by rw[h];decide);have d3:(S.toList == ([112,114,105,99,101]:List UInt8))=false:=lit_not (by rw[h];decide);have d4:(S.toList == ([112,97,100]:List UInt8))=false:=lit_not (by rw[h];decide);have d5:(S.toList == ([110,111,116,101]:List UInt8))=true:=lit_yes h;rw[h,rest_wNote];have E:=Jh (SR.start hw hg hs);have HA0:=Jh ha;have hgw:=Bk.lt hs;obtain⟨Z,hZ⟩:∃Z,cD FD.zero DM.zero=Z:=⟨_,rfl⟩;have HZ:=Jh hZ;clear hZ;have HA1:=Jh ha1;clear hw hg hs ha ha1 h;go_enter Tryz.func44,Tryz.ntmps44;go_wp2_with fail;replace E:=Jh (E.out.lay (cD FD.zero DM.zero) 45 (g1:=w.heap.size) rfl);generalize hW:World.alloc w _=Y0 at ⊢;have hW2:w.alloc (.cells (cD FD.zero DM.zero) 45)=Y0:=hW;rw[hW2,HZ.out] at E;have HY:w.heap.size+1=Y0.heap.size:=by rw[← hW2];simp
 clear hW hW2;have IK:=Jh (ikd_one Y0 (2) 3 (q:=w.heap.size+1) HY);replace E:=Jh (E.out.step ((Below.refl _ _).alloc (Nat.le_refl _) (.cells #[.int .i64 2] 3)));generalize hW:World.alloc Y0 _=V1 at E IK ⊢;clear hW;generalize w.heap.size+1=q1 at IK ⊢;refine(word_is X E.out.bel E.out.pl.1 E.out.st IK.out HA0.out).mono ?_;rintro en w1 ⟨s1,a1,e1,rfl,hk,hst,haft,hlt,hsz⟩;replace E:=Jh (E.out.call hk hst);rw[tkwK_one] at haft;have F1:=Jh haft;have L1:=Jh hlt;have Z1:=Jh hsz;clear hk hst haft hlt hsz IK;go_wp2_with fail;have IK:=Jh (ikd_one w1 (5) 3 (q:=w1.heap.size) rfl);replace E:=Jh (E.out.step ((Below.refl _ _).alloc (Nat.le_refl _) (.cells #[.int .i64 5] 3)));generalize hW:World.alloc w1 _=V2 at E IK ⊢;clear hW;generalize w1.heap.size=q2 at IK ⊢;refine(word_is X E.out.bel E.out.pl.1 E.out.st IK.out (fun h=>(L1.out h).2.2)).mono ?_;rintro en w2 ⟨s2,a2,e2,rfl,hk,hst,haft,hlt,hsz⟩;replace E:=Jh (E.out.call hk hst);rw[tkwK_one] at haft;have F2:=Jh haft;have L2:=Jh hlt;have Z2:=Jh hsz;clear hk hst haft hlt hsz IK;obtain⟨X0,hX⟩:∃X,cD { FD.at_ 8 (0,0,0) with acc:=s1,text:=s2 } DM.zero=X:=⟨_,rfl⟩;have HR0:Hid (Row27 X0):=by rw[← hX];exact row27_cD _ _
 have HX0:=Jh hX;have HBD:Hid (∀w:World,(Instr.build 45 #[(0,.int .i64 8),(2,.string s1),(17,.string s2)]).run Tryz.prog w=.ok (.agg X0) w):=by rw[← hX];exact bd_nte s1 s2
 clear hX;have AF:Hid (Aft (nxr e a (fun a=>thn (tkw (L.map tok) a 2) fun x a=>thn (tkw (L.map tok) a 5) fun y a=>.inr (.nte (0,0,0) x y,a))) a2 e2 (fun d=>{ FD.at_ 8 (0,0,0) with acc:=s1,text:=s2 }=fdOf (some d))):=F1.out.go (F2.out.go (Aft.ret rfl));have BZ:=SR.bk E (g1:=w.heap.size) (xs:=Z) (t:=45) (by simp);have hXs:=HR0.out.size;have hst:=st_rowX HR0.out (by rw[← HZ.out];rfl) BZ;go_wp2_with (refine wpList_build rfl 45 _ rfl #[(0,.int .i64 8),(2,.string s1),(17,.string s2)] (by go_simp) (.agg X0) (HBD.out _) ?_);have hrow:=setRow_heap _ w.heap.size _ X0 _ _ BZ;have EF:=Jh (E.out.setRow (g1:=w.heap.size) (xs:=Z) (t:=45) (by simp) (by rw[← HZ.out];exact(row27_cD _ _).cl) (fun q hq=>by cases hq) [] (fun q hq=>by cases hq) X0);have MDX:=SR.md15 EF (f:={ FD.at_ 8 (0,0,0) with acc:=s1,text:=s2 }) (m:=DM.zero) ⟨num_zero _ _,num_zero _ _,rdP_nil _,rdP_nil _,rdP_nil _⟩;have MDH:=Jh MDX;clear MDX;exact bodyPost_ret (v:=.agg X0) (results_cell_row Tryz.results44 _ _ _ 45 X0 (0,0) _ rfl hrow Tryz.underlying45 rfl (by rw[dir_size,HR0.out.size])) rfl ⟨X0,{ FD.at_ 8 (0,0,0) with acc:=s1,text:=s2 },DM.zero,a2,e2,rfl,HR0.out,EF.out.kp,EF.out.st,(fun h=>⟨HX0.out.symm,Aft.zero (h▸AF.out),(L2.out h).2.2⟩),MDH.out,⟨nofar,nofar,nofar⟩,AF.out⟩
theorem behind_wBalance{W0 w:World}{g B n c a e:Nat}{A:Option Addr}{L:List Tk4}{G:Nat→Nat→Int→Nat→Prop}(X:CX W0 B A n c L G)(hw:Below W0.heap.size W0 w)(hg:W0.heap.size≤g)(hs:StR w g A n c a e)(ha:e=0→a≤n)(ha1:e=0→1≤a)(S:ByteArray)(h:bs9 S=wBalance):Calls Tryz.prog 44 #[.pointer (some ⟨g,0,none⟩),.string S] w (RtX w g A n c a e (fun a=>rest15 (L.map tok) (0,0,0) (bs9 S) a)):=by
 have d0:(S.toList == ([111,112,101,110]:List UInt8))=false:=lit_not (by rw[h];decide);have d1:(S.toList == ([99,108,111,115,101]:List UInt8))=false:=lit_not (by rw[h];decide);have d2:(S.toList == ([99,111,109,109,111,100,105,116,121]:List UInt8))=false:=lit_not (by rw[h];decide);have d3:(S.toList == ([112,114,105,99,101]:List UInt8))=false:=lit_not (by rw[h];decide);have d4:(S.toList == ([112,97,100]:List UInt8))=false:=lit_not (by rw[h];decide);have d5:(S.toList == ([110,111,116,101]:List UInt8))=false:=lit_not (by rw[h];decide);have d6:(S.toList == ([98,97,108,97,110,99,101]:List UInt8))=true:=lit_yes h;rw[h,rest_wBalance];have E:=Jh (SR.start hw hg hs);have HA0:=Jh ha;have hgw:=Bk.lt hs;obtain⟨Z,hZ⟩:∃Z,cD FD.zero DM.zero=Z:=⟨_,rfl⟩;have HZ:=Jh hZ;clear hZ;have HA1:=Jh ha1;clear hw hg hs ha ha1 h;go_enter Tryz.func44,Tryz.ntmps44;go_wp2_with fail;replace E:=Jh (E.out.lay (cD FD.zero DM.zero) 45 (g1:=w.heap.size) rfl);generalize hW:World.alloc w _=Y0 at ⊢;have hW2:w.alloc (.cells (cD FD.zero DM.zero) 45)=Y0:=hW;rw[hW2,HZ.out] at E;have HY:w.heap.size+1=Y0.heap.size:=by rw[← hW2];simp
 clear hW hW2;have hws:=E.out.kp.size;have HLZ0:Hid (w.heap.size<Y0.heap.size):=SR.lt E (g1:=w.heap.size) (xs:=Z) (t:=45) (by simp);refine(balance_is X E.out.bel E.out.pl.1 E.out.st HA0.out).mono ?_;rintro en w1 ⟨X0,f,md,a1,e1,rfl,hrw,hk,hst,hx,hmd,hfar,haft⟩;replace E:=Jh ((((((E.out.call hk hst).push hmd.num).push hmd.tol).read hmd.cur _ hfar.cur hws).read hmd.tag _ hfar.tag hws).read hmd.lnk _ hfar.lnk hws);have HR0:=Jh hrw;have HXX:=Jh hx;have AF:=Jh haft;clear hrw hk hst hx hmd hfar haft hws;have BZ:=SR.bk E (g1:=w.heap.size) (xs:=Z) (t:=45) (by simp);have hXs:=HR0.out.size;have hst:=st_rowX HR0.out (by rw[← HZ.out];rfl) BZ;go_wp2_with fail;have hrow:=setRow_heap _ w.heap.size _ X0 _ _ BZ;have EF:=Jh (E.out.setRow (g1:=w.heap.size) (xs:=Z) (t:=45) (by simp) (by rw[← HZ.out];exact(row27_cD _ _).cl) (fun q hq=>by simp at hq;rcases hq with rfl|rfl|rfl<;>exact .inl HLZ0.out) [] (fun q hq=>by cases hq) X0);have MDX:=SR.md15 EF (f:=f) (m:=md) ⟨SR.got EF (A1:=md.A) (n1:=md.n) (c1:=md.c) (x:=f.i.natAbs) (by simp),SR.got EF (A1:=md.At) (n1:=md.nt) (c1:=md.ct) (x:=f.ti.natAbs) (by simp),SR.rd EF (List.mem_cons_of_mem _ (List.mem_cons_of_mem _ List.mem_cons_self)),SR.rd EF (List.mem_cons_of_mem _ List.mem_cons_self),SR.rd EF List.mem_cons_self⟩;have MDH:=Jh MDX;clear MDX;exact bodyPost_ret (v:=.agg X0) (results_cell_row Tryz.results44 _ _ _ 45 X0 (0,0) _ rfl hrow Tryz.underlying45 rfl (by rw[dir_size,HR0.out.size])) rfl ⟨X0,f,md,a1,e1,rfl,HR0.out,EF.out.kp,EF.out.st,HXX.out,MDH.out,⟨SR.far EF (List.mem_cons_of_mem _ (List.mem_cons_of_mem _ List.mem_cons_self)),SR.far EF (List.mem_cons_of_mem _ List.mem_cons_self),SR.far EF List.mem_cons_self⟩,AF.out⟩
theorem behind_wTxn{W0 w:World}{g B n c a e:Nat}{A:Option Addr}{L:List Tk4}{G:Nat→Nat→Int→Nat→Prop}(X:CX W0 B A n c L G)(hw:Below W0.heap.size W0 w)(hg:W0.heap.size≤g)(hs:StR w g A n c a e)(ha:e=0→a≤n)(ha1:e=0→1≤a)(S:ByteArray)(h:bs9 S=wTxn):Calls Tryz.prog 44 #[.pointer (some ⟨g,0,none⟩),.string S] w (RtX w g A n c a e (fun a=>rest15 (L.map tok) (0,0,0) (bs9 S) a)):=by
 have d0:(S.toList == ([111,112,101,110]:List UInt8))=false:=lit_not (by rw[h];decide);have d1:(S.toList == ([99,108,111,115,101]:List UInt8))=false:=lit_not (by rw[h];decide);have d2:(S.toList == ([99,111,109,109,111,100,105,116,121]:List UInt8))=false:=lit_not (by rw[h];decide);have d3:(S.toList == ([112,114,105,99,101]:List UInt8))=false:=lit_not (by rw[h];decide);have d4:(S.toList == ([112,97,100]:List UInt8))=false:=lit_not (by rw[h];decide);have d5:(S.toList == ([110,111,116,101]:List UInt8))=false:=lit_not (by rw[h];decide);have d6:(S.toList == ([98,97,108,97,110,99,101]:List UInt8))=false:=lit_not (by rw[h];decide);have d7:(S.toList == ([116,120,110]:List UInt8))=true:=lit_yes h;rw[h,rest_wTxn];have E:=Jh (SR.start hw hg hs);have HA0:=Jh ha;have hgw:=Bk.lt hs;obtain⟨Z,hZ⟩:∃Z,cD FD.zero DM.zero=Z:=⟨_,rfl⟩;have HZ:=Jh hZ;clear hZ;have HA1:=Jh ha1;clear hw hg hs ha ha1 h;go_enter Tryz.func44,Tryz.ntmps44;go_wp2_with fail;replace E:=Jh (E.out.lay (cD FD.zero DM.zero) 45 (g1:=w.heap.size) rfl);generalize hW:World.alloc w _=Y0 at ⊢;have hW2:w.alloc (.cells (cD FD.zero DM.zero) 45)=Y0:=hW;rw[hW2,HZ.out] at E;have HY:w.heap.size+1=Y0.heap.size:=by rw[← hW2];simp
 clear hW hW2;have hws:=E.out.kp.size;have HLZ0:Hid (w.heap.size<Y0.heap.size):=SR.lt E (g1:=w.heap.size) (xs:=Z) (t:=45) (by simp);refine(transaction_is X E.out.bel E.out.pl.1 E.out.st HA0.out (F:=⟨#[42]⟩) (fl:=false) rfl).mono ?_;rintro en w1 ⟨X0,f,md,a1,e1,rfl,hrw,hk,hst,hx,hmd,hfar,haft⟩;replace E:=Jh ((((((E.out.call hk hst).push hmd.num).push hmd.tol).read hmd.cur _ hfar.cur hws).read hmd.tag _ hfar.tag hws).read hmd.lnk _ hfar.lnk hws);have HR0:=Jh hrw;have HXX:=Jh hx;have AF:=Jh haft;clear hrw hk hst hx hmd hfar haft hws;have BZ:=SR.bk E (g1:=w.heap.size) (xs:=Z) (t:=45) (by simp);have hXs:=HR0.out.size;have hst:=st_rowX HR0.out (by rw[← HZ.out];rfl) BZ;go_wp2_with fail;have hrow:=setRow_heap _ w.heap.size _ X0 _ _ BZ;have EF:=Jh (E.out.setRow (g1:=w.heap.size) (xs:=Z) (t:=45) (by simp) (by rw[← HZ.out];exact(row27_cD _ _).cl) (fun q hq=>by simp at hq;rcases hq with rfl|rfl|rfl<;>exact .inl HLZ0.out) [] (fun q hq=>by cases hq) X0);have MDX:=SR.md15 EF (f:=f) (m:=md) ⟨SR.got EF (A1:=md.A) (n1:=md.n) (c1:=md.c) (x:=f.i.natAbs) (by simp),SR.got EF (A1:=md.At) (n1:=md.nt) (c1:=md.ct) (x:=f.ti.natAbs) (by simp),SR.rd EF (List.mem_cons_of_mem _ (List.mem_cons_of_mem _ List.mem_cons_self)),SR.rd EF (List.mem_cons_of_mem _ List.mem_cons_self),SR.rd EF List.mem_cons_self⟩;have MDH:=Jh MDX;clear MDX;exact bodyPost_ret (v:=.agg X0) (results_cell_row Tryz.results44 _ _ _ 45 X0 (0,0) _ rfl hrow Tryz.underlying45 rfl (by rw[dir_size,HR0.out.size])) rfl ⟨X0,f,md,a1,e1,rfl,HR0.out,EF.out.kp,EF.out.st,HXX.out,MDH.out,⟨SR.far EF (List.mem_cons_of_mem _ (List.mem_cons_of_mem _ List.mem_cons_self)),SR.far EF (List.mem_cons_of_mem _ List.mem_cons_self),SR.far EF List.mem_cons_self⟩,AF.out⟩
theorem behind_star{W0 w:World}{g B n c a e:Nat}{A:Option Addr}{L:List Tk4}{G:Nat→Nat→Int→Nat→Prop}(X:CX W0 B A n c L G)(hw:Below W0.heap.size W0 w)(hg:W0.heap.size≤g)(hs:StR w g A n c a e)(ha:e=0→a≤n)(ha1:e=0→1≤a)(S:ByteArray)(h:bs9 S=[42]):Calls Tryz.prog 44 #[.pointer (some ⟨g,0,none⟩),.string S] w (RtX w g A n c a e (fun a=>rest15 (L.map tok) (0,0,0) (bs9 S) a)):=by
 have d0:(S.toList == ([111,112,101,110]:List UInt8))=false:=lit_not (by rw[h];decide);have d1:(S.toList == ([99,108,111,115,101]:List UInt8))=false:=lit_not (by rw[h];decide);have d2:(S.toList == ([99,111,109,109,111,100,105,116,121]:List UInt8))=false:=lit_not (by rw[h];decide);have d3:(S.toList == ([112,114,105,99,101]:List UInt8))=false:=lit_not (by rw[h];decide);have d4:(S.toList == ([112,97,100]:List UInt8))=false:=lit_not (by rw[h];decide);have d5:(S.toList == ([110,111,116,101]:List UInt8))=false:=lit_not (by rw[h];decide);have d6:(S.toList == ([98,97,108,97,110,99,101]:List UInt8))=false:=lit_not (by rw[h];decide);have d7:(S.toList == ([116,120,110]:List UInt8))=false:=lit_not (by rw[h];decide);have d8:(S.toList == ([42]:List UInt8))=true:=lit_yes h;have HSS:Hid ((if false=true then (⟨#[33]⟩:ByteArray) else ⟨#[42]⟩)=S):=bs9_inj h.symm;rw[h,rest_star];have E:=Jh (SR.start hw hg hs);have HA0:=Jh ha;have hgw:=Bk.lt hs;obtain⟨Z,hZ⟩:∃Z,cD FD.zero DM.zero=Z:=⟨_,rfl⟩;have HZ:=Jh hZ;clear hZ;have HA1:=Jh ha1;clear hw hg hs ha ha1 h;go_enter Tryz.func44,Tryz.ntmps44;go_wp2_with fail;replace E:=Jh (E.out.lay (cD FD.zero DM.zero) 45 (g1:=w.heap.size) rfl);generalize hW:World.alloc w _=Y0 at ⊢;have hW2:w.alloc (.cells (cD FD.zero DM.zero) 45)=Y0:=hW;rw[hW2,HZ.out] at E;have HY:w.heap.size+1=Y0.heap.size:=by rw[← hW2];simp
 clear hW hW2;have hws:=E.out.kp.size;have HLZ0:Hid (w.heap.size<Y0.heap.size):=SR.lt E (g1:=w.heap.size) (xs:=Z) (t:=45) (by simp);refine(transaction_is X E.out.bel E.out.pl.1 E.out.st HA0.out (F:=S) (fl:=false) HSS.out).mono ?_;rintro en w1 ⟨X0,f,md,a1,e1,rfl,hrw,hk,hst,hx,hmd,hfar,haft⟩;replace E:=Jh ((((((E.out.call hk hst).push hmd.num).push hmd.tol).read hmd.cur _ hfar.cur hws).read hmd.tag _ hfar.tag hws).read hmd.lnk _ hfar.lnk hws);have HR0:=Jh hrw;have HXX:=Jh hx;have AF:=Jh haft;clear hrw hk hst hx hmd hfar haft hws;have BZ:=SR.bk E (g1:=w.heap.size) (xs:=Z) (t:=45) (by simp);have hXs:=HR0.out.size;have hst:=st_rowX HR0.out (by rw[← HZ.out];rfl) BZ;go_wp2_with fail;have hrow:=setRow_heap _ w.heap.size _ X0 _ _ BZ;have EF:=Jh (E.out.setRow (g1:=w.heap.size) (xs:=Z) (t:=45) (by simp) (by rw[← HZ.out];exact(row27_cD _ _).cl) (fun q hq=>by simp at hq;rcases hq with rfl|rfl|rfl<;>exact .inl HLZ0.out) [] (fun q hq=>by cases hq) X0);have MDX:=SR.md15 EF (f:=f) (m:=md) ⟨SR.got EF (A1:=md.A) (n1:=md.n) (c1:=md.c) (x:=f.i.natAbs) (by simp),SR.got EF (A1:=md.At) (n1:=md.nt) (c1:=md.ct) (x:=f.ti.natAbs) (by simp),SR.rd EF (List.mem_cons_of_mem _ (List.mem_cons_of_mem _ List.mem_cons_self)),SR.rd EF (List.mem_cons_of_mem _ List.mem_cons_self),SR.rd EF List.mem_cons_self⟩;have MDH:=Jh MDX;clear MDX;exact bodyPost_ret (v:=.agg X0) (results_cell_row Tryz.results44 _ _ _ 45 X0 (0,0) _ rfl hrow Tryz.underlying45 rfl (by rw[dir_size,HR0.out.size])) rfl ⟨X0,f,md,a1,e1,rfl,HR0.out,EF.out.kp,EF.out.st,HXX.out,MDH.out,⟨SR.far EF (List.mem_cons_of_mem _ (List.mem_cons_of_mem _ List.mem_cons_self)),SR.far EF (List.mem_cons_of_mem _ List.mem_cons_self),SR.far EF List.mem_cons_self⟩,AF.out⟩
theorem behind_bang{W0 w:World}{g B n c a e:Nat}{A:Option Addr}{L:List Tk4}{G:Nat→Nat→Int→Nat→Prop}(X:CX W0 B A n c L G)(hw:Below W0.heap.size W0 w)(hg:W0.heap.size≤g)(hs:StR w g A n c a e)(ha:e=0→a≤n)(ha1:e=0→1≤a)(S:ByteArray)(h:bs9 S=[33]):Calls Tryz.prog 44 #[.pointer (some ⟨g,0,none⟩),.string S] w (RtX w g A n c a e (fun a=>rest15 (L.map tok) (0,0,0) (bs9 S) a)):=by
 have d0:(S.toList == ([111,112,101,110]:List UInt8))=false:=lit_not (by rw[h];decide);have d1:(S.toList == ([99,108,111,115,101]:List UInt8))=false:=lit_not (by rw[h];decide);have d2:(S.toList == ([99,111,109,109,111,100,105,116,121]:List UInt8))=false:=lit_not (by rw[h];decide);have d3:(S.toList == ([112,114,105,99,101]:List UInt8))=false:=lit_not (by rw[h];decide);have d4:(S.toList == ([112,97,100]:List UInt8))=false:=lit_not (by rw[h];decide);have d5:(S.toList == ([110,111,116,101]:List UInt8))=false:=lit_not (by rw[h];decide);have d6:(S.toList == ([98,97,108,97,110,99,101]:List UInt8))=false:=lit_not (by rw[h];decide);have d7:(S.toList == ([116,120,110]:List UInt8))=false:=lit_not (by rw[h];decide);have d8:(S.toList == ([42]:List UInt8))=false:=lit_not (by rw[h];decide);have d9:(S.toList == ([33]:List UInt8))=true:=lit_yes h;have HSS:Hid ((if true=true then (⟨#[33]⟩:ByteArray) else ⟨#[42]⟩)=S):=bs9_inj h.symm;rw[h,rest_bang];have E:=Jh (SR.start hw hg hs);have HA0:=Jh ha;have hgw:=Bk.lt hs;obtain⟨Z,hZ⟩:∃Z,cD FD.zero DM.zero=Z:=⟨_,rfl⟩;have HZ:=Jh hZ;clear hZ;have HA1:=Jh ha1;clear hw hg hs ha ha1 h;go_enter Tryz.func44,Tryz.ntmps44;go_wp2_with fail;replace E:=Jh (E.out.lay (cD FD.zero DM.zero) 45 (g1:=w.heap.size) rfl);generalize hW:World.alloc w _=Y0 at ⊢;have hW2:w.alloc (.cells (cD FD.zero DM.zero) 45)=Y0:=hW;rw[hW2,HZ.out] at E;have HY:w.heap.size+1=Y0.heap.size:=by rw[← hW2];simp
 clear hW hW2;have hws:=E.out.kp.size;have HLZ0:Hid (w.heap.size<Y0.heap.size):=SR.lt E (g1:=w.heap.size) (xs:=Z) (t:=45) (by simp);refine(transaction_is X E.out.bel E.out.pl.1 E.out.st HA0.out (F:=S) (fl:=true) HSS.out).mono ?_;rintro en w1 ⟨X0,f,md,a1,e1,rfl,hrw,hk,hst,hx,hmd,hfar,haft⟩;replace E:=Jh ((((((E.out.call hk hst).push hmd.num).push hmd.tol).read hmd.cur _ hfar.cur hws).read hmd.tag _ hfar.tag hws).read hmd.lnk _ hfar.lnk hws);have HR0:=Jh hrw;have HXX:=Jh hx;have AF:=Jh haft;clear hrw hk hst hx hmd hfar haft hws;have BZ:=SR.bk E (g1:=w.heap.size) (xs:=Z) (t:=45) (by simp);have hXs:=HR0.out.size;have hst:=st_rowX HR0.out (by rw[← HZ.out];rfl) BZ;go_wp2_with fail;have hrow:=setRow_heap _ w.heap.size _ X0 _ _ BZ;have EF:=Jh (E.out.setRow (g1:=w.heap.size) (xs:=Z) (t:=45) (by simp) (by rw[← HZ.out];exact(row27_cD _ _).cl) (fun q hq=>by simp at hq;rcases hq with rfl|rfl|rfl<;>exact .inl HLZ0.out) [] (fun q hq=>by cases hq) X0);have MDX:=SR.md15 EF (f:=f) (m:=md) ⟨SR.got EF (A1:=md.A) (n1:=md.n) (c1:=md.c) (x:=f.i.natAbs) (by simp),SR.got EF (A1:=md.At) (n1:=md.nt) (c1:=md.ct) (x:=f.ti.natAbs) (by simp),SR.rd EF (List.mem_cons_of_mem _ (List.mem_cons_of_mem _ List.mem_cons_self)),SR.rd EF (List.mem_cons_of_mem _ List.mem_cons_self),SR.rd EF List.mem_cons_self⟩;have MDH:=Jh MDX;clear MDX;exact bodyPost_ret (v:=.agg X0) (results_cell_row Tryz.results44 _ _ _ 45 X0 (0,0) _ rfl hrow Tryz.underlying45 rfl (by rw[dir_size,HR0.out.size])) rfl ⟨X0,f,md,a1,e1,rfl,HR0.out,EF.out.kp,EF.out.st,HXX.out,MDH.out,⟨SR.far EF (List.mem_cons_of_mem _ (List.mem_cons_of_mem _ List.mem_cons_self)),SR.far EF (List.mem_cons_of_mem _ List.mem_cons_self),SR.far EF List.mem_cons_self⟩,AF.out⟩
theorem behind_else{W0 w:World}{g B n c a e:Nat}{A:Option Addr}{L:List Tk4}{G:Nat→Nat→Int→Nat→Prop}(X:CX W0 B A n c L G)(hw:Below W0.heap.size W0 w)(hg:W0.heap.size≤g)(hs:StR w g A n c a e)(ha:e=0→a≤n)(ha1:e=0→1≤a)(S:ByteArray)(h0:bs9 S≠wOpen)(h1:bs9 S≠wClose)(h2:bs9 S≠wCommodity)(h3:bs9 S≠wPrice)(h4:bs9 S≠wPad)(h5:bs9 S≠wNote)(h6:bs9 S≠wBalance)(h7:bs9 S≠wTxn)(h8:bs9 S≠[42])(h9:bs9 S≠[33]):Calls Tryz.prog 44 #[.pointer (some ⟨g,0,none⟩),.string S] w (RtX w g A n c a e (fun a=>rest15 (L.map tok) (0,0,0) (bs9 S) a)):=by
 have d0:(S.toList == ([111,112,101,110]:List UInt8))=false:=lit_not (h0);have d1:(S.toList == ([99,108,111,115,101]:List UInt8))=false:=lit_not (h1);have d2:(S.toList == ([99,111,109,109,111,100,105,116,121]:List UInt8))=false:=lit_not (h2);have d3:(S.toList == ([112,114,105,99,101]:List UInt8))=false:=lit_not (h3);have d4:(S.toList == ([112,97,100]:List UInt8))=false:=lit_not (h4);have d5:(S.toList == ([110,111,116,101]:List UInt8))=false:=lit_not (h5);have d6:(S.toList == ([98,97,108,97,110,99,101]:List UInt8))=false:=lit_not (h6);have d7:(S.toList == ([116,120,110]:List UInt8))=false:=lit_not (h7);have d8:(S.toList == ([42]:List UInt8))=false:=lit_not (h8);have d9:(S.toList == ([33]:List UInt8))=false:=lit_not (h9);rw[rest_else h0 h1 h2 h3 h4 h5 h6 h7 h8 h9];clear h0 h1 h2 h3 h4 h5 h6 h7 h8 h9;have E:=Jh (SR.start hw hg hs);have HA0:=Jh ha;have hgw:=Bk.lt hs;obtain⟨Z,hZ⟩:∃Z,cD FD.zero DM.zero=Z:=⟨_,rfl⟩;have HZ:=Jh hZ;clear hZ;have HA1:=Jh ha1;clear hw hg hs ha ha1;go_enter Tryz.func44,Tryz.ntmps44;go_wp2_with fail;replace E:=Jh (E.out.lay (cD FD.zero DM.zero) 45 (g1:=w.heap.size) rfl);generalize hW:World.alloc w _=Y0 at ⊢;have hW2:w.alloc (.cells (cD FD.zero DM.zero) 45)=Y0:=hW;rw[hW2,HZ.out] at E;have HY:w.heap.size+1=Y0.heap.size:=by rw[← hW2];simp
 clear hW hW2;obtain⟨a1,hb1⟩:∃x,(if e=0 then a-1 else a)=x:=⟨_,rfl⟩;obtain⟨e1,hb2⟩:∃x,(if e=0 then 3 else e)=x:=⟨_,rfl⟩;have AF:Hid (Aft (nxr e a (fun a=>(.inl (3,a-1):RH Dr))) a1 e1 (fun d=>FD.zero=fdOf (some d))):=Aft.refuse hb1 hb2;refine(refuse_is E.out.st (fun h=>⟨HA1.out h,by have:=HA0.out h;have:=X.hn;omega⟩) hb1 hb2).mono ?_;rintro en w1 ⟨rfl,hk,hst⟩;replace E:=Jh (E.out.call hk hst);have HE1:Hid (e1≠0):=by show e1≠0;rw[← hb2];split<;>omega
 clear hk hst hb1 hb2;obtain⟨X0,hX⟩:∃X,cD FD.zero DM.zero=X:=⟨_,rfl⟩;have HR0:Hid (Row27 X0):=by rw[← hX];exact row27_cD _ _
 have HX0:=Jh hX;have HBD:Hid (∀w:World,(Instr.build 45 #[]).run Tryz.prog w=.ok (.agg X0) w):=by rw[← hX];exact bd_nil
 clear hX;have BZ:=SR.bk E (g1:=w.heap.size) (xs:=Z) (t:=45) (by simp);have hXs:=HR0.out.size;have hst:=st_rowX HR0.out (by rw[← HZ.out];rfl) BZ;go_wp2_with (refine wpList_build rfl 45 _ rfl #[] (by go_simp) (.agg X0) (HBD.out _) ?_);have hrow:=setRow_heap _ w.heap.size _ X0 _ _ BZ;have EF:=Jh (E.out.setRow (g1:=w.heap.size) (xs:=Z) (t:=45) (by simp) (by rw[← HZ.out];exact(row27_cD _ _).cl) (fun q hq=>by cases hq) [] (fun q hq=>by cases hq) X0);have MDX:=SR.md15 EF (f:=FD.zero) (m:=DM.zero) (MD.nil _);have MDH:=Jh MDX;clear MDX;exact bodyPost_ret (v:=.agg X0) (results_cell_row Tryz.results44 _ _ _ 45 X0 (0,0) _ rfl hrow Tryz.underlying45 rfl (by rw[dir_size,HR0.out.size])) rfl ⟨X0,FD.zero,DM.zero,a1,e1,rfl,HR0.out,EF.out.kp,EF.out.st,(fun h=>absurd h HE1.out),MDH.out,⟨nofar,nofar,nofar⟩,AF.out⟩
theorem behind_is{W0 w:World}{g B n c a e:Nat}{A:Option Addr}{L:List Tk4}{G:Nat→Nat→Int→Nat→Prop}(X:CX W0 B A n c L G)(hw:Below W0.heap.size W0 w)(hg:W0.heap.size≤g)(hs:StR w g A n c a e)(ha:e=0→a≤n)(ha1:e=0→1≤a)(S:ByteArray):Calls Tryz.prog 44 #[.pointer (some ⟨g,0,none⟩),.string S] w (RtX w g A n c a e (fun a=>rest15 (L.map tok) (0,0,0) (bs9 S) a)):=by
 by_cases h0:bs9 S=wOpen
 ·exact behind_wOpen X hw hg hs ha ha1 S h0
 by_cases h1:bs9 S=wClose
 ·exact behind_wClose X hw hg hs ha ha1 S h1
 by_cases h2:bs9 S=wCommodity
 ·exact behind_wCommodity X hw hg hs ha ha1 S h2
 by_cases h3:bs9 S=wPrice
 ·exact behind_wPrice X hw hg hs ha ha1 S h3
 by_cases h4:bs9 S=wPad
 ·exact behind_wPad X hw hg hs ha ha1 S h4
 by_cases h5:bs9 S=wNote
 ·exact behind_wNote X hw hg hs ha ha1 S h5
 by_cases h6:bs9 S=wBalance
 ·exact behind_wBalance X hw hg hs ha ha1 S h6
 by_cases h7:bs9 S=wTxn
 ·exact behind_wTxn X hw hg hs ha ha1 S h7
 by_cases h8:bs9 S=[42]
 ·exact behind_star X hw hg hs ha ha1 S h8
 by_cases h9:bs9 S=[33]
 ·exact behind_bang X hw hg hs ha ha1 S h9
 exact behind_else X hw hg hs ha ha1 S h0 h1 h2 h3 h4 h5 h6 h7 h8 h9
def Dr.dated:Dr→Prop
 | .opt _ _=>False
 | _=>True
def Dated(r:RH Dr):Prop:=∀d b,r=.inr (d,b)→d.dated
theorem dated_thn{α:Type}{r:RH α}{f:α→Nat→RH Dr}(h:∀x b,Dated (f x b)):Dated (thn r f):=by
 rcases r with e|⟨x,b⟩
 ·intro d b h;cases h
 ·exact h x b
theorem dated_ok{d:Dr}{b:Nat}(h:d.dated):Dated (.inr (d,b)):=fun d2 b2 e=>by cases e;exact h
theorem dated_no{e:Nat×Nat}:Dated (.inl e):=fun d b h=>by cases h
theorem rest_dated(L:List Tok)(x:Int×Int×Int)(w:List Nat)(a:Nat):Dated (rest15 L x w a):=by
 unfold rest15;split
 ·unfold rOpen
  refine dated_thn fun ac b=>dated_thn fun cs b=>?_
  split
  ·split
   ·exact dated_no
   ·exact dated_ok trivial
  ·exact dated_ok trivial
 split
 ·exact dated_thn fun ac b=>dated_ok trivial
 split
 ·exact dated_thn fun ac b=>dated_ok trivial
 split
 ·exact dated_thn fun ac b=>dated_thn fun cs b=>dated_ok trivial
 split
 ·exact dated_thn fun ac b=>dated_thn fun cs b=>dated_ok trivial
 split
 ·unfold rBal
  exact dated_thn fun ac b=>dated_thn fun cs b=>dated_thn fun t b=>dated_thn fun u b=>dated_ok trivial
 split
 ·exact dated_thn fun ac b=>dated_thn fun cs b=>dated_ok trivial
 split
 ·exact dated_ok trivial
 split
 ·exact dated_ok trivial
 ·exact dated_no
theorem fd_day{d:Dr}{f:FD}{y m e:Int}(h:f=fdOf (some d))(hd:d.dated):{ f with y:=y,m:=m,d:=e }=fdOf (some (Dr.day (y,m,e) d)):=by
 subst h;cases d with
 | bal x a i k t u=>cases t<;>rfl
 | opt n u=>exact hd.elim
 | _=>rfl
theorem aft_day{L:List Tok}{e2 a2 a3 e3:Nat}{S:ByteArray}{f:FD}{y m d:Int}(h:Aft (nxr e2 a2 (fun a=>rest15 L (0,0,0) (bs9 S) a)) a3 e3 (fun d=>f=fdOf (some d))):Aft (nxr e2 a2 (fun a=>mapR (Dr.day (y,m,d)) (rest15 L (0,0,0) (bs9 S) a))) a3 e3 (fun dr=>{ f with y:=y,m:=m,d:=d }=fdOf (some dr)):=by
 unfold nxr at h ⊢;by_cases he:e2=0
 ·rw[if_pos he] at h ⊢
  have hd:=rest_dated L (0,0,0) (bs9 S) a2;dsimp only at h ⊢
  rcases hr:rest15 L (0,0,0) (bs9 S) a2 with⟨z,p⟩|⟨x,b⟩
  ·rw[hr] at h;exact h
  ·rw[hr] at h;exact⟨h.1,h.2.1,fd_day h.2.2 (hd x b hr)⟩
 ·rw[if_neg he] at h ⊢;exact h
theorem directive_is{W0 w:World}{g B n c:Nat}{A:Option Addr}{L:List Tk4}{G:Nat→Nat→Int→Nat→Prop}(X:CX W0 B A n c L G)(hw:Below W0.heap.size W0 w)(hg:W0.heap.size≤g)(hs:StR w g A n c 0 0):Calls Tryz.prog 18 #[.pointer (some ⟨g,0,none⟩)] w (RtX w g A n c 0 0 (fun _=>dirR (L.map tok))):=by
 have ha:(0:Nat)=0→0≤n:=fun _=>Nat.zero_le _
 have E:=Jh (SR.start hw hg hs);have HA0:=Jh ha;have hgw:=Bk.lt hs;obtain⟨Z,hZ⟩:∃Z,cD FD.zero DM.zero=Z:=⟨_,rfl⟩;have HZ:=Jh hZ;clear hZ;have hlen:=X.rd.len;have HLEN:=Jh hlen;clear hw hg hs ha hlen;go_enter Tryz.func18,Tryz.ntmps18;go_wp2_with fail;replace E:=Jh (E.out.lay (cD FD.zero DM.zero) 45 (g1:=w.heap.size) rfl);generalize hW:World.alloc w _=Y0 at ⊢;have hW2:w.alloc (.cells (cD FD.zero DM.zero) 45)=Y0:=hW;rw[hW2,HZ.out] at E;have HY:w.heap.size+1=Y0.heap.size:=by rw[← hW2];simp
 clear hW hW2;obtain⟨b1,hb1⟩:∃b,psW (L.map tok) 0 0 8 wOption=b:=⟨_,rfl⟩;obtain⟨a1,ha1⟩:∃a,(if b1=true then 0+1 else 0)=a:=⟨_,rfl⟩;refine(pass_is X E.out.bel E.out.pl.1 E.out.st 8 ⟨#[111,112,116,105,111,110]⟩ rfl hb1 ha1).mono ?_;rintro en w1 ⟨rfl,hk,hst⟩;replace E:=Jh (E.out.call hk hst);clear hk hst;cases b1 with
 | true=>
  rw[if_pos rfl] at ha1;subst ha1;have hl0:=(psW_yes hb1).2;have HP:=Jh hb1;have HA1:Hid (0+1≤n):=by have:=HLEN.out;show _≤_;omega
  clear hb1 hl0;go_wp2_with fail;have IK:=Jh (ikd_one w1 (5) 3 (q:=w1.heap.size) rfl);replace E:=Jh (E.out.step ((Below.refl _ _).alloc (Nat.le_refl _) (.cells #[.int .i64 5] 3)));generalize hW:World.alloc w1 _=V2 at E IK ⊢;clear hW;generalize w1.heap.size=q2 at IK ⊢;refine(word_is X E.out.bel E.out.pl.1 E.out.st IK.out (fun _=>HA1.out)).mono ?_;rintro en w2 ⟨s2,a2,e2,rfl,hk,hst,haft,hlt,hsz⟩;replace E:=Jh (E.out.call hk hst);rw[tkwK_one] at haft;have F2:=Jh haft;have L2:=Jh hlt;have Z2:=Jh hsz;clear hk hst haft hlt hsz IK;go_wp2_with fail;have IK:=Jh (ikd_one w2 (5) 3 (q:=w2.heap.size) rfl);replace E:=Jh (E.out.step ((Below.refl _ _).alloc (Nat.le_refl _) (.cells #[.int .i64 5] 3)));generalize hW:World.alloc w2 _=V3 at E IK ⊢;clear hW;generalize w2.heap.size=q3 at IK ⊢;refine(word_is X E.out.bel E.out.pl.1 E.out.st IK.out (fun h=>(L2.out h).2.2)).mono ?_;rintro en w3 ⟨s3,a3,e3,rfl,hk,hst,haft,hlt,hsz⟩;replace E:=Jh (E.out.call hk hst);rw[tkwK_one] at haft;have F3:=Jh haft;have L3:=Jh hlt;have Z3:=Jh hsz;clear hk hst haft hlt hsz IK;obtain⟨X0,hX⟩:∃X,cD { FD.zero with kind:=9,name:=s2,text:=s3 } DM.zero=X:=⟨_,rfl⟩;have HR0:Hid (Row27 X0):=by rw[← hX];exact row27_cD _ _
  have HX0:=Jh hX;have HBD:Hid (∀w:World,(Instr.build 45 #[(0,.int .i64 9),(16,.string s2),(17,.string s3)]).run Tryz.prog w=.ok (.agg X0) w):=by rw[← hX];exact bd_opt s2 s3
  clear hX;have AF:Hid (Aft (nxr 0 0 (fun _=>dirR (L.map tok))) a3 e3 (fun d=>{ FD.zero with kind:=9,name:=s2,text:=s3 }=fdOf (some d))):=by
   show Aft _ _ _ _;rw[nxr_go];unfold dirR;rw[if_pos HP.out];have q:Aft (nxr 0 (0+1) (fun a=>thn (tkw (L.map tok) a 5) fun n a=>thn (tkw (L.map tok) a 5) fun x a=>.inr (.opt n x,a))) a3 e3 (fun d=>{ FD.zero with kind:=9,name:=s2,text:=s3 }=fdOf (some d)):=F2.out.go (F3.out.go (Aft.ret rfl));rw[nxr_go] at q;exact q
  have BZ:=SR.bk E (g1:=w.heap.size) (xs:=Z) (t:=45) (by simp);have hXs:=HR0.out.size;have hst:=st_rowX HR0.out (by rw[← HZ.out];rfl) BZ;go_wp2_with (refine wpList_build rfl 45 _ rfl #[(0,.int .i64 9),(16,.string s2),(17,.string s3)] (by go_simp) (.agg X0) (HBD.out _) ?_);have hrow:=setRow_heap _ w.heap.size _ X0 _ _ BZ;have EF:=Jh (E.out.setRow (g1:=w.heap.size) (xs:=Z) (t:=45) (by simp) (by rw[← HZ.out];exact(row27_cD _ _).cl) (fun q hq=>by cases hq) [] (fun q hq=>by cases hq) X0);have MDX:=SR.md15 EF (f:={ FD.zero with kind:=9,name:=s2,text:=s3 }) (m:=DM.zero) ⟨num_zero _ _,num_zero _ _,rdP_nil _,rdP_nil _,rdP_nil _⟩;have MDH:=Jh MDX;clear MDX;exact bodyPost_ret (v:=.agg X0) (results_cell_row Tryz.results18 _ _ _ 45 X0 (0,0) _ rfl hrow Tryz.underlying45 rfl (by rw[dir_size,HR0.out.size])) rfl ⟨X0,{ FD.zero with kind:=9,name:=s2,text:=s3 },DM.zero,a3,e3,rfl,HR0.out,EF.out.kp,EF.out.st,(fun h=>⟨HX0.out.symm,rfl,(L3.out h).2.2⟩),MDH.out,⟨nofar,nofar,nofar⟩,AF.out⟩
 | false=>
  rw[if_neg (by decide)] at ha1;subst ha1;have HP:=Jh hb1;clear hb1;go_wp2_with fail;refine(day_is X E.out.bel E.out.pl.1 E.out.st (fun _=>Nat.zero_le _)).mono ?_;rintro en w2 ⟨y,m,d,a2,e2,rfl,hk,hst,haft,hlt⟩;replace E:=Jh (E.out.call hk hst);have F2:=Jh haft;have L2:=Jh hlt;clear hk hst haft hlt;go_upto_region 4 with fail
  replace E:=Jh (E.out.lay #[.int .i64 y,.int .i64 m,.int .i64 d] 34 (g1:=w2.heap.size) rfl);generalize hW:World.alloc w2 _=V7 at E ⊢;clear hW;generalize w2.heap.size=g2 at E ⊢;go_wp2_with fail;have IK:=Jh (ikd_two V7 (8) (10) 3 (q:=V7.heap.size) rfl);replace E:=Jh (E.out.step ((Below.refl _ _).alloc (Nat.le_refl _) (.cells #[.int .i64 8,.int .i64 10] 3)));generalize hW:World.alloc V7 _=V3 at E IK ⊢;clear hW;generalize V7.heap.size=q3 at IK ⊢;refine(word_is X E.out.bel E.out.pl.1 E.out.st IK.out (fun h=>(L2.out h).2)).mono ?_;rintro en w3 ⟨s3,a3,e3,rfl,hk,hst,haft,hlt,hsz⟩;replace E:=Jh (E.out.call hk hst);have F3:=Jh haft;have L3:=Jh hlt;have Z3:=Jh hsz;clear hk hst haft hlt hsz IK;have HB1:Hid (e3=0→1≤a3):=fun h=>by have q:=L3.out h;omega
  go_wp2_with fail;have hws:=E.out.kp.size;have HLZ0:Hid (w.heap.size<w3.heap.size):=SR.lt E (g1:=w.heap.size) (xs:=Z) (t:=45) (by simp);refine(behind_is X E.out.bel E.out.pl.1 E.out.st (fun h=>(L3.out h).2.2) HB1.out s3).mono ?_;rintro en w4 ⟨X0,f,md,a4,e4,rfl,hrw,hk,hst,hx,hmd,hfar,haft⟩;replace E:=Jh ((((((E.out.call hk hst).push hmd.num).push hmd.tol).read hmd.cur _ hfar.cur hws).read hmd.tag _ hfar.tag hws).read hmd.lnk _ hfar.lnk hws);have HR0:=Jh hrw;have HXX:=Jh hx;have F4:=Jh haft;clear hrw hk hst hx hmd hfar haft hws;have hXs0:=HR0.out.size;have hst:=st_newL HR0.out;go_upto_region 5 with fail
  clear hst hXs0;have E0:Hid (w.heap.size<w4.heap.size):=SR.lt E (g1:=w.heap.size) (xs:=Z) (t:=45) (by simp);replace E:=Jh (E.out.lay X0 45 (g1:=w4.heap.size) rfl);generalize hW:World.alloc w4 _=V0 at E ⊢;clear hW;have HNE:Hid (w.heap.size≠w4.heap.size):=by have:=E0.out;show _≠_;omega
  clear E0;generalize w4.heap.size=g3 at E HNE ⊢;have HG3:Hid (w.heap.size≤g3):=by have:=E.out.kp.size;exact(E.out.blk _ List.mem_cons_self).2
  have b0:=SR.atv E (g1:=g2) (xs:=#[.int .i64 y,.int .i64 m,.int .i64 d]) (t:=34) (by simp) 0 rfl;have bf0:=SR.fz E (g1:=g2) (xs:=#[.int .i64 y,.int .i64 m,.int .i64 d]) (t:=34) (by simp) 0;have b1:=SR.atv E (g1:=g2) (xs:=#[.int .i64 y,.int .i64 m,.int .i64 d]) (t:=34) (by simp) 1 rfl;have bf1:=SR.fz E (g1:=g2) (xs:=#[.int .i64 y,.int .i64 m,.int .i64 d]) (t:=34) (by simp) 1;have b2:=SR.atv E (g1:=g2) (xs:=#[.int .i64 y,.int .i64 m,.int .i64 d]) (t:=34) (by simp) 2 rfl;have bf2:=SR.fz E (g1:=g2) (xs:=#[.int .i64 y,.int .i64 m,.int .i64 d]) (t:=34) (by simp) 2;have blt:=SR.lt E (g1:=g2) (xs:=#[.int .i64 y,.int .i64 m,.int .i64 d]) (t:=34) (by simp);obtain⟨cv1,hcv1⟩:∃v,X0[1]?=some v:=⟨_,Array.getElem?_eq_getElem (by rw[HR0.out.size];decide)⟩;have c1:=SR.atv E (g1:=g3) (xs:=X0) (t:=45) (by simp) 1 hcv1;have cf1:=SR.fz E (g1:=g3) (xs:=X0) (t:=45) (by simp) 1;obtain⟨cv2,hcv2⟩:∃v,X0[2]?=some v:=⟨_,Array.getElem?_eq_getElem (by rw[HR0.out.size];decide)⟩;have c2:=SR.atv E (g1:=g3) (xs:=X0) (t:=45) (by simp) 2 hcv2;have cf2:=SR.fz E (g1:=g3) (xs:=X0) (t:=45) (by simp) 2;obtain⟨cv3,hcv3⟩:∃v,X0[3]?=some v:=⟨_,Array.getElem?_eq_getElem (by rw[HR0.out.size];decide)⟩;have c3:=SR.atv E (g1:=g3) (xs:=X0) (t:=45) (by simp) 3 hcv3;have cf3:=SR.fz E (g1:=g3) (xs:=X0) (t:=45) (by simp) 3;have clt:=SR.lt E (g1:=g3) (xs:=X0) (t:=45) (by simp);go_upto_region 6 with fail
  clear b0 bf0 b1 bf1 b2 bf2 blt;clear c1 cf1 c2 cf2 c3 cf3 clt;replace E:=Jh (E.out.store (g1:=g3) (xs:=X0) (t:=45) (by simp) HR0.out.cl (fun q hq=>by simp at hq;rcases hq with rfl|rfl|rfl<;>exact .inr (Nat.le_refl _)) [(w.heap.size,Z,45)] (fun q hq=>by simp at hq;subst hq;exact⟨by simp,HNE.out⟩) 1 (.int .i64 y));obtain⟨X1,hX⟩:∃X,X0.setIfInBounds 1 (.int .i64 y)=X:=⟨_,rfl⟩;have HR1:Hid (Row27 X1):=by rw[← hX];exact HR0.out.set rfl (noLimb_int _)
  have HX1:=Jh hX;rw[hX] at E;clear hX;replace E:=Jh (E.out.store (g1:=g3) (xs:=X1) (t:=45) (by simp) HR1.out.cl (fun q hq=>by simp at hq;rcases hq with rfl|rfl|rfl<;>exact .inr (Nat.le_refl _)) [(w.heap.size,Z,45)] (fun q hq=>by simp at hq;subst hq;exact⟨by simp,HNE.out⟩) 2 (.int .i64 m));obtain⟨X2,hX⟩:∃X,X1.setIfInBounds 2 (.int .i64 m)=X:=⟨_,rfl⟩;have HR2:Hid (Row27 X2):=by rw[← hX];exact HR1.out.set rfl (noLimb_int _)
  have HX2:=Jh hX;rw[hX] at E;clear hX;replace E:=Jh (E.out.store (g1:=g3) (xs:=X2) (t:=45) (by simp) HR2.out.cl (fun q hq=>by simp at hq;rcases hq with rfl|rfl|rfl<;>exact .inr (Nat.le_refl _)) [(w.heap.size,Z,45)] (fun q hq=>by simp at hq;subst hq;exact⟨by simp,HNE.out⟩) 3 (.int .i64 d));obtain⟨X3,hX⟩:∃X,X2.setIfInBounds 3 (.int .i64 d)=X:=⟨_,rfl⟩;have HR3:Hid (Row27 X3):=by rw[← hX];exact HR2.out.set rfl (noLimb_int _)
  have HX3:=Jh hX;rw[hX] at E;clear hX;generalize hW:World.setCell (World.setCell (World.setCell V0 _ _) _ _) _ _=U1 at E ⊢;clear hW;have AF:Hid (Aft (nxr 0 0 (fun _=>dirR (L.map tok))) a4 e4 (fun dr=>{ f with y:=y,m:=m,d:=d }=fdOf (some dr))):=by
   show Aft _ _ _ _;rw[nxr_go];unfold dirR;rw[if_neg (by rw[HP.out];decide)];have q:=F2.out;rw[nxr_go] at q;exact q.thn (F3.out.go (aft_day F4.out))
  have B3:=SR.bk E (g1:=g3) (xs:=X3) (t:=45) (by simp);have BZ:=SR.bk E (g1:=w.heap.size) (xs:=Z) (t:=45) (by simp);have hXs:=HR3.out.size;have hst:=st_rowX HR3.out (by rw[← HZ.out];rfl) BZ;refine wp_region_lit ?_;refine wpList_load_row rfl 45 (.tmp 4) rfl g3 rfl 45 X3 (0,0) _ B3 Tryz.underlying45 rfl (by rw[dir_size,HR3.out.size]) ?_;go_wp2_with fail;have hrow:=setRow_heap U1 w.heap.size _ X3 _ _ BZ;have EF:=Jh (E.out.setRow (g1:=w.heap.size) (xs:=Z) (t:=45) (by simp) (by rw[← HZ.out];exact(row27_cD _ _).cl) (fun q hq=>by simp at hq;rcases hq with rfl|rfl|rfl<;>exact .inl HLZ0.out) [] (fun q hq=>by cases hq) X3);have MDX:MD _ { f with y:=y,m:=m,d:=d } md:=⟨(SR.got EF (A1:=md.A) (n1:=md.n) (c1:=md.c) (x:=f.i.natAbs) (by simp)),SR.got EF (A1:=md.At) (n1:=md.nt) (c1:=md.ct) (x:=f.ti.natAbs) (by simp),SR.rd EF (List.mem_cons_of_mem _ (List.mem_cons_of_mem _ List.mem_cons_self)),SR.rd EF (List.mem_cons_of_mem _ List.mem_cons_self),SR.rd EF List.mem_cons_self⟩;have MDH:=Jh MDX;clear MDX;exact bodyPost_ret (v:=.agg X3) (results_cell_row Tryz.results18 _ _ _ 45 X3 (0,0) _ rfl hrow Tryz.underlying45 rfl (by rw[dir_size,HR3.out.size])) rfl ⟨X3,{ f with y:=y,m:=m,d:=d },md,a4,e4,rfl,HR3.out,EF.out.kp,EF.out.st,(fun h=>⟨by rw[← HX3.out];rw[← HX2.out];rw[← HX1.out];rw[(HXX.out h).1];simp only[cD,List.setIfInBounds_toArray,List.set_cons_succ,List.set_cons_zero],rfl,(HXX.out h).2.2⟩),MDH.out,⟨SR.far EF (List.mem_cons_of_mem _ (List.mem_cons_of_mem _ List.mem_cons_self)),SR.far EF (List.mem_cons_of_mem _ List.mem_cons_self),SR.far EF List.mem_cons_self⟩,AF.out⟩
theorem results_cell_two{P:Program}{fn:Func}{p q r:Tmp}{ty:TypeId}(h:fn.results=#[.cell p ty,.tmp q,.tmp r])(tmps:Array Value)(w:World)(g:Nat)(t:TypeId)(cs:Array Value)(fr:Nat×Nat)(d:TypeDesc)(v u:Value)
  (hp:tmps.getD p undef=.pointer (some ⟨g,0,none⟩)) (hv:tmps.getD q undef=v) (hu2:tmps.getD r undef=u) (hg:w.heap[g]?=some (.cells cs t fr))
  (hu:P.underlying ty=some d) (hd:(match d with | .struct _ | .array _ _=>true|_=>false)=true) (hi:(P.info? ty).map (·.size)=some cs.size) :
  (results fn tmps).run P w=.ok (.tuple #[.agg cs,v,u]) w:=by
 have hp':tmps[p]?.getD undef=.pointer (some ⟨g,0,none⟩):=by simpa using hp
 have hv':tmps[q]?.getD undef=v:=by simpa using hv
 have hu':tmps[r]?.getD undef=u:=by simpa using hu2
 simp[results,h,hp',hv',hu',asAddr,run_loadVar_row w g t ty cs fr d hg hu hd hi]
theorem step_store_row{P:Program}{ops:Array Oper}{o:Oper}{a:Act}{w:World}{K:Act→World→Prop}{Q:Exit→Act→World→Prop}{E:Prop}(hgd:o.guard=none)(ty:TypeId)(x y:Operand)(ho:o.op=.store ty x y)(g:Nat)(X Z:Array Value)(t:TypeId)
  (hx:a.eval x=.pointer (some ⟨g,0,none⟩)) (hy:a.eval y=.agg X) (hb:w.heap[g]?=some (.cells Z t (0,0))) (hi:(P.info? ty).map (·.size)=some X.size) (hz:Z.size=X.size) (h1:X.all (·.oneCell')=true)
  (h:K (a.put o.dst undef) (w.setRow g X)):if Region.wanted o (yielded ops a.tmps)=true then Oper.wp P o a w K Q else E:=by
 have hw:Region.wanted o (yielded ops a.tmps)=true:=by simp[Region.wanted,hgd]
 rw[if_pos hw];unfold Oper.wp execOp;simp only[ho,hx,hy,Instr.storeAt,Instr.sureAddr,Sem.run_bind,Sem.run_pure,Result.andThen_ok,run_storeVar_row w g t ty Z X hb hi hz h1]
 exact h
theorem step_load_row{P:Program}{ops:Array Oper}{o:Oper}{a:Act}{w:World}{K:Act→World→Prop}{Q:Exit→Act→World→Prop}{E:Prop}(hgd:o.guard=none)(ty:TypeId)(x:Operand)(ho:o.op=.load ty x)(g:Nat)(hx:a.eval x=.pointer (some ⟨g,0,none⟩))(t:TypeId)(cs:Array Value)(fr:Nat×Nat)(d:TypeDesc)
  (hg:w.heap[g]?=some (.cells cs t fr)) (hu:P.underlying ty=some d) (hd:(match d with | .struct _ | .array _ _=>true|_=>false)=true) (hi:(P.info? ty).map (·.size)=some cs.size)
  (h:K (a.put o.dst (.agg cs)) w):if Region.wanted o (yielded ops a.tmps)=true then Oper.wp P o a w K Q else E:=by
 have hw:Region.wanted o (yielded ops a.tmps)=true:=by simp[Region.wanted,hgd]
 rw[if_pos hw];exact wp_load_row ty x ho g hx t cs fr d hg hu hd hi h
theorem exec_load_row{P:Program}{o:Oper}{a:Act}{w:World}(ty:TypeId)(x:Operand)(ho:o.op=.load ty x)(g:Nat)(hx:a.eval x=.pointer (some ⟨g,0,none⟩))(t:TypeId)(cs:Array Value)(fr:Nat×Nat)(d:TypeDesc)(hg:w.heap[g]?=some (.cells cs t fr))
  (hu:P.underlying ty=some d) (hd:(match d with | .struct _ | .array _ _=>true|_=>false)=true) (hi:(P.info? ty).map (·.size)=some cs.size):(execOp a.eval o).run P w=.ok (.value (.agg cs)) w:=by
 unfold execOp;simp only[ho,hx,Instr.loadAt,Instr.sureAddr,Sem.run_bind,Sem.run_pure,Result.andThen_ok,run_loadVar_row w g t ty cs fr d hg hu hd hi]
theorem bk_setRow_other{w:World}{g g':Nat}{xs cs:Array Value}{t:TypeId}(h:Bk w g xs t)(hne:g≠g'):Bk (w.setRow g' cs) g xs t:=(setRow_other w g' g cs hne).trans h
theorem MD.kp15{w w':World}{f:FD}{m:DM}{g lo n c a e:Nat}{A:Option Addr}(h:MD w f m)(hs:StR w g A n c a e)(hf:Far lo m)(hg:g<lo)(hk:Kp g none w w'):MD w' f m:=
 ⟨(Lim.bk h.num hs (cl_R _ _ _ _ _) (Nat.le_refl _) hk).more hk.size,(Lim.bk h.tol hs (cl_R _ _ _ _ _) (Nat.le_refl _) hk).more hk.size,
  RdP.kp h.cur (fun a e=>.inr (by have:=hf.cur a e;omega)) hk,RdP.kp h.tag (fun a e=>.inr (by have:=hf.tag a e;omega)) hk,RdP.kp h.lnk (fun a e=>.inr (by have:=hf.lnk a e;omega)) hk⟩
structure Low15 (hi:Nat) (f:FD) (m:DM):Prop where
 cur:f.curs.map bs9=[]∨∀a,m.Ac=some a→a.block<hi
 tag:f.tags.map bs9=[]∨∀a,m.Ag=some a→a.block<hi
 lnk:f.links.map bs9=[]∨∀a,m.Al=some a→a.block<hi
theorem RdP.low{w:World}{A:Option Addr}{n c:Nat}{l:List (List Nat)}(h:RdP w A n c l):l=[]∨∀a,A=some a→a.block<w.heap.size:=by
 obtain⟨-,-,-,h|⟨b,o,rfl,h5,-⟩⟩:=h
 ·exact .inl h
 ·exact .inr fun a e=>by cases e;exact h5
theorem MD.low15{w:World}{f:FD}{m:DM}(h:MD w f m):Low15 w.heap.size f m:=⟨RdP.low h.cur,RdP.low h.tag,RdP.low h.lnk⟩
theorem MD.kpo{w w':World}{f:FD}{m:DM}{g:Nat}{xs:Array Value}{t:TypeId}(h:MD w f m)(hl:Low15 g f m)(hb:Bk w g xs t)(hc:Cl xs)(hk:Kp g none w w'):MD w' f m:=by
 have hr:∀{A:Option Addr}{n c:Nat}{l:List (List Nat)},RdP w A n c l→(l=[]∨∀a,A=some a→a.block<g)→RdP w' A n c l:=fun h1 h2=>RdP.kp h1 (fun a e=>by
  rcases h2 with h2|h2
  ·exact .inl h2
  ·have:=h2 a e;exact .inr (by omega)) hk
 exact⟨(Lim.bk h.num hb hc (Nat.le_refl _) hk).more hk.size,(Lim.bk h.tol hb hc (Nat.le_refl _) hk).more hk.size,hr h.cur hl.cur,hr h.tag hl.tag,hr h.lnk hl.lnk⟩
theorem hd_read{L:List Tok}{f:FD}{a' e' e2:Nat}(h:Aft (nxr 0 0 (fun _=>dirR L)) a' e' (fun d=>f=fdOf (some d)))(h2:(if e'=0∧a'<L.length then 3 else e')=e2):(e2≠0∧resH (hd L)=(none,a',e2))∨(e2=0∧e'=0∧L.length≤a'∧∃d,f=fdOf (some d)∧resH (hd L)=(some d,a',0)):=by
 rw[nxr_go] at h;rw[hd_eq];rcases hr:dirR L with⟨z,p⟩|⟨x,b⟩
 ·rw[hr] at h
  obtain⟨rfl,rfl,h3⟩:=h;rw[if_neg (fun q=>h3 q.1)] at h2;exact .inl ⟨by rw[← h2];exact h3,by rw[← h2];rfl⟩
 ·rw[hr] at h
  obtain⟨rfl,rfl,h3⟩:=h;by_cases hl:a'<L.length
  ·rw[if_pos ⟨rfl,hl⟩] at h2
   refine .inl ⟨by omega,?_⟩;show resH (if a'<L.length then .inl (3,a') else .inr (x,a'))=_;rw[if_pos hl,← h2];rfl
  ·rw[if_neg (fun q=>hl q.2)] at h2
   refine .inr ⟨h2.symm,rfl,Nat.le_of_not_lt hl,x,h3,?_⟩;show resH (if a'<L.length then .inl (3,a') else .inr (x,a'))=_;rw[if_neg hl];rfl
theorem hd_some{L:List Tok}{d:Dr}{a:Nat}(h:resH (hd L)=(some d,a,0)):∃t,L[0]?=some t:=by
 cases h0:L[0]? with
 | none=>unfold hd at h;rw[h0] at h;cases h
 | some t=>exact⟨t,rfl⟩
theorem heads15:READH:=by
 intro w B n c A L G o p e hr hB hn hL hok hres;have X:CX w B A n c L G:=⟨hok,hr,hB,hn,hL⟩;have hlen:=hr.len;have HLEN:=Jh hlen;have HRES:=Jh hres;clear hr hB hn hL hok hlen hres;obtain⟨Z,hZ⟩:∃Z,cD FD.zero DM.zero=Z:=⟨_,rfl⟩;have HZ:=Jh hZ;clear hZ;go_enter Tryz.func7,Tryz.ntmps7;go_upto_region 2 with fail
 have E1:=(Below.refl w.heap.size w).alloc (Nat.le_refl _) (.cells (cD FD.zero DM.zero) 45);have BZ0:=Bk.new w (cD FD.zero DM.zero) 45 rfl;generalize hW:World.alloc w _=Y0 at ⊢;have hW2:w.alloc (.cells (cD FD.zero DM.zero) 45)=Y0:=hW;rw[hW2] at E1 BZ0;rw[HZ.out] at BZ0;have HY:w.heap.size+1=Y0.heap.size:=by rw[← hW2];simp
 clear hW hW2;have E2:=Jh (E1.alloc E1.size (.cells (cR A n c 0 0) 66));have ST2:Hid (StR (Y0.alloc (.cells (cR A n c 0 0) 66)) (w.heap.size+1) A n c 0 0):=Bk.new Y0 _ _ HY;have BZ:=Jh (BZ0.on ((Below.refl _ _).alloc (Nat.le_refl _) (.cells (cR A n c 0 0) 66)));have HY2:Hid (w.heap.size+1<(Y0.alloc (.cells (cR A n c 0 0) 66)).heap.size):=Bk.lt ST2.out;clear E1 BZ0;generalize hW:World.alloc Y0 _=V1 at E2 ST2 BZ HY2 ⊢;clear hW;generalize hg:w.heap.size+1=g at HY ST2 HY2 ⊢;have HG:Hid (w.heap.size<g):=by show _<_;omega
 clear hg HY;go_wp2_with fail;refine(directive_is X E2.out (Nat.le_of_lt HG.out) ST2.out).mono ?_;rintro en w2 ⟨X0,f,md,a1,e1,rfl,hrw,hk,hst,hx,hmd,hfar,haft⟩;have HGW:Hid (g<w2.heap.size):=Bk.lt hst;have LOW:=Jh hmd.low15;have HR0:=Jh hrw;have HXX:=Jh hx;have F1:=Jh haft;have FAR:=Jh hfar;replace E2:=Jh (below_kp E2.out hk (Nat.le_of_lt HG.out));replace ST2:=Jh hst;have MD1:=Jh hmd;replace BZ:=Jh (BZ.out.kp hk (by have:=HG.out;omega));clear hrw hx haft hfar hk hst hmd;have hXs0:=HR0.out.size;have hst:=st_newL HR0.out;go_upto_region 3 with fail
 clear hst hXs0;have hb:=(Below.refl w2.heap.size w2).alloc (Nat.le_refl _) (.cells X0 45);replace E2:=Jh (E2.out.trans (hb.mono E2.out.size));replace ST2:=Jh (ST2.out.on hb);replace MD1:=Jh (MD1.out.on hb);replace BZ:=Jh (BZ.out.on hb);have B6:=Jh (Bk.new w2 X0 45 rfl);have HG6:=HGW;clear hb;generalize hW:World.alloc w2 _=V2 at E2 ST2 MD1 BZ B6 ⊢;clear hW;generalize w2.heap.size=g6 at B6 HG6 LOW ⊢;go_wp2_with fail;obtain⟨e2,he2⟩:∃x,(if e1=0∧a1<n then 3 else e1)=x:=⟨_,rfl⟩;refine(end_is ST2.out he2).mono ?_;rintro en w3 ⟨rfl,hk,hst⟩;replace MD1:=Jh (MD.kp15 MD1.out ST2.out FAR.out HY2.out hk);replace E2:=Jh (below_kp E2.out hk (Nat.le_of_lt HG.out));replace ST2:=Jh hst;replace BZ:=Jh (BZ.out.kp hk (by have:=HG.out;omega));replace B6:=Jh (B6.out.kp hk (by have:=HG6.out;omega));clear hk hst;have HD:=hd_read (e2:=e2) F1.out (by rw[List.length_map,← HLEN.out];exact he2);clear he2;obtain⟨p0,p1,p2,pf0,pf1,pf2,plt⟩:=ST2.out.bx;rcases HD with⟨hne,hq⟩|⟨hz,hz1,hla,dd,hf,hq⟩
 ·have dz:((e2:Int) != 0)=true:=by rw[bne_iff_ne];omega
  have HO:Hid (o=none∧p=a1∧e=e2):=by have q:=HRES.out.symm.trans hq;exact⟨congrArg Prod.fst q,congrArg (fun x=>x.2.1) q,congrArg (fun x=>x.2.2) q⟩
  clear hq hne;go_wp2_with fail;have BD:Bk w3.drew w.heap.size Z 45:=BZ.out.on (Below.refl _ _).drew;have hne:g≠w.heap.size:=by have:=HG.out;omega
  have q1:=(cell_setRow_other w3.drew w.heap.size Z ⟨g,1,none⟩ hne).trans p1;have HROW:=Jh (setRow_heap w3.drew w.heap.size _ Z _ _ BD);have BEL:=Jh (below_setRow (E2.out.trans ((Below.refl w3.heap.size w3).drew.mono E2.out.size)) (Nat.le_refl _) Z);have q2:=(cell_setRow_other w3.drew w.heap.size Z ⟨g,2,none⟩ hne).trans p2;refine wp_region_held_drew (S:=fun v=>v.cell? ⟨g,1,none⟩=some (.int .i64 (a1:Int))∧v.cell? ⟨g,2,none⟩=some (.int .i64 (e2:Int))) (by kernel_rfl) ⟨p1,p2⟩ (fun hS0=>?_);refine wpAnyH_take (i:=0) (v:=(.agg Z)) rfl (by kernel_rfl) (by kernel_rfl) (by kernel_rfl) (fun _ _ _ h=>h) (Or.inl ⟨by rfl,fun w9 hS=>by rw[← HZ.out];kernel_rfl⟩) hS0 ?_;refine wpAnyH_take (i:=1) (v:=(.pointer (some ⟨g,1,none⟩))) rfl (by kernel_rfl) (by kernel_rfl) (by kernel_rfl) (fun _ _ _ h=>h) (Or.inl ⟨by rfl,fun w9 hS=>by go_simp⟩) hS0 ?_;refine wpAnyH_take (i:=3) (v:=(.pointer (some ⟨g,2,none⟩))) rfl (by kernel_rfl) (by kernel_rfl) (by kernel_rfl) (fun _ _ _ h=>h) (Or.inl ⟨by rfl,fun w9 hS=>by go_simp⟩) hS0 ?_;refine wpAnyH_take (i:=2) (v:=(.int .i64 (a1:Int))) rfl (by kernel_rfl) (by kernel_rfl) (by kernel_rfl) (fun _ _ _ h=>h) (Or.inl ⟨by rfl,fun w9 hS=>by obtain⟨s1,s2⟩:=hS;go_simp⟩) hS0 ?_;refine wpAnyH_take (i:=4) (v:=(.int .i64 (e2:Int))) rfl (by kernel_rfl) (by kernel_rfl) (by kernel_rfl) (fun _ _ _ h=>h) (Or.inl ⟨by rfl,fun w9 hS=>by obtain⟨s1,s2⟩:=hS;go_simp⟩) hS0 ?_;refine wpAnyH_ready (rs:=[5]) (by kernel_rfl) (by simp) ?_;refine AllReadyH.cons rfl (fun K hK=>?_) AllReadyH.nil;refine step_store_row rfl 45 (.tmp 2) (.tmp 14) rfl w.heap.size Z Z 45 rfl rfl BD (by rw[dir_size,← HZ.out];rfl) rfl (by rw[← HZ.out];exact cD_one _ _) ?_;refine hK.out _ _ ⟨q1,q2⟩ (fun hS1=>?_);clear hK K;refine wpAnyH_take (i:=6) (v:=(.int .i64 (a1:Int))) rfl (by kernel_rfl) (by kernel_rfl) (by kernel_rfl) (fun _ _ _ h=>h) (Or.inl ⟨by rfl,fun w9 hS=>by go_simp⟩) hS1 ?_;refine wpAnyH_take (i:=7) (v:=(.int .i64 (e2:Int))) rfl (by kernel_rfl) (by kernel_rfl) (by kernel_rfl) (fun _ _ _ h=>h) (Or.inl ⟨by rfl,fun w9 hS=>by go_simp⟩) hS1 ?_;refine wpAnyH_done (by kernel_rfl) ?_ _;go_wp2_with fail;exact bodyPost_ret (v:=.tuple #[.agg Z,.int .i64 (a1:Int),.int .i64 (e2:Int)]) (results_cell_two Tryz.results7 _ _ w.heap.size 45 Z (0,0) _ _ _ rfl rfl rfl HROW.out Tryz.underlying45 rfl (by rw[dir_size,← HZ.out];rfl)) rfl ⟨DM.zero,by rw[HO.out.1,HO.out.2.1,HO.out.2.2,← HZ.out];rfl,by rw[HO.out.1];exact MD.nil _,⟨nofar,nofar,nofar⟩,BEL.out⟩
 ·obtain⟨t,ht⟩:=hd_some hq
  have HO:Hid (o=some dd∧p=a1∧e=0):=by have q:=HRES.out.symm.trans hq;exact⟨congrArg Prod.fst q,congrArg (fun x=>x.2.1) q,congrArg (fun x=>x.2.2) q⟩
  obtain⟨t4,ht4⟩:∃t,L[0]?=some t:=by
   rw[List.getElem?_map] at ht;cases h0:L[0]? with
   | none=>rw[h0] at ht;cases ht
   | some t=>exact⟨t,rfl⟩
  have dz:((e2:Int) != 0)=false:=by rw[hz];rfl
  have hX:=(HXX.out hz1).1;have HFD:=Jh hf;have hrd:=X.rd.on X.hB E2.out;obtain⟨q0,u0,rfl,hnc,hcm,hq0,hn0,-⟩:=hrd.at_ ht4;obtain⟨k4,T4,l4,m4⟩:=t4;obtain⟨-,-,t2,t3⟩:=tok_cells hrd ht4;rw[show u0+0*4=u0 by omega] at t2 t3;have hn1:(0:Int)<(n:Int):=by omega
  have hn2:decide (0<n)=true:=decide_eq_true hn0;obtain⟨cv25,hcv25⟩:∃v,X0[25]?=some v:=⟨_,Array.getElem?_eq_getElem (by rw[HR0.out.size];decide)⟩;obtain⟨cv26,hcv26⟩:∃v,X0[26]?=some v:=⟨_,Array.getElem?_eq_getElem (by rw[HR0.out.size];decide)⟩;have c25:=(B6.out.cell 25).trans hcv25;have c26:=(B6.out.cell 26).trans hcv26;have cf25:=B6.out.fz 25;have cf26:=B6.out.fz 26;have clt:=B6.out.lt;clear hq hz hla hf ht ht4 hrd hz1;go_upto_region 7 with fail
  clear c25 c26 cf25 cf26 clt t2 t3;have hk6:Kp g6 none w3 (World.setCell (World.setCell w3 ⟨g6,25,none⟩ (.int .i64 l4)) ⟨g6,26,none⟩ (.int .i64 m4)):=kp_trans (kp_set _ _ _ _) (kp_set _ _ _ _);obtain⟨X1,hX1⟩:∃X,(X0.setIfInBounds 25 (.int .i64 l4)).setIfInBounds 26 (.int .i64 m4)=X:=⟨_,rfl⟩;have HR1:Hid (Row27 X1):=by rw[← hX1];exact(HR0.out.set rfl (noLimb_int _)).set rfl (noLimb_int _)
  have HX1:Hid (X1=cD f { md with p:=l4,q:=m4 }):=by show _=_;rw[← hX1,hX];simp only[cD,List.setIfInBounds_toArray,List.set_cons_succ,List.set_cons_zero]
  have B7:Bk (World.setCell (World.setCell w3 ⟨g6,25,none⟩ (.int .i64 l4)) ⟨g6,26,none⟩ (.int .i64 m4)) g6 X1 45:=by rw[← hX1];exact(B6.out.set 25 _).set 26 _
  have ST7:=Bk.kp ST2.out hk6 (by have:=HG6.out;omega);have BZ7:=BZ.out.kp hk6 (by have:=HG6.out;have:=HG.out;omega);have MD7:=Jh (MD.kpo MD1.out LOW.out B6.out HR0.out.cl hk6);have E7:=Jh (below_kp E2.out hk6 (by have:=HG6.out;have:=HG.out;omega));clear hX hX1 hk6;generalize hW:World.setCell (World.setCell w3 _ _) _ _=w4 at B7 ST7 BZ7 MD7 E7 ⊢;clear hW p0 p1 p2 pf0 pf1 pf2 plt;have hdr:=(Below.refl w4.heap.size w4).drew;have BD:Bk w4.drew w.heap.size Z 45:=BZ7.on hdr;have BX:Bk w4.drew g6 X1 45:=B7.on hdr;have HROW:=Jh (setRow_heap w4.drew w.heap.size _ X1 _ _ BD);have BEL:=Jh (below_setRow (E7.out.trans (hdr.mono E7.out.size)) (Nat.le_refl _) X1);have MDF:Hid (MD (w4.drew.setRow w.heap.size X1) f md):=(MD7.out.on hdr).row15 FAR.out (by have:=HY2.out;have:=HG.out;omega) BD (by rw[← HZ.out];exact cD_zero_limb);obtain⟨p0,p1,p2,pf0,pf1,pf2,plt⟩:=(show StR w4.drew g (some ⟨q0,u0,none⟩) n c a1 e2 from ST7.on hdr).bx;have hne:g≠w.heap.size:=by have:=HG.out;omega
  have q1:=(cell_setRow_other w4.drew w.heap.size X1 ⟨g,1,none⟩ hne).trans p1;have FARF:Hid (Far w.heap.size { md with p:=l4,q:=m4 }):=by have h1:=HY2.out;have h2:=HG.out;exact⟨fun a e=>by have:=FAR.out.cur a e;omega,fun a e=>by have:=FAR.out.tag a e;omega,fun a e=>by have:=FAR.out.lnk a e;omega⟩
  clear hdr ST7 BZ7 B7;have BX2:=Jh (bk_setRow_other (g':=w.heap.size) (cs:=X1) BX (by have:=HG6.out;have:=HG.out;omega));refine wp_region_held_drew (S:=fun v=>Bk v g6 X1 45∧v.cell? ⟨g,1,none⟩=some (.int .i64 (a1:Int))) (by kernel_rfl) ⟨BX,p1⟩ (fun hS0=>?_);refine wpAnyH_take (i:=0) (v:=(.agg X1)) rfl (by kernel_rfl) (by kernel_rfl) (by kernel_rfl) (fun _ _ _ h=>h) (Or.inl ⟨by rfl,fun w9 hS=>exec_load_row 45 (.tmp 6) rfl g6 rfl 45 X1 (0,0) _ hS.1 Tryz.underlying45 rfl (by rw[dir_size,HR1.out.size])⟩) hS0 ?_;refine wpAnyH_take (i:=1) (v:=(.pointer (some ⟨g,1,none⟩))) rfl (by kernel_rfl) (by kernel_rfl) (by kernel_rfl) (fun _ _ _ h=>h) (Or.inl ⟨by rfl,fun w9 hS=>by go_simp⟩) hS0 ?_;refine wpAnyH_take (i:=2) (v:=(.int .i64 (a1:Int))) rfl (by kernel_rfl) (by kernel_rfl) (by kernel_rfl) (fun _ _ _ h=>h) (Or.inl ⟨by rfl,fun w9 hS=>by obtain⟨s1,s2⟩:=hS;go_simp⟩) hS0 ?_;refine wpAnyH_ready (rs:=[3]) (by kernel_rfl) (by simp) ?_;refine AllReadyH.cons rfl (fun K hK=>?_) AllReadyH.nil;refine step_store_row rfl 45 (.tmp 2) (.tmp 24) rfl w.heap.size X1 Z 45 rfl rfl BD (by rw[dir_size,HR1.out.size]) (by rw[← HZ.out,HR1.out.size];rfl) HR1.out.one ?_;refine hK.out _ _ ⟨BX2.out,q1⟩ (fun hS1=>?_);clear hK K;refine wpAnyH_take (i:=4) (v:=(.int .i64 (a1:Int))) rfl (by kernel_rfl) (by kernel_rfl) (by kernel_rfl) (fun _ _ _ h=>h) (Or.inl ⟨by rfl,fun w9 hS=>by go_simp⟩) hS1 ?_;refine wpAnyH_take (i:=5) (v:=(.int .i64 0)) rfl (by kernel_rfl) (by kernel_rfl) (by kernel_rfl) (fun _ _ _ h=>h) (Or.inl ⟨by rfl,fun w9 hS=>by go_simp⟩) hS1 ?_;refine wpAnyH_done (by kernel_rfl) ?_ _;go_wp2_with fail;exact bodyPost_ret (v:=.tuple #[.agg X1,.int .i64 (a1:Int),.int .i64 0]) (results_cell_two Tryz.results7 _ _ w.heap.size 45 X1 (0,0) _ _ _ rfl rfl rfl HROW.out Tryz.underlying45 rfl (by rw[dir_size,HR1.out.size])) rfl ⟨{ md with p:=l4,q:=m4 },by rw[HO.out.1,HO.out.2.1,HO.out.2.2,← HFD.out,← HX1.out];rfl,by rw[HO.out.1,← HFD.out];exact⟨MDF.out.num,MDF.out.tol,MDF.out.cur,MDF.out.tag,MDF.out.lnk⟩,FARF.out,BEL.out⟩
theorem wpList_load_rowG{P:Program}{ops:Array Oper}{rest:List Oper}{o:Oper}{a:Act}{w:World}{Q:Exit→Act→World→Prop}(hw:Region.wanted o (yielded ops a.tmps)=true)(ty:TypeId)(x:Operand)(ho:o.op=.load ty x)
  (g:Nat) (hx:a.eval x=.pointer (some ⟨g,0,none⟩)) (t:TypeId) (cs:Array Value) (fr:Nat×Nat) (d:TypeDesc) (hg:w.heap[g]?=some (.cells cs t fr))
  (hu:P.underlying ty=some d) (hd:(match d with | .struct _ | .array _ _=>true|_=>false)=true) (hi:(P.info? ty).map (·.size)=some cs.size)
  (h:wpList P ops Q rest (a.put o.dst (.agg cs)) w):wpList P ops Q (o::rest) a w:=
 BigFrame.wpList_want hw fun _ hK=>wp_load_row ty x ho g hx t cs fr d hg hu hd hi (hK _ _ h)
theorem str_yes{s t:ByteArray}(h:s=t):(s.toList == t.toList)=true:=by rw[txt_eq,h];exact decide_eq_true rfl
theorem str_not{s t:ByteArray}(h:s≠t):(s.toList == t.toList)=false:=by rw[txt_eq];exact decide_eq_false (fun q=>h (bs9_inj q))
theorem rdP_at{w:World}{A:Option Addr}{n c:Nat}{l:List ByteArray}(h:RdP w A n c (l.map bs9))(h0:0<n):∃b o,A=some ⟨b,o,none⟩∧b<w.heap.size∧∀k s,l[k]?=some s→w.cell? ⟨b,o+k,none⟩=some (.string s):=by
 obtain⟨b,o,e,-,-,hb,-⟩:=h.at_ h0;have hlen:n=l.length:=by rw[h.1,List.length_map]
 refine⟨b,o,e,hb,fun k s hk=>?_⟩;have hkl:=(List.getElem?_eq_some_iff.1 hk).1;obtain⟨b1,o1,e1,-,-,-,t,ht,hc⟩:=h.at_ (k:=k) (by omega);rw[e] at e1;cases e1
 rw[List.getElem?_map,hk] at ht;obtain rfl:=Option.some.inj ht;rw[st9_bs9] at hc;exact hc
theorem take_more{l l':List ByteArray}{k:Nat}{s:ByteArray}(h:l.take k=l'.take k)(h1:l[k]?=some s)(h2:l'[k]?=some s):l.take (k+1)=l'.take (k+1):=by rw[List.take_add_one,List.take_add_one,h,h1,h2]
theorem equal_is{w:World}{A A':Option Addr}{n c n' c':Nat}{l l':List ByteArray}(h:RdP w A n c (l.map bs9))(h':RdP w A' n' c' (l'.map bs9)){b:Bool}(hb:b=true↔l=l'):Calls Tryz.prog 20 #[.slice A n c,.slice A' n' c'] w (Ret9 w (.bool b)):=by
 have hl:n=l.length:=by rw[h.1,List.length_map]
 have hl':n'=l'.length:=by rw[h'.1,List.length_map]
 have hm:=h.2.2.1;have hnc:=h.2.1;unfold maxLen at hm;by_cases hnn:n=n'
 ·subst hnn
  have d0:((n:Int) != (n:Int))=false:=by rw[bne_eq_false_iff_eq]
  rcases Nat.eq_zero_or_pos n with h0|h0
  ·subst h0
   obtain rfl:true=b:=(hb.2 (by rw[List.eq_nil_of_length_eq_zero hl.symm,List.eq_nil_of_length_eq_zero hl'.symm])).symm;clear h h' hb hl hl' hm hnc;go_enter Tryz.func20,Tryz.ntmps20;go_wp2;refine wp_loop_rounds 1 ?_;rw[rounds_succ];go_wp2;go_ret;exact⟨rfl,Below.refl _ _⟩
  ·obtain⟨b1,o1,rfl,hb1,hc1⟩:=rdP_at h h0
   obtain⟨b2,o2,rfl,hb2,hc2⟩:=rdP_at h' h0;have HB:=Jh hb;have HL:=Jh hl;have HL2:=Jh hl';have hc'2:=h'.2.1;have hm2:=h'.2.2.1;unfold maxLen at hm2;have HC1:=Jh hc1;have HC2:=Jh hc2;clear h h' hb hl hl' hc1 hc2;go_enter Tryz.func20,Tryz.ntmps20;go_wp2;go_loopw [13] (fun i wr=>∃k:Nat,k≤n∧i=.int .i64 k∧l.take k=l'.take k∧Below w.heap.size w wr) (fun i _=>n-(intOf i).toNat)
   case atStart=>exact⟨0,Nat.zero_le _,rfl,rfl,Below.refl _ _⟩
   case round=>
    obtain⟨k,hk,rfl,htk,hbel⟩:=hrel;have E:=Jh hbel;have TK:=Jh htk;clear hbel htk;by_cases hkn:k<n
    ·obtain⟨s,hs⟩:∃s,l[k]?=some s:=⟨_,List.getElem?_eq_getElem (by have:=HL.out;omega)⟩
     obtain⟨t,ht⟩:∃t,l'[k]?=some t:=⟨_,List.getElem?_eq_getElem (by have:=HL2.out;omega)⟩;have q1:=(E.out.cell (p:=⟨b1,o1+k,none⟩) hb1).trans (HC1.out k s hs);have q2:=(E.out.cell (p:=⟨b2,o2+k,none⟩) hb2).trans (HC2.out k t ht);have d1:decide (k<n)=true:=decide_eq_true hkn;have d2:decide (n≤k)=false:=decide_eq_false (by omega);have d4:(0:Int)≤(k:Int):=by omega
     have d5:(k:Int)<(n:Int):=by omega
     by_cases hst:s=t
     ·subst hst
      have TK2:=Jh (take_more TK.out hs ht);have d6:(s.toList == s.toList)=true:=str_yes rfl;clear hs ht;go_wp2;go_quiet (fail)
      have hb9:=below_drewN (Below.refl wr.heap.size wr) nq;go_wp2;go_roundw
      case rel=>exact⟨k+1,by omega,by go_num,TK2.out,E.out.trans (hb9.mono E.out.size)⟩
      case measure=>simp[intOf];omega
     ·have d6:(s.toList == t.toList)=false:=str_not hst
      have hne:l≠l':=fun q=>by rw[q,ht] at hs;exact hst (Option.some.inj hs).symm
      obtain rfl:false=b:=by
       cases hbb:b with
       | false=>rfl
       | true=>exact absurd (HB.out.1 hbb) hne
      clear hs ht hst hne;go_wp2;go_quiet (fail)
      have hb9:=below_drewN (Below.refl wr.heap.size wr) nq;go_wp2;go_ret;exact⟨rfl,E.out.trans (hb9.mono E.out.size)⟩
    ·obtain rfl:k=n:=by omega
     have d1:decide (k<k)=false:=decide_eq_false (Nat.lt_irrefl _);obtain rfl:true=b:=(HB.out.2 (by
      have q:=TK.out;rw[List.take_of_length_le (by have:=HL.out;omega),List.take_of_length_le (by have:=HL2.out;omega)] at q;exact q)).symm
     go_wp2;go_ret;exact⟨rfl,E.out⟩
 ·have d0:((n:Int) != (n':Int))=true:=by rw[bne_iff_ne];omega
  obtain rfl:false=b:=by
   cases hbb:b with
   | false=>rfl
   | true=>exact absurd (by rw[hl,hl',hb.1 hbb]) hnn
  clear h h' hb hl hl' hm hnc;go_enter Tryz.func20,Tryz.ntmps20;go_wp2;go_ret;exact⟨rfl,Below.refl _ _⟩
theorem no15{x:Bool}{P:Prop}(h:x=true↔P)(hn:¬P):false=x:=by
 cases hx:x with
 | false=>rfl
 | true=>exact absurd (h.1 hx) hn
theorem alike15{A A2:Option Addr}{n c n2 c2 s t:Nat}{i j:Int}{w:World}(h:Num w w.heap.size A n c i.natAbs)(h2:Num w w.heap.size A2 n2 c2 j.natAbs){b:Bool}(hb:b=true↔i=j∧s=t):Calls Tryz.prog 46 #[.agg #[.bool (ngB i),.slice A n c,.int .i64 (s:Int)],.agg #[.bool (ngB j),.slice A2 n2 c2,.int .i64 (t:Int)]] w (Ret9 w (.bool b)):=by
 refine(alike_is5 h h2 (b:=b) ?_).mono fun e w' h=>⟨h.1,h.2⟩
 rw[Bool.eq_iff_iff,hb];unfold alikeB;simp
theorem samenum_is_at{w0 w:World}{ms:List (FD×DM)}{bs:List (Nat×Array Value×TypeId)}{g:Nat}{f:FD}{m:DM}{X:Array Value}(E:Hid (S15 w0 w ms bs))(hb:(g,X,45)∈bs)(hX:cD f m=X):w.cell? ⟨g,8,none⟩=some (.bool (ngB f.i))∧w.cell? ⟨g,9,none⟩=some (.slice m.A m.n m.c)∧w.cell? ⟨g,10,none⟩=some (.int .i64 (f.k:Int))∧w.cell? ⟨g,11,none⟩=some (.string f.cur)∧w.cell? ⟨g,12,none⟩=some (.bool f.hasTol)∧w.cell? ⟨g,13,none⟩=some (.bool (ngB f.ti))∧w.cell? ⟨g,14,none⟩=some (.slice m.At m.nt m.ct)∧w.cell? ⟨g,15,none⟩=some (.int .i64 (f.tk:Int))∧g<w.heap.size:=
 ⟨(S15.at_ E hb 8).trans (by rw[← hX];rfl),(S15.at_ E hb 9).trans (by rw[← hX];rfl),(S15.at_ E hb 10).trans (by rw[← hX];rfl),(S15.at_ E hb 11).trans (by rw[← hX];rfl),(S15.at_ E hb 12).trans (by rw[← hX];rfl),(S15.at_ E hb 13).trans (by rw[← hX];rfl),(S15.at_ E hb 14).trans (by rw[← hX];rfl),(S15.at_ E hb 15).trans (by rw[← hX];rfl),blk_lt (E.out.blk _ hb)⟩
theorem samenum_is{w:World}{f f':FD}{m m':DM}(h1:MD w f m)(h2:MD w f' m'){x:Bool}(hx:x=true↔(f.i=f'.i∧f.k=f'.k)∧(f.cur=f'.cur)∧(f.hasTol=f'.hasTol)∧(f.ti=f'.ti∧f.tk=f'.tk)):Calls Tryz.prog 21 #[.agg (cD f m),.agg (cD f' m')] w (Ret9 w (.bool x)):=by
 classical
 have HXX:=Jh hx;obtain⟨X1,hX1⟩:∃X,cD f m=X:=⟨_,rfl⟩;obtain⟨X2,hX2⟩:∃X,cD f' m'=X:=⟨_,rfl⟩;have HS1:Hid (X1.size=27):=by rw[← hX1];rfl
 have HS2:Hid (X2.size=27):=by rw[← hX2];rfl
 have HX1:=Jh hX1;have HX2:=Jh hX2;have E:=Jh ((((((S15.start w).push (Below.refl _ _) h1).push (Below.refl _ _) h2).lay X1 45 (g:=w.heap.size) rfl)).lay X2 45 (g:=w.heap.size+1) (by simp));rw[hX1,hX2];clear hx hX1 hX2 h1 h2;go_enter Tryz.func21,Tryz.ntmps21;go_upto_region 1 with fail
 generalize hW:World.alloc (World.alloc w _) _=W1 at E ⊢;clear hW;obtain⟨x0,hx0⟩:∃b:Bool,(b=true↔f.i=f'.i∧f.k=f'.k):=⟨decide (f.i=f'.i∧f.k=f'.k),by rw[decide_eq_true_iff]⟩;obtain⟨a8,a9,a10,a11,a12,a13,a14,a15,alt⟩:=samenum_is_at (g:=w.heap.size) E (by simp) HX1.out;obtain⟨b8,b9,b10,b11,b12,b13,b14,b15,blt⟩:=samenum_is_at (g:=w.heap.size+1) E (by simp) HX2.out;focus go_wp2_with fail
 clear a8 b8 a9 b9 a10 b10 a11 b11 a12 b12 a13 b13 a14 b14 a15 b15 alt blt;refine(alike15 (S15.got E (f:=f) (m:=m) (by simp)).num (S15.got E (f:=f') (m:=m') (by simp)).num hx0).mono ?_;rintro en v0 ⟨rfl,hb⟩;replace E:=Jh (E.out.step hb);clear hb;rcases(show(x0=true∧(f.i=f'.i∧f.k=f'.k))∨(x0=false∧false=x) from(by by_cases hh:x0=true;exact .inl ⟨hh,hx0.1 hh⟩;exact .inr ⟨Bool.eq_false_iff.2 hh,no15 HXX.out (fun q=>hh (hx0.2 (q.1)))⟩)) with⟨rfl,h0⟩|⟨rfl,rfl⟩
 all_goals (try clear hx0)
 rcases(show(f.cur=f'.cur∧(f.cur.toList == f'.cur.toList)=true)∨((f.cur.toList == f'.cur.toList)=false∧false=x) from(by by_cases h1:f.cur=f'.cur;exact .inl ⟨h1,str_yes h1⟩;exact .inr ⟨str_not h1,no15 HXX.out (fun q=>h1 q.2.1)⟩)) with⟨h1,d1⟩|⟨d1,rfl⟩
 rcases(show(f.hasTol=f'.hasTol∧(f.hasTol == f'.hasTol)=true)∨((f.hasTol == f'.hasTol)=false∧false=x) from(by by_cases h2:f.hasTol=f'.hasTol;exact .inl ⟨h2,by rw[h2];exact beq_self_eq_true _⟩;exact .inr ⟨by rw[beq_eq_false_iff_ne];exact h2,no15 HXX.out (fun q=>h2 q.2.2.1)⟩)) with⟨h2,d2⟩|⟨d2,rfl⟩
 obtain⟨x3,hx3⟩:∃b:Bool,(b=true↔f.ti=f'.ti∧f.tk=f'.tk):=⟨decide (f.ti=f'.ti∧f.tk=f'.tk),by rw[decide_eq_true_iff]⟩;obtain⟨a8,a9,a10,a11,a12,a13,a14,a15,alt⟩:=samenum_is_at (g:=w.heap.size) E (by simp) HX1.out;obtain⟨b8,b9,b10,b11,b12,b13,b14,b15,blt⟩:=samenum_is_at (g:=w.heap.size+1) E (by simp) HX2.out;focus go_wp2_with fail
 clear a8 b8 a9 b9 a10 b10 a11 b11 a12 b12 a13 b13 a14 b14 a15 b15 alt blt;refine(alike15 (S15.got E (f:=f) (m:=m) (by simp)).tol (S15.got E (f:=f') (m:=m') (by simp)).tol hx3).mono ?_;rintro en v3 ⟨rfl,hb⟩;replace E:=Jh (E.out.step hb);clear hb;rcases(show(x3=true∧(f.ti=f'.ti∧f.tk=f'.tk))∨(x3=false∧false=x) from(by by_cases hh:x3=true;exact .inl ⟨hh,hx3.1 hh⟩;exact .inr ⟨Bool.eq_false_iff.2 hh,no15 HXX.out (fun q=>hh (hx3.2 (q.2.2.2)))⟩)) with⟨rfl,h3⟩|⟨rfl,rfl⟩
 all_goals (try clear hx3)
 ·obtain rfl:true=x:=(HXX.out.2 ⟨h0,h1,h2,h3⟩).symm
  obtain⟨a8,a9,a10,a11,a12,a13,a14,a15,alt⟩:=samenum_is_at (g:=w.heap.size) E (by simp) HX1.out;obtain⟨b8,b9,b10,b11,b12,b13,b14,b15,blt⟩:=samenum_is_at (g:=w.heap.size+1) E (by simp) HX2.out;focus go_wp2_with fail
  clear a8 b8 a9 b9 a10 b10 a11 b11 a12 b12 a13 b13 a14 b14 a15 b15 alt blt;go_ret;exact⟨rfl,E.out.bel⟩
 all_goals
  obtain⟨a8,a9,a10,a11,a12,a13,a14,a15,alt⟩:=samenum_is_at (g:=w.heap.size) E (by simp) HX1.out;obtain⟨b8,b9,b10,b11,b12,b13,b14,b15,blt⟩:=samenum_is_at (g:=w.heap.size+1) E (by simp) HX2.out;focus go_wp2_with fail
  clear a8 b8 a9 b9 a10 b10 a11 b11 a12 b12 a13 b13 a14 b14 a15 b15 alt blt;go_ret;exact⟨rfl,E.out.bel⟩
theorem sametxt_is_at{w0 w:World}{ms:List (FD×DM)}{bs:List (Nat×Array Value×TypeId)}{g:Nat}{f:FD}{m:DM}{X:Array Value}(E:Hid (S15 w0 w ms bs))(hb:(g,X,45)∈bs)(hX:cD f m=X):w.cell? ⟨g,16,none⟩=some (.string f.flag)∧w.cell? ⟨g,17,none⟩=some (.string f.pay)∧w.cell? ⟨g,18,none⟩=some (.string f.nar)∧w.cell? ⟨g,19,none⟩=some (.slice m.Ag m.ng m.cg)∧w.cell? ⟨g,20,none⟩=some (.slice m.Al m.nl m.cl)∧w.cell? ⟨g,23,none⟩=some (.string f.name)∧w.cell? ⟨g,24,none⟩=some (.string f.text)∧g<w.heap.size:=
 ⟨(S15.at_ E hb 16).trans (by rw[← hX];rfl),(S15.at_ E hb 17).trans (by rw[← hX];rfl),(S15.at_ E hb 18).trans (by rw[← hX];rfl),(S15.at_ E hb 19).trans (by rw[← hX];rfl),(S15.at_ E hb 20).trans (by rw[← hX];rfl),(S15.at_ E hb 23).trans (by rw[← hX];rfl),(S15.at_ E hb 24).trans (by rw[← hX];rfl),blk_lt (E.out.blk _ hb)⟩
theorem sametxt_is{w:World}{f f':FD}{m m':DM}(h1:MD w f m)(h2:MD w f' m'){x:Bool}(hx:x=true↔(f.flag=f'.flag)∧(f.pay=f'.pay)∧(f.nar=f'.nar)∧(f.tags=f'.tags)∧(f.links=f'.links)∧(f.name=f'.name)∧(f.text=f'.text)):Calls Tryz.prog 22 #[.agg (cD f m),.agg (cD f' m')] w (Ret9 w (.bool x)):=by
 classical
 have HXX:=Jh hx;obtain⟨X1,hX1⟩:∃X,cD f m=X:=⟨_,rfl⟩;obtain⟨X2,hX2⟩:∃X,cD f' m'=X:=⟨_,rfl⟩;have HS1:Hid (X1.size=27):=by rw[← hX1];rfl
 have HS2:Hid (X2.size=27):=by rw[← hX2];rfl
 have HX1:=Jh hX1;have HX2:=Jh hX2;have E:=Jh ((((((S15.start w).push (Below.refl _ _) h1).push (Below.refl _ _) h2).lay X1 45 (g:=w.heap.size) rfl)).lay X2 45 (g:=w.heap.size+1) (by simp));rw[hX1,hX2];clear hx hX1 hX2 h1 h2;go_enter Tryz.func22,Tryz.ntmps22;go_upto_region 1 with fail
 generalize hW:World.alloc (World.alloc w _) _=W1 at E ⊢;clear hW;rcases(show(f.flag=f'.flag∧(f.flag.toList == f'.flag.toList)=true)∨((f.flag.toList == f'.flag.toList)=false∧false=x) from(by by_cases h0:f.flag=f'.flag;exact .inl ⟨h0,str_yes h0⟩;exact .inr ⟨str_not h0,no15 HXX.out (fun q=>h0 q.1)⟩)) with⟨h0,d0⟩|⟨d0,rfl⟩
 rcases(show(f.pay=f'.pay∧(f.pay.toList == f'.pay.toList)=true)∨((f.pay.toList == f'.pay.toList)=false∧false=x) from(by by_cases h1:f.pay=f'.pay;exact .inl ⟨h1,str_yes h1⟩;exact .inr ⟨str_not h1,no15 HXX.out (fun q=>h1 q.2.1)⟩)) with⟨h1,d1⟩|⟨d1,rfl⟩
 rcases(show(f.nar=f'.nar∧(f.nar.toList == f'.nar.toList)=true)∨((f.nar.toList == f'.nar.toList)=false∧false=x) from(by by_cases h2:f.nar=f'.nar;exact .inl ⟨h2,str_yes h2⟩;exact .inr ⟨str_not h2,no15 HXX.out (fun q=>h2 q.2.2.1)⟩)) with⟨h2,d2⟩|⟨d2,rfl⟩
 obtain⟨x3,hx3⟩:∃b:Bool,(b=true↔f.tags=f'.tags):=⟨decide (f.tags=f'.tags),by rw[decide_eq_true_iff]⟩;obtain⟨a16,a17,a18,a19,a20,a23,a24,alt⟩:=sametxt_is_at (g:=w.heap.size) E (by simp) HX1.out;obtain⟨b16,b17,b18,b19,b20,b23,b24,blt⟩:=sametxt_is_at (g:=w.heap.size+1) E (by simp) HX2.out;focus go_wp2_with fail
 clear a16 b16 a17 b17 a18 b18 a19 b19 a20 b20 a23 b23 a24 b24 alt blt;refine(equal_is (S15.got E (f:=f) (m:=m) (by simp)).tag (S15.got E (f:=f') (m:=m') (by simp)).tag hx3).mono ?_;rintro en v3 ⟨rfl,hb⟩;replace E:=Jh (E.out.step hb);clear hb;rcases(show(x3=true∧(f.tags=f'.tags))∨(x3=false∧false=x) from(by by_cases hh:x3=true;exact .inl ⟨hh,hx3.1 hh⟩;exact .inr ⟨Bool.eq_false_iff.2 hh,no15 HXX.out (fun q=>hh (hx3.2 (q.2.2.2.1)))⟩)) with⟨rfl,h3⟩|⟨rfl,rfl⟩
 all_goals (try clear hx3)
 obtain⟨x4,hx4⟩:∃b:Bool,(b=true↔f.links=f'.links):=⟨decide (f.links=f'.links),by rw[decide_eq_true_iff]⟩;obtain⟨a16,a17,a18,a19,a20,a23,a24,alt⟩:=sametxt_is_at (g:=w.heap.size) E (by simp) HX1.out;obtain⟨b16,b17,b18,b19,b20,b23,b24,blt⟩:=sametxt_is_at (g:=w.heap.size+1) E (by simp) HX2.out;focus go_wp2_with fail
 clear a16 b16 a17 b17 a18 b18 a19 b19 a20 b20 a23 b23 a24 b24 alt blt;refine(equal_is (S15.got E (f:=f) (m:=m) (by simp)).lnk (S15.got E (f:=f') (m:=m') (by simp)).lnk hx4).mono ?_;rintro en v4 ⟨rfl,hb⟩;replace E:=Jh (E.out.step hb);clear hb;rcases(show(x4=true∧(f.links=f'.links))∨(x4=false∧false=x) from(by by_cases hh:x4=true;exact .inl ⟨hh,hx4.1 hh⟩;exact .inr ⟨Bool.eq_false_iff.2 hh,no15 HXX.out (fun q=>hh (hx4.2 (q.2.2.2.2.1)))⟩)) with⟨rfl,h4⟩|⟨rfl,rfl⟩
 all_goals (try clear hx4)
 rcases(show(f.name=f'.name∧(f.name.toList == f'.name.toList)=true)∨((f.name.toList == f'.name.toList)=false∧false=x) from(by by_cases h5:f.name=f'.name;exact .inl ⟨h5,str_yes h5⟩;exact .inr ⟨str_not h5,no15 HXX.out (fun q=>h5 q.2.2.2.2.2.1)⟩)) with⟨h5,d5⟩|⟨d5,rfl⟩
 rcases(show(f.text=f'.text∧(f.text.toList == f'.text.toList)=true)∨((f.text.toList == f'.text.toList)=false∧false=x) from(by by_cases h6:f.text=f'.text;exact .inl ⟨h6,str_yes h6⟩;exact .inr ⟨str_not h6,no15 HXX.out (fun q=>h6 q.2.2.2.2.2.2)⟩)) with⟨h6,d6⟩|⟨d6,rfl⟩
 ·obtain rfl:true=x:=(HXX.out.2 ⟨h0,h1,h2,h3,h4,h5,h6⟩).symm
  obtain⟨a16,a17,a18,a19,a20,a23,a24,alt⟩:=sametxt_is_at (g:=w.heap.size) E (by simp) HX1.out;obtain⟨b16,b17,b18,b19,b20,b23,b24,blt⟩:=sametxt_is_at (g:=w.heap.size+1) E (by simp) HX2.out;focus go_wp2_with fail
  clear a16 b16 a17 b17 a18 b18 a19 b19 a20 b20 a23 b23 a24 b24 alt blt;go_ret;exact⟨rfl,E.out.bel⟩
 all_goals
  obtain⟨a16,a17,a18,a19,a20,a23,a24,alt⟩:=sametxt_is_at (g:=w.heap.size) E (by simp) HX1.out;obtain⟨b16,b17,b18,b19,b20,b23,b24,blt⟩:=sametxt_is_at (g:=w.heap.size+1) E (by simp) HX2.out;focus go_wp2_with fail
  clear a16 b16 a17 b17 a18 b18 a19 b19 a20 b20 a23 b23 a24 b24 alt blt;go_ret;exact⟨rfl,E.out.bel⟩
theorem same15_is_at{w0 w:World}{ms:List (FD×DM)}{bs:List (Nat×Array Value×TypeId)}{g:Nat}{f:FD}{m:DM}{X:Array Value}(E:Hid (S15 w0 w ms bs))(hb:(g,X,45)∈bs)(hX:cD f m=X):w.cell? ⟨g,0,none⟩=some (.int .i64 (f.kind:Int))∧w.cell? ⟨g,1,none⟩=some (.int .i64 f.y)∧w.cell? ⟨g,2,none⟩=some (.int .i64 f.m)∧w.cell? ⟨g,3,none⟩=some (.int .i64 f.d)∧w.cell? ⟨g,4,none⟩=some (.string f.acc)∧w.cell? ⟨g,5,none⟩=some (.string f.oth)∧w.cell? ⟨g,6,none⟩=some (.slice m.Ac m.nc m.cc)∧w.cell? ⟨g,7,none⟩=some (.int .i64 (f.book:Int))∧g<w.heap.size:=
 ⟨(S15.at_ E hb 0).trans (by rw[← hX];rfl),(S15.at_ E hb 1).trans (by rw[← hX];rfl),(S15.at_ E hb 2).trans (by rw[← hX];rfl),(S15.at_ E hb 3).trans (by rw[← hX];rfl),(S15.at_ E hb 4).trans (by rw[← hX];rfl),(S15.at_ E hb 5).trans (by rw[← hX];rfl),(S15.at_ E hb 6).trans (by rw[← hX];rfl),(S15.at_ E hb 7).trans (by rw[← hX];rfl),blk_lt (E.out.blk _ hb)⟩
theorem same15_is{w:World}{f f':FD}{m m':DM}(h1:MD w f m)(h2:MD w f' m'){x:Bool}(hx:x=true↔(f.kind=f'.kind)∧(f.y=f'.y)∧(f.m=f'.m)∧(f.d=f'.d)∧(f.acc=f'.acc)∧(f.oth=f'.oth)∧(f.book=f'.book)∧(f.curs=f'.curs)∧((f.i=f'.i∧f.k=f'.k)∧(f.cur=f'.cur)∧(f.hasTol=f'.hasTol)∧(f.ti=f'.ti∧f.tk=f'.tk))∧((f.flag=f'.flag)∧(f.pay=f'.pay)∧(f.nar=f'.nar)∧(f.tags=f'.tags)∧(f.links=f'.links)∧(f.name=f'.name)∧(f.text=f'.text))):Calls Tryz.prog 8 #[.agg (cD f m),.agg (cD f' m')] w (Ret9 w (.bool x)):=by
 classical
 have HXX:=Jh hx;obtain⟨X1,hX1⟩:∃X,cD f m=X:=⟨_,rfl⟩;obtain⟨X2,hX2⟩:∃X,cD f' m'=X:=⟨_,rfl⟩;have HS1:Hid (X1.size=27):=by rw[← hX1];rfl
 have HS2:Hid (X2.size=27):=by rw[← hX2];rfl
 have SN:Hid (∀{W:World}{b:Bool},MD W f m→MD W f' m'→(b=true↔(f.i=f'.i∧f.k=f'.k)∧(f.cur=f'.cur)∧(f.hasTol=f'.hasTol)∧(f.ti=f'.ti∧f.tk=f'.tk))→Calls Tryz.prog 21 #[.agg X1,.agg X2] W (Ret9 W (.bool b))):=fun {W b} g1 g2 hx=>by subst hX1;subst hX2;exact samenum_is g1 g2 hx
 have ST:Hid (∀{W:World}{b:Bool},MD W f m→MD W f' m'→(b=true↔(f.flag=f'.flag)∧(f.pay=f'.pay)∧(f.nar=f'.nar)∧(f.tags=f'.tags)∧(f.links=f'.links)∧(f.name=f'.name)∧(f.text=f'.text))→Calls Tryz.prog 22 #[.agg X1,.agg X2] W (Ret9 W (.bool b))):=fun {W b} g1 g2 hx=>by subst hX1;subst hX2;exact sametxt_is g1 g2 hx
 have HX1:=Jh hX1;have HX2:=Jh hX2;have E:=Jh ((((((S15.start w).push (Below.refl _ _) h1).push (Below.refl _ _) h2).lay X1 45 (g:=w.heap.size) rfl)).lay X2 45 (g:=w.heap.size+1) (by simp));rw[hX1,hX2];clear hx hX1 hX2 h1 h2;go_enter Tryz.func8,Tryz.ntmps8;go_upto_region 1 with fail
 generalize hW:World.alloc (World.alloc w _) _=W1 at E ⊢;clear hW;rcases(show(f.kind=f'.kind∧((f.kind:Int) == (f'.kind:Int))=true)∨(((f.kind:Int) == (f'.kind:Int))=false∧false=x) from(by by_cases h0:f.kind=f'.kind;exact .inl ⟨h0,by rw[h0];exact beq_self_eq_true _⟩;exact .inr ⟨by rw[beq_eq_false_iff_ne];intro q;exact h0 (by omega),no15 HXX.out (fun q=>h0 q.1)⟩)) with⟨h0,d0⟩|⟨d0,rfl⟩
 rcases(show(f.y=f'.y∧(f.y == f'.y)=true)∨((f.y == f'.y)=false∧false=x) from(by by_cases h1:f.y=f'.y;exact .inl ⟨h1,by rw[h1];exact beq_self_eq_true _⟩;exact .inr ⟨by rw[beq_eq_false_iff_ne];exact h1,no15 HXX.out (fun q=>h1 q.2.1)⟩)) with⟨h1,d1⟩|⟨d1,rfl⟩
 rcases(show(f.m=f'.m∧(f.m == f'.m)=true)∨((f.m == f'.m)=false∧false=x) from(by by_cases h2:f.m=f'.m;exact .inl ⟨h2,by rw[h2];exact beq_self_eq_true _⟩;exact .inr ⟨by rw[beq_eq_false_iff_ne];exact h2,no15 HXX.out (fun q=>h2 q.2.2.1)⟩)) with⟨h2,d2⟩|⟨d2,rfl⟩
 rcases(show(f.d=f'.d∧(f.d == f'.d)=true)∨((f.d == f'.d)=false∧false=x) from(by by_cases h3:f.d=f'.d;exact .inl ⟨h3,by rw[h3];exact beq_self_eq_true _⟩;exact .inr ⟨by rw[beq_eq_false_iff_ne];exact h3,no15 HXX.out (fun q=>h3 q.2.2.2.1)⟩)) with⟨h3,d3⟩|⟨d3,rfl⟩
 rcases(show(f.acc=f'.acc∧(f.acc.toList == f'.acc.toList)=true)∨((f.acc.toList == f'.acc.toList)=false∧false=x) from(by by_cases h4:f.acc=f'.acc;exact .inl ⟨h4,str_yes h4⟩;exact .inr ⟨str_not h4,no15 HXX.out (fun q=>h4 q.2.2.2.2.1)⟩)) with⟨h4,d4⟩|⟨d4,rfl⟩
 rcases(show(f.oth=f'.oth∧(f.oth.toList == f'.oth.toList)=true)∨((f.oth.toList == f'.oth.toList)=false∧false=x) from(by by_cases h5:f.oth=f'.oth;exact .inl ⟨h5,str_yes h5⟩;exact .inr ⟨str_not h5,no15 HXX.out (fun q=>h5 q.2.2.2.2.2.1)⟩)) with⟨h5,d5⟩|⟨d5,rfl⟩
 rcases(show(f.book=f'.book∧((f.book:Int) == (f'.book:Int))=true)∨(((f.book:Int) == (f'.book:Int))=false∧false=x) from(by by_cases h6:f.book=f'.book;exact .inl ⟨h6,by rw[h6];exact beq_self_eq_true _⟩;exact .inr ⟨by rw[beq_eq_false_iff_ne];intro q;exact h6 (by omega),no15 HXX.out (fun q=>h6 q.2.2.2.2.2.2.1)⟩)) with⟨h6,d6⟩|⟨d6,rfl⟩
 obtain⟨x7,hx7⟩:∃b:Bool,(b=true↔f.curs=f'.curs):=⟨decide (f.curs=f'.curs),by rw[decide_eq_true_iff]⟩;obtain⟨a0,a1,a2,a3,a4,a5,a6,a7,alt⟩:=same15_is_at (g:=w.heap.size) E (by simp) HX1.out;obtain⟨b0,b1,b2,b3,b4,b5,b6,b7,blt⟩:=same15_is_at (g:=w.heap.size+1) E (by simp) HX2.out;have B1:=E.out.blk (w.heap.size,X1,45) (by simp);have B2:=E.out.blk (w.heap.size+1,X2,45) (by simp);dsimp only at B1 B2
 focus repeat(first|(refine wpList_load_rowG ?_ 45 (.tmp 2) rfl (w.heap.size) rfl 45 X1 (0,0) _ B1 Tryz.underlying45 rfl (by rw[dir_size,HS1.out]) ?_;· first|rfl|go_simp)|(refine wpList_load_rowG ?_ 45 (.tmp 3) rfl (w.heap.size+1) rfl 45 X2 (0,0) _ B2 Tryz.underlying45 rfl (by rw[dir_size,HS2.out]) ?_;· first|rfl|go_simp)|go_values|go_skip|go_guarded|go_step|go_upon|go_back|(go_values<;>(try go_simp))|dsimp only|(split<;>(first|(rename_i hx;exact(hx _ rfl).elim)|go_prune)))
 clear a0 b0 a1 b1 a2 b2 a3 b3 a4 b4 a5 b5 a6 b6 a7 b7 alt blt B1 B2;refine(equal_is (S15.got E (f:=f) (m:=m) (by simp)).cur (S15.got E (f:=f') (m:=m') (by simp)).cur hx7).mono ?_;rintro en v7 ⟨rfl,hb⟩;replace E:=Jh (E.out.step hb);clear hb;rcases(show(x7=true∧(f.curs=f'.curs))∨(x7=false∧false=x) from(by by_cases hh:x7=true;exact .inl ⟨hh,hx7.1 hh⟩;exact .inr ⟨Bool.eq_false_iff.2 hh,no15 HXX.out (fun q=>hh (hx7.2 (q.2.2.2.2.2.2.2.1)))⟩)) with⟨rfl,h7⟩|⟨rfl,rfl⟩
 all_goals (try clear hx7)
 obtain⟨x8,hx8⟩:∃b:Bool,(b=true↔(f.i=f'.i∧f.k=f'.k)∧(f.cur=f'.cur)∧(f.hasTol=f'.hasTol)∧(f.ti=f'.ti∧f.tk=f'.tk)):=⟨decide ((f.i=f'.i∧f.k=f'.k)∧(f.cur=f'.cur)∧(f.hasTol=f'.hasTol)∧(f.ti=f'.ti∧f.tk=f'.tk)),by rw[decide_eq_true_iff]⟩;obtain⟨a0,a1,a2,a3,a4,a5,a6,a7,alt⟩:=same15_is_at (g:=w.heap.size) E (by simp) HX1.out;obtain⟨b0,b1,b2,b3,b4,b5,b6,b7,blt⟩:=same15_is_at (g:=w.heap.size+1) E (by simp) HX2.out;have B1:=E.out.blk (w.heap.size,X1,45) (by simp);have B2:=E.out.blk (w.heap.size+1,X2,45) (by simp);dsimp only at B1 B2
 focus repeat(first|(refine wpList_load_rowG ?_ 45 (.tmp 2) rfl (w.heap.size) rfl 45 X1 (0,0) _ B1 Tryz.underlying45 rfl (by rw[dir_size,HS1.out]) ?_;· first|rfl|go_simp)|(refine wpList_load_rowG ?_ 45 (.tmp 3) rfl (w.heap.size+1) rfl 45 X2 (0,0) _ B2 Tryz.underlying45 rfl (by rw[dir_size,HS2.out]) ?_;· first|rfl|go_simp)|go_values|go_skip|go_guarded|go_step|go_upon|go_back|(go_values<;>(try go_simp))|dsimp only|(split<;>(first|(rename_i hx;exact(hx _ rfl).elim)|go_prune)))
 clear a0 b0 a1 b1 a2 b2 a3 b3 a4 b4 a5 b5 a6 b6 a7 b7 alt blt B1 B2;refine(SN.out (S15.got E (f:=f) (m:=m) (by simp)) (S15.got E (f:=f') (m:=m') (by simp)) hx8).mono ?_;rintro en v8 ⟨rfl,hb⟩;replace E:=Jh (E.out.step hb);clear hb;rcases(show(x8=true∧((f.i=f'.i∧f.k=f'.k)∧(f.cur=f'.cur)∧(f.hasTol=f'.hasTol)∧(f.ti=f'.ti∧f.tk=f'.tk)))∨(x8=false∧false=x) from(by by_cases hh:x8=true;exact .inl ⟨hh,hx8.1 hh⟩;exact .inr ⟨Bool.eq_false_iff.2 hh,no15 HXX.out (fun q=>hh (hx8.2 (q.2.2.2.2.2.2.2.2.1)))⟩)) with⟨rfl,h8⟩|⟨rfl,rfl⟩
 all_goals (try clear hx8)
 obtain⟨x9,hx9⟩:∃b:Bool,(b=true↔(f.flag=f'.flag)∧(f.pay=f'.pay)∧(f.nar=f'.nar)∧(f.tags=f'.tags)∧(f.links=f'.links)∧(f.name=f'.name)∧(f.text=f'.text)):=⟨decide ((f.flag=f'.flag)∧(f.pay=f'.pay)∧(f.nar=f'.nar)∧(f.tags=f'.tags)∧(f.links=f'.links)∧(f.name=f'.name)∧(f.text=f'.text)),by rw[decide_eq_true_iff]⟩;obtain⟨a0,a1,a2,a3,a4,a5,a6,a7,alt⟩:=same15_is_at (g:=w.heap.size) E (by simp) HX1.out;obtain⟨b0,b1,b2,b3,b4,b5,b6,b7,blt⟩:=same15_is_at (g:=w.heap.size+1) E (by simp) HX2.out;have B1:=E.out.blk (w.heap.size,X1,45) (by simp);have B2:=E.out.blk (w.heap.size+1,X2,45) (by simp);dsimp only at B1 B2
 focus repeat(first|(refine wpList_load_rowG ?_ 45 (.tmp 2) rfl (w.heap.size) rfl 45 X1 (0,0) _ B1 Tryz.underlying45 rfl (by rw[dir_size,HS1.out]) ?_;· first|rfl|go_simp)|(refine wpList_load_rowG ?_ 45 (.tmp 3) rfl (w.heap.size+1) rfl 45 X2 (0,0) _ B2 Tryz.underlying45 rfl (by rw[dir_size,HS2.out]) ?_;· first|rfl|go_simp)|go_values|go_skip|go_guarded|go_step|go_upon|go_back|(go_values<;>(try go_simp))|dsimp only|(split<;>(first|(rename_i hx;exact(hx _ rfl).elim)|go_prune)))
 clear a0 b0 a1 b1 a2 b2 a3 b3 a4 b4 a5 b5 a6 b6 a7 b7 alt blt B1 B2;refine(ST.out (S15.got E (f:=f) (m:=m) (by simp)) (S15.got E (f:=f') (m:=m') (by simp)) hx9).mono ?_;rintro en v9 ⟨rfl,hb⟩;replace E:=Jh (E.out.step hb);clear hb;rcases(show(x9=true∧((f.flag=f'.flag)∧(f.pay=f'.pay)∧(f.nar=f'.nar)∧(f.tags=f'.tags)∧(f.links=f'.links)∧(f.name=f'.name)∧(f.text=f'.text)))∨(x9=false∧false=x) from(by by_cases hh:x9=true;exact .inl ⟨hh,hx9.1 hh⟩;exact .inr ⟨Bool.eq_false_iff.2 hh,no15 HXX.out (fun q=>hh (hx9.2 (q.2.2.2.2.2.2.2.2.2)))⟩)) with⟨rfl,h9⟩|⟨rfl,rfl⟩
 all_goals (try clear hx9)
 ·obtain rfl:true=x:=(HXX.out.2 ⟨h0,h1,h2,h3,h4,h5,h6,h7,h8,h9⟩).symm
  obtain⟨a0,a1,a2,a3,a4,a5,a6,a7,alt⟩:=same15_is_at (g:=w.heap.size) E (by simp) HX1.out;obtain⟨b0,b1,b2,b3,b4,b5,b6,b7,blt⟩:=same15_is_at (g:=w.heap.size+1) E (by simp) HX2.out;have B1:=E.out.blk (w.heap.size,X1,45) (by simp);have B2:=E.out.blk (w.heap.size+1,X2,45) (by simp);dsimp only at B1 B2
  focus repeat(first|(refine wpList_load_rowG ?_ 45 (.tmp 2) rfl (w.heap.size) rfl 45 X1 (0,0) _ B1 Tryz.underlying45 rfl (by rw[dir_size,HS1.out]) ?_;· first|rfl|go_simp)|(refine wpList_load_rowG ?_ 45 (.tmp 3) rfl (w.heap.size+1) rfl 45 X2 (0,0) _ B2 Tryz.underlying45 rfl (by rw[dir_size,HS2.out]) ?_;· first|rfl|go_simp)|go_values|go_skip|go_guarded|go_step|go_upon|go_back|(go_values<;>(try go_simp))|dsimp only|(split<;>(first|(rename_i hx;exact(hx _ rfl).elim)|go_prune)))
  clear a0 b0 a1 b1 a2 b2 a3 b3 a4 b4 a5 b5 a6 b6 a7 b7 alt blt B1 B2;go_ret;exact⟨rfl,E.out.bel⟩
 all_goals
  obtain⟨a0,a1,a2,a3,a4,a5,a6,a7,alt⟩:=same15_is_at (g:=w.heap.size) E (by simp) HX1.out;obtain⟨b0,b1,b2,b3,b4,b5,b6,b7,blt⟩:=same15_is_at (g:=w.heap.size+1) E (by simp) HX2.out;have B1:=E.out.blk (w.heap.size,X1,45) (by simp);have B2:=E.out.blk (w.heap.size+1,X2,45) (by simp);dsimp only at B1 B2
  focus repeat(first|(refine wpList_load_rowG ?_ 45 (.tmp 2) rfl (w.heap.size) rfl 45 X1 (0,0) _ B1 Tryz.underlying45 rfl (by rw[dir_size,HS1.out]) ?_;· first|rfl|go_simp)|(refine wpList_load_rowG ?_ 45 (.tmp 3) rfl (w.heap.size+1) rfl 45 X2 (0,0) _ B2 Tryz.underlying45 rfl (by rw[dir_size,HS2.out]) ?_;· first|rfl|go_simp)|go_values|go_skip|go_guarded|go_step|go_upon|go_back|(go_values<;>(try go_simp))|dsimp only|(split<;>(first|(rename_i hx;exact(hx _ rfl).elim)|go_prune)))
  clear a0 b0 a1 b1 a2 b2 a3 b3 a4 b4 a5 b5 a6 b6 a7 b7 alt blt B1 B2;go_ret;exact⟨rfl,E.out.bel⟩
def fdBack(f:FD):Option Dr:=match f.kind with
 | 1=>some (.opn (f.y,f.m,f.d) f.acc f.curs f.book)
 | 2=>some (.cls (f.y,f.m,f.d) f.acc)
 | 3=>some (.com (f.y,f.m,f.d) (f.curs.headD ⟨#[]⟩))
 | 4=>some (.prc (f.y,f.m,f.d) (f.curs.headD ⟨#[]⟩) f.i f.k f.cur)
 | 5=>some (.pad (f.y,f.m,f.d) f.acc f.oth)
 | 6=>some (.bal (f.y,f.m,f.d) f.acc f.i f.k (if f.hasTol=true then some (f.ti,f.tk) else none) f.cur)
 | 7=>some (.txn (f.y,f.m,f.d) (decide (bs9 f.flag=[33])) f.pay f.nar f.tags f.links)
 | 8=>some (.nte (f.y,f.m,f.d) f.acc f.text)
 | 9=>some (.opt f.name f.text)
 | _=>none
theorem fd_back:∀o:Option Dr,fdBack (fdOf o)=o
 | none=>rfl
 | some (.opn _ _ _ _)=>rfl
 | some (.cls _ _)=>rfl
 | some (.com _ _)=>rfl
 | some (.prc _ _ _ _ _)=>rfl
 | some (.pad _ _ _)=>rfl
 | some (.bal _ _ _ _ none _)=>rfl
 | some (.bal _ _ _ _ (some _) _)=>rfl
 | some (.txn _ true _ _ _ _)=>rfl
 | some (.txn _ false _ _ _ _)=>rfl
 | some (.nte _ _ _)=>rfl
 | some (.opt _ _)=>rfl
theorem fd_all{f f':FD}:f=f'↔(f.kind=f'.kind)∧(f.y=f'.y)∧(f.m=f'.m)∧(f.d=f'.d)∧(f.acc=f'.acc)∧(f.oth=f'.oth)∧(f.book=f'.book)∧(f.curs=f'.curs)∧((f.i=f'.i∧f.k=f'.k)∧(f.cur=f'.cur)∧(f.hasTol=f'.hasTol)∧(f.ti=f'.ti∧f.tk=f'.tk))∧((f.flag=f'.flag)∧(f.pay=f'.pay)∧(f.nar=f'.nar)∧(f.tags=f'.tags)∧(f.links=f'.links)∧(f.name=f'.name)∧(f.text=f'.text)):=by
 constructor
 ·rintro rfl;simp
 ·rintro⟨h1,h2,h3,h4,h5,h6,h7,h8,⟨⟨h9,h10⟩,h11,h12,h13,h14⟩,h15,h16,h17,h18,h19,h20,h21⟩
  cases f;cases f'
  simp only at h1 h2 h3 h4 h5 h6 h7 h8 h9 h10 h11 h12 h13 h14 h15 h16 h17 h18 h19 h20 h21
  subst h1 h2 h3 h4 h5 h6 h7 h8 h9 h10 h11 h12 h13 h14 h15 h16 h17 h18 h19 h20 h21;rfl
theorem heade15:SAMEH:=fun {w m m' o o' x} h1 h2 _ hx=>same15_is h1 h2 (hx.trans (Iff.trans ⟨fun h=>by rw[h],fun h=>by rw[← fd_back o,← fd_back o',h]⟩ fd_all))
end Go.Proofs.YthpmaoimceojgaaGreatDoor.Num
