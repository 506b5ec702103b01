/- Lemmas of the proof: TxtA, TxtB, TxtC, TxtD, TxtE. -/
import Derived.Test.YtpbbolgnnegmlaaGreatDoorAll05
import Derived.Test.YtpbbolgnnegmlaaGreatDoorAll17
import Derived.Test.YtpbbolgnnegmlaaGreatDoorAll25
import Derived.Lib.SplitLaws
import Derived.Lib.ReplaceLaws
import Derived.WalkMore
import Derived.Deep.QuietTactic
import Derived.BigQuiet
set_option linter.unusedVariables false
set_option linter.unusedSimpArgs false
set_option maxRecDepth 100000
set_option maxHeartbeats 32000000
open Go.Lib renaming hid→Jh
namespace Go.Proofs.YtpbbolgnnegmlaaGreatDoor.Num
open Go.RowKit
theorem cell_on7{w w':World}{a:Addr}{v:Value}(h:w.cell? a=some v)(hb:Below w.heap.size w w'):w'.cell? a=some v:=by
 have hlt:a.block<w.heap.size:=by
  rcases Nat.lt_or_ge a.block w.heap.size with h' | h'
  ·exact h'
  ·unfold World.cell? at h
   rw[Array.getElem?_eq_none h'] at h;cases h
 rw[hb.cell hlt];exact h
def MaxLen(w:World):Prop:=∃m,w.cell? ⟨2,0,none⟩=some (.int .i64 m)
theorem MaxLen.on{w w':World}(h:MaxLen w)(hb:Below w.heap.size w w'):MaxLen w':=by
 obtain⟨m,hm⟩:=h;exact⟨m,cell_on7 hm hb⟩
theorem mk_str(l:List UInt8):(⟨l.toArray⟩:ByteArray)=str (l.map UInt8.toNat):=by
 rw[← str_codes ⟨l.toArray⟩];rfl
theorem index_cons_eq(c:UInt8)(l:List UInt8):Lib.index (c::l) [c]=0:=by rw[Lib.index];simp[List.isPrefixOf]
theorem index_cons_ne{b c:UInt8}(l:List UInt8)(h:b≠c):Lib.index (b::l) [c]=if Lib.index l [c] = -1 then -1 else Lib.index l [c]+1:=by
 have hp:([c]:List UInt8).isPrefixOf (b::l)=false:=by simp[List.isPrefixOf,Ne.symm h]
 rw[Lib.index,hp];simp
theorem u8_ne{b c:UInt8}(h:b≠c):b.toNat≠c.toNat:=fun e=>h (UInt8.toNat_inj.1 e)
theorem ahd_cons_ne{x:Nat}(l:List Nat)(h:x≠46):ahd (x::l)=x::ahd l:=by
 unfold ahd;rw[List.takeWhile_cons_of_pos (by simpa using h)]
theorem bhd_cons_ne{x:Nat}(l:List Nat)(h:x≠46):bhd (x::l)=bhd l:=by
 unfold bhd;rw[List.dropWhile_cons_of_pos (by simpa using h)]
theorem ahd_cons_eq(l:List Nat):ahd (46::l)=[]:=by
 unfold ahd;rw[List.takeWhile_cons_of_neg (by simp)]
theorem bhd_cons_eq(l:List Nat):bhd (46::l)=l:=by
 unfold bhd;rw[List.dropWhile_cons_of_neg (by simp)];rfl
theorem cut_dot:∀l:List UInt8,(Lib.cut l [46]).1.map UInt8.toNat=ahd (l.map UInt8.toNat)∧(Lib.cut l [46]).2.1.map UInt8.toNat=bhd (l.map UInt8.toNat)∧(Lib.cut l [46]).2.2=(l.map UInt8.toNat).contains 46
 | []=>⟨rfl,rfl,rfl⟩
 | b::l=>by
  obtain⟨h1,h2,h3⟩:=cut_dot l;by_cases hb:b=46
  ·subst hb
   have e:Lib.cut (46::l) [46]=([],l,true):=by
    unfold Lib.cut;rw[index_cons_eq];simp
   rw[e,List.map_cons];exact⟨(ahd_cons_eq _).symm,(bhd_cons_eq _).symm,by simp⟩
  ·have hn:b.toNat≠46:=u8_ne hb
   have hc:(b.toNat::l.map UInt8.toNat).contains 46=(l.map UInt8.toNat).contains 46:=by
    rw[Bool.eq_iff_iff,List.contains_iff_mem,List.contains_iff_mem,List.mem_cons];constructor
    ·rintro(h|h)
     ·exact absurd h.symm hn
     ·exact h
    ·exact Or.inr
   rw[List.map_cons,ahd_cons_ne _ hn,bhd_cons_ne _ hn,hc,← h1,← h2,← h3];have hge:=Lib.index_ge l [46];unfold Lib.cut;rw[index_cons_ne l hb];by_cases hm:Lib.index l [46] = -1
   ·rw[if_pos hm,hm];simp
   ·rw[if_neg hm]
    have e0:0≤Lib.index l [46]:=by omega
    have e1:0≤Lib.index l [46]+1:=by omega
    rw[if_pos e0,if_pos e1];obtain⟨j,hj⟩:∃j:Nat,Lib.index l [46]=j:=⟨(Lib.index l [46]).toNat,by omega⟩;rw[hj];have e2:((j:Int)+1).toNat=j+1:=by omega
    rw[e2,Int.toNat_natCast];refine⟨rfl,?_,rfl⟩;show(List.drop (j+1+1) (b::l)).map _=_;rw[List.drop_succ_cons];rfl
theorem has_comma:∀l:List UInt8,decide (0≤Lib.indexByte l 44)=(l.map UInt8.toNat).contains 44
 | []=>rfl
 | b::l=>by
  have ih:=has_comma l;have hge:=Lib.indexByte_ge l 44;by_cases hb:b=44
  ·subst hb;simp[Lib.indexByte]
  ·have hn:b.toNat≠44:=u8_ne hb
   have hc:(b.toNat::l.map UInt8.toNat).contains 44=(l.map UInt8.toNat).contains 44:=by
    rw[Bool.eq_iff_iff,List.contains_iff_mem,List.contains_iff_mem,List.mem_cons];constructor
    ·rintro(h|h)
     ·exact absurd h.symm hn
     ·exact h
    ·exact Or.inr
   rw[List.map_cons,hc,← ih];have e:(b == 44)=false:=by simpa using hb
   have e1:Lib.indexByte (b::l) 44=if Lib.indexByte l 44 == -1 then -1 else Lib.indexByte l 44+1:=by rw[Lib.indexByte,e];simp
   rw[e1];by_cases hm:Lib.indexByte l 44 = -1
   ·rw[hm];rfl
   ·have:(Lib.indexByte l 44 == -1)=false:=by simpa using hm
    rw[this,decide_eq_decide];show(0≤Lib.indexByte l 44+1)↔_;omega
theorem replaceK_comma:∀(l:List UInt8) (k:Nat),l.count 44≤k→Lib.replaceK [44] [] k l=l.filter (fun b=>b != 44)
 | [],k,_=>by cases k<;>simp[Lib.replaceK,Lib.index]
 | b::l,k,hk=>by
  by_cases hb:b=44
  ·subst hb
   rw[List.count_cons_self] at hk;obtain⟨k,rfl⟩:∃k',k=k'+1:=⟨k-1,by omega⟩;have ih:=replaceK_comma l k (by omega);rw[Lib.replaceK_hit [44] [] k (44::l) 0 (index_cons_eq 44 l),List.filter_cons_of_neg (by simp),← ih];rfl
  ·rw[List.count_cons_of_ne (by simpa using hb)] at hk
   have ih:=replaceK_comma l k hk;have hf:List.filter (fun b=>b != 44) (b::l)=b::List.filter (fun b=>b != 44) l:=by rw[List.filter_cons];simp[hb]
   rw[hf,← ih];cases k with
   | zero=>rfl
   | succ k=>
    have hge:=Lib.index_ge l [44];have hix:=index_cons_ne l hb;by_cases hm:Lib.index l [44] = -1
    ·rw[if_pos hm] at hix
     rw[Lib.replaceK,Lib.replaceK,hix,hm];rfl
    ·rw[if_neg hm] at hix
     obtain⟨j,hj⟩:∃j:Nat,Lib.index l [44]=j:=⟨(Lib.index l [44]).toNat,by omega⟩;rw[Lib.replaceK_hit [44] [] k (b::l) (j+1) (by rw[hix,hj];omega),Lib.replaceK_hit [44] [] k l j hj];show List.take (j+1) (b::l)++[]++Lib.replaceK [44] [] k (List.drop (j+1+1) (b::l))=_;rw[List.drop_succ_cons,List.take_succ_cons];rfl
theorem replace_comma(l:List UInt8):(Lib.replaceAll l [44] []).map UInt8.toNat=nocom (l.map UInt8.toNat):=by
 have e:Lib.replaceAll l [44] []=l.filter (fun b=>b != 44):=by
  unfold Lib.replaceAll Lib.replace Lib.replaceNum;rw[if_neg (by decide),if_pos (.inl (by decide)),Lib.count_one];exact replaceK_comma l _ (Nat.le_refl _)
 rw[e];unfold nocom;rw[List.filter_map];congr 1
 refine List.filter_congr fun b _=>?_
 show(b != 44)=(b.toNat != 44);rw[Bool.eq_iff_iff];simp only[bne_iff_ne,ne_eq]
 constructor
 ·exact fun h=>u8_ne h
 ·exact fun h e=>h (by rw[e];rfl)
theorem repeat_nought:∀c,(Lib.repeatL [48] c).map UInt8.toNat=List.replicate c 48
 | 0=>rfl
 | c+1=>by rw[Lib.repeatL,List.map_append,repeat_nought c,List.replicate_succ];rfl
def dotB(l:List Nat):Bool:=l.contains 46
def comB(l:List Nat):Bool:=l.contains 44
theorem scut_any(s:ByteArray)(w:World)(hs:s.size≤1000000)(hm:MaxLen w):Calls Tryz.prog 89 #[.string s,.string ⟨#[46]⟩] w (RetVal w (.tuple #[.string (str (ahd (codes s))),.string (str (bhd (codes s))),.bool (dotB (codes s))])):=by
 obtain⟨m,hm⟩:=hm;refine(Tryz.strings_Cut s ⟨#[46]⟩ m w (by omega) hm).mono ?_;rintro e w' ⟨he,n,rfl⟩;obtain⟨h1,h2,h3⟩:=cut_dot s.data.toList;refine⟨?_,Below.of_quiet⟩;have e46:(⟨#[46]⟩:ByteArray).data.toList=[46]:=rfl;rw[he,e46,mk_str,mk_str,h1,h2,h3];rfl
theorem scontains_any(s:ByteArray)(w:World):Calls Tryz.prog 108 #[.string s,.string ⟨#[44]⟩] w fun e w'=>e=.returned (.bool (comB (codes s)))∧w'=w:=by
 refine(Tryz.strings_Contains_one s 44 w).mono ?_;rintro e w' ⟨he,hw⟩;exact⟨by rw[he,has_comma];rfl,hw⟩
theorem sreplace_any(s:ByteArray)(w:World)(hs:s.size≤1000000)(hm:MaxLen w):Calls Tryz.prog 109 #[.string s,.string ⟨#[44]⟩,.string ⟨#[]⟩] w (RetVal w (.string (str (nocom (codes s))))):=by
 obtain⟨m,hm⟩:=hm;refine(Tryz.strings_ReplaceAll s ⟨#[44]⟩ ⟨#[]⟩ m w (by omega) hm (by decide) (by show s.size+_*0≤_;omega)).mono ?_;rintro e w' ⟨he,hb⟩;refine⟨?_,hb⟩;rw[he,mk_str];show Ending.returned (.string (str ((Lib.replaceAll s.data.toList [44] []).map _)))=_;rw[replace_comma];rfl
theorem srepeat_any(c:Nat)(w:World)(hc:c≤1000000):Calls Tryz.prog 101 #[.string ⟨#[48]⟩,.int .i64 (c:Int)] w (RetVal w (.string (str (List.replicate c 48)))):=by
 refine(Tryz.strings_Repeat ⟨#[48]⟩ c w (by omega) (by show 1*c≤_;omega)).mono ?_;rintro e w' ⟨he,hb⟩;refine⟨?_,hb⟩;rw[he,mk_str];show Ending.returned (.string (str ((Lib.repeatL [48] c).map _)))=_;rw[repeat_nought]
theorem extract_from(s:ByteArray)(k m:Nat)(hm:m=s.size):s.extract k m=str ((codes s).drop k):=by
 subst hm;have e:s=str (codes s):=(str_codes s).symm;have e2:s.size=(codes s).length:=(codes_len s).symm;rw[e2];conv=>lhs;rw[e]
 unfold str;rw[ByteArray.extract_mk];simp only[List.extract_toArray,List.extract_eq_take_drop,List.map_drop]
 rw[List.take_of_length_le];rw[List.length_drop,List.length_map,e];simp[codes,str]
theorem size_zero{s:ByteArray}(h:s.size=0):s=⟨#[]⟩:=by
 have e:codes s=[]:=List.eq_nil_of_length_eq_zero (by rw[codes_len];exact h);rw[← str_codes s,e];rfl
theorem codes_head(s:ByteArray)(h:0<s.size):codes s=(s[0]'h).toNat::(codes s).drop 1:=by
 have hl:0<(codes s).length:=by rw[codes_len];exact h
 have hg:=codes_get s 0 h;cases hc:codes s with
 | nil=>rw[hc] at hl;cases hl
 | cons x l=>
  rw[hc] at hg;have:x=(s[0]'h).toNat:=hg;rw[this];rfl
theorem codes_drop(s:ByteArray)(j:Nat)(h:j<s.size):(codes s).drop j=(s[j]'h).toNat::(codes s).drop (j+1):=by
 have hl:j<(codes s).length:=by rw[codes_len];exact h
 rw[List.drop_eq_getElem_cons hl];congr 1
 rw[← codes_get s j h];unfold gd;rw[List.getD_eq_getElem?_getD,List.getElem?_eq_getElem hl];rfl
theorem rst_plain{c:Nat}{l:List Nat}(h1:c≠45)(h2:c≠43):rst (c::l)=c::l∧sgnB (c::l)=false:=by
 unfold rst sgnB;simp[h1,h2]
theorem rst_minus{l:List Nat}:rst (45::l)=l∧sgnB (45::l)=true:=by
 unfold rst sgnB;simp
theorem rst_plus{l:List Nat}:rst (43::l)=l∧sgnB (43::l)=false:=by
 unfold rst sgnB;simp
theorem signed_any(s:ByteArray)(w:World)(hs:s.size≤1000000):Calls Tryz.prog 88 #[.string s] w (RetVal w (.tuple #[.bool (sgnB (codes s)),.string (str (rst (codes s)))])):=by
 rcases Nat.eq_zero_or_pos s.size with h0|h0
 ·obtain rfl:=size_zero h0
  clear h0 hs;go_enter Tryz.func88,Tryz.ntmps88;go_wp2;go_ret2
  exact⟨rfl,Below.refl _ _⟩
 ·obtain⟨he1,he2,he3,he4⟩:=str_ne h0
  have HC:=Jh (codes_head s h0);have HX:=Jh (extract_from s 1 _ rfl);obtain⟨c,hc⟩:∃c,c=(s[0]'h0).toNat:=⟨_,rfl⟩;rw[← hc] at HC;by_cases h1:c=45
  ·have b1:(((s[0]'h0).toNat:Int) == 45)=true:=by rw[← hc,h1];rfl
   have HE:Hid (sgnB (codes s)=true∧s.extract 1 s.size=str (rst (codes s))):=by
    have e:=HC.out;rw[h1] at e;refine⟨?_,?_⟩
    ·rw[e];exact rst_minus.2
    ·rw[HX.out]
     conv=>rhs;rw[e]
     rw[rst_minus.1]
   clear hc h1 HC HX;go_enter Tryz.func88,Tryz.ntmps88;go_wp2;go_ret2
   exact⟨by rw[HE.out.1,← HE.out.2];rfl,Below.refl _ _⟩
  ·by_cases h2:c=43
   ·have b1:(((s[0]'h0).toNat:Int) == 45)=false:=by rw[← hc,h2];rfl
    have b2:(((s[0]'h0).toNat:Int) == 43)=true:=by rw[← hc,h2];rfl
    have HE:Hid (sgnB (codes s)=false∧s.extract 1 s.size=str (rst (codes s))):=by
     have e:=HC.out;rw[h2] at e;refine⟨?_,?_⟩
     ·rw[e];exact rst_plus.2
     ·rw[HX.out]
      conv=>rhs;rw[e]
      rw[rst_plus.1]
    clear hc h1 h2 HC HX;go_enter Tryz.func88,Tryz.ntmps88;go_wp2;go_ret2
    exact⟨by rw[HE.out.1,← HE.out.2];rfl,Below.refl _ _⟩
   ·have b1:(((s[0]'h0).toNat:Int) == 45)=false:=by rw[← hc,beq_eq_false_iff_ne];omega
    have b2:(((s[0]'h0).toNat:Int) == 43)=false:=by rw[← hc,beq_eq_false_iff_ne];omega
    have HE:Hid (sgnB (codes s)=false∧s=str (rst (codes s))):=by
     refine⟨?_,?_⟩
     ·rw[HC.out];exact(rst_plain h1 h2).2
     ·conv=>rhs;rw[HC.out,(rst_plain h1 h2).1,← HC.out,str_codes]
    clear hc h1 h2 HC HX;go_enter Tryz.func88,Tryz.ntmps88;go_wp2;go_ret2
    exact⟨by rw[HE.out.1,← HE.out.2];rfl,Below.refl _ _⟩
def ungS(l:List Nat):ByteArray:=if ungB l then str (nocom l) else ⟨#[]⟩
theorem ungS_yes{l:List Nat}(h:ungB l=true):ungS l=str (nocom l):=by unfold ungS;rw[if_pos h]
theorem ungS_no{l:List Nat}(h:ungB l=false):ungS l=⟨#[]⟩:=by unfold ungS;rw[h];rfl
theorem ungrouped_any(s:ByteArray)(w:World)(h0:0<s.size)(hs:s.size≤1000000)(hm:MaxLen w) :
  Calls Tryz.prog 90 #[.string s] w (RetVal w (.tuple #[.string (ungS (codes s)),.bool (ungB (codes s))])):=by
 have C:=Jh (scontains_any s w);have R:=Jh (sreplace_any s w hs hm);by_cases hc:(codes s).contains 44=true
 ·have hcB:comB (codes s)=true:=hc
  rw[hcB] at C;clear hcB;have HC:=Jh (codes_head s h0);obtain⟨c,hcc⟩:∃c,c=(s[0]'h0).toNat:=⟨_,rfl⟩;rw[← hcc] at HC;have HU:Hid (ungB (codes s)=(decide (c≠44)&&gok (codes s))):=by
   show _=_;have e:(codes s).head?=some c:=by rw[HC.out];rfl
   unfold ungB;rw[if_pos hc,e];congr 1
   rw[Bool.eq_iff_iff];simp
  by_cases h1:c=44
  ·have b1:(((s[0]'h0).toNat:Int) == 44)=true:=by rw[← hcc,h1];rfl
   have HE:Hid (ungB (codes s)=false):=by show _=_;rw[HU.out,h1];rfl
   clear HU h1 hcc HC hc R;go_enter Tryz.func90,Tryz.ntmps90;go_wp2_with fail;refine C.out.mono ?_;rintro e w1 ⟨rfl,rfl⟩;clear C;go_wp2_with fail;go_ret2
   exact⟨by rw[ungS_no HE.out,HE.out];rfl,Below.refl _ _⟩
  ·have b1:(((s[0]'h0).toNat:Int) == 44)=false:=by rw[← hcc,beq_eq_false_iff_ne];omega
   have HE:Hid (ungB (codes s)=gok (codes s)):=by show _=_;rw[HU.out,decide_eq_true h1];rfl
   have HL:=Jh (codes_len s);clear HU h1 hcc HC hc;go_enter Tryz.func90,Tryz.ntmps90;go_wp2_with fail;refine C.out.mono ?_;rintro e w1 ⟨rfl,rfl⟩;clear C;go_wp2_with fail;go_loop [14] (fun iv=>∃j:Nat,j≤s.size∧iv=.int .i64 j∧gok (codes s)=gok ((codes s).drop j)) (fun iv=>s.size-(intOf iv).toNat)
   case atStart=>exact⟨0,Nat.zero_le _,rfl,rfl⟩
   case round=>
    obtain⟨j,hj,rfl,hg⟩:=hrel;have HG:=Jh hg;clear hg;rcases Nat.lt_or_ge j s.size with hlt|hge
    ·have HD:=Jh (codes_drop s j hlt)
     obtain⟨x,hx⟩:∃x,x=(s[j]'hlt).toNat:=⟨_,rfl⟩;rw[← hx] at HD;have HG2:Hid (gok (codes s)=(((x == 44) == decide ((s.size-j)%4=0))&&gok ((codes s).drop (j+1)))):=by
      show _=_;rw[HG.out,HD.out,gok_at];have e:((codes s).drop (j+1)).length+1=s.size-j:=by rw[List.length_drop,HL.out];omega
      rw[e]
     have em:((s.size:Int)-(j:Int))%4=(((s.size-j)%4:Nat):Int):=by omega
     obtain⟨y,hy⟩:∃y,y=(s.size-j)%4:=⟨_,rfl⟩;rw[← hy] at HG2 em;by_cases k1:x=44
     ·have b2:(((s[j]'hlt).toNat:Int) == 44)=true:=by rw[← hx,k1];rfl
      by_cases k2:y=0
      ·have b3:((y:Int) == 0)=true:=by rw[k2];rfl
       have HN:Hid (gok (codes s)=gok ((codes s).drop (j+1))):=by show _=_;rw[HG2.out,k1,k2];rfl
       clear k1 k2 hx hy HG HG2 HD;go_wp2_with fail;go_round
       case rel=>exact⟨j+1,by omega,by go_num,HN.out⟩
       case measure=>simp[intOf];omega
      ·have b3:((y:Int) == 0)=false:=by rw[beq_eq_false_iff_ne];omega
       have HN:Hid (gok (codes s)=false):=by show _=_;rw[HG2.out,k1,decide_eq_false k2];rfl
       clear k1 k2 hx hy HG HG2 HD;go_wp2_with fail;go_ret2
       exact⟨by rw[ungS_no (HE.out.trans HN.out),HE.out,HN.out];rfl,Below.refl _ _⟩
     ·have b2:(((s[j]'hlt).toNat:Int) == 44)=false:=by rw[← hx,beq_eq_false_iff_ne];omega
      by_cases k2:y=0
      ·have b3:((y:Int) == 0)=true:=by rw[k2];rfl
       have HN:Hid (gok (codes s)=false):=by
        show _=_;have k3:(x == 44)=false:=by simpa using k1
        rw[HG2.out,k3,k2];rfl
       clear k1 k2 hx hy HG HG2 HD;go_wp2_with fail;go_ret2
       exact⟨by rw[ungS_no (HE.out.trans HN.out),HE.out,HN.out];rfl,Below.refl _ _⟩
      ·have b3:((y:Int) == 0)=false:=by rw[beq_eq_false_iff_ne];omega
       have HN:Hid (gok (codes s)=gok ((codes s).drop (j+1))):=by
        show _=_;have k3:(x == 44)=false:=by simpa using k1
        rw[HG2.out,k3,decide_eq_false k2];rfl
       clear k1 k2 hx hy HG HG2 HD;go_wp2_with fail;go_round
       case rel=>exact⟨j+1,by omega,by go_num,HN.out⟩
       case measure=>simp[intOf];omega
    ·obtain rfl:j=s.size:=by omega
     have HT:Hid (gok (codes s)=true):=by
      show _=_;rw[HG.out,List.drop_of_length_le (by rw[HL.out];exact Nat.le_refl _)];rfl
     clear HG;go_wp2_with fail;refine R.out.mono ?_;rintro e w2 ⟨rfl,hb2⟩;have HB2:=Jh hb2;clear hb2 R;go_wp2_with fail;go_ret2
     exact⟨by rw[ungS_yes (HE.out.trans HT.out),HE.out,HT.out];rfl,HB2.out⟩
 ·have hc':(codes s).contains 44=false:=by simpa using hc
  have HE:Hid (ungB (codes s)=true∧nocom (codes s)=codes s):=by
   constructor
   ·unfold ungB;rw[hc'];rfl
   ·unfold nocom
    rw[List.filter_eq_self];intro b hb;have:b≠44:=fun e=>by rw[e] at hb;exact hc (List.contains_iff_mem.2 hb)
    simpa using this
  have hcB:comB (codes s)=false:=hc';rw[hcB] at C;clear hc hc' R hcB;go_enter Tryz.func90,Tryz.ntmps90;go_wp2_with fail;refine C.out.mono ?_;rintro e w1 ⟨rfl,rfl⟩;clear C;go_wp2_with fail;go_ret2
  exact⟨by rw[ungS_yes HE.out.1,HE.out.1,HE.out.2,str_codes];rfl,Below.refl _ _⟩
theorem str_add7{x y:ByteArray}{l:List Nat}(h:codes x++codes y=l)(hl:x.size+y.size≤9223372036854775807)(w:World):(Op.stringOp .add x y).run Tryz.prog w=.ok (.string (str l)) w:=by
 have hx:=str_codes x;have hy:=str_codes y;have e:=str_add (codes x) (codes y) (by rw[codes_len,codes_len];exact hl) w;rw[hx,hy,h] at e;exact e
theorem extract_to(s:ByteArray)(k:Nat):s.extract 0 k=str ((codes s).take k):=by
 have e:=str_take (codes s) k;rw[str_codes] at e;exact e
theorem sign_ge{i:Int}(h:¬i<0):0≤i.sign:=by
 rcases Int.lt_trichotomy i 0 with h0|h0|h0
 ·exact absurd h0 h
 ·subst h0;decide
 ·rw[Int.sign_eq_one_iff_pos.2 h0];decide
theorem txt_size(a:Nat):(str (txt a)).size=nd a:=str_size _
def RetSplit(W:World)(i:Int)(s:Nat)(e:Ending)(w':World):Prop:=RetVal W (.tuple #[.string (str (sgT i)),.string (str (txt (i.natAbs/10^s))),.string (str (beh s i.natAbs))]) e w'
theorem split_small1(A:Option Addr)(n c s:Nat)(i:Int)(w:World)(h:Num w w.heap.size A n c i.natAbs)(hn:n≤1000)(hs:s≤6000)(hsg:i<0)(hw:nd i.natAbs≤s) :
  Calls Tryz.prog 98 #[.agg #[.bool (ngB i),.slice A n c,.int .i64 (s:Int)]] w (RetSplit w i s):=by
 have H:=Jh h;have hnd:nd i.natAbs≤10000:=by have:=nd_le_len h.len;omega
 have hsx:=max_zero (P:=Tryz.prog) (s:=s);have hs0:(0:Int)≤(s:Int):=by omega
 have HS:Hid (sgT i=[45]):=by show _=_;unfold sgT;rw[if_pos hsg]
 obtain⟨σ,hσ⟩:∃σ,σ=i.sign:=⟨_,rfl⟩;have hσ0:σ<0:=by rw[hσ];rw[Int.sign_eq_neg_one_iff_neg.2 hsg];omega
 have CS:Hid (∀w',Num w' w'.heap.size A n c i.natAbs→Calls Tryz.prog 113 #[.agg #[.bool (ngB i),.slice A n c,.int .i64 (s:Int)]] w' (RetVal w' (.int .i64 σ))):=by rw[hσ];exact fun w' h'=>sign_any A n c s i w' h'
 have CT:Hid (∀w',Num w' w'.heap.size A n c i.natAbs→Calls Tryz.prog 114 #[.slice A n c] w' (RetVal w' (.string (str (txt i.natAbs))))):=fun w' h'=>text_any A n c i.natAbs _ w' h' (Nat.le_refl _) (by omega)
 have HSZ:=Jh (txt_size i.natAbs);obtain⟨T,hT⟩:∃T,T=str (txt i.natAbs):=⟨_,rfl⟩;rw[← hT] at CT HSZ;have HT:Hid (codes T=txt i.natAbs):=by show _=_;rw[hT,codes_str (txt_bytes _)]
 obtain⟨K,hK⟩:∃K,K=nd i.natAbs:=⟨_,rfl⟩;rw[← hK] at HSZ hnd;obtain⟨h1,h2⟩:=beh_small hw;rw[← hK] at hw h1;obtain⟨k,hk⟩:∃k,k=s-K:=⟨_,rfl⟩;rw[← hk] at h1;have HE:Hid (beh s i.natAbs=46::(List.replicate k 48++txt i.natAbs)∧txt (i.natAbs/10^s)=[48]):=⟨h1,h2⟩;have ek:(s:Int)-(T.size:Int)=(k:Int):=by rw[HSZ.out];omega
 have hkb:k≤6000:=by omega
 have CR:=Jh (fun w'=>srepeat_any k w' (by omega));obtain⟨R,hR⟩:∃R,R=str (List.replicate k 48):=⟨_,rfl⟩;rw[← hR] at CR;have hRc:codes R=List.replicate k 48:=by rw[hR,codes_str];intro x hx;rw[(List.mem_replicate.1 hx).2];omega
 have hRs:R.size=k:=by rw[← codes_len,hRc,List.length_replicate]
 have ha1:∀w',(Op.stringOp .add ⟨#[46]⟩ R).run Tryz.prog w'=.ok (.string (str (46::List.replicate k 48))) w':=fun w'=>str_add7 (by rw[hRc];rfl) (by show 1+R.size≤_;omega) w'
 obtain⟨R1,hR1⟩:∃R1,R1=str (46::List.replicate k 48):=⟨_,rfl⟩;rw[← hR1] at ha1;have hR1c:codes R1=46::List.replicate k 48:=by
  rw[hR1,codes_str];intro x hx;rcases List.mem_cons.1 hx with rfl|hx
  ·omega
  ·rw[(List.mem_replicate.1 hx).2];omega
 have hR1s:R1.size=k+1:=by rw[← codes_len,hR1c,List.length_cons,List.length_replicate]
 have ha2:∀w',(Op.stringOp .add R1 T).run Tryz.prog w'=.ok (.string (str (beh s i.natAbs))) w':=fun w'=>str_add7 (by rw[hR1c,HT.out,HE.out.1];rfl) (by rw[hR1s,HSZ.out];omega) w'
 clear hR hRc hRs hR1 hR1c hR1s h1 h2 hk;clear h hsg hσ hT hw;go_enter Tryz.func98,Tryz.ntmps98;go_wp2_with fail;generalize hW:World.alloc w _=W0;have E0:St w W0 [(A,n,c,i.natAbs)] [(w.heap.size,.bool (ngB i),.slice A n c,.int .i64 (s:Int))]:=by rw[← hW];exact(start_one H.out).lay rfl
 have E:=Jh E0;clear hW E0;obtain⟨p0,p1,p2,pf0,pf1,pf2,plt⟩:=St.ad i A n c s (g:=w.heap.size) E (by simp);go_wp2_with fail;refine(CS.out _ (St.got E (by simp))).mono ?_;rintro e w1 ⟨rfl,hb1⟩;replace E:=Jh (St.step E.out hb1);clear hb1 p0 p1 p2 pf0 pf1 pf2 plt;obtain⟨p0,p1,p2,pf0,pf1,pf2,plt⟩:=St.ad i A n c s (g:=w.heap.size) E (by simp);go_wp2_with fail;refine(CT.out _ (St.got E (by simp))).mono ?_;rintro e w2 ⟨rfl,hb1⟩;replace E:=Jh (St.step E.out hb1);clear hb1 p0 p1 p2 pf0 pf1 pf2 plt;go_wp2_with fail;refine(CR.out _).mono ?_;rintro e w3 ⟨rfl,hb1⟩;replace E:=Jh (St.step E.out hb1);clear hb1;go_wp2_with fail;go_ret3
 exact⟨by rw[HS.out,HE.out.2];rfl,E.out.bel⟩
theorem split_large1(A:Option Addr)(n c s:Nat)(i:Int)(w:World)(h:Num w w.heap.size A n c i.natAbs)(hn:n≤1000)(hs:s≤6000)(hsg:i<0)(hw:s<nd i.natAbs)(h0:0<s) :
  Calls Tryz.prog 98 #[.agg #[.bool (ngB i),.slice A n c,.int .i64 (s:Int)]] w (RetSplit w i s):=by
 have H:=Jh h;have hnd:nd i.natAbs≤10000:=by have:=nd_le_len h.len;omega
 have hsx:=max_zero (P:=Tryz.prog) (s:=s);have hs0:(0:Int)≤(s:Int):=by omega
 have HS:Hid (sgT i=[45]):=by show _=_;unfold sgT;rw[if_pos hsg]
 obtain⟨σ,hσ⟩:∃σ,σ=i.sign:=⟨_,rfl⟩;have hσ0:σ<0:=by rw[hσ];rw[Int.sign_eq_neg_one_iff_neg.2 hsg];omega
 have CS:Hid (∀w',Num w' w'.heap.size A n c i.natAbs→Calls Tryz.prog 113 #[.agg #[.bool (ngB i),.slice A n c,.int .i64 (s:Int)]] w' (RetVal w' (.int .i64 σ))):=by rw[hσ];exact fun w' h'=>sign_any A n c s i w' h'
 have CT:Hid (∀w',Num w' w'.heap.size A n c i.natAbs→Calls Tryz.prog 114 #[.slice A n c] w' (RetVal w' (.string (str (txt i.natAbs))))):=fun w' h'=>text_any A n c i.natAbs _ w' h' (Nat.le_refl _) (by omega)
 have HSZ:=Jh (txt_size i.natAbs);obtain⟨T,hT⟩:∃T,T=str (txt i.natAbs):=⟨_,rfl⟩;rw[← hT] at CT HSZ;have HT:Hid (codes T=txt i.natAbs):=by show _=_;rw[hT,codes_str (txt_bytes _)]
 obtain⟨K,hK⟩:∃K,K=nd i.natAbs:=⟨_,rfl⟩;rw[← hK] at HSZ hnd;have h1:=beh_large hw h0;have h2:=take_txt s i.natAbs hw;rw[← hK] at hw h1 h2;obtain⟨m,hm⟩:∃m,m=K-s:=⟨_,rfl⟩;rw[← hm] at h1 h2;have em0:(s:Int)-(T.size:Int)<0:=by rw[HSZ.out];omega
 have em:(T.size:Int)-(s:Int)=(m:Int):=by rw[HSZ.out];omega
 have hmT:m≤T.size:=by rw[HSZ.out];omega
 have hTb:T.size≤10000:=by rw[HSZ.out];exact hnd
 have hX:codes (T.extract m T.size)=(txt i.natAbs).drop m:=by
  rw[extract_from T m _ rfl,HT.out,codes_str];intro x hx;exact txt_bytes _ x (List.mem_of_mem_drop hx)
 have HE:Hid (T.extract 0 m=str (txt (i.natAbs/10^s))):=by show _=_;rw[extract_to,HT.out,h2]
 have ha1:∀w',(Op.stringOp .add ⟨#[46]⟩ (T.extract m T.size)).run Tryz.prog w'=.ok (.string (str (beh s i.natAbs))) w':=fun w'=>str_add7 (by rw[hX,h1];rfl) (by rw[ByteArray.size_extract];show 1+_≤_;omega) w'
 have hs1:(0:Int)<(s:Int):=by omega
 clear hX h1 h2 hm h0;clear h hsg hσ hT hw;go_enter Tryz.func98,Tryz.ntmps98;go_wp2_with fail;generalize hW:World.alloc w _=W0;have E0:St w W0 [(A,n,c,i.natAbs)] [(w.heap.size,.bool (ngB i),.slice A n c,.int .i64 (s:Int))]:=by rw[← hW];exact(start_one H.out).lay rfl
 have E:=Jh E0;clear hW E0;obtain⟨p0,p1,p2,pf0,pf1,pf2,plt⟩:=St.ad i A n c s (g:=w.heap.size) E (by simp);go_wp2_with fail;refine(CS.out _ (St.got E (by simp))).mono ?_;rintro e w1 ⟨rfl,hb1⟩;replace E:=Jh (St.step E.out hb1);clear hb1 p0 p1 p2 pf0 pf1 pf2 plt;obtain⟨p0,p1,p2,pf0,pf1,pf2,plt⟩:=St.ad i A n c s (g:=w.heap.size) E (by simp);go_wp2_with fail;refine(CT.out _ (St.got E (by simp))).mono ?_;rintro e w2 ⟨rfl,hb1⟩;replace E:=Jh (St.step E.out hb1);clear hb1 p0 p1 p2 pf0 pf1 pf2 plt;go_wp2_with fail;go_quiet (fail)
 go_wp2_with fail;go_ret3
 exact⟨by rw[HS.out,← HE.out];rfl,E.out.bel.trans (Below.of_quiet.mono E.out.bel.size)⟩
theorem split_whole1(A:Option Addr)(n c s:Nat)(i:Int)(w:World)(h:Num w w.heap.size A n c i.natAbs)(hn:n≤1000)(hs:s≤6000)(hsg:i<0)(hw:s=0) :
  Calls Tryz.prog 98 #[.agg #[.bool (ngB i),.slice A n c,.int .i64 (s:Int)]] w (RetSplit w i s):=by
 have H:=Jh h;have hnd:nd i.natAbs≤10000:=by have:=nd_le_len h.len;omega
 have hsx:=max_zero (P:=Tryz.prog) (s:=s);have hs0:(0:Int)≤(s:Int):=by omega
 have HS:Hid (sgT i=[45]):=by show _=_;unfold sgT;rw[if_pos hsg]
 obtain⟨σ,hσ⟩:∃σ,σ=i.sign:=⟨_,rfl⟩;have hσ0:σ<0:=by rw[hσ];rw[Int.sign_eq_neg_one_iff_neg.2 hsg];omega
 have CS:Hid (∀w',Num w' w'.heap.size A n c i.natAbs→Calls Tryz.prog 113 #[.agg #[.bool (ngB i),.slice A n c,.int .i64 (s:Int)]] w' (RetVal w' (.int .i64 σ))):=by rw[hσ];exact fun w' h'=>sign_any A n c s i w' h'
 have CT:Hid (∀w',Num w' w'.heap.size A n c i.natAbs→Calls Tryz.prog 114 #[.slice A n c] w' (RetVal w' (.string (str (txt i.natAbs))))):=fun w' h'=>text_any A n c i.natAbs _ w' h' (Nat.le_refl _) (by omega)
 have HSZ:=Jh (txt_size i.natAbs);obtain⟨T,hT⟩:∃T,T=str (txt i.natAbs):=⟨_,rfl⟩;rw[← hT] at CT HSZ;have HT:Hid (codes T=txt i.natAbs):=by show _=_;rw[hT,codes_str (txt_bytes _)]
 obtain⟨K,hK⟩:∃K,K=nd i.natAbs:=⟨_,rfl⟩;rw[← hK] at HSZ hnd;have hp:=nd_pos i.natAbs;rw[← hK] at hp;obtain⟨m,hm⟩:∃m,m=T.size:=⟨_,rfl⟩;have em0:(s:Int)-(T.size:Int)<0:=by rw[HSZ.out];omega
 have em:(T.size:Int)-(s:Int)=(m:Int):=by omega
 have hmT:m≤T.size:=by omega
 have hs1:(s:Int)≤0:=by omega
 have hTb:T.size≤10000:=by rw[HSZ.out];exact hnd
 have HE:Hid (T.extract 0 m=str (txt (i.natAbs/10^s))∧beh s i.natAbs=[]):=by
  refine⟨?_,by rw[hw];rfl⟩;rw[hw,extract_to,HT.out,Nat.pow_zero,Nat.div_one,hm,HSZ.out,List.take_of_length_le (by rw[hK];exact Nat.le_refl _)]
 clear hp hm;clear h hsg hσ hT hw;go_enter Tryz.func98,Tryz.ntmps98;go_wp2_with fail;generalize hW:World.alloc w _=W0;have E0:St w W0 [(A,n,c,i.natAbs)] [(w.heap.size,.bool (ngB i),.slice A n c,.int .i64 (s:Int))]:=by rw[← hW];exact(start_one H.out).lay rfl
 have E:=Jh E0;clear hW E0;obtain⟨p0,p1,p2,pf0,pf1,pf2,plt⟩:=St.ad i A n c s (g:=w.heap.size) E (by simp);go_wp2_with fail;refine(CS.out _ (St.got E (by simp))).mono ?_;rintro e w1 ⟨rfl,hb1⟩;replace E:=Jh (St.step E.out hb1);clear hb1 p0 p1 p2 pf0 pf1 pf2 plt;obtain⟨p0,p1,p2,pf0,pf1,pf2,plt⟩:=St.ad i A n c s (g:=w.heap.size) E (by simp);go_wp2_with fail;refine(CT.out _ (St.got E (by simp))).mono ?_;rintro e w2 ⟨rfl,hb1⟩;replace E:=Jh (St.step E.out hb1);clear hb1 p0 p1 p2 pf0 pf1 pf2 plt;go_wp2_with fail;go_quiet (fail)
 go_wp2_with fail;go_ret3
 exact⟨by rw[HS.out,← HE.out.1,HE.out.2];rfl,E.out.bel.trans (Below.of_quiet.mono E.out.bel.size)⟩
theorem split_small0(A:Option Addr)(n c s:Nat)(i:Int)(w:World)(h:Num w w.heap.size A n c i.natAbs)(hn:n≤1000)(hs:s≤6000)(hsg:¬i<0)(hw:nd i.natAbs≤s) :
  Calls Tryz.prog 98 #[.agg #[.bool (ngB i),.slice A n c,.int .i64 (s:Int)]] w (RetSplit w i s):=by
 have H:=Jh h;have hnd:nd i.natAbs≤10000:=by have:=nd_le_len h.len;omega
 have hsx:=max_zero (P:=Tryz.prog) (s:=s);have hs0:(0:Int)≤(s:Int):=by omega
 have HS:Hid (sgT i=[]):=by show _=_;unfold sgT;rw[if_neg hsg]
 obtain⟨σ,hσ⟩:∃σ,σ=i.sign:=⟨_,rfl⟩;have hσ0:0≤σ:=by rw[hσ];exact sign_ge hsg
 have CS:Hid (∀w',Num w' w'.heap.size A n c i.natAbs→Calls Tryz.prog 113 #[.agg #[.bool (ngB i),.slice A n c,.int .i64 (s:Int)]] w' (RetVal w' (.int .i64 σ))):=by rw[hσ];exact fun w' h'=>sign_any A n c s i w' h'
 have CT:Hid (∀w',Num w' w'.heap.size A n c i.natAbs→Calls Tryz.prog 114 #[.slice A n c] w' (RetVal w' (.string (str (txt i.natAbs))))):=fun w' h'=>text_any A n c i.natAbs _ w' h' (Nat.le_refl _) (by omega)
 have HSZ:=Jh (txt_size i.natAbs);obtain⟨T,hT⟩:∃T,T=str (txt i.natAbs):=⟨_,rfl⟩;rw[← hT] at CT HSZ;have HT:Hid (codes T=txt i.natAbs):=by show _=_;rw[hT,codes_str (txt_bytes _)]
 obtain⟨K,hK⟩:∃K,K=nd i.natAbs:=⟨_,rfl⟩;rw[← hK] at HSZ hnd;obtain⟨h1,h2⟩:=beh_small hw;rw[← hK] at hw h1;obtain⟨k,hk⟩:∃k,k=s-K:=⟨_,rfl⟩;rw[← hk] at h1;have HE:Hid (beh s i.natAbs=46::(List.replicate k 48++txt i.natAbs)∧txt (i.natAbs/10^s)=[48]):=⟨h1,h2⟩;have ek:(s:Int)-(T.size:Int)=(k:Int):=by rw[HSZ.out];omega
 have hkb:k≤6000:=by omega
 have CR:=Jh (fun w'=>srepeat_any k w' (by omega));obtain⟨R,hR⟩:∃R,R=str (List.replicate k 48):=⟨_,rfl⟩;rw[← hR] at CR;have hRc:codes R=List.replicate k 48:=by rw[hR,codes_str];intro x hx;rw[(List.mem_replicate.1 hx).2];omega
 have hRs:R.size=k:=by rw[← codes_len,hRc,List.length_replicate]
 have ha1:∀w',(Op.stringOp .add ⟨#[46]⟩ R).run Tryz.prog w'=.ok (.string (str (46::List.replicate k 48))) w':=fun w'=>str_add7 (by rw[hRc];rfl) (by show 1+R.size≤_;omega) w'
 obtain⟨R1,hR1⟩:∃R1,R1=str (46::List.replicate k 48):=⟨_,rfl⟩;rw[← hR1] at ha1;have hR1c:codes R1=46::List.replicate k 48:=by
  rw[hR1,codes_str];intro x hx;rcases List.mem_cons.1 hx with rfl|hx
  ·omega
  ·rw[(List.mem_replicate.1 hx).2];omega
 have hR1s:R1.size=k+1:=by rw[← codes_len,hR1c,List.length_cons,List.length_replicate]
 have ha2:∀w',(Op.stringOp .add R1 T).run Tryz.prog w'=.ok (.string (str (beh s i.natAbs))) w':=fun w'=>str_add7 (by rw[hR1c,HT.out,HE.out.1];rfl) (by rw[hR1s,HSZ.out];omega) w'
 clear hR hRc hRs hR1 hR1c hR1s h1 h2 hk;clear h hsg hσ hT hw;go_enter Tryz.func98,Tryz.ntmps98;go_wp2_with fail;generalize hW:World.alloc w _=W0;have E0:St w W0 [(A,n,c,i.natAbs)] [(w.heap.size,.bool (ngB i),.slice A n c,.int .i64 (s:Int))]:=by rw[← hW];exact(start_one H.out).lay rfl
 have E:=Jh E0;clear hW E0;obtain⟨p0,p1,p2,pf0,pf1,pf2,plt⟩:=St.ad i A n c s (g:=w.heap.size) E (by simp);go_wp2_with fail;refine(CS.out _ (St.got E (by simp))).mono ?_;rintro e w1 ⟨rfl,hb1⟩;replace E:=Jh (St.step E.out hb1);clear hb1 p0 p1 p2 pf0 pf1 pf2 plt;obtain⟨p0,p1,p2,pf0,pf1,pf2,plt⟩:=St.ad i A n c s (g:=w.heap.size) E (by simp);go_wp2_with fail;refine(CT.out _ (St.got E (by simp))).mono ?_;rintro e w2 ⟨rfl,hb1⟩;replace E:=Jh (St.step E.out hb1);clear hb1 p0 p1 p2 pf0 pf1 pf2 plt;go_wp2_with fail;refine(CR.out _).mono ?_;rintro e w3 ⟨rfl,hb1⟩;replace E:=Jh (St.step E.out hb1);clear hb1;go_wp2_with fail;go_ret3
 exact⟨by rw[HS.out,HE.out.2];rfl,E.out.bel⟩
theorem split_large0(A:Option Addr)(n c s:Nat)(i:Int)(w:World)(h:Num w w.heap.size A n c i.natAbs)(hn:n≤1000)(hs:s≤6000)(hsg:¬i<0)(hw:s<nd i.natAbs)(h0:0<s) :
  Calls Tryz.prog 98 #[.agg #[.bool (ngB i),.slice A n c,.int .i64 (s:Int)]] w (RetSplit w i s):=by
 have H:=Jh h;have hnd:nd i.natAbs≤10000:=by have:=nd_le_len h.len;omega
 have hsx:=max_zero (P:=Tryz.prog) (s:=s);have hs0:(0:Int)≤(s:Int):=by omega
 have HS:Hid (sgT i=[]):=by show _=_;unfold sgT;rw[if_neg hsg]
 obtain⟨σ,hσ⟩:∃σ,σ=i.sign:=⟨_,rfl⟩;have hσ0:0≤σ:=by rw[hσ];exact sign_ge hsg
 have CS:Hid (∀w',Num w' w'.heap.size A n c i.natAbs→Calls Tryz.prog 113 #[.agg #[.bool (ngB i),.slice A n c,.int .i64 (s:Int)]] w' (RetVal w' (.int .i64 σ))):=by rw[hσ];exact fun w' h'=>sign_any A n c s i w' h'
 have CT:Hid (∀w',Num w' w'.heap.size A n c i.natAbs→Calls Tryz.prog 114 #[.slice A n c] w' (RetVal w' (.string (str (txt i.natAbs))))):=fun w' h'=>text_any A n c i.natAbs _ w' h' (Nat.le_refl _) (by omega)
 have HSZ:=Jh (txt_size i.natAbs);obtain⟨T,hT⟩:∃T,T=str (txt i.natAbs):=⟨_,rfl⟩;rw[← hT] at CT HSZ;have HT:Hid (codes T=txt i.natAbs):=by show _=_;rw[hT,codes_str (txt_bytes _)]
 obtain⟨K,hK⟩:∃K,K=nd i.natAbs:=⟨_,rfl⟩;rw[← hK] at HSZ hnd;have h1:=beh_large hw h0;have h2:=take_txt s i.natAbs hw;rw[← hK] at hw h1 h2;obtain⟨m,hm⟩:∃m,m=K-s:=⟨_,rfl⟩;rw[← hm] at h1 h2;have em0:(s:Int)-(T.size:Int)<0:=by rw[HSZ.out];omega
 have em:(T.size:Int)-(s:Int)=(m:Int):=by rw[HSZ.out];omega
 have hmT:m≤T.size:=by rw[HSZ.out];omega
 have hTb:T.size≤10000:=by rw[HSZ.out];exact hnd
 have hX:codes (T.extract m T.size)=(txt i.natAbs).drop m:=by
  rw[extract_from T m _ rfl,HT.out,codes_str];intro x hx;exact txt_bytes _ x (List.mem_of_mem_drop hx)
 have HE:Hid (T.extract 0 m=str (txt (i.natAbs/10^s))):=by show _=_;rw[extract_to,HT.out,h2]
 have ha1:∀w',(Op.stringOp .add ⟨#[46]⟩ (T.extract m T.size)).run Tryz.prog w'=.ok (.string (str (beh s i.natAbs))) w':=fun w'=>str_add7 (by rw[hX,h1];rfl) (by rw[ByteArray.size_extract];show 1+_≤_;omega) w'
 have hs1:(0:Int)<(s:Int):=by omega
 clear hX h1 h2 hm h0;clear h hsg hσ hT hw;go_enter Tryz.func98,Tryz.ntmps98;go_wp2_with fail;generalize hW:World.alloc w _=W0;have E0:St w W0 [(A,n,c,i.natAbs)] [(w.heap.size,.bool (ngB i),.slice A n c,.int .i64 (s:Int))]:=by rw[← hW];exact(start_one H.out).lay rfl
 have E:=Jh E0;clear hW E0;obtain⟨p0,p1,p2,pf0,pf1,pf2,plt⟩:=St.ad i A n c s (g:=w.heap.size) E (by simp);go_wp2_with fail;refine(CS.out _ (St.got E (by simp))).mono ?_;rintro e w1 ⟨rfl,hb1⟩;replace E:=Jh (St.step E.out hb1);clear hb1 p0 p1 p2 pf0 pf1 pf2 plt;obtain⟨p0,p1,p2,pf0,pf1,pf2,plt⟩:=St.ad i A n c s (g:=w.heap.size) E (by simp);go_wp2_with fail;refine(CT.out _ (St.got E (by simp))).mono ?_;rintro e w2 ⟨rfl,hb1⟩;replace E:=Jh (St.step E.out hb1);clear hb1 p0 p1 p2 pf0 pf1 pf2 plt;go_wp2_with fail;go_quiet (fail)
 go_wp2_with fail;go_ret3
 exact⟨by rw[HS.out,← HE.out];rfl,E.out.bel.trans (Below.of_quiet.mono E.out.bel.size)⟩
theorem split_whole0(A:Option Addr)(n c s:Nat)(i:Int)(w:World)(h:Num w w.heap.size A n c i.natAbs)(hn:n≤1000)(hs:s≤6000)(hsg:¬i<0)(hw:s=0) :
  Calls Tryz.prog 98 #[.agg #[.bool (ngB i),.slice A n c,.int .i64 (s:Int)]] w (RetSplit w i s):=by
 have H:=Jh h;have hnd:nd i.natAbs≤10000:=by have:=nd_le_len h.len;omega
 have hsx:=max_zero (P:=Tryz.prog) (s:=s);have hs0:(0:Int)≤(s:Int):=by omega
 have HS:Hid (sgT i=[]):=by show _=_;unfold sgT;rw[if_neg hsg]
 obtain⟨σ,hσ⟩:∃σ,σ=i.sign:=⟨_,rfl⟩;have hσ0:0≤σ:=by rw[hσ];exact sign_ge hsg
 have CS:Hid (∀w',Num w' w'.heap.size A n c i.natAbs→Calls Tryz.prog 113 #[.agg #[.bool (ngB i),.slice A n c,.int .i64 (s:Int)]] w' (RetVal w' (.int .i64 σ))):=by rw[hσ];exact fun w' h'=>sign_any A n c s i w' h'
 have CT:Hid (∀w',Num w' w'.heap.size A n c i.natAbs→Calls Tryz.prog 114 #[.slice A n c] w' (RetVal w' (.string (str (txt i.natAbs))))):=fun w' h'=>text_any A n c i.natAbs _ w' h' (Nat.le_refl _) (by omega)
 have HSZ:=Jh (txt_size i.natAbs);obtain⟨T,hT⟩:∃T,T=str (txt i.natAbs):=⟨_,rfl⟩;rw[← hT] at CT HSZ;have HT:Hid (codes T=txt i.natAbs):=by show _=_;rw[hT,codes_str (txt_bytes _)]
 obtain⟨K,hK⟩:∃K,K=nd i.natAbs:=⟨_,rfl⟩;rw[← hK] at HSZ hnd;have hp:=nd_pos i.natAbs;rw[← hK] at hp;obtain⟨m,hm⟩:∃m,m=T.size:=⟨_,rfl⟩;have em0:(s:Int)-(T.size:Int)<0:=by rw[HSZ.out];omega
 have em:(T.size:Int)-(s:Int)=(m:Int):=by omega
 have hmT:m≤T.size:=by omega
 have hs1:(s:Int)≤0:=by omega
 have hTb:T.size≤10000:=by rw[HSZ.out];exact hnd
 have HE:Hid (T.extract 0 m=str (txt (i.natAbs/10^s))∧beh s i.natAbs=[]):=by
  refine⟨?_,by rw[hw];rfl⟩;rw[hw,extract_to,HT.out,Nat.pow_zero,Nat.div_one,hm,HSZ.out,List.take_of_length_le (by rw[hK];exact Nat.le_refl _)]
 clear hp hm;clear h hsg hσ hT hw;go_enter Tryz.func98,Tryz.ntmps98;go_wp2_with fail;generalize hW:World.alloc w _=W0;have E0:St w W0 [(A,n,c,i.natAbs)] [(w.heap.size,.bool (ngB i),.slice A n c,.int .i64 (s:Int))]:=by rw[← hW];exact(start_one H.out).lay rfl
 have E:=Jh E0;clear hW E0;obtain⟨p0,p1,p2,pf0,pf1,pf2,plt⟩:=St.ad i A n c s (g:=w.heap.size) E (by simp);go_wp2_with fail;refine(CS.out _ (St.got E (by simp))).mono ?_;rintro e w1 ⟨rfl,hb1⟩;replace E:=Jh (St.step E.out hb1);clear hb1 p0 p1 p2 pf0 pf1 pf2 plt;obtain⟨p0,p1,p2,pf0,pf1,pf2,plt⟩:=St.ad i A n c s (g:=w.heap.size) E (by simp);go_wp2_with fail;refine(CT.out _ (St.got E (by simp))).mono ?_;rintro e w2 ⟨rfl,hb1⟩;replace E:=Jh (St.step E.out hb1);clear hb1 p0 p1 p2 pf0 pf1 pf2 plt;go_wp2_with fail;go_quiet (fail)
 go_wp2_with fail;go_ret3
 exact⟨by rw[HS.out,← HE.out.1,HE.out.2];rfl,E.out.bel.trans (Below.of_quiet.mono E.out.bel.size)⟩
theorem split_any{A:Option Addr}{n c s:Nat}{i:Int}{w:World}(h:Num w w.heap.size A n c i.natAbs)(hn:n≤1000)(hs:s≤6000) :
  Calls Tryz.prog 98 #[.agg #[.bool (ngB i),.slice A n c,.int .i64 (s:Int)]] w (RetSplit w i s):=by
 by_cases hsg:i<0
 ·rcases Nat.lt_or_ge s (nd i.natAbs) with h1|h1
  ·rcases Nat.eq_zero_or_pos s with h0|h0
   ·exact split_whole1 A n c s i w h hn hs hsg h0
   ·exact split_large1 A n c s i w h hn hs hsg h1 h0
  ·exact split_small1 A n c s i w h hn hs hsg h1
 ·rcases Nat.lt_or_ge s (nd i.natAbs) with h1|h1
  ·rcases Nat.eq_zero_or_pos s with h0|h0
   ·exact split_whole0 A n c s i w h hn hs hsg h0
   ·exact split_large0 A n c s i w h hn hs hsg h1 h0
  ·exact split_small0 A n c s i w h hn hs hsg h1
theorem codes_lt(s:ByteArray):∀c∈codes s,c<256:=by
 intro c hc;unfold codes at hc;obtain⟨b,-,rfl⟩:=List.mem_map.1 hc;exact b.toNat_lt
theorem nd_bound{a:Nat}{w:World}{B n c:Nat}{A:Option Addr}(h:Num w B A n c a)(hn:n≤1000)(s:Nat):(txt (a/10^s)).length≤10000∧(grp (txt (a/10^s))).length≤20000:=by
 have h1:=nd_le_len h.len;have h2:(txt (a/10^s)).length≤nd a:=by
  rcases Nat.eq_zero_or_pos (a/10^s) with h0|h0
  ·rw[h0,txt_zero];exact nd_pos a
  ·have:=nd_div s h0;show nd (a/10^s)≤nd a;omega
 have h3:=grp_len (txt (a/10^s));omega
theorem beh_len(s a:Nat):(beh s a).length≤s+1:=by
 unfold beh;split
 ·simp
 ·rw[List.length_cons,pad_len];exact Nat.le_refl _
theorem sgT_len(i:Int):(sgT i).length≤1:=by unfold sgT;split<;>simp
theorem dtext_any(A:Option Addr)(n c s:Nat)(i:Int)(w:World)(h:Num w w.heap.size A n c i.natAbs)(hn:n≤1000)(hs:s≤6000) :
  Calls Tryz.prog 78 #[.agg #[.bool (ngB i),.slice A n c,.int .i64 (s:Int)]] w (RetVal w (.string (str (txtD i s)))):=by
 have H:=Jh h;have CS:Hid (∀w',Num w' w'.heap.size A n c i.natAbs→Calls Tryz.prog 98 #[.agg #[.bool (ngB i),.slice A n c,.int .i64 (s:Int)]] w' (RetVal w' (.tuple #[.string (str (sgT i)),.string (str (txt (i.natAbs/10^s))),.string (str (beh s i.natAbs))]))):=fun w' h'=>split_any h' hn hs
 have hb:=(nd_bound h hn s).1;have hb2:=beh_len s i.natAbs;have hb3:=sgT_len i;have ha1:∀w',(Op.stringOp .add (str (sgT i)) (str (txt (i.natAbs/10^s)))).run Tryz.prog w'=.ok (.string (str (sgT i++txt (i.natAbs/10^s)))) w':=fun w'=>str_add _ _ (by omega) w'
 have ha2:∀w',(Op.stringOp .add (str (sgT i++txt (i.natAbs/10^s))) (str (beh s i.natAbs))).run Tryz.prog w'=.ok (.string (str (txtD i s))) w':=fun w'=>by
  rw[str_add _ _ (by rw[List.length_append];omega),List.append_assoc];rfl
 obtain⟨S1,hS1⟩:∃S1,S1=str (sgT i):=⟨_,rfl⟩;obtain⟨S2,hS2⟩:∃S2,S2=str (txt (i.natAbs/10^s)):=⟨_,rfl⟩;obtain⟨S3,hS3⟩:∃S3,S3=str (beh s i.natAbs):=⟨_,rfl⟩;obtain⟨S4,hS4⟩:∃S4,S4=str (sgT i++txt (i.natAbs/10^s)):=⟨_,rfl⟩;obtain⟨S5,hS5⟩:∃S5,S5=str (txtD i s):=⟨_,rfl⟩;rw[← hS1,← hS2] at ha1;rw[← hS1,← hS2,← hS3] at CS;rw[← hS4] at ha1;rw[← hS4,← hS3,← hS5] at ha2;rw[← hS5];clear hS1 hS2 hS3 hS4 hS5 hb hb2 hb3 h;go_enter Tryz.func78,Tryz.ntmps78;go_wp2_with fail;generalize hW:World.alloc w _=W0;have E0:St w W0 [(A,n,c,i.natAbs)] [(w.heap.size,.bool (ngB i),.slice A n c,.int .i64 (s:Int))]:=by rw[← hW];exact(start_one H.out).lay rfl
 have E:=Jh E0;clear hW E0;obtain⟨p0,p1,p2,pf0,pf1,pf2,plt⟩:=St.ad i A n c s (g:=w.heap.size) E (by simp);go_wp2_with fail;refine(CS.out _ (St.got E (by simp))).mono ?_;rintro e w1 ⟨rfl,hb1⟩;replace E:=Jh (St.step E.out hb1);clear hb1 p0 p1 p2 pf0 pf1 pf2 plt;go_wp2_with fail;go_ret;exact⟨rfl,E.out.bel⟩
theorem rst_sub(l:List Nat):∀c∈rst l,c∈l:=by
 intro c hc;unfold rst at hc;split at hc
 ·exact List.mem_of_mem_drop hc
 ·exact hc
theorem rst_len(l:List Nat):(rst l).length≤l.length:=by
 unfold rst;split
 ·rw[List.length_drop];omega
 ·exact Nat.le_refl _
theorem ahd_bhd_len(l:List Nat):(ahd l).length+(bhd l).length≤l.length:=by
 unfold ahd bhd;have h:(l.takeWhile (fun c=>c != 46)).length+(l.dropWhile (fun c=>c != 46)).length=l.length:=by
  rw[← List.length_append,List.takeWhile_append_dropWhile]
 rw[List.length_drop];omega
theorem ahd_sub(l:List Nat):∀c∈ahd l,c∈l:=fun _ hc=>(List.takeWhile_sublist _).subset hc
theorem bhd_sub(l:List Nat):∀c∈bhd l,c∈l:=fun _ hc=>(List.dropWhile_sublist _).subset (List.mem_of_mem_drop hc)
theorem nocom_sub(l:List Nat):∀c∈nocom l,c∈l:=fun _ hc=>(List.mem_filter.1 hc).1
theorem nocom_len(l:List Nat):(nocom l).length≤l.length:=List.length_filter_le _ _
theorem digsOf_len(l:List Nat):(digsOf l).length≤l.length:=by
 unfold digsOf;rw[List.length_append];have:=nocom_len (ahd l);have:=ahd_bhd_len l;omega
theorem nocom_ne{l:List Nat}(h:l≠[])(hu:ungB l=true):nocom l≠[]:=by
 cases l with
 | nil=>exact absurd rfl h
 | cons c l=>
  by_cases hc:c=44
  ·subst hc
   unfold ungB at hu;rw[if_pos (by simp)] at hu;simp at hu
  ·rw[nocom_cons_no hc];simp
theorem bhd_nil:∀{l:List Nat},dotB l=false→bhd l=[]
 | [],_=>rfl
 | c::l,h=>by
  have hc:c≠46:=fun e=>by subst e;simp[dotB] at h
  have hl:dotB l=false:=by
   cases hx:dotB l with
   | false=>rfl
   | true=>
    have:dotB (c::l)=true:=List.contains_iff_mem.2 (List.mem_cons_of_mem _ (List.contains_iff_mem.1 hx));rw[this] at h;cases h
  rw[bhd_cons_ne _ hc];exact bhd_nil hl
theorem str_pos{l:List Nat}(h:l≠[]):0<(str l).size:=by rw[str_size];exact List.length_pos_iff.2 h
theorem str_nil:str []=⟨#[]⟩:=rfl
def RetErr(W:World)(z:Int)(e:Ending)(w':World):Prop:=RetVal W (.tuple #[.agg #[.bool false,.slice none 0 0,.int .i64 0],.int .i64 z]) e w'
theorem read_short(s:ByteArray)(w:World)(hs:s.size≤6000)(hm:MaxLen w)(hr:rst (codes s)=[]) :
  Calls Tryz.prog 66 #[.string s] w (RetErr w 2):=by
 have hlt:∀c∈codes s,c<256:=codes_lt s;have hL:=codes_len s;have CG:∀w',Calls Tryz.prog 88 #[.string s] w' (RetVal w' (.tuple #[.bool (sgnB (codes s)),.string (str (rst (codes s)))])):=fun w'=>signed_any s w' (by omega)
 have h1:=rst_len (codes s);obtain⟨r,hrr⟩:∃r,r=rst (codes s):=⟨_,rfl⟩;have hrlt:∀c∈r,c<256:=by rw[hrr];exact fun c hc=>hlt c (rst_sub _ c hc)
 have hrl:r.length≤6000:=by rw[hrr];omega
 rw[← hrr] at CG hr;obtain⟨sg,hsg⟩:∃sg,sg=sgnB (codes s):=⟨_,rfl⟩;rw[← hsg] at CG;clear hsg;clear hrr h1 hL hlt;rw[hr,str_nil] at CG;clear hr hrlt hrl;have CGH:=Jh CG;clear CG;go_enter Tryz.func66,Tryz.ntmps66;go_wp2_with fail;generalize hW:World.alloc w _=W0;have E0:St w W0 [] [(w.heap.size,.bool false,.slice none 0 0,.int .i64 0)]:=by rw[← hW];exact(St.start w (l:=[]) (fun q hq=>absurd hq List.not_mem_nil)).lay rfl
 have E:=Jh E0;clear hW E0;refine(CGH.out _).mono ?_;rintro e w1 ⟨rfl,hb1⟩;replace E:=Jh (St.step E.out hb1);clear hb1;obtain⟨r0,r1,r2,rf0,rf1,rf2,rlt⟩:=St.az (g:=w.heap.size) E (by simp);go_wp2_with fail;have EF:=Jh (St.sz E.out (g:=w.heap.size) (by simp) (.bool false) (.slice none 0 0) (.int .i64 0));obtain⟨e0,e1,e2,_,_,_,_⟩:=St.az (g:=w.heap.size) EF (by simp);exact bodyPost_ret (v:=.tuple #[.agg #[.bool false,.slice none 0 0,.int .i64 0],.int .i64 2]) (by simp[results,Tryz.results66,go_sem,e0,e1,e2]) rfl ⟨rfl,EF.out.bel⟩
theorem read_noahd(s:ByteArray)(w:World)(hs:s.size≤6000)(hm:MaxLen w)(hr:rst (codes s)≠[])(ha:ahd (rst (codes s))=[]) :
  Calls Tryz.prog 66 #[.string s] w (RetErr w 3):=by
 have hlt:∀c∈codes s,c<256:=codes_lt s;have hL:=codes_len s;have CG:∀w',Calls Tryz.prog 88 #[.string s] w' (RetVal w' (.tuple #[.bool (sgnB (codes s)),.string (str (rst (codes s)))])):=fun w'=>signed_any s w' (by omega)
 have h1:=rst_len (codes s);obtain⟨r,hrr⟩:∃r,r=rst (codes s):=⟨_,rfl⟩;have hrlt:∀c∈r,c<256:=by rw[hrr];exact fun c hc=>hlt c (rst_sub _ c hc)
 have hrl:r.length≤6000:=by rw[hrr];omega
 rw[← hrr] at CG hr ha;obtain⟨sg,hsg⟩:∃sg,sg=sgnB (codes s):=⟨_,rfl⟩;rw[← hsg] at CG;clear hsg;clear hrr h1 hL hlt;have hSp:=str_pos hr;have hSc:codes (str r)=r:=codes_str hrlt;have hSs:(str r).size=r.length:=str_size r;have CC:∀w',Below w.heap.size w w'→Calls Tryz.prog 89 #[.string (str r),.string ⟨#[46]⟩] w' (RetVal w' (.tuple #[.string (str (ahd r)),.string (str (bhd r)),.bool (dotB r)])):=fun w' hb'=>by
  have e:=scut_any (str r) w' (by omega) (hm.on hb');rw[hSc] at e;exact e
 obtain⟨S,hS⟩:∃S,S=str r:=⟨_,rfl⟩;rw[← hS] at CG CC hSp;clear hS hSc hSs;obtain⟨he1,he2,he3,he4⟩:=str_ne hSp;rw[ha,str_nil] at CC;obtain⟨Q,hQ⟩:∃Q,Q=str (bhd r):=⟨_,rfl⟩;obtain⟨D,hD⟩:∃D,D=dotB r:=⟨_,rfl⟩;rw[← hQ,← hD] at CC;clear hQ hD ha hr hrlt hrl;have CCH:=Jh CC;clear CC;have CGH:=Jh CG;clear CG;go_enter Tryz.func66,Tryz.ntmps66;go_wp2_with fail;generalize hW:World.alloc w _=W0;have E0:St w W0 [] [(w.heap.size,.bool false,.slice none 0 0,.int .i64 0)]:=by rw[← hW];exact(St.start w (l:=[]) (fun q hq=>absurd hq List.not_mem_nil)).lay rfl
 have E:=Jh E0;clear hW E0;refine(CGH.out _).mono ?_;rintro e w1 ⟨rfl,hb1⟩;replace E:=Jh (St.step E.out hb1);clear hb1;go_wp2_with fail;refine(CCH.out _ E.out.bel).mono ?_;rintro e w2 ⟨rfl,hb1⟩;replace E:=Jh (St.step E.out hb1);clear hb1;obtain⟨r0,r1,r2,rf0,rf1,rf2,rlt⟩:=St.az (g:=w.heap.size) E (by simp);go_wp2_with fail;have EF:=Jh (St.sz E.out (g:=w.heap.size) (by simp) (.bool false) (.slice none 0 0) (.int .i64 0));obtain⟨e0,e1,e2,_,_,_,_⟩:=St.az (g:=w.heap.size) EF (by simp);exact bodyPost_ret (v:=.tuple #[.agg #[.bool false,.slice none 0 0,.int .i64 0],.int .i64 3]) (by simp[results,Tryz.results66,go_sem,e0,e1,e2]) rfl ⟨rfl,EF.out.bel⟩
theorem read_dotonly(s:ByteArray)(w:World)(hs:s.size≤6000)(hm:MaxLen w)(hr:rst (codes s)≠[])(ha:ahd (rst (codes s))≠[])(hd:dotB (rst (codes s))=true)(hb:bhd (rst (codes s))=[]) :
  Calls Tryz.prog 66 #[.string s] w (RetErr w 3):=by
 have hlt:∀c∈codes s,c<256:=codes_lt s;have hL:=codes_len s;have CG:∀w',Calls Tryz.prog 88 #[.string s] w' (RetVal w' (.tuple #[.bool (sgnB (codes s)),.string (str (rst (codes s)))])):=fun w'=>signed_any s w' (by omega)
 have h1:=rst_len (codes s);obtain⟨r,hrr⟩:∃r,r=rst (codes s):=⟨_,rfl⟩;have hrlt:∀c∈r,c<256:=by rw[hrr];exact fun c hc=>hlt c (rst_sub _ c hc)
 have hrl:r.length≤6000:=by rw[hrr];omega
 rw[← hrr] at CG hr ha;rw[← hrr] at hd hb;obtain⟨sg,hsg⟩:∃sg,sg=sgnB (codes s):=⟨_,rfl⟩;rw[← hsg] at CG;clear hsg;clear hrr h1 hL hlt;have hSp:=str_pos hr;have hSc:codes (str r)=r:=codes_str hrlt;have hSs:(str r).size=r.length:=str_size r;have CC:∀w',Below w.heap.size w w'→Calls Tryz.prog 89 #[.string (str r),.string ⟨#[46]⟩] w' (RetVal w' (.tuple #[.string (str (ahd r)),.string (str (bhd r)),.bool (dotB r)])):=fun w' hb'=>by
  have e:=scut_any (str r) w' (by omega) (hm.on hb');rw[hSc] at e;exact e
 obtain⟨S,hS⟩:∃S,S=str r:=⟨_,rfl⟩;rw[← hS] at CG CC hSp;clear hS hSc hSs;obtain⟨he1,he2,he3,he4⟩:=str_ne hSp;have hPp:=str_pos ha;have hPc:codes (str (ahd r))=ahd r:=codes_str (fun c hc=>hrlt c (ahd_sub _ c hc));have hPs:(str (ahd r)).size=(ahd r).length:=str_size _;have hab:=ahd_bhd_len r;rw[hd,hb,str_nil] at CC;obtain⟨P,hP⟩:∃P,P=str (ahd r):=⟨_,rfl⟩;rw[← hP] at CC hPp;clear hP hPc hPs hab hd hb ha hr hrlt hrl;obtain⟨hf1,hf2,hf3,hf4⟩:=str_ne hPp;have CCH:=Jh CC;clear CC;have CGH:=Jh CG;clear CG;go_enter Tryz.func66,Tryz.ntmps66;go_wp2_with fail;generalize hW:World.alloc w _=W0;have E0:St w W0 [] [(w.heap.size,.bool false,.slice none 0 0,.int .i64 0)]:=by rw[← hW];exact(St.start w (l:=[]) (fun q hq=>absurd hq List.not_mem_nil)).lay rfl
 have E:=Jh E0;clear hW E0;refine(CGH.out _).mono ?_;rintro e w1 ⟨rfl,hb1⟩;replace E:=Jh (St.step E.out hb1);clear hb1;go_wp2_with fail;refine(CCH.out _ E.out.bel).mono ?_;rintro e w2 ⟨rfl,hb1⟩;replace E:=Jh (St.step E.out hb1);clear hb1;obtain⟨r0,r1,r2,rf0,rf1,rf2,rlt⟩:=St.az (g:=w.heap.size) E (by simp);go_wp2_with fail;have EF:=Jh (St.sz E.out (g:=w.heap.size) (by simp) (.bool false) (.slice none 0 0) (.int .i64 0));obtain⟨e0,e1,e2,_,_,_,_⟩:=St.az (g:=w.heap.size) EF (by simp);exact bodyPost_ret (v:=.tuple #[.agg #[.bool false,.slice none 0 0,.int .i64 0],.int .i64 3]) (by simp[results,Tryz.results66,go_sem,e0,e1,e2]) rfl ⟨rfl,EF.out.bel⟩
theorem read_ungd(s:ByteArray)(w:World)(hs:s.size≤6000)(hm:MaxLen w)(hr:rst (codes s)≠[])(ha:ahd (rst (codes s))≠[])(hd:dotB (rst (codes s))=true)(hb:bhd (rst (codes s))≠[])(hu:ungB (ahd (rst (codes s)))=false) :
  Calls Tryz.prog 66 #[.string s] w (RetErr w 3):=by
 have hlt:∀c∈codes s,c<256:=codes_lt s;have hL:=codes_len s;have CG:∀w',Calls Tryz.prog 88 #[.string s] w' (RetVal w' (.tuple #[.bool (sgnB (codes s)),.string (str (rst (codes s)))])):=fun w'=>signed_any s w' (by omega)
 have h1:=rst_len (codes s);obtain⟨r,hrr⟩:∃r,r=rst (codes s):=⟨_,rfl⟩;have hrlt:∀c∈r,c<256:=by rw[hrr];exact fun c hc=>hlt c (rst_sub _ c hc)
 have hrl:r.length≤6000:=by rw[hrr];omega
 rw[← hrr] at CG hr ha;rw[← hrr] at hd hu hb;obtain⟨sg,hsg⟩:∃sg,sg=sgnB (codes s):=⟨_,rfl⟩;rw[← hsg] at CG;clear hsg;clear hrr h1 hL hlt;have hSp:=str_pos hr;have hSc:codes (str r)=r:=codes_str hrlt;have hSs:(str r).size=r.length:=str_size r;have CC:∀w',Below w.heap.size w w'→Calls Tryz.prog 89 #[.string (str r),.string ⟨#[46]⟩] w' (RetVal w' (.tuple #[.string (str (ahd r)),.string (str (bhd r)),.bool (dotB r)])):=fun w' hb'=>by
  have e:=scut_any (str r) w' (by omega) (hm.on hb');rw[hSc] at e;exact e
 obtain⟨S,hS⟩:∃S,S=str r:=⟨_,rfl⟩;rw[← hS] at CG CC hSp;clear hS hSc hSs;obtain⟨he1,he2,he3,he4⟩:=str_ne hSp;have hPp:=str_pos ha;have hPc:codes (str (ahd r))=ahd r:=codes_str (fun c hc=>hrlt c (ahd_sub _ c hc));have hPs:(str (ahd r)).size=(ahd r).length:=str_size _;have hab:=ahd_bhd_len r;have CU:∀w',Below w.heap.size w w'→Calls Tryz.prog 90 #[.string (str (ahd r))] w' (RetVal w' (.tuple #[.string ⟨#[]⟩,.bool false])):=fun w' hb'=>by
  have e:=ungrouped_any (str (ahd r)) w' hPp (by omega) (hm.on hb');rw[hPc,ungS_no hu,hu] at e;exact e
 rw[hd] at CC;have hQp:=str_pos hb;have HQS:=Jh (str_size (bhd r));have hQl:(bhd r).length≤6000:=by omega
 obtain⟨P,hP⟩:∃P,P=str (ahd r):=⟨_,rfl⟩;obtain⟨Q,hQ⟩:∃Q,Q=str (bhd r):=⟨_,rfl⟩;rw[← hP] at CC CU hPp;rw[← hQ] at CC HQS hQp;have HQ:=Jh hQ;have HBN:=Jh hb;clear hP hQ hPc hPs hab hd hu ha hr hrlt hrl hb;obtain⟨hf1,hf2,hf3,hf4⟩:=str_ne hPp;obtain⟨hq1,hq2,hq3,hq4⟩:=str_ne hQp;have CUH:=Jh CU;clear CU;have CCH:=Jh CC;clear CC;have CGH:=Jh CG;clear CG;go_enter Tryz.func66,Tryz.ntmps66;go_wp2_with fail;generalize hW:World.alloc w _=W0;have E0:St w W0 [] [(w.heap.size,.bool false,.slice none 0 0,.int .i64 0)]:=by rw[← hW];exact(St.start w (l:=[]) (fun q hq=>absurd hq List.not_mem_nil)).lay rfl
 have E:=Jh E0;clear hW E0;refine(CGH.out _).mono ?_;rintro e w1 ⟨rfl,hb1⟩;replace E:=Jh (St.step E.out hb1);clear hb1;go_wp2_with fail;refine(CCH.out _ E.out.bel).mono ?_;rintro e w2 ⟨rfl,hb1⟩;replace E:=Jh (St.step E.out hb1);clear hb1;go_wp2_with fail;refine(CUH.out _ E.out.bel).mono ?_;rintro e w3 ⟨rfl,hb1⟩;replace E:=Jh (St.step E.out hb1);clear hb1;obtain⟨r0,r1,r2,rf0,rf1,rf2,rlt⟩:=St.az (g:=w.heap.size) E (by simp);go_wp2_with fail;have EF:=Jh (St.sz E.out (g:=w.heap.size) (by simp) (.bool false) (.slice none 0 0) (.int .i64 0));obtain⟨e0,e1,e2,_,_,_,_⟩:=St.az (g:=w.heap.size) EF (by simp);exact bodyPost_ret (v:=.tuple #[.agg #[.bool false,.slice none 0 0,.int .i64 0],.int .i64 3]) (by simp[results,Tryz.results66,go_sem,e0,e1,e2]) rfl ⟨rfl,EF.out.bel⟩
theorem read_digd(s:ByteArray)(w:World)(hs:s.size≤6000)(hm:MaxLen w)(hr:rst (codes s)≠[])(ha:ahd (rst (codes s))≠[])(hd:dotB (rst (codes s))=true)(hb:bhd (rst (codes s))≠[])(hu:ungB (ahd (rst (codes s)))=true)(hg:¬digs (digsOf (rst (codes s)))) :
  Calls Tryz.prog 66 #[.string s] w (RetErr w 3):=by
 have hlt:∀c∈codes s,c<256:=codes_lt s;have hL:=codes_len s;have CG:∀w',Calls Tryz.prog 88 #[.string s] w' (RetVal w' (.tuple #[.bool (sgnB (codes s)),.string (str (rst (codes s)))])):=fun w'=>signed_any s w' (by omega)
 have h1:=rst_len (codes s);obtain⟨r,hrr⟩:∃r,r=rst (codes s):=⟨_,rfl⟩;have hrlt:∀c∈r,c<256:=by rw[hrr];exact fun c hc=>hlt c (rst_sub _ c hc)
 have hrl:r.length≤6000:=by rw[hrr];omega
 rw[← hrr] at CG hr ha;rw[← hrr] at hd hu hb hg;obtain⟨sg,hsg⟩:∃sg,sg=sgnB (codes s):=⟨_,rfl⟩;rw[← hsg] at CG;clear hsg;clear hrr h1 hL hlt;have hSp:=str_pos hr;have hSc:codes (str r)=r:=codes_str hrlt;have hSs:(str r).size=r.length:=str_size r;have CC:∀w',Below w.heap.size w w'→Calls Tryz.prog 89 #[.string (str r),.string ⟨#[46]⟩] w' (RetVal w' (.tuple #[.string (str (ahd r)),.string (str (bhd r)),.bool (dotB r)])):=fun w' hb'=>by
  have e:=scut_any (str r) w' (by omega) (hm.on hb');rw[hSc] at e;exact e
 obtain⟨S,hS⟩:∃S,S=str r:=⟨_,rfl⟩;rw[← hS] at CG CC hSp;clear hS hSc hSs;obtain⟨he1,he2,he3,he4⟩:=str_ne hSp;have hPp:=str_pos ha;have hPc:codes (str (ahd r))=ahd r:=codes_str (fun c hc=>hrlt c (ahd_sub _ c hc));have hPs:(str (ahd r)).size=(ahd r).length:=str_size _;have hab:=ahd_bhd_len r;have CU:∀w',Below w.heap.size w w'→Calls Tryz.prog 90 #[.string (str (ahd r))] w' (RetVal w' (.tuple #[.string (str (nocom (ahd r))),.bool true])):=fun w' hb'=>by
  have e:=ungrouped_any (str (ahd r)) w' hPp (by omega) (hm.on hb');rw[hPc,ungS_yes hu,hu] at e;exact e
 have hne:=nocom_ne ha hu;have hdl:=digsOf_len r;have hadd:∀w',(Op.stringOp .add (str (nocom (ahd r))) (str (bhd r))).run Tryz.prog w'=.ok (.string (str (digsOf r))) w':=fun w'=>str_add _ _ (by have:=nocom_len (ahd r);omega) w'
 have hVc:codes (str (digsOf r))=digsOf r:=codes_str (app_lt (fun c hc=>hrlt c (ahd_sub _ c (nocom_sub _ c hc))) (fun c hc=>hrlt c (bhd_sub _ c hc)));have hVs:(str (digsOf r)).size=(digsOf r).length:=str_size _;have hVp:0<(str (digsOf r)).size:=by
  rw[hVs];unfold digsOf;rw[List.length_append];have:=List.length_pos_iff.2 hne;omega
 have CP:∀w',Calls Tryz.prog 91 #[.string (str (digsOf r))] w' (RetParse w' (digsOf r)):=fun w'=>by
  have e:=parse_any (str (digsOf r)) w' hVp (by omega);rw[hVc] at e;exact e
 obtain⟨V,hV⟩:∃V,V=str (digsOf r):=⟨_,rfl⟩;obtain⟨U,hU⟩:∃U,U=str (nocom (ahd r)):=⟨_,rfl⟩;rw[← hV,← hU] at hadd;rw[← hV] at CP;rw[← hU] at CU;clear hV hU hVp hVs hVc hdl hne;have HG:=Jh hg;have CPH:=Jh CP;clear hg CP;rw[hd] at CC;have hQp:=str_pos hb;have HQS:=Jh (str_size (bhd r));have hQl:(bhd r).length≤6000:=by omega
 obtain⟨P,hP⟩:∃P,P=str (ahd r):=⟨_,rfl⟩;obtain⟨Q,hQ⟩:∃Q,Q=str (bhd r):=⟨_,rfl⟩;rw[← hP] at CC CU hPp;rw[← hQ] at CC HQS hQp hadd;have HQ:=Jh hQ;have HBN:=Jh hb;clear hP hQ hPc hPs hab hd hu ha hr hrlt hrl hb;obtain⟨hf1,hf2,hf3,hf4⟩:=str_ne hPp;obtain⟨hq1,hq2,hq3,hq4⟩:=str_ne hQp;have CUH:=Jh CU;clear CU;have CCH:=Jh CC;clear CC;have CGH:=Jh CG;clear CG;go_enter Tryz.func66,Tryz.ntmps66;go_wp2_with fail;generalize hW:World.alloc w _=W0;have E0:St w W0 [] [(w.heap.size,.bool false,.slice none 0 0,.int .i64 0)]:=by rw[← hW];exact(St.start w (l:=[]) (fun q hq=>absurd hq List.not_mem_nil)).lay rfl
 have E:=Jh E0;clear hW E0;refine(CGH.out _).mono ?_;rintro e w1 ⟨rfl,hb1⟩;replace E:=Jh (St.step E.out hb1);clear hb1;go_wp2_with fail;refine(CCH.out _ E.out.bel).mono ?_;rintro e w2 ⟨rfl,hb1⟩;replace E:=Jh (St.step E.out hb1);clear hb1;go_wp2_with fail;refine(CUH.out _ E.out.bel).mono ?_;rintro e w3 ⟨rfl,hb1⟩;replace E:=Jh (St.step E.out hb1);clear hb1;go_wp2_with fail;clear hadd;refine(CPH.out _).mono ?_;rintro e w4 (⟨hd,-⟩|⟨-,rfl,hb1⟩)
 ·exact absurd hd HG.out
 replace E:=Jh (St.step E.out hb1);clear hb1;obtain⟨r0,r1,r2,rf0,rf1,rf2,rlt⟩:=St.az (g:=w.heap.size) E (by simp);go_wp2_with fail;have EF:=Jh (St.sz E.out (g:=w.heap.size) (by simp) (.bool false) (.slice none 0 0) (.int .i64 0));obtain⟨e0,e1,e2,_,_,_,_⟩:=St.az (g:=w.heap.size) EF (by simp);exact bodyPost_ret (v:=.tuple #[.agg #[.bool false,.slice none 0 0,.int .i64 0],.int .i64 3]) (by simp[results,Tryz.results66,go_sem,e0,e1,e2]) rfl ⟨rfl,EF.out.bel⟩
theorem read_okmd(s:ByteArray)(w:World)(hs:s.size≤6000)(hm:MaxLen w)(hr:rst (codes s)≠[])(ha:ahd (rst (codes s))≠[])(hd:dotB (rst (codes s))=true)(hb:bhd (rst (codes s))≠[])(hu:ungB (ahd (rst (codes s)))=true)(hg:digs (digsOf (rst (codes s))))(hsg:sgnB (codes s)=true) :
  Calls Tryz.prog 66 #[.string s] w (RetDecE w (numD (codes s)) (bhd (rst (codes s))).length):=by
 have hlt:∀c∈codes s,c<256:=codes_lt s;have hL:=codes_len s;have CG:∀w',Calls Tryz.prog 88 #[.string s] w' (RetVal w' (.tuple #[.bool (sgnB (codes s)),.string (str (rst (codes s)))])):=fun w'=>signed_any s w' (by omega)
 have h1:=rst_len (codes s);obtain⟨r,hrr⟩:∃r,r=rst (codes s):=⟨_,rfl⟩;have hrlt:∀c∈r,c<256:=by rw[hrr];exact fun c hc=>hlt c (rst_sub _ c hc)
 have hrl:r.length≤6000:=by rw[hrr];omega
 have HNUM:Hid (numD (codes s)=sgn true (pv (digsOf r))):=by show _=_;unfold numD sgn;rw[hsg,← hrr]
 have HLEN:Hid ((bhd (rst (codes s))).length=(bhd r).length):=by rw[hrr];rfl
 rw[hsg] at CG;rw[← hrr] at CG hr ha;rw[← hrr] at hd hu hb hg;obtain⟨z,hz⟩:∃z,z=numD (codes s):=⟨_,rfl⟩;rw[← hz] at HNUM ⊢;rw[HLEN.out];clear hz HLEN hsg;clear hrr h1 hL hlt;have hSp:=str_pos hr;have hSc:codes (str r)=r:=codes_str hrlt;have hSs:(str r).size=r.length:=str_size r;have CC:∀w',Below w.heap.size w w'→Calls Tryz.prog 89 #[.string (str r),.string ⟨#[46]⟩] w' (RetVal w' (.tuple #[.string (str (ahd r)),.string (str (bhd r)),.bool (dotB r)])):=fun w' hb'=>by
  have e:=scut_any (str r) w' (by omega) (hm.on hb');rw[hSc] at e;exact e
 obtain⟨S,hS⟩:∃S,S=str r:=⟨_,rfl⟩;rw[← hS] at CG CC hSp;clear hS hSc hSs;obtain⟨he1,he2,he3,he4⟩:=str_ne hSp;have hPp:=str_pos ha;have hPc:codes (str (ahd r))=ahd r:=codes_str (fun c hc=>hrlt c (ahd_sub _ c hc));have hPs:(str (ahd r)).size=(ahd r).length:=str_size _;have hab:=ahd_bhd_len r;have CU:∀w',Below w.heap.size w w'→Calls Tryz.prog 90 #[.string (str (ahd r))] w' (RetVal w' (.tuple #[.string (str (nocom (ahd r))),.bool true])):=fun w' hb'=>by
  have e:=ungrouped_any (str (ahd r)) w' hPp (by omega) (hm.on hb');rw[hPc,ungS_yes hu,hu] at e;exact e
 have hne:=nocom_ne ha hu;have hdl:=digsOf_len r;have hadd:∀w',(Op.stringOp .add (str (nocom (ahd r))) (str (bhd r))).run Tryz.prog w'=.ok (.string (str (digsOf r))) w':=fun w'=>str_add _ _ (by have:=nocom_len (ahd r);omega) w'
 have hVc:codes (str (digsOf r))=digsOf r:=codes_str (app_lt (fun c hc=>hrlt c (ahd_sub _ c (nocom_sub _ c hc))) (fun c hc=>hrlt c (bhd_sub _ c hc)));have hVs:(str (digsOf r)).size=(digsOf r).length:=str_size _;have hVp:0<(str (digsOf r)).size:=by
  rw[hVs];unfold digsOf;rw[List.length_append];have:=List.length_pos_iff.2 hne;omega
 have CP:∀w',Calls Tryz.prog 91 #[.string (str (digsOf r))] w' (RetParse w' (digsOf r)):=fun w'=>by
  have e:=parse_any (str (digsOf r)) w' hVp (by omega);rw[hVc] at e;exact e
 obtain⟨V,hV⟩:∃V,V=str (digsOf r):=⟨_,rfl⟩;obtain⟨U,hU⟩:∃U,U=str (nocom (ahd r)):=⟨_,rfl⟩;rw[← hV,← hU] at hadd;rw[← hV] at CP;rw[← hU] at CU;clear hV hU hVp hVs hVc hdl hne;have HG:=Jh hg;have CPH:=Jh CP;clear hg CP;rw[hd] at CC;have hQp:=str_pos hb;have HQS:=Jh (str_size (bhd r));have hQl:(bhd r).length≤6000:=by omega
 obtain⟨P,hP⟩:∃P,P=str (ahd r):=⟨_,rfl⟩;obtain⟨Q,hQ⟩:∃Q,Q=str (bhd r):=⟨_,rfl⟩;rw[← hP] at CC CU hPp;rw[← hQ] at CC HQS hQp hadd;have HQ:=Jh hQ;have HBN:=Jh hb;clear hP hQ hPc hPs hab hd hu ha hr hrlt hrl hb;obtain⟨hf1,hf2,hf3,hf4⟩:=str_ne hPp;obtain⟨hq1,hq2,hq3,hq4⟩:=str_ne hQp;have CUH:=Jh CU;clear CU;have CCH:=Jh CC;clear CC;have CGH:=Jh CG;clear CG;go_enter Tryz.func66,Tryz.ntmps66;go_wp2_with fail;generalize hW:World.alloc w _=W0;have E0:St w W0 [] [(w.heap.size,.bool false,.slice none 0 0,.int .i64 0)]:=by rw[← hW];exact(St.start w (l:=[]) (fun q hq=>absurd hq List.not_mem_nil)).lay rfl
 have E:=Jh E0;clear hW E0;refine(CGH.out _).mono ?_;rintro e w1 ⟨rfl,hb1⟩;replace E:=Jh (St.step E.out hb1);clear hb1;go_wp2_with fail;refine(CCH.out _ E.out.bel).mono ?_;rintro e w2 ⟨rfl,hb1⟩;replace E:=Jh (St.step E.out hb1);clear hb1;go_wp2_with fail;refine(CUH.out _ E.out.bel).mono ?_;rintro e w3 ⟨rfl,hb1⟩;replace E:=Jh (St.step E.out hb1);clear hb1;go_wp2_with fail;clear hadd;refine(CPH.out _).mono ?_;rintro e w4 (⟨-,A4,n4,c4,rfl,h4,hb1⟩|⟨hd,-⟩);rotate_left
 ·exact absurd HG.out hd
 replace E:=Jh (St.push E.out hb1 h4);have HP:=Jh (num_pos h4);clear hb1 h4;obtain⟨r0,r1,r2,rf0,rf1,rf2,rlt⟩:=St.az (g:=w.heap.size) E (by simp);go_wp2_with fail;have EF:=Jh (St.sz E.out (g:=w.heap.size) (by simp) (.bool (decide (0<n4))) (.slice A4 n4 c4) (.int .i64 (Q.size:Int)));obtain⟨e0,e1,e2,_,_,_,_⟩:=St.at_ (x0:=.bool (decide (0<n4))) (x1:=.slice A4 n4 c4) (x2:=.int .i64 (Q.size:Int)) (g:=w.heap.size) EF (by simp);exact bodyPost_ret (v:=.tuple #[.agg #[.bool (decide (0<n4)),.slice A4 n4 c4,.int .i64 (Q.size:Int)],.int .i64 0]) (by simp[results,Tryz.results66,go_sem,e0,e1,e2]) rfl ⟨A4,n4,c4,by rw[HNUM.out,ng_sgn,HQS.out,HP.out];simp,by rw[HNUM.out,abs_sgn];exact St.got EF (by simp),EF.out.bel⟩
theorem read_okpd(s:ByteArray)(w:World)(hs:s.size≤6000)(hm:MaxLen w)(hr:rst (codes s)≠[])(ha:ahd (rst (codes s))≠[])(hd:dotB (rst (codes s))=true)(hb:bhd (rst (codes s))≠[])(hu:ungB (ahd (rst (codes s)))=true)(hg:digs (digsOf (rst (codes s))))(hsg:sgnB (codes s)=false) :
  Calls Tryz.prog 66 #[.string s] w (RetDecE w (numD (codes s)) (bhd (rst (codes s))).length):=by
 have hlt:∀c∈codes s,c<256:=codes_lt s;have hL:=codes_len s;have CG:∀w',Calls Tryz.prog 88 #[.string s] w' (RetVal w' (.tuple #[.bool (sgnB (codes s)),.string (str (rst (codes s)))])):=fun w'=>signed_any s w' (by omega)
 have h1:=rst_len (codes s);obtain⟨r,hrr⟩:∃r,r=rst (codes s):=⟨_,rfl⟩;have hrlt:∀c∈r,c<256:=by rw[hrr];exact fun c hc=>hlt c (rst_sub _ c hc)
 have hrl:r.length≤6000:=by rw[hrr];omega
 have HNUM:Hid (numD (codes s)=sgn false (pv (digsOf r))):=by show _=_;unfold numD sgn;rw[hsg,← hrr]
 have HLEN:Hid ((bhd (rst (codes s))).length=(bhd r).length):=by rw[hrr];rfl
 rw[hsg] at CG;rw[← hrr] at CG hr ha;rw[← hrr] at hd hu hb hg;obtain⟨z,hz⟩:∃z,z=numD (codes s):=⟨_,rfl⟩;rw[← hz] at HNUM ⊢;rw[HLEN.out];clear hz HLEN hsg;clear hrr h1 hL hlt;have hSp:=str_pos hr;have hSc:codes (str r)=r:=codes_str hrlt;have hSs:(str r).size=r.length:=str_size r;have CC:∀w',Below w.heap.size w w'→Calls Tryz.prog 89 #[.string (str r),.string ⟨#[46]⟩] w' (RetVal w' (.tuple #[.string (str (ahd r)),.string (str (bhd r)),.bool (dotB r)])):=fun w' hb'=>by
  have e:=scut_any (str r) w' (by omega) (hm.on hb');rw[hSc] at e;exact e
 obtain⟨S,hS⟩:∃S,S=str r:=⟨_,rfl⟩;rw[← hS] at CG CC hSp;clear hS hSc hSs;obtain⟨he1,he2,he3,he4⟩:=str_ne hSp;have hPp:=str_pos ha;have hPc:codes (str (ahd r))=ahd r:=codes_str (fun c hc=>hrlt c (ahd_sub _ c hc));have hPs:(str (ahd r)).size=(ahd r).length:=str_size _;have hab:=ahd_bhd_len r;have CU:∀w',Below w.heap.size w w'→Calls Tryz.prog 90 #[.string (str (ahd r))] w' (RetVal w' (.tuple #[.string (str (nocom (ahd r))),.bool true])):=fun w' hb'=>by
  have e:=ungrouped_any (str (ahd r)) w' hPp (by omega) (hm.on hb');rw[hPc,ungS_yes hu,hu] at e;exact e
 have hne:=nocom_ne ha hu;have hdl:=digsOf_len r;have hadd:∀w',(Op.stringOp .add (str (nocom (ahd r))) (str (bhd r))).run Tryz.prog w'=.ok (.string (str (digsOf r))) w':=fun w'=>str_add _ _ (by have:=nocom_len (ahd r);omega) w'
 have hVc:codes (str (digsOf r))=digsOf r:=codes_str (app_lt (fun c hc=>hrlt c (ahd_sub _ c (nocom_sub _ c hc))) (fun c hc=>hrlt c (bhd_sub _ c hc)));have hVs:(str (digsOf r)).size=(digsOf r).length:=str_size _;have hVp:0<(str (digsOf r)).size:=by
  rw[hVs];unfold digsOf;rw[List.length_append];have:=List.length_pos_iff.2 hne;omega
 have CP:∀w',Calls Tryz.prog 91 #[.string (str (digsOf r))] w' (RetParse w' (digsOf r)):=fun w'=>by
  have e:=parse_any (str (digsOf r)) w' hVp (by omega);rw[hVc] at e;exact e
 obtain⟨V,hV⟩:∃V,V=str (digsOf r):=⟨_,rfl⟩;obtain⟨U,hU⟩:∃U,U=str (nocom (ahd r)):=⟨_,rfl⟩;rw[← hV,← hU] at hadd;rw[← hV] at CP;rw[← hU] at CU;clear hV hU hVp hVs hVc hdl hne;have HG:=Jh hg;have CPH:=Jh CP;clear hg CP;rw[hd] at CC;have hQp:=str_pos hb;have HQS:=Jh (str_size (bhd r));have hQl:(bhd r).length≤6000:=by omega
 obtain⟨P,hP⟩:∃P,P=str (ahd r):=⟨_,rfl⟩;obtain⟨Q,hQ⟩:∃Q,Q=str (bhd r):=⟨_,rfl⟩;rw[← hP] at CC CU hPp;rw[← hQ] at CC HQS hQp hadd;have HQ:=Jh hQ;have HBN:=Jh hb;clear hP hQ hPc hPs hab hd hu ha hr hrlt hrl hb;obtain⟨hf1,hf2,hf3,hf4⟩:=str_ne hPp;obtain⟨hq1,hq2,hq3,hq4⟩:=str_ne hQp;have CUH:=Jh CU;clear CU;have CCH:=Jh CC;clear CC;have CGH:=Jh CG;clear CG;go_enter Tryz.func66,Tryz.ntmps66;go_wp2_with fail;generalize hW:World.alloc w _=W0;have E0:St w W0 [] [(w.heap.size,.bool false,.slice none 0 0,.int .i64 0)]:=by rw[← hW];exact(St.start w (l:=[]) (fun q hq=>absurd hq List.not_mem_nil)).lay rfl
 have E:=Jh E0;clear hW E0;refine(CGH.out _).mono ?_;rintro e w1 ⟨rfl,hb1⟩;replace E:=Jh (St.step E.out hb1);clear hb1;go_wp2_with fail;refine(CCH.out _ E.out.bel).mono ?_;rintro e w2 ⟨rfl,hb1⟩;replace E:=Jh (St.step E.out hb1);clear hb1;go_wp2_with fail;refine(CUH.out _ E.out.bel).mono ?_;rintro e w3 ⟨rfl,hb1⟩;replace E:=Jh (St.step E.out hb1);clear hb1;go_wp2_with fail;clear hadd;refine(CPH.out _).mono ?_;rintro e w4 (⟨-,A4,n4,c4,rfl,h4,hb1⟩|⟨hd,-⟩);rotate_left
 ·exact absurd HG.out hd
 replace E:=Jh (St.push E.out hb1 h4);have HP:=Jh (num_pos h4);clear hb1 h4;obtain⟨r0,r1,r2,rf0,rf1,rf2,rlt⟩:=St.az (g:=w.heap.size) E (by simp);go_wp2_with fail;have EF:=Jh (St.sz E.out (g:=w.heap.size) (by simp) (.bool false) (.slice A4 n4 c4) (.int .i64 (Q.size:Int)));obtain⟨e0,e1,e2,_,_,_,_⟩:=St.at_ (x0:=.bool false) (x1:=.slice A4 n4 c4) (x2:=.int .i64 (Q.size:Int)) (g:=w.heap.size) EF (by simp);exact bodyPost_ret (v:=.tuple #[.agg #[.bool false,.slice A4 n4 c4,.int .i64 (Q.size:Int)],.int .i64 0]) (by simp[results,Tryz.results66,go_sem,e0,e1,e2]) rfl ⟨A4,n4,c4,by rw[HNUM.out,ng_sgn,HQS.out];simp,by rw[HNUM.out,abs_sgn];exact St.got EF (by simp),EF.out.bel⟩
theorem read_ungw(s:ByteArray)(w:World)(hs:s.size≤6000)(hm:MaxLen w)(hr:rst (codes s)≠[])(ha:ahd (rst (codes s))≠[])(hd:dotB (rst (codes s))=false)(hu:ungB (ahd (rst (codes s)))=false) :
  Calls Tryz.prog 66 #[.string s] w (RetErr w 3):=by
 have hlt:∀c∈codes s,c<256:=codes_lt s;have hL:=codes_len s;have CG:∀w',Calls Tryz.prog 88 #[.string s] w' (RetVal w' (.tuple #[.bool (sgnB (codes s)),.string (str (rst (codes s)))])):=fun w'=>signed_any s w' (by omega)
 have h1:=rst_len (codes s);obtain⟨r,hrr⟩:∃r,r=rst (codes s):=⟨_,rfl⟩;have hrlt:∀c∈r,c<256:=by rw[hrr];exact fun c hc=>hlt c (rst_sub _ c hc)
 have hrl:r.length≤6000:=by rw[hrr];omega
 rw[← hrr] at CG hr ha;rw[← hrr] at hd hu;obtain⟨sg,hsg⟩:∃sg,sg=sgnB (codes s):=⟨_,rfl⟩;rw[← hsg] at CG;clear hsg;clear hrr h1 hL hlt;have hSp:=str_pos hr;have hSc:codes (str r)=r:=codes_str hrlt;have hSs:(str r).size=r.length:=str_size r;have CC:∀w',Below w.heap.size w w'→Calls Tryz.prog 89 #[.string (str r),.string ⟨#[46]⟩] w' (RetVal w' (.tuple #[.string (str (ahd r)),.string (str (bhd r)),.bool (dotB r)])):=fun w' hb'=>by
  have e:=scut_any (str r) w' (by omega) (hm.on hb');rw[hSc] at e;exact e
 obtain⟨S,hS⟩:∃S,S=str r:=⟨_,rfl⟩;rw[← hS] at CG CC hSp;clear hS hSc hSs;obtain⟨he1,he2,he3,he4⟩:=str_ne hSp;have hPp:=str_pos ha;have hPc:codes (str (ahd r))=ahd r:=codes_str (fun c hc=>hrlt c (ahd_sub _ c hc));have hPs:(str (ahd r)).size=(ahd r).length:=str_size _;have hab:=ahd_bhd_len r;have CU:∀w',Below w.heap.size w w'→Calls Tryz.prog 90 #[.string (str (ahd r))] w' (RetVal w' (.tuple #[.string ⟨#[]⟩,.bool false])):=fun w' hb'=>by
  have e:=ungrouped_any (str (ahd r)) w' hPp (by omega) (hm.on hb');rw[hPc,ungS_no hu,hu] at e;exact e
 rw[hd] at CC;have hb:=bhd_nil hd;have HQS:=Jh (str_size (bhd r));have hQl:(bhd r).length≤6000:=by omega
 obtain⟨P,hP⟩:∃P,P=str (ahd r):=⟨_,rfl⟩;obtain⟨Q,hQ⟩:∃Q,Q=str (bhd r):=⟨_,rfl⟩;rw[← hP] at CC CU hPp;rw[← hQ] at CC HQS;have HQ:=Jh hQ;have HBN:=Jh hb;clear hP hQ hPc hPs hab hd hu ha hr hrlt hrl hb;obtain⟨hf1,hf2,hf3,hf4⟩:=str_ne hPp;have CUH:=Jh CU;clear CU;have CCH:=Jh CC;clear CC;have CGH:=Jh CG;clear CG;go_enter Tryz.func66,Tryz.ntmps66;go_wp2_with fail;generalize hW:World.alloc w _=W0;have E0:St w W0 [] [(w.heap.size,.bool false,.slice none 0 0,.int .i64 0)]:=by rw[← hW];exact(St.start w (l:=[]) (fun q hq=>absurd hq List.not_mem_nil)).lay rfl
 have E:=Jh E0;clear hW E0;refine(CGH.out _).mono ?_;rintro e w1 ⟨rfl,hb1⟩;replace E:=Jh (St.step E.out hb1);clear hb1;go_wp2_with fail;refine(CCH.out _ E.out.bel).mono ?_;rintro e w2 ⟨rfl,hb1⟩;replace E:=Jh (St.step E.out hb1);clear hb1;go_wp2_with fail;refine(CUH.out _ E.out.bel).mono ?_;rintro e w3 ⟨rfl,hb1⟩;replace E:=Jh (St.step E.out hb1);clear hb1;obtain⟨r0,r1,r2,rf0,rf1,rf2,rlt⟩:=St.az (g:=w.heap.size) E (by simp);go_wp2_with fail;have EF:=Jh (St.sz E.out (g:=w.heap.size) (by simp) (.bool false) (.slice none 0 0) (.int .i64 0));obtain⟨e0,e1,e2,_,_,_,_⟩:=St.az (g:=w.heap.size) EF (by simp);exact bodyPost_ret (v:=.tuple #[.agg #[.bool false,.slice none 0 0,.int .i64 0],.int .i64 3]) (by simp[results,Tryz.results66,go_sem,e0,e1,e2]) rfl ⟨rfl,EF.out.bel⟩
theorem read_digw(s:ByteArray)(w:World)(hs:s.size≤6000)(hm:MaxLen w)(hr:rst (codes s)≠[])(ha:ahd (rst (codes s))≠[])(hd:dotB (rst (codes s))=false)(hu:ungB (ahd (rst (codes s)))=true)(hg:¬digs (digsOf (rst (codes s)))) :
  Calls Tryz.prog 66 #[.string s] w (RetErr w 3):=by
 have hlt:∀c∈codes s,c<256:=codes_lt s;have hL:=codes_len s;have CG:∀w',Calls Tryz.prog 88 #[.string s] w' (RetVal w' (.tuple #[.bool (sgnB (codes s)),.string (str (rst (codes s)))])):=fun w'=>signed_any s w' (by omega)
 have h1:=rst_len (codes s);obtain⟨r,hrr⟩:∃r,r=rst (codes s):=⟨_,rfl⟩;have hrlt:∀c∈r,c<256:=by rw[hrr];exact fun c hc=>hlt c (rst_sub _ c hc)
 have hrl:r.length≤6000:=by rw[hrr];omega
 rw[← hrr] at CG hr ha;rw[← hrr] at hd hu hg;obtain⟨sg,hsg⟩:∃sg,sg=sgnB (codes s):=⟨_,rfl⟩;rw[← hsg] at CG;clear hsg;clear hrr h1 hL hlt;have hSp:=str_pos hr;have hSc:codes (str r)=r:=codes_str hrlt;have hSs:(str r).size=r.length:=str_size r;have CC:∀w',Below w.heap.size w w'→Calls Tryz.prog 89 #[.string (str r),.string ⟨#[46]⟩] w' (RetVal w' (.tuple #[.string (str (ahd r)),.string (str (bhd r)),.bool (dotB r)])):=fun w' hb'=>by
  have e:=scut_any (str r) w' (by omega) (hm.on hb');rw[hSc] at e;exact e
 obtain⟨S,hS⟩:∃S,S=str r:=⟨_,rfl⟩;rw[← hS] at CG CC hSp;clear hS hSc hSs;obtain⟨he1,he2,he3,he4⟩:=str_ne hSp;have hPp:=str_pos ha;have hPc:codes (str (ahd r))=ahd r:=codes_str (fun c hc=>hrlt c (ahd_sub _ c hc));have hPs:(str (ahd r)).size=(ahd r).length:=str_size _;have hab:=ahd_bhd_len r;have CU:∀w',Below w.heap.size w w'→Calls Tryz.prog 90 #[.string (str (ahd r))] w' (RetVal w' (.tuple #[.string (str (nocom (ahd r))),.bool true])):=fun w' hb'=>by
  have e:=ungrouped_any (str (ahd r)) w' hPp (by omega) (hm.on hb');rw[hPc,ungS_yes hu,hu] at e;exact e
 have hne:=nocom_ne ha hu;have hdl:=digsOf_len r;have hadd:∀w',(Op.stringOp .add (str (nocom (ahd r))) (str (bhd r))).run Tryz.prog w'=.ok (.string (str (digsOf r))) w':=fun w'=>str_add _ _ (by have:=nocom_len (ahd r);omega) w'
 have hVc:codes (str (digsOf r))=digsOf r:=codes_str (app_lt (fun c hc=>hrlt c (ahd_sub _ c (nocom_sub _ c hc))) (fun c hc=>hrlt c (bhd_sub _ c hc)));have hVs:(str (digsOf r)).size=(digsOf r).length:=str_size _;have hVp:0<(str (digsOf r)).size:=by
  rw[hVs];unfold digsOf;rw[List.length_append];have:=List.length_pos_iff.2 hne;omega
 have CP:∀w',Calls Tryz.prog 91 #[.string (str (digsOf r))] w' (RetParse w' (digsOf r)):=fun w'=>by
  have e:=parse_any (str (digsOf r)) w' hVp (by omega);rw[hVc] at e;exact e
 obtain⟨V,hV⟩:∃V,V=str (digsOf r):=⟨_,rfl⟩;obtain⟨U,hU⟩:∃U,U=str (nocom (ahd r)):=⟨_,rfl⟩;rw[← hV,← hU] at hadd;rw[← hV] at CP;rw[← hU] at CU;clear hV hU hVp hVs hVc hdl hne;have HG:=Jh hg;have CPH:=Jh CP;clear hg CP;rw[hd] at CC;have hb:=bhd_nil hd;have HQS:=Jh (str_size (bhd r));have hQl:(bhd r).length≤6000:=by omega
 obtain⟨P,hP⟩:∃P,P=str (ahd r):=⟨_,rfl⟩;obtain⟨Q,hQ⟩:∃Q,Q=str (bhd r):=⟨_,rfl⟩;rw[← hP] at CC CU hPp;rw[← hQ] at CC HQS hadd;have HQ:=Jh hQ;have HBN:=Jh hb;clear hP hQ hPc hPs hab hd hu ha hr hrlt hrl hb;obtain⟨hf1,hf2,hf3,hf4⟩:=str_ne hPp;have CUH:=Jh CU;clear CU;have CCH:=Jh CC;clear CC;have CGH:=Jh CG;clear CG;go_enter Tryz.func66,Tryz.ntmps66;go_wp2_with fail;generalize hW:World.alloc w _=W0;have E0:St w W0 [] [(w.heap.size,.bool false,.slice none 0 0,.int .i64 0)]:=by rw[← hW];exact(St.start w (l:=[]) (fun q hq=>absurd hq List.not_mem_nil)).lay rfl
 have E:=Jh E0;clear hW E0;refine(CGH.out _).mono ?_;rintro e w1 ⟨rfl,hb1⟩;replace E:=Jh (St.step E.out hb1);clear hb1;go_wp2_with fail;refine(CCH.out _ E.out.bel).mono ?_;rintro e w2 ⟨rfl,hb1⟩;replace E:=Jh (St.step E.out hb1);clear hb1;go_wp2_with fail;refine(CUH.out _ E.out.bel).mono ?_;rintro e w3 ⟨rfl,hb1⟩;replace E:=Jh (St.step E.out hb1);clear hb1;go_wp2_with fail;clear hadd;refine(CPH.out _).mono ?_;rintro e w4 (⟨hd,-⟩|⟨-,rfl,hb1⟩)
 ·exact absurd hd HG.out
 replace E:=Jh (St.step E.out hb1);clear hb1;obtain⟨r0,r1,r2,rf0,rf1,rf2,rlt⟩:=St.az (g:=w.heap.size) E (by simp);go_wp2_with fail;have EF:=Jh (St.sz E.out (g:=w.heap.size) (by simp) (.bool false) (.slice none 0 0) (.int .i64 0));obtain⟨e0,e1,e2,_,_,_,_⟩:=St.az (g:=w.heap.size) EF (by simp);exact bodyPost_ret (v:=.tuple #[.agg #[.bool false,.slice none 0 0,.int .i64 0],.int .i64 3]) (by simp[results,Tryz.results66,go_sem,e0,e1,e2]) rfl ⟨rfl,EF.out.bel⟩
theorem read_okmw(s:ByteArray)(w:World)(hs:s.size≤6000)(hm:MaxLen w)(hr:rst (codes s)≠[])(ha:ahd (rst (codes s))≠[])(hd:dotB (rst (codes s))=false)(hu:ungB (ahd (rst (codes s)))=true)(hg:digs (digsOf (rst (codes s))))(hsg:sgnB (codes s)=true) :
  Calls Tryz.prog 66 #[.string s] w (RetDecE w (numD (codes s)) (bhd (rst (codes s))).length):=by
 have hlt:∀c∈codes s,c<256:=codes_lt s;have hL:=codes_len s;have CG:∀w',Calls Tryz.prog 88 #[.string s] w' (RetVal w' (.tuple #[.bool (sgnB (codes s)),.string (str (rst (codes s)))])):=fun w'=>signed_any s w' (by omega)
 have h1:=rst_len (codes s);obtain⟨r,hrr⟩:∃r,r=rst (codes s):=⟨_,rfl⟩;have hrlt:∀c∈r,c<256:=by rw[hrr];exact fun c hc=>hlt c (rst_sub _ c hc)
 have hrl:r.length≤6000:=by rw[hrr];omega
 have HNUM:Hid (numD (codes s)=sgn true (pv (digsOf r))):=by show _=_;unfold numD sgn;rw[hsg,← hrr]
 have HLEN:Hid ((bhd (rst (codes s))).length=(bhd r).length):=by rw[hrr];rfl
 rw[hsg] at CG;rw[← hrr] at CG hr ha;rw[← hrr] at hd hu hg;obtain⟨z,hz⟩:∃z,z=numD (codes s):=⟨_,rfl⟩;rw[← hz] at HNUM ⊢;rw[HLEN.out];clear hz HLEN hsg;clear hrr h1 hL hlt;have hSp:=str_pos hr;have hSc:codes (str r)=r:=codes_str hrlt;have hSs:(str r).size=r.length:=str_size r;have CC:∀w',Below w.heap.size w w'→Calls Tryz.prog 89 #[.string (str r),.string ⟨#[46]⟩] w' (RetVal w' (.tuple #[.string (str (ahd r)),.string (str (bhd r)),.bool (dotB r)])):=fun w' hb'=>by
  have e:=scut_any (str r) w' (by omega) (hm.on hb');rw[hSc] at e;exact e
 obtain⟨S,hS⟩:∃S,S=str r:=⟨_,rfl⟩;rw[← hS] at CG CC hSp;clear hS hSc hSs;obtain⟨he1,he2,he3,he4⟩:=str_ne hSp;have hPp:=str_pos ha;have hPc:codes (str (ahd r))=ahd r:=codes_str (fun c hc=>hrlt c (ahd_sub _ c hc));have hPs:(str (ahd r)).size=(ahd r).length:=str_size _;have hab:=ahd_bhd_len r;have CU:∀w',Below w.heap.size w w'→Calls Tryz.prog 90 #[.string (str (ahd r))] w' (RetVal w' (.tuple #[.string (str (nocom (ahd r))),.bool true])):=fun w' hb'=>by
  have e:=ungrouped_any (str (ahd r)) w' hPp (by omega) (hm.on hb');rw[hPc,ungS_yes hu,hu] at e;exact e
 have hne:=nocom_ne ha hu;have hdl:=digsOf_len r;have hadd:∀w',(Op.stringOp .add (str (nocom (ahd r))) (str (bhd r))).run Tryz.prog w'=.ok (.string (str (digsOf r))) w':=fun w'=>str_add _ _ (by have:=nocom_len (ahd r);omega) w'
 have hVc:codes (str (digsOf r))=digsOf r:=codes_str (app_lt (fun c hc=>hrlt c (ahd_sub _ c (nocom_sub _ c hc))) (fun c hc=>hrlt c (bhd_sub _ c hc)));have hVs:(str (digsOf r)).size=(digsOf r).length:=str_size _;have hVp:0<(str (digsOf r)).size:=by
  rw[hVs];unfold digsOf;rw[List.length_append];have:=List.length_pos_iff.2 hne;omega
 have CP:∀w',Calls Tryz.prog 91 #[.string (str (digsOf r))] w' (RetParse w' (digsOf r)):=fun w'=>by
  have e:=parse_any (str (digsOf r)) w' hVp (by omega);rw[hVc] at e;exact e
 obtain⟨V,hV⟩:∃V,V=str (digsOf r):=⟨_,rfl⟩;obtain⟨U,hU⟩:∃U,U=str (nocom (ahd r)):=⟨_,rfl⟩;rw[← hV,← hU] at hadd;rw[← hV] at CP;rw[← hU] at CU;clear hV hU hVp hVs hVc hdl hne;have HG:=Jh hg;have CPH:=Jh CP;clear hg CP;rw[hd] at CC;have hb:=bhd_nil hd;have HQS:=Jh (str_size (bhd r));have hQl:(bhd r).length≤6000:=by omega
 obtain⟨P,hP⟩:∃P,P=str (ahd r):=⟨_,rfl⟩;obtain⟨Q,hQ⟩:∃Q,Q=str (bhd r):=⟨_,rfl⟩;rw[← hP] at CC CU hPp;rw[← hQ] at CC HQS hadd;have HQ:=Jh hQ;have HBN:=Jh hb;clear hP hQ hPc hPs hab hd hu ha hr hrlt hrl hb;obtain⟨hf1,hf2,hf3,hf4⟩:=str_ne hPp;have CUH:=Jh CU;clear CU;have CCH:=Jh CC;clear CC;have CGH:=Jh CG;clear CG;go_enter Tryz.func66,Tryz.ntmps66;go_wp2_with fail;generalize hW:World.alloc w _=W0;have E0:St w W0 [] [(w.heap.size,.bool false,.slice none 0 0,.int .i64 0)]:=by rw[← hW];exact(St.start w (l:=[]) (fun q hq=>absurd hq List.not_mem_nil)).lay rfl
 have E:=Jh E0;clear hW E0;refine(CGH.out _).mono ?_;rintro e w1 ⟨rfl,hb1⟩;replace E:=Jh (St.step E.out hb1);clear hb1;go_wp2_with fail;refine(CCH.out _ E.out.bel).mono ?_;rintro e w2 ⟨rfl,hb1⟩;replace E:=Jh (St.step E.out hb1);clear hb1;go_wp2_with fail;refine(CUH.out _ E.out.bel).mono ?_;rintro e w3 ⟨rfl,hb1⟩;replace E:=Jh (St.step E.out hb1);clear hb1;go_wp2_with fail;clear hadd;refine(CPH.out _).mono ?_;rintro e w4 (⟨-,A4,n4,c4,rfl,h4,hb1⟩|⟨hd,-⟩);rotate_left
 ·exact absurd HG.out hd
 replace E:=Jh (St.push E.out hb1 h4);have HP:=Jh (num_pos h4);clear hb1 h4;obtain⟨r0,r1,r2,rf0,rf1,rf2,rlt⟩:=St.az (g:=w.heap.size) E (by simp);go_wp2_with fail;have EF:=Jh (St.sz E.out (g:=w.heap.size) (by simp) (.bool (decide (0<n4))) (.slice A4 n4 c4) (.int .i64 (Q.size:Int)));obtain⟨e0,e1,e2,_,_,_,_⟩:=St.at_ (x0:=.bool (decide (0<n4))) (x1:=.slice A4 n4 c4) (x2:=.int .i64 (Q.size:Int)) (g:=w.heap.size) EF (by simp);exact bodyPost_ret (v:=.tuple #[.agg #[.bool (decide (0<n4)),.slice A4 n4 c4,.int .i64 (Q.size:Int)],.int .i64 0]) (by simp[results,Tryz.results66,go_sem,e0,e1,e2]) rfl ⟨A4,n4,c4,by rw[HNUM.out,ng_sgn,HQS.out,HP.out];simp,by rw[HNUM.out,abs_sgn];exact St.got EF (by simp),EF.out.bel⟩
theorem read_okpw(s:ByteArray)(w:World)(hs:s.size≤6000)(hm:MaxLen w)(hr:rst (codes s)≠[])(ha:ahd (rst (codes s))≠[])(hd:dotB (rst (codes s))=false)(hu:ungB (ahd (rst (codes s)))=true)(hg:digs (digsOf (rst (codes s))))(hsg:sgnB (codes s)=false) :
  Calls Tryz.prog 66 #[.string s] w (RetDecE w (numD (codes s)) (bhd (rst (codes s))).length):=by
 have hlt:∀c∈codes s,c<256:=codes_lt s;have hL:=codes_len s;have CG:∀w',Calls Tryz.prog 88 #[.string s] w' (RetVal w' (.tuple #[.bool (sgnB (codes s)),.string (str (rst (codes s)))])):=fun w'=>signed_any s w' (by omega)
 have h1:=rst_len (codes s);obtain⟨r,hrr⟩:∃r,r=rst (codes s):=⟨_,rfl⟩;have hrlt:∀c∈r,c<256:=by rw[hrr];exact fun c hc=>hlt c (rst_sub _ c hc)
 have hrl:r.length≤6000:=by rw[hrr];omega
 have HNUM:Hid (numD (codes s)=sgn false (pv (digsOf r))):=by show _=_;unfold numD sgn;rw[hsg,← hrr]
 have HLEN:Hid ((bhd (rst (codes s))).length=(bhd r).length):=by rw[hrr];rfl
 rw[hsg] at CG;rw[← hrr] at CG hr ha;rw[← hrr] at hd hu hg;obtain⟨z,hz⟩:∃z,z=numD (codes s):=⟨_,rfl⟩;rw[← hz] at HNUM ⊢;rw[HLEN.out];clear hz HLEN hsg;clear hrr h1 hL hlt;have hSp:=str_pos hr;have hSc:codes (str r)=r:=codes_str hrlt;have hSs:(str r).size=r.length:=str_size r;have CC:∀w',Below w.heap.size w w'→Calls Tryz.prog 89 #[.string (str r),.string ⟨#[46]⟩] w' (RetVal w' (.tuple #[.string (str (ahd r)),.string (str (bhd r)),.bool (dotB r)])):=fun w' hb'=>by
  have e:=scut_any (str r) w' (by omega) (hm.on hb');rw[hSc] at e;exact e
 obtain⟨S,hS⟩:∃S,S=str r:=⟨_,rfl⟩;rw[← hS] at CG CC hSp;clear hS hSc hSs;obtain⟨he1,he2,he3,he4⟩:=str_ne hSp;have hPp:=str_pos ha;have hPc:codes (str (ahd r))=ahd r:=codes_str (fun c hc=>hrlt c (ahd_sub _ c hc));have hPs:(str (ahd r)).size=(ahd r).length:=str_size _;have hab:=ahd_bhd_len r;have CU:∀w',Below w.heap.size w w'→Calls Tryz.prog 90 #[.string (str (ahd r))] w' (RetVal w' (.tuple #[.string (str (nocom (ahd r))),.bool true])):=fun w' hb'=>by
  have e:=ungrouped_any (str (ahd r)) w' hPp (by omega) (hm.on hb');rw[hPc,ungS_yes hu,hu] at e;exact e
 have hne:=nocom_ne ha hu;have hdl:=digsOf_len r;have hadd:∀w',(Op.stringOp .add (str (nocom (ahd r))) (str (bhd r))).run Tryz.prog w'=.ok (.string (str (digsOf r))) w':=fun w'=>str_add _ _ (by have:=nocom_len (ahd r);omega) w'
 have hVc:codes (str (digsOf r))=digsOf r:=codes_str (app_lt (fun c hc=>hrlt c (ahd_sub _ c (nocom_sub _ c hc))) (fun c hc=>hrlt c (bhd_sub _ c hc)));have hVs:(str (digsOf r)).size=(digsOf r).length:=str_size _;have hVp:0<(str (digsOf r)).size:=by
  rw[hVs];unfold digsOf;rw[List.length_append];have:=List.length_pos_iff.2 hne;omega
 have CP:∀w',Calls Tryz.prog 91 #[.string (str (digsOf r))] w' (RetParse w' (digsOf r)):=fun w'=>by
  have e:=parse_any (str (digsOf r)) w' hVp (by omega);rw[hVc] at e;exact e
 obtain⟨V,hV⟩:∃V,V=str (digsOf r):=⟨_,rfl⟩;obtain⟨U,hU⟩:∃U,U=str (nocom (ahd r)):=⟨_,rfl⟩;rw[← hV,← hU] at hadd;rw[← hV] at CP;rw[← hU] at CU;clear hV hU hVp hVs hVc hdl hne;have HG:=Jh hg;have CPH:=Jh CP;clear hg CP;rw[hd] at CC;have hb:=bhd_nil hd;have HQS:=Jh (str_size (bhd r));have hQl:(bhd r).length≤6000:=by omega
 obtain⟨P,hP⟩:∃P,P=str (ahd r):=⟨_,rfl⟩;obtain⟨Q,hQ⟩:∃Q,Q=str (bhd r):=⟨_,rfl⟩;rw[← hP] at CC CU hPp;rw[← hQ] at CC HQS hadd;have HQ:=Jh hQ;have HBN:=Jh hb;clear hP hQ hPc hPs hab hd hu ha hr hrlt hrl hb;obtain⟨hf1,hf2,hf3,hf4⟩:=str_ne hPp;have CUH:=Jh CU;clear CU;have CCH:=Jh CC;clear CC;have CGH:=Jh CG;clear CG;go_enter Tryz.func66,Tryz.ntmps66;go_wp2_with fail;generalize hW:World.alloc w _=W0;have E0:St w W0 [] [(w.heap.size,.bool false,.slice none 0 0,.int .i64 0)]:=by rw[← hW];exact(St.start w (l:=[]) (fun q hq=>absurd hq List.not_mem_nil)).lay rfl
 have E:=Jh E0;clear hW E0;refine(CGH.out _).mono ?_;rintro e w1 ⟨rfl,hb1⟩;replace E:=Jh (St.step E.out hb1);clear hb1;go_wp2_with fail;refine(CCH.out _ E.out.bel).mono ?_;rintro e w2 ⟨rfl,hb1⟩;replace E:=Jh (St.step E.out hb1);clear hb1;go_wp2_with fail;refine(CUH.out _ E.out.bel).mono ?_;rintro e w3 ⟨rfl,hb1⟩;replace E:=Jh (St.step E.out hb1);clear hb1;go_wp2_with fail;clear hadd;refine(CPH.out _).mono ?_;rintro e w4 (⟨-,A4,n4,c4,rfl,h4,hb1⟩|⟨hd,-⟩);rotate_left
 ·exact absurd HG.out hd
 replace E:=Jh (St.push E.out hb1 h4);have HP:=Jh (num_pos h4);clear hb1 h4;obtain⟨r0,r1,r2,rf0,rf1,rf2,rlt⟩:=St.az (g:=w.heap.size) E (by simp);go_wp2_with fail;have EF:=Jh (St.sz E.out (g:=w.heap.size) (by simp) (.bool false) (.slice A4 n4 c4) (.int .i64 (Q.size:Int)));obtain⟨e0,e1,e2,_,_,_,_⟩:=St.at_ (x0:=.bool false) (x1:=.slice A4 n4 c4) (x2:=.int .i64 (Q.size:Int)) (g:=w.heap.size) EF (by simp);exact bodyPost_ret (v:=.tuple #[.agg #[.bool false,.slice A4 n4 c4,.int .i64 (Q.size:Int)],.int .i64 0]) (by simp[results,Tryz.results66,go_sem,e0,e1,e2]) rfl ⟨A4,n4,c4,by rw[HNUM.out,ng_sgn,HQS.out];simp,by rw[HNUM.out,abs_sgn];exact St.got EF (by simp),EF.out.bel⟩
def RetRead(W:World)(l:List Nat)(e:Ending)(w':World):Prop:=
 (rst l=[]∧RetErr W 2 e w')∨(rst l≠[]∧frmB (rst l)=false∧RetErr W 3 e w')∨(rst l≠[]∧frmB (rst l)=true∧RetDecE W (numD l) (bhd (rst l)).length e w')
theorem frm_parts(l:List Nat):frmB l=((ahd l != []) && !(dotB l&&bhd l == [])&&ungB (ahd l)&&dgB (digsOf l)):=rfl
theorem read_any(s:ByteArray)(w:World)(hs:s.size≤6000)(hm:MaxLen w):Calls Tryz.prog 66 #[.string s] w (RetRead w (codes s)):=by
 by_cases hr:rst (codes s)=[]
 ·exact(read_short s w hs hm hr).mono fun e w' h=>.inl ⟨hr,h⟩
 have hf:=frm_parts (rst (codes s));by_cases ha:ahd (rst (codes s))=[]
 ·exact(read_noahd s w hs hm hr ha).mono fun e w' h=>.inr (.inl ⟨hr,by rw[hf,ha];rfl,h⟩)
 have ha':(ahd (rst (codes s)) != [])=true:=by simpa using ha
 cases hd:dotB (rst (codes s)) with
 | true=>
  by_cases hb:bhd (rst (codes s))=[]
  ·exact(read_dotonly s w hs hm hr ha hd hb).mono fun e w' h=>.inr (.inl ⟨hr,by rw[hf,hd,hb,ha'];rfl,h⟩)
  have hb':(bhd (rst (codes s)) == [])=false:=by simpa using hb
  cases hu:ungB (ahd (rst (codes s))) with
  | false=>exact(read_ungd s w hs hm hr ha hd hb hu).mono fun e w' h=>.inr (.inl ⟨hr,by rw[hf,hd,hb',ha',hu];rfl,h⟩)
  | true=>
   by_cases hg:digs (digsOf (rst (codes s)))
   ·have hfr:frmB (rst (codes s))=true:=by rw[hf,hd,hb',ha',hu,dgB_iff.2 hg];rfl
    cases hsg:sgnB (codes s) with
    | true=>exact(read_okmd s w hs hm hr ha hd hb hu hg hsg).mono fun e w' h=>.inr (.inr ⟨hr,hfr,h⟩)
    | false=>exact(read_okpd s w hs hm hr ha hd hb hu hg hsg).mono fun e w' h=>.inr (.inr ⟨hr,hfr,h⟩)
   ·have hg':dgB (digsOf (rst (codes s)))=false:=by
     cases hx:dgB (digsOf (rst (codes s))) with
     | false=>rfl
     | true=>exact absurd (dgB_iff.1 hx) hg
    exact(read_digd s w hs hm hr ha hd hb hu hg).mono fun e w' h=>.inr (.inl ⟨hr,by rw[hf,hg',Bool.and_false],h⟩)
 | false=>
  cases hu:ungB (ahd (rst (codes s))) with
  | false=>exact(read_ungw s w hs hm hr ha hd hu).mono fun e w' h=>.inr (.inl ⟨hr,by rw[hf,hd,ha',hu];rfl,h⟩)
  | true=>
   by_cases hg:digs (digsOf (rst (codes s)))
   ·have hfr:frmB (rst (codes s))=true:=by rw[hf,hd,ha',hu,dgB_iff.2 hg];rfl
    cases hsg:sgnB (codes s) with
    | true=>exact(read_okmw s w hs hm hr ha hd hu hg hsg).mono fun e w' h=>.inr (.inr ⟨hr,hfr,h⟩)
    | false=>exact(read_okpw s w hs hm hr ha hd hu hg hsg).mono fun e w' h=>.inr (.inr ⟨hr,hfr,h⟩)
   ·have hg':dgB (digsOf (rst (codes s)))=false:=by
     cases hx:dgB (digsOf (rst (codes s))) with
     | false=>rfl
     | true=>exact absurd (dgB_iff.1 hx) hg
    exact(read_digw s w hs hm hr ha hd hu hg).mono fun e w' h=>.inr (.inl ⟨hr,by rw[hf,hg',Bool.and_false],h⟩)
end Go.Proofs.YtpbbolgnnegmlaaGreatDoor.Num
