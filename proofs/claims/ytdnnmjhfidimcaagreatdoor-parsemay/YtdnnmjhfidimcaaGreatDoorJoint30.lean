/- The tokens of a text, as the parser has them. All tokens of a text, as the program reads them. -/
import Derived.Test.YtdnnmjhfidimcaaGreatDoorJoint19
import Derived.Test.YtdnnmjhfidimcaaGreatDoorPsMem
import Derived.Test.YtdnnmjhfidimcaaGreatDoorJoint23
import Derived.Test.YtdnnmjhfidimcaaGreatDoorJoint29
import Derived.Test.YtdnnmjhfidimcaaGreatDoorJoint4
namespace Go.Proofs.YtdnnmjhfidimcaaGreatDoor
set_option maxHeartbeats 1600000
set_option maxRecDepth 100000
open Go.RowKit
theorem IF (s:ByteArray):∀ (f k:Nat) (acc out:List Tok) (p:Nat),jI s f k acc=(out,p,0)→(∀ t∈acc,t.kind≠6)→acc.length≤600→
  out=[]∨∃ fr e,out=fr++[e]∧e.kind=6∧(∀ t∈fr,t.kind≠6)∧fr.length≤600
 | 0,k,acc,out,p,h,_,_=>by
  rw [jI] at h;injection h with h1 _;exact .inl h1.symm
 | f+1,k,acc,out,p,h,ha,hl=>by
  rw [jI] at h;split at h
  ·injection h with h1 _;exact .inr ⟨acc,_,h1.symm,rfl,ha,hl⟩
  ·split at h
   ·injection h with h1 _;exact .inl h1.symm
   ·split at h
    ·injection h with h1 _;exact .inl h1.symm
    ·rename_i h2 h3;have h4:=BO (l:=s.data.toList.drop k) (k:=k) (by simpa using h2);refine IF s f _ _ out p h (fun t ht=>?_) (by simp;omega);rcases List.mem_append.1 ht with h5 | h5
     ·exact ha t h5
     ·rw [List.mem_singleton.1 h5];exact h4.2.1
theorem wQ {s:ByteArray} (h:(tokOut s).2.2=0):TokOk (tokOut s).1:=by
 have he:tokOut s=((tokOut s).1,(tokOut s).2.1,0):=by rw [← h]
 obtain⟨⟨t,ht,_⟩,_⟩:=Oy he;have hg:(tokOut s).1=[]∨∃ fr e,(tokOut s).1=fr++[e]∧e.kind=6∧(∀ t∈fr,t.kind≠6)∧fr.length≤600:=by
  generalize hL:(tokOut s).1=L at *
  generalize hp:(tokOut s).2.1=p at *
  unfold tokOut at he;split at he
  ·injection he with h1 _;exact .inl h1.symm
  ·exact IF s _ _ _ _ _ he (by simp) (by simp)
 rcases hg with h0 | ⟨fr,e,h1,h2,h3,h4⟩
 ·rw [h0] at ht;cases ht
 ·exact⟨wN s,by rw [h1];simp;omega,fr,e,h1,h2,h3⟩
theorem Ap {L:List Tok} (h:TokOk L):L≠[]:=by
 obtain⟨f,e,rfl,_⟩:=h.last;simp
theorem vM:∀ (L:List Tok) (i:Nat) (h:i<L.length),(fV L)[i*4]? = some (.int .i64 L[i].kind)∧(fV L)[i*4+1]? = some (.string L[i].text)∧(fV L)[i*4+2]? = some (.int .i64 L[i].num)∧(fV L)[i*4+3]? = some (.int .i64 L[i].pl)
 | t::L,0,_=>by simp [fV,Tok.cells]
 | t::L,i+1,h=>by
  have ih:=vM L i (by simpa using h);have e:∀ j,(fV (t::L))[(i+1)*4+j]? = (fV L)[i*4+j]?:=by
   intro j;rw [show fV (t::L)=t.cells++fV L from rfl,List.getElem?_append_right (by simp [Tok.cells];omega)];simp only [Tok.cells,List.length_cons,List.length_nil];congr 1;omega
  have e0:=e 0;rw [Nat.add_zero,Nat.add_zero] at e0;rw [e0,e 1,e 2,e 3];simpa using ih
theorem BU {T:TypeId} {B:Nat} {v:Value} {L:List Tok} {w:World} (h:NU T B v L w) (hne:L≠[]):∃ R cap,v=.slice (some ⟨R,0,none⟩) L.length cap∧L.length≤cap∧B≤R∧R<w.heap.size∧zI R L w:=by
 rcases h.2 with ⟨_,h2⟩ | ⟨g,cap,cur,h1,h2,h3,h4,h5,h6,h7⟩
 ·exact absurd (List.length_eq_zero_iff.1 h2) hne
 ·have hb:dP g T cur w:=h3;refine⟨g,cap,h1,h4,h2,aF hb,fun i hi=>?_⟩;have hc:∀ j,j<4→w.cell? ⟨g,i*4+j,none⟩=(fV L)[i*4+j]?:=by
   intro j hj;rw [aB hb,← h7,List.getElem?_take,if_pos (by omega),Array.getElem?_toList]
  have e0:=hc 0 (by omega);have e1:=hc 1 (by omega);have e2:=hc 2 (by omega);have e3:=hc 3 (by omega);rw [Nat.add_zero] at e0;obtain⟨f0,f1,f2,f3⟩:=vM L i hi;exact⟨e0.trans f0,e1.trans f1,e2.trans f2,e3.trans f3⟩
def tF (v:Value) (o:List Tok×Nat×Int):Ending:=.returned (.tuple #[v,.int .i64 o.2.1,.int .i64 o.2.2])
theorem vN (s:ByteArray) (hs:s.size≤1000000) (w:World) (h0:0<w.heap.size) (SG:Hid (iZ 0 sgnL w)) :
  Calls Tryz.prog 35 #[.string s] w fun e w'=>∃ v,e=tF v (tokOut s)∧NU 67 w.heap.size v (tokOut s).1 w'∧Below w.heap.size w w':=by
 by_cases hlong:2000<s.size
 ·have H:=aA (show tokOut s=([],0,3) by unfold tokOut;rw [if_pos hlong]);clear SG;go_enter Tryz.func35,Tryz.ntmps35;go_wp2;go_ret3
  exact⟨.slice none 0 0,by rw [H.out];rfl,by rw [H.out];exact yM _ _ _,Below.refl _ _⟩
 have hgo:tokOut s=jI s (s.size+1) (skipTo false s 0) []:=by unfold tokOut;rw [if_neg hlong]
 generalize tokOut s=out at *
 have hk0:=sZ (f:=false) (s:=s) (k:=0) (Nat.zero_le _);generalize hk:skipTo false s 0=k0 at *
 have Hk:=aA hk;have HG:=aA hgo;clear hk hgo;go_enter Tryz.func35,Tryz.ntmps35;go_wp2_with fail;refine (Al s hs 0 (Nat.zero_le _) _).mono ?_;rintro e w1 ⟨rfl,rfl⟩;rw [Hk.out];clear Hk;go_wp2;go_loopw [5,6] (fun l i wr=>∃ (j f:Nat) (acc:List Tok),j≤s.size∧i=.int .i64 j∧acc.length≤600∧s.size<j+f∧out=jI s f j acc∧NU 67 w.heap.size l acc wr∧Below w.heap.size w wr) (fun _ i _=>s.size - (intOf i).toNat)
 case atStart=>exact⟨k0,s.size+1,[],hk0,rfl,by decide,by omega,HG.out,yM _ _ _,Below.refl _ _⟩
 case round=>
  clear HG;obtain⟨j,f,acc,hj,rfl,hacc,hf,hout,hrow,hbel⟩:=hrel;obtain⟨f,rfl⟩:∃ f',f=f'+1:=⟨f - 1,by omega⟩
  obtain⟨ao,cap,rfl⟩:=BS hrow;have R:=aA hrow;have B:=aA hbel;have hsz:w.heap.size≤wr.heap.size:=hbel.size;clear hrow hbel;by_cases hjl:j<s.size
  ·have SG1:=aA (dJ SG.out h0 (B.out));have h1:0<wr.heap.size:=by omega
   have hto:=fun h=>Qb (s:=s) (k:=j) hj h
   have hbad:=fun he=>hout.trans (KB (acc:=acc) (f:=f) hjl rfl he)
   have hfull:=fun he hf=>hout.trans (Af (acc:=acc) (f:=f) hjl rfl he hf)
   have hmore:=fun he hf=>hout.trans (Ag (acc:=acc) (f:=f) hjl rfl he hf)
   generalize ho:cO (s.data.toList.drop j) j=o at *
   obtain⟨⟨t0,t1,t2,t3⟩,n,er⟩:=o;have Ho:=aA ho;clear ho hout;simp only at hto hbad hfull hmore;rcases (show er=0∨er≠0 from by omega) with rfl | hne
   ·have hto1:=hto rfl;by_cases h600:acc.length=600
    ·have H:=aA (hfull rfl h600);have e6:((acc.length:Int)==600)=true:=beq_iff_eq.2 (by omega);clear hbad hfull hmore hto;go_wp2_with fail;refine (uG s hs j hjl _ h1 SG1).mono ?_;rintro e w1 ⟨rfl,b1⟩;rw [Ho.out];have B1:=aA (aH B.out (Nat.le_refl _) b1);clear b1 SG1 R B;unfold TokOut.ending Tok.val;go_wp2;go_ret3
     exact⟨.slice none 0 0,by rw [H.out];rfl,by rw [H.out];exact yM _ _ _,B1.out.alloc B1.out.size _⟩
    ·have H:=aA (hmore rfl h600);have e6:((acc.length:Int)==600)=false:=beq_eq_false_iff_ne.2 (by omega);have hq1:=Bv false s n;have hq2:=sZ (f:=false) hto1.2;clear hbad hfull hmore hto;go_wp2_with fail;refine (uG s hs j hjl _ h1 SG1).mono ?_;rintro e w1 ⟨rfl,b1⟩;rw [Ho.out];have b2:=(Below.refl w1.heap.size w1).alloc (Nat.le_refl _) (.cells #[.int .i64 t0,.string t1,.int .i64 t2,.int .i64 t3] 67);have B1:=aA (aH (aH B.out (Nat.le_refl _) b1) (Nat.le_refl _) b2);have R1:=aA (MK (MK R.out b1) b2);have hsz1:w.heap.size≤(w1.alloc (.cells #[.int .i64 t0,.string t1,.int .i64 t2,.int .i64 t3] 67)).heap.size:=B1.out.size;clear b1 b2 SG1 R B;unfold TokOut.ending Tok.val;go_wp2_with (at_builtin;refine ID rfl _ _ rfl w.heap.size acc ⟨t0,t1,t2,t3⟩ _ rfl _ (by rfl) R1.out _ (by rfl) (by simp) (by omega) hsz1 ?_)
     intro v' w2 R2 b2;have R3:=aA R2;have B3:=aA (B1.out.trans b2);clear R1 B1 R2 b2 hsz1;go_wp2_with fail;refine (Al s hs n hto1.2 _).mono ?_;rintro e w3 ⟨rfl,rfl⟩;generalize skipTo false s n=q at *
     go_wp2;go_roundw
     case rel=>exact⟨q,f,acc++[⟨t0,t1,t2,t3⟩],hq2,rfl,by simp;omega,by omega,H.out,R3.out,B3.out⟩
     case measure=>simp [intOf];omega
   ·have H:=aA (hbad hne);have en:(er != 0)=true:=by rw [bne_iff_ne];exact hne
    clear hbad hfull hmore hto;go_wp2_with fail;refine (uG s hs j hjl _ h1 SG1).mono ?_;rintro e w1 ⟨rfl,b1⟩;rw [Ho.out];have B1:=aA (aH B.out (Nat.le_refl _) b1);clear b1 SG1 R B;unfold TokOut.ending Tok.val;go_wp2;go_ret3
    exact⟨.slice none 0 0,by rw [H.out];rfl,by rw [H.out];exact yM _ _ _,B1.out.alloc B1.out.size _⟩
  ·have H:=aA (hout.trans (BM (by omega)));clear hout;go_wp2_with (at_builtin;refine ID rfl _ _ rfl w.heap.size acc ⟨6,⟨#[]⟩,0,s.size⟩ _ rfl _ (by rfl) R.out _ (by rfl) (by simp) (by omega) hsz ?_)
   intro v' w2 R2 B2;go_wp2;go_ret3
   exact⟨v',by rw [H.out];rfl,by rw [H.out];exact R2,B.out.trans B2⟩
end Go.Proofs.YtdnnmjhfidimcaaGreatDoor
