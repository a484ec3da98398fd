/- A program as it is written. -/
import Derived.Test.YtdnnmjhfidimcaaGreatDoorJoint37
import Derived.Test.YtdnnmjhfidimcaaGreatDoorJoint29
namespace Go.Proofs.YtdnnmjhfidimcaaGreatDoor
set_option maxHeartbeats 1600000
open Go.RowKit
set_option linter.unusedVariables false
theorem Fa {x:Nd} (h:checkN x=0):rightN x 3=true∧fF x≤12:=by
 unfold checkN at h;split at h
 ·cases h
 ·rename_i h1;split at h
  ·rename_i h2;exact⟨h2,by omega⟩
  ·cases h
theorem sW (x:Nd) (B:Nat) (w:World) (nv kv:Value) (hO:Hid (Ok B w)) (hN:Hid (lB B w x nv kv)) (hs:dO x=true) (hc:bH x≤1000) :
  Calls Tryz.prog 15 #[.agg #[.int .i64 x.kind,.int .i64 x.op,.int .i64 x.num,.string x.str,nv,kv,.int .i64 x.pl]] w fun e w'=>
   e=.returned (.tuple #[.string ⟨(sE x).1.toArray⟩,.int .i64 (sE x).2])∧Below w.heap.size w w':=by
 obtain⟨a1,q1,a2,q2,rfl,rfl⟩:=bY hN.out;have hal:=(Below.refl w.heap.size w).alloc (Nat.le_refl _) (.cells #[.int .i64 x.kind,.int .i64 x.op,.int .i64 x.num,.string x.str,.slice a1 x.names.length q1,.slice a2 x.kids.length q2,.int .i64 x.pl] 26);have hB:=hO.out.1;have AL:=aA hal;have N:=aA (iN (hal.mono hB) _ _ _ hN.out);have O:=aA (aR hO.out (hal.mono hB));have X:=aA (cH w x.kind x.op x.num x.str (.slice a1 x.names.length q1) (.slice a2 x.kids.length q2) x.pl);have HS:=aA hs;have hlen:=Lw x hs hc;have HP:=aA (show sE x=if checkN x≠0 then ([],checkN x) else if 2000<(lL x).length then ([],3) else (lL x,0) from rfl);have HCR:=aA (fun h=>Fa (x:=x) h);have HPT:=aA (show lL x=dS (x.kids.map textN) from rfl);clear hal hN hO hs;go_enter Tryz.func15,Tryz.ntmps15;go_wp2_with fail;refine (qY x B _ _ _ O N HS.out (by omega)).mono ?_;rintro e w1 ⟨rfl,b1⟩;have B1:=aA (aH AL.out (by simp) b1);have bq:Below B _ w1:=b1.mono (by simp;omega);have N1:=aA (iN bq _ _ _ N.out);have O1:=aA (aR O.out bq);have hX1:=nR X.out b1;have hz1:w.heap.size<w1.heap.size:=Cs hX1;have X1:=aA hX1;obtain⟨c0,c1,c2,c3,c4,c5,c6⟩:=aJ hX1;clear b1 bq N O X AL hX1;generalize checkN x=ck at *
 by_cases hck:ck=0
 ·subst hck;obtain⟨hr3,_⟩:=HCR.out rfl;have hnew:=CI 53 [] w1 #[.pointer none,.slice none 0 0] rfl;have hal:=(Below.refl w1.heap.size w1).alloc (Nat.le_refl _) (.cells #[.pointer none,.slice none 0 0] 53);have W2:=aA (show Wr w1.heap.size w1.heap.size [] (w1.alloc (.cells #[.pointer none,.slice none 0 0] 53)) from⟨hnew,by simp⟩);have O2:=aA (QH (B':=w1.heap.size) O1.out.1 (by simp) (aR O1.out (hal.mono O1.out.1)));have hK:dA B w1 (.slice a2 x.kids.length q2) x.kids:=by
   obtain⟨k,o,n,s,ns,ks,p⟩:=x;exact (ndIn_mk.1 N1.out).2
  have K2:=aA (Ly (B':=w1.heap.size) O1.out.1 (dV (hal.mono O1.out.1) hK));have AL2:=aA hal;have hkids:(∀ z∈x.kids,dO z=true)∧bU x.kids≤1000000:=by
   obtain⟨k,o,n,s,ns,ks,p⟩:=x;refine⟨(lC HS.out).2.2.2,?_⟩;simp only [bH] at hc;simp only [Nd.kids];omega
  have HK:=aA hkids;have HBK:=aA (nA hr3);clear hnew hal hK hkids hr3 HCR N1;go_wp2_with fail;refine (AT x.kids (fun z hz=>(Ds x).2 z hz) HBK.out w1.heap.size w1.heap.size [] _ _ W2 O2 K2 HK.out.1 HK.out.2 (by rw [← HPT.out];simpa using hlen)).mono ?_;rintro e w2 ⟨rfl,l2,hW2,hw2,n2⟩;rw [← HPT.out] at hw2;have W3:=aA hW2;have R3:=aA hw2;have hl2:=aO hw2;have N3:=aA ((AL2.out.trans n2.below));clear hW2 hw2 n2 W2 O2 K2 AL2 HK HBK;simp only [List.length_nil,Nat.zero_add] at hl2;go_wp2_with fail;refine (eJ W3 (by omega)).mono ?_;rintro e w3 ⟨rfl,rfl⟩;by_cases hfull:2000<l2.length
  ·rw [decide_eq_true hfull];have H:=aA (show sE x=([],3) by
    rw [HP.out,if_neg (by simp)];rw [if_pos];rcases R3.out.2 with ⟨h1,h2⟩ | ⟨h1,_⟩
    ·rw [h2] at hfull;simpa using hfull
    ·simpa using h1)
   clear hfull;go_wp2_with fail;go_ret2;exact⟨by rw [H.out];rfl,aH B1.out (Nat.le_refl _) N3.out⟩
  ·rw [decide_eq_false hfull];have H:=aA (show sE x=(l2,0) by
    rcases R3.out.2 with ⟨h1,h2⟩ | ⟨_,h2⟩
    ·rw [HP.out,if_neg (by simp),if_neg (by simp at h1;omega)];rw [h2];simp
    ·omega)
   clear hfull;go_wp2_with fail;refine (qS _ _ _ _ _ _ W3.out.1).mono ?_;rintro e w4 ⟨rfl,b4,_⟩;have B4:=aA (aH B1.out (Nat.le_refl _) (N3.out.trans b4));clear b4;go_wp2_with fail;go_ret2;exact⟨by rw [H.out];rfl,B4.out⟩
 ·have e0:(ck != 0)=true:=by rw [bne_iff_ne];exact hck
  have H:=aA (show sE x=([],ck) by rw [HP.out,if_pos hck]);clear hck;go_wp2_with fail;go_ret2;exact⟨by rw [H.out];rfl,B1.out⟩
end Go.Proofs.YtdnnmjhfidimcaaGreatDoor
