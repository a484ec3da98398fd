/- What Parse reads of any text of at most 2100 bytes may be a program, and its text, where that is not too long and has not too many tokens, is read as it again (a longer text asks the law's own test alone): ParseMay is true for every input; the two tables of signs hold what the program's text lays (the card ties them); no other condition. -/
import Derived.Test.YtdnnmjhfidimcaaGreatDoorPsLaid
import Derived.Test.YtdnnmjhfidimcaaGreatDoorJoint33
import Derived.Test.YtdnnmjhfidimcaaGreatDoorJoint31
import Derived.Test.YtdnnmjhfidimcaaGreatDoorJoint29
import Derived.Test.YtdnnmjhfidimcaaGreatDoorTreePrint
import Derived.Test.YtdnnmjhfidimcaaGreatDoorJoint12
import Derived.Test.YtdnnmjhfidimcaaGreatDoorRows
import Derived.WalkKit
import Derived.ProofKit
import Derived.OpenShut
import Derived.ShutString
import Derived.ChangeOld
import Derived.Below
import Derived.Test.YtdnnmjhfidimcaaGreatDoorTie
import Derived.Test.YtdnnmjhfidimcaaGreatDoorCards
import Derived.SevenTiedAt
import Derived.Stop.Joined
import Derived.Carry
namespace Go.Proofs.YtdnnmjhfidimcaaGreatDoor.parseMay
open Go.ChangeShapes Go.WideShapes Go.ChangeAt Go.RowKit
open Go.ChangeMaps (open_string shut_string)
set_option linter.unusedVariables false
set_option maxRecDepth 100000

theorem own:ownKnob Tryz.prog.godebug=none:=by kernel_rfl

theorem Lz (f:Nat) (s:ByteArray) (h:(iL f true s).2.2≠0):(iL f true s).1=ndZ:=by
 unfold iL at h ⊢;split
 ·rfl
 ·rename_i he;rw [if_neg he] at h;split
  ·rfl
  ·rename_i hp;simp only [hp] at h;split
   ·rfl
   ·rename_i hh;rw [if_neg hh] at h;exact absurd rfl h
theorem Ig (f:Nat) (s:ByteArray) (p:Nat) (h:tokOut s=([],p,5)):iL f true s=(ndZ,(p:Int),5):=by
 unfold iL;rw [h,if_pos (by simp)]
set_option maxRecDepth 100000 in
set_option maxHeartbeats 6400000 in

theorem QO (a0:ByteArray) (w:World) (w0:a0.size≤maxLen) (h0:0<w.heap.size) (h1:1<w.heap.size) (SG:Hid (iZ 0 sgnL w)) (ST:Hid (iZ 1 tsgnL w)) :
  Calls Tryz.prog 6 #[.string a0] w fun e w'=>e=.returned (.bool true)∧Below w.heap.size w w':=by
 by_cases hl:a0.size≤2100
 ·clear w0;have hlen:(tokOut a0).1.length≤601:=zC a0;have HM:=aA (fun h=>Ci (f:=20000) (s:=a0) h);have HZ:=aA (fun h=>Lz 20000 a0 h);obtain⟨⟨x,at_,er⟩,ho⟩:∃ o,iL 20000 true a0=o:=⟨_,rfl⟩
  have HC:=aA (sD 20000 a0 (by omega) (by omega) w h0 h1 SG ST);rw [ho] at HC HM HZ;clear ho;have hlz:¬ (2100:Int)<(a0.size:Int):=by omega
  by_cases her:er=0
  ·obtain⟨hck,hcn⟩:=HM.out her;replace hck:checkN x=0:=hck;replace hcn:bH x≤(tokOut a0).1.length+1:=hcn;have hsm:=xX hck;have hc1:bH x≤1000:=by omega
   subst her;have HCK:=aA hck;have HSM:=aA hsm;clear HM HZ hlen hcn hck hsm;have hpn:sE x=if 2000<(lL x).length then ([],3) else (lL x,0):=by unfold sE;rw [if_neg (by rw [HCK.out];simp)]
   by_cases hlo:2000<(lL x).length
   ·have HP:=aA (hpn.trans (if_pos hlo));clear hpn;go_enter Tryz.func6,Tryz.ntmps6;go_wp2_with fail;refine HC.out.mono ?_;rintro e w1 ⟨nv,kv,rfl,n1,b1⟩;obtain⟨a1,q1,a2,q2,rfl,rfl⟩:=aP n1;have A1:=(Below.refl _ w1).alloc (Nat.le_refl _) (.cells #[.int .i64 x.kind,.int .i64 x.op,.int .i64 x.num,.string x.str,.slice a1 x.names.length q1,.slice a2 x.kids.length q2,.int .i64 x.pl] 26);have B1:=aA (bB b1 A1);have X1:=aA (aY (bO A1) n1);have K1:=aA (aI w1 26 #[.int .i64 x.kind,.int .i64 x.op,.int .i64 x.num,.string x.str,.slice a1 x.names.length q1,.slice a2 x.kids.length q2,.int .i64 x.pl]);clear n1 b1 A1 HC;obtain⟨i0,i1,i2,i3,i4,i5,i6⟩:=aN K1.out;unfold fR;simp only;go_wp2_with fail;refine (qY x _ _ _ _ (aA ⟨Nat.le_refl _,by have:=B1.out.size;omega,dJ ST.out h1 B1.out⟩) (aA (nT X1.out)) HSM.out (by omega)).mono ?_;rintro e w2 ⟨rfl,b2⟩;have B2:=aA (bB B1.out b2);have X2:=aA (aY (bO b2) X1.out);have K2:=aA (aC K1.out b2);clear b2 B1 X1 K1 i0 i1 i2 i3 i4 i5 i6;obtain⟨i0,i1,i2,i3,i4,i5,i6⟩:=aN K2.out;rw [HCK.out];go_wp2_with fail;refine (sW x _ _ _ _ (aA ⟨Nat.le_refl _,by have:=B2.out.size;omega,dJ ST.out h1 B2.out⟩) (aA (nT X2.out)) HSM.out hc1).mono ?_;rintro e w3 ⟨rfl,b3⟩;have B3:=aA (bB B2.out b3);have X3:=aA (aY (bO b3) X2.out);have K3:=aA (aC K2.out b3);clear b3 B2 X2 K2 i0 i1 i2 i3 i4 i5 i6;rw [HP.out];simp only;go_wp2_with fail;refine (mB _ (by have:=B3.out.size;omega) (by have:=B3.out.size;omega) (aA (dJ SG.out h0 B3.out)) (aA (dJ ST.out h1 B3.out))).mono ?_;rintro e w9 ⟨rfl,b9⟩;have B9:=aA (bB B3.out b9);clear b9;go_wp2_with fail;go_ret;exact⟨rfl,B9.out⟩
   ·have HP:=aA (hpn.trans (if_neg hlo));clear hpn;obtain⟨s2,hs2⟩:∃ s2:ByteArray,(⟨(lL x).toArray⟩:ByteArray)=s2:=⟨_,rfl⟩
    have hs2l:s2.data.toList=lL x:=by rw [← hs2]
    have hs2s:s2.size≤2000:=by rw [← cF,hs2l];omega
    have HS2:=aA hs2;have hb:=Hf HCK.out hs2l hs2s;have hlen2:(tokOut s2).1.length≤601:=zC s2;clear hs2 hlo;obtain⟨f2,hf2,hcase⟩:∃ f2,20000≤f2∧((∃ p:Nat,iL f2 true s2=(ndZ,(p:Int),5))∨∃ m,iL f2 true s2=(m,0,0)∧sameN m x=true):=by
     rcases hb with ⟨p,hp⟩ | ⟨f0,hf0⟩
     ·exact⟨20000,Nat.le_refl _,.inl ⟨p,Ig _ _ _ hp⟩⟩
     ·exact⟨max f0 20000,Nat.le_max_right _ _,.inr (hf0 _ (Nat.le_max_left _ _))⟩
    clear hb;have HC2:=aA (fun (w':World) (g0:0<w'.heap.size) (g1:1<w'.heap.size) (S1:Hid (iZ 0 sgnL w')) (S2:Hid (iZ 1 tsgnL w'))=>sD f2 s2 (by omega) (by omega) w' g0 g1 S1 S2);rcases hcase with ⟨p,hp⟩ | ⟨y,hp,hsame⟩
    ·rw [hp] at HC2;clear hp hs2l;go_enter Tryz.func6,Tryz.ntmps6;go_wp2_with fail;refine HC.out.mono ?_;rintro e w1 ⟨nv,kv,rfl,n1,b1⟩;obtain⟨a1,q1,a2,q2,rfl,rfl⟩:=aP n1;have A1:=(Below.refl _ w1).alloc (Nat.le_refl _) (.cells #[.int .i64 x.kind,.int .i64 x.op,.int .i64 x.num,.string x.str,.slice a1 x.names.length q1,.slice a2 x.kids.length q2,.int .i64 x.pl] 26);have B1:=aA (bB b1 A1);have X1:=aA (aY (bO A1) n1);have K1:=aA (aI w1 26 #[.int .i64 x.kind,.int .i64 x.op,.int .i64 x.num,.string x.str,.slice a1 x.names.length q1,.slice a2 x.kids.length q2,.int .i64 x.pl]);clear n1 b1 A1 HC;obtain⟨i0,i1,i2,i3,i4,i5,i6⟩:=aN K1.out;unfold fR;simp only;go_wp2_with fail;refine (qY x _ _ _ _ (aA ⟨Nat.le_refl _,by have:=B1.out.size;omega,dJ ST.out h1 B1.out⟩) (aA (nT X1.out)) HSM.out (by omega)).mono ?_;rintro e w2 ⟨rfl,b2⟩;have B2:=aA (bB B1.out b2);have X2:=aA (aY (bO b2) X1.out);have K2:=aA (aC K1.out b2);clear b2 B1 X1 K1 i0 i1 i2 i3 i4 i5 i6;obtain⟨i0,i1,i2,i3,i4,i5,i6⟩:=aN K2.out;rw [HCK.out];go_wp2_with fail;refine (sW x _ _ _ _ (aA ⟨Nat.le_refl _,by have:=B2.out.size;omega,dJ ST.out h1 B2.out⟩) (aA (nT X2.out)) HSM.out hc1).mono ?_;rintro e w3 ⟨rfl,b3⟩;have B3:=aA (bB B2.out b3);have X3:=aA (aY (bO b3) X2.out);have K3:=aA (aC K2.out b3);clear b3 B2 X2 K2 i0 i1 i2 i3 i4 i5 i6;rw [HP.out];simp only;go_wp2_with fail;rw [HS2.out];refine (HC2.out _ (by have:=B3.out.size;omega) (by have:=B3.out.size;omega) (aA (dJ SG.out h0 B3.out)) (aA (dJ ST.out h1 B3.out))).mono ?_;rintro e w4 ⟨nv4,kv4,rfl,n4,b4⟩;obtain⟨c1,d1,c2,d2,rfl,rfl⟩:=aP n4;have A4:=(Below.refl _ w4).alloc (Nat.le_refl _) (.cells #[.int .i64 ndZ.kind,.int .i64 ndZ.op,.int .i64 ndZ.num,.string ndZ.str,.slice c1 ndZ.names.length d1,.slice c2 ndZ.kids.length d2,.int .i64 ndZ.pl] 26);have B4:=aA (bB (bB B3.out b4) A4);clear n4 b4 A4 HC2 B3 X3 K3;unfold fR;simp only;go_wp2_with fail;refine (mB _ (by have:=B4.out.size;omega) (by have:=B4.out.size;omega) (aA (dJ SG.out h0 B4.out)) (aA (dJ ST.out h1 B4.out))).mono ?_;rintro e w9 ⟨rfl,b9⟩;have B9:=aA (bB B4.out b9);clear b9;go_wp2_with fail;go_ret;exact⟨rfl,B9.out⟩
    ·have hm2:=Ci (f:=f2) (s:=s2) (by rw [hp]);rw [hp] at HC2 hm2;have HSY:=aA (xX hm2.1);have hcy:bH y≤1000000:=by have:=hm2.2;simp only at this;omega
     have HSA:=aA hsame;clear hp hs2l hm2 hsame;go_enter Tryz.func6,Tryz.ntmps6;go_wp2_with fail;refine HC.out.mono ?_;rintro e w1 ⟨nv,kv,rfl,n1,b1⟩;obtain⟨a1,q1,a2,q2,rfl,rfl⟩:=aP n1;have A1:=(Below.refl _ w1).alloc (Nat.le_refl _) (.cells #[.int .i64 x.kind,.int .i64 x.op,.int .i64 x.num,.string x.str,.slice a1 x.names.length q1,.slice a2 x.kids.length q2,.int .i64 x.pl] 26);have B1:=aA (bB b1 A1);have X1:=aA (aY (bO A1) n1);have K1:=aA (aI w1 26 #[.int .i64 x.kind,.int .i64 x.op,.int .i64 x.num,.string x.str,.slice a1 x.names.length q1,.slice a2 x.kids.length q2,.int .i64 x.pl]);clear n1 b1 A1 HC;obtain⟨i0,i1,i2,i3,i4,i5,i6⟩:=aN K1.out;unfold fR;simp only;go_wp2_with fail;refine (qY x _ _ _ _ (aA ⟨Nat.le_refl _,by have:=B1.out.size;omega,dJ ST.out h1 B1.out⟩) (aA (nT X1.out)) HSM.out (by omega)).mono ?_;rintro e w2 ⟨rfl,b2⟩;have B2:=aA (bB B1.out b2);have X2:=aA (aY (bO b2) X1.out);have K2:=aA (aC K1.out b2);clear b2 B1 X1 K1 i0 i1 i2 i3 i4 i5 i6;obtain⟨i0,i1,i2,i3,i4,i5,i6⟩:=aN K2.out;rw [HCK.out];go_wp2_with fail;refine (sW x _ _ _ _ (aA ⟨Nat.le_refl _,by have:=B2.out.size;omega,dJ ST.out h1 B2.out⟩) (aA (nT X2.out)) HSM.out hc1).mono ?_;rintro e w3 ⟨rfl,b3⟩;have B3:=aA (bB B2.out b3);have X3:=aA (aY (bO b3) X2.out);have K3:=aA (aC K2.out b3);clear b3 B2 X2 K2 i0 i1 i2 i3 i4 i5 i6;rw [HP.out];simp only;go_wp2_with fail;rw [HS2.out];refine (HC2.out _ (by have:=B3.out.size;omega) (by have:=B3.out.size;omega) (aA (dJ SG.out h0 B3.out)) (aA (dJ ST.out h1 B3.out))).mono ?_;rintro e w4 ⟨nv4,kv4,rfl,n4,b4⟩;obtain⟨c1,d1,c2,d2,rfl,rfl⟩:=aP n4;have A4:=(Below.refl _ w4).alloc (Nat.le_refl _) (.cells #[.int .i64 y.kind,.int .i64 y.op,.int .i64 y.num,.string y.str,.slice c1 y.names.length d1,.slice c2 y.kids.length d2,.int .i64 y.pl] 26);have B4:=aA (bB (bB B3.out b4) A4);have Y4:=aA (bE (lo':=w.heap.size) B3.out.size (aY (bO A4) n4));have X4:=aA (aY (bO A4) (aY (bO b4) X3.out));have K4:=aA (aC (aC K3.out b4) A4);have L4:=aA (aI w4 26 #[.int .i64 y.kind,.int .i64 y.op,.int .i64 y.num,.string y.str,.slice c1 y.names.length d1,.slice c2 y.kids.length d2,.int .i64 y.pl]);have hk4:=aF K4.out;clear n4 b4 A4 HC2 B3 X3 K3;obtain⟨i0,i1,i2,i3,i4,i5,i6⟩:=aN K4.out;obtain⟨j0,j1,j2,j3,j4,j5,j6⟩:=aN L4.out;unfold fR;simp only;go_wp2_with fail;refine (AJ y x _ _ _ _ _ _ (Nat.le_refl _) (aA (nT Y4.out)) (aA (nT X4.out)) HSY.out hcy).mono ?_;rintro e w5 ⟨rfl,b5⟩;have B5:=aA (bB B4.out b5);clear b5 B4 X4 Y4 K4 L4 i0 i1 i2 i3 i4 i5 i6 j0 j1 j2 j3 j4 j5 j6;rw [HSA.out];go_wp2_with fail;refine (mB _ (by have:=B5.out.size;omega) (by have:=B5.out.size;omega) (aA (dJ SG.out h0 B5.out)) (aA (dJ ST.out h1 B5.out))).mono ?_;rintro e w9 ⟨rfl,b9⟩;have B9:=aA (bB B5.out b9);clear b9;go_wp2_with fail;go_ret;exact⟨rfl,B9.out⟩
  ·have hx:x=ndZ:=HZ.out her;subst hx;clear HM HZ hlen;have hez:(er != 0)=true:=by simpa using her
   have HSZ:=aA (show sameN ndZ ndZ=true by kernel_rfl);go_enter Tryz.func6,Tryz.ntmps6;go_wp2_with fail;refine HC.out.mono ?_;rintro e w1 ⟨nv,kv,rfl,n1,b1⟩;obtain⟨a1,q1,a2,q2,rfl,rfl⟩:=aP n1;have A1:=(Below.refl _ w1).alloc (Nat.le_refl _) (.cells #[.int .i64 ndZ.kind,.int .i64 ndZ.op,.int .i64 ndZ.num,.string ndZ.str,.slice a1 ndZ.names.length q1,.slice a2 ndZ.kids.length q2,.int .i64 ndZ.pl] 26);have B1:=aA (bB b1 A1);have X1:=aA (aY (bO A1) n1);have K1:=aA (aI w1 26 #[.int .i64 ndZ.kind,.int .i64 ndZ.op,.int .i64 ndZ.num,.string ndZ.str,.slice a1 ndZ.names.length q1,.slice a2 ndZ.kids.length q2,.int .i64 ndZ.pl]);clear n1 b1 A1 HC;obtain⟨i0,i1,i2,i3,i4,i5,i6⟩:=aN K1.out;unfold fR;simp only;go_wp2_with fail;refine (AJ ndZ ndZ _ _ _ _ _ _ (Nat.le_refl _) (aA (nT X1.out)) (aA (nT (Ar (lo:=0)))) (by kernel_rfl) (by decide)).mono ?_;rintro e w2 ⟨rfl,b2⟩;have B2:=aA (bB B1.out b2);clear b2 B1 X1 K1 i0 i1 i2 i3 i4 i5 i6;rw [HSZ.out];go_wp2_with fail;refine (mB _ (by have:=B2.out.size;omega) (by have:=B2.out.size;omega) (aA (dJ SG.out h0 B2.out)) (aA (dJ ST.out h1 B2.out))).mono ?_;rintro e w9 ⟨rfl,b9⟩;have B9:=aA (bB B2.out b9);clear b9;go_wp2_with fail;go_ret;exact⟨rfl,B9.out⟩
 ·have hlz:(2100:Int)<(a0.size:Int):=by omega
  go_enter Tryz.func6,Tryz.ntmps6;go_wp2_with fail;refine (mB _ h0 h1 SG ST).mono ?_;rintro e w9 ⟨rfl,b9⟩;have B9:=aA b9;clear b9;go_wp2_with fail;go_ret;exact⟨rfl,B9.out⟩

set_option maxRecDepth 100000 in
theorem Qs (os:Os) (started:os.Started) (H:Type) (enc:TypeId×Value→H) :
  ReturnsInHanded {} Tryz.checked os 6 .any (fun w args=>(Rows.parseMaySpec.pre enc Tryz.prog Tryz.f6 [] false w args∧laidMetH Tryz.prog DE w)∧sizedMet enc Tryz.prog Tryz.f6 (OpenSpec.ofChange Rows.parseMaySpec) false w args)
   (Rows.parseMaySpec.post enc Tryz.prog Tryz.f6 false true false false):=by
 refine returnsInHanded_of_change_and (C:=Tryz.checked) (X:=fun w _=>laidMetH Tryz.prog DE w) (fun _ _ _ hh h=>h.of_heap hh) own started (by kernel_rfl) Tryz.func6
  (ChangeSpec.witness_shaped (enc:=enc) (C:=Tryz.checked) (os:=os) (X:=fun w _=>laidMetH Tryz.prog DE w) false (World.doorLaid Tryz.prog 14 os) #[.string ByteArray.empty] 8 rfl (World.shaped_of_RefB (by kernel_rfl) (by kernel_rfl)) (by kernel_rfl) (by kernel_rfl) (by kernel_rfl) (LG os _)) ?_
 intro W base args ds gs before hval0 hW _ _ hL _;obtain⟨hz,hz1,hSG,hST⟩:=NV hL;have hval:∀ (j:Nat) t v,Tryz.f6.params[j]? = some t→args[j]? = some v→Value.okWide Tryz.prog W .any base t v:=hval0;have hW':=hW;obtain⟨p,q,hA0,hV,rfl,hfz,hnd⟩:=hW;have hA:DataW.TrodAll enc Tryz.prog W 0 (fun _=>true) true Tryz.f6.params.toList args.toList ds p:=hA0;rw [Tryz.params6] at hA hval;obtain⟨v0,vs0,d0,ds0,p0,q0,hargs,rfl,rfl,h0,r0⟩:=trodAll_cons hA;obtain⟨rfl,rfl,rfl⟩:=trodAll_nil r0;obtain rfl:args=#[v0]:=by cases args;simp_all
 obtain⟨rfl,rfl⟩:=trodVars_none hV;obtain⟨a0,rfl,rfl,rfl,w0⟩:=open_string Tryz.underlying9 (hval 0 9 v0 rfl rfl) h0;clear hA0 hval0;refine (QO a0 W w0 hz hz1 hSG hST).mono fun e W' ⟨he,hg⟩=>?_
 subst he;exact⟨_,rfl,_,_,_,[],_,[],hW',trodAll_mk1 (shut_bool Tryz.underlying4 _),(trodAll_cons_mk (shut_string Tryz.underlying9 w0) trodAll_mk0),rfl,hg.frame _,fun h=>by cases h⟩

theorem over:Rows.parseMayRow.holds Tryz.pinned (OpenSpec.ofChange Rows.parseMaySpec):=
 OpenClaim.holds_of_wide 6 Tryz.f6 rfl rfl rfl rfl rfl rfl rfl ⟨rfl,rfl,rfl,rfl,rfl⟩ rfl rfl rfl rfl rfl (by kernel_rfl) Tryz.func6 (by kernel_rfl)
  (of_decide_eq_true (by kernel_rfl)) (by unfold Func.isWrapper;first | (rw [if_pos (by decide +kernel)];kernel_rfl) | (rw [if_neg (by decide +kernel)];exact⟨rfl,rfl⟩))
  (fun os started H enc _=>Qs os started H enc)

end Go.Proofs.YtdnnmjhfidimcaaGreatDoor.parseMay
namespace Go.Proofs.YtdnnmjhfidimcaaGreatDoor

theorem parseMay_holds:Rows.ParseMayCardSaid:=
 Claim7.holds_tied_plain_at .later [] [.data, .data] true (true, "48c113d553a6c296e334ef0ccdee57f3655c20b7cdba23bb90f56833e88ed0d6") false
  parseMay.over (fun _ h=>by cases h) (by kernel_rfl) (fun _ h=>by cases h) parseMay_row_tie rfl ⟨rfl,rfl⟩ (by kernel_rfl) rfl
  (fun f fn hf hfn=>by
   obtain rfl : f = 6 := Option.some.inj ((show Tryz.prog.funcNamed "proteus/proteuslaw07.ParseMay" = some 6 by kernel_rfl).symm.trans hf) |>.symm
   obtain rfl:fn=Tryz.f6:=(Option.some.inj (Tryz.func6.symm.trans hfn)).symm;exact⟨by kernel_rfl,fun j t ht=>by
    rw [Tryz.params6] at ht;have hm:t∈[9]:=by simpa using Array.mem_of_getElem? ht
    have hall:([9].all fun u=>!Tryz.prog.wantsStandIn u)=true:=by kernel_rfl
    exact (show Tryz.prog.wantsStandIn t=false by simpa using List.all_eq_true.1 hall t hm)⟩)
  (by kernel_rfl)
#print axioms parseMay_holds
end Go.Proofs.YtdnnmjhfidimcaaGreatDoor
