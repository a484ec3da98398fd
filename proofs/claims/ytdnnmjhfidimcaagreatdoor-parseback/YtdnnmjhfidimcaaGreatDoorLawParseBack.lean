/- A tree of at most 300 nodes (at most 40 high, with texts of at most 600 bytes and at most 60 names of at most 100 bytes) that may be a program comes back from its text by Parse, where that has not too many tokens (a greater tree asks the law's own test alone): ParseBack is true for every input; the two tables of signs hold what the program's text lays (the card ties them); no other condition. -/
import Derived.Test.YtdnnmjhfidimcaaGreatDoorJoint5
import Derived.Test.YtdnnmjhfidimcaaGreatDoorJoint35
import Derived.Test.YtdnnmjhfidimcaaGreatDoorJoint28
import Derived.Test.YtdnnmjhfidimcaaGreatDoorJoint7
import Derived.Test.YtdnnmjhfidimcaaGreatDoorJoint32
import Derived.Test.YtdnnmjhfidimcaaGreatDoorJoint36
import Derived.Test.YtdnnmjhfidimcaaGreatDoorJoint11
import Derived.Test.YtdnnmjhfidimcaaGreatDoorRows
import Derived.WalkKit
import Derived.ProofKit
import Derived.OpenShut
import Derived.ShutString
import Derived.ChangeOld
import Derived.Below
import Derived.Test.YtdnnmjhfidimcaaGreatDoorTie
import Derived.Test.YtdnnmjhfidimcaaGreatDoorCards
import Derived.SevenTiedAt
import Derived.Stop.Joined
import Derived.Carry
namespace Go.Proofs.YtdnnmjhfidimcaaGreatDoor.parseBack
open Go.ChangeShapes Go.WideShapes Go.ChangeAt Go.RowKit
open Go.ChangeMaps (open_string shut_string)
set_option linter.unusedVariables false
set_option maxRecDepth 100000

theorem own:ownKnob Tryz.prog.godebug=none:=by kernel_rfl

theorem Jw (f:Nat) (s:ByteArray) (p:Nat) (h:tokOut s=([],p,5)):lK f true s=(ndZ,(p:Int),5):=by
 unfold lK;rw [h,if_pos (by simp)]
theorem Jx {t:Nd} (h:(lL t).2≠0):(lL t).1=[]:=by
 unfold lL at h ⊢;split
 ·rfl
 ·rename_i h1;rw [if_neg h1] at h;split
  ·rfl
  ·rename_i h2;rw [if_neg h2] at h;exact absurd rfl h
theorem Jy {t:Nd} (h:(lL t).2=0):checkN t=0∧(lL t).1=nQ t∧(nQ t).length≤2000:=by
 unfold lL at h ⊢;split
 ·rename_i h1;rw [if_pos h1] at h;exact absurd h h1
 ·rename_i h1;rw [if_neg h1] at h;split
  ·rename_i h2;rw [if_pos h2] at h;cases h
  ·exact⟨by omega,rfl,by omega⟩
set_option maxRecDepth 100000 in
set_option maxHeartbeats 6400000 in

theorem SD (t0:Nd) (nv0 kv0:Value) (w:World) (w0:Hid (jS w.heap.size w t0 nv0 kv0)) (h0:0<w.heap.size) (h1:1<w.heap.size) (SG:Hid (iF 0 sgnL w)) (ST:Hid (iF 1 tsgnL w)) :
  Calls Tryz.prog 5 #[.agg #[.int .i64 t0.kind,.int .i64 t0.op,.int .i64 t0.num,.string t0.str,nv0,kv0,.int .i64 t0.pl]] w fun e w'=>e=.returned (.bool true)∧Below w.heap.size w w':=by
 obtain⟨a1,q1,a2,q2,rfl,rfl⟩:=cC w0.out;have A0:=(Below.refl _ w).alloc (Nat.le_refl _) (.cells #[.int .i64 t0.kind,.int .i64 t0.op,.int .i64 t0.num,.string t0.str,.slice a1 t0.names.length q1,.slice a2 t0.kids.length q2,.int .i64 t0.pl] 26);have B0:=aA A0;have X0:=aA (eQ A0 _ _ _ w0.out);have K0:=aA (aJ w 26 #[.int .i64 t0.kind,.int .i64 t0.op,.int .i64 t0.num,.string t0.str,.slice a1 t0.names.length q1,.slice a2 t0.kids.length q2,.int .i64 t0.pl]);have F0:=aA (fun h=>Lj (t:=t0) h);clear w0 A0;obtain⟨i0,i1,i2,i3,i4,i5,i6⟩:=aO K0.out;cases hfw:Pu t0 with
 | false=>
  have HF:=aA hfw;clear hfw F0;go_enter Tryz.func5,Tryz.ntmps5;go_wp2_with fail;refine (uQ t0 w.heap.size _ _ _ B0.out.size X0).mono ?_;rintro e w1 ⟨rfl,b1⟩;have B1:=aA (bK B0.out b1);have X1:=aA (eQ (b1.mono B0.out.size) _ _ _ X0.out);have K1:=aA (aC K0.out b1);rw [HF.out];clear b1 B0 X0 K0 i0 i1 i2 i3 i4 i5 i6;obtain⟨i0,i1,i2,i3,i4,i5,i6⟩:=aO K1.out;go_wp2_with fail;refine (oT _ (by have:=B1.out.size;omega) (by have:=B1.out.size;omega) (aA (eD SG.out h0 B1.out)) (aA (eD ST.out h1 B1.out))).mono ?_;rintro e w9 ⟨rfl,b9⟩;have B9:=aA (bK B1.out b9);clear b9;go_wp2_with fail;go_ret;exact⟨rfl,B9.out⟩
 | true=>
  obtain⟨hc0,hh0,hs0⟩:=F0.out hfw;have HF:=aA hfw;have HSM:=aA hs0;clear hfw F0 hs0 hh0;by_cases hp0:(lL t0).2=0
  ·obtain⟨hck,hpt,hpl⟩:=Jy hp0;obtain⟨s2,hs2⟩:∃ s2:ByteArray,(⟨(lL t0).1.toArray⟩:ByteArray)=s2:=⟨_,rfl⟩
   have hs2l:s2.data.toList=nQ t0:=by rw [← hs2,← hpt]
   have hs2s:s2.size≤2000:=by rw [← cB,hs2l];omega
   have HS2:=aA hs2;have HP:=aA hp0;have hb:=IY hck hs2l hs2s;have hlen2:(tokOut s2).1.length≤601:=Gw s2;clear hs2 hp0 hck hpt hpl;have HRT:=aA (fun (w':World)=>Aj s2 (by omega) w');rcases hb with ⟨p,hp⟩ | ⟨f0,hf0⟩
   ·have HC2:=aA (fun (w':World) (g0:0<w'.heap.size) (g1:1<w'.heap.size) (S1:Hid (iF 0 sgnL w')) (S2:Hid (iF 1 tsgnL w'))=>tM 20000 s2 (by omega) (by omega) w' g0 g1 S1 S2);rw [Jw _ _ _ hp] at HC2;rw [hp] at HRT;clear hp hs2l;go_enter Tryz.func5,Tryz.ntmps5;go_wp2_with fail;refine (uQ t0 w.heap.size _ _ _ B0.out.size X0).mono ?_;rintro e w1 ⟨rfl,b1⟩;have B1:=aA (bK B0.out b1);have X1:=aA (eQ (b1.mono B0.out.size) _ _ _ X0.out);have K1:=aA (aC K0.out b1);rw [HF.out];clear b1 B0 X0 K0 i0 i1 i2 i3 i4 i5 i6;obtain⟨i0,i1,i2,i3,i4,i5,i6⟩:=aO K1.out;go_wp2_with fail;refine (uE t0 _ _ _ _ (aA ⟨Nat.le_refl _,by have:=B1.out.size;omega,eD ST.out h1 B1.out⟩) (aA (xW B1.out.size _ _ _ X1.out)) HSM.out (by omega)).mono ?_;rintro e w2 ⟨rfl,b2⟩;have B2:=aA (bK B1.out b2);have X2:=aA (eQ (b2.mono B1.out.size) _ _ _ X1.out);have K2:=aA (aC K1.out b2);clear b2 B1 X1 K1 i0 i1 i2 i3 i4 i5 i6;rw [HP.out,HS2.out];go_wp2_with fail;refine (HC2.out _ (by have:=B2.out.size;omega) (by have:=B2.out.size;omega) (aA (eD SG.out h0 B2.out)) (aA (eD ST.out h1 B2.out))).mono ?_;rintro e w4 ⟨nv4,kv4,rfl,n4,b4⟩;obtain⟨c1,d1,c2,d2,rfl,rfl⟩:=aQ n4;have A4:=(Below.refl _ w4).alloc (Nat.le_refl _) (.cells #[.int .i64 ndZ.kind,.int .i64 ndZ.op,.int .i64 ndZ.num,.string ndZ.str,.slice c1 ndZ.names.length d1,.slice c2 ndZ.kids.length d2,.int .i64 ndZ.pl] 26);have B4:=aA (bK (bK B2.out b4) A4);clear n4 b4 A4 HC2 B2 X2 K2;unfold gF;simp only;go_wp2_with fail;refine (HRT.out _).mono ?_;rintro e w5 ⟨v5,rfl,_,b5⟩;have B5:=aA (bK B4.out b5);clear b5 B4 HRT;unfold pF;simp only;go_wp2_with fail;refine (oT _ (by have:=B5.out.size;omega) (by have:=B5.out.size;omega) (aA (eD SG.out h0 B5.out)) (aA (eD ST.out h1 B5.out))).mono ?_;rintro e w9 ⟨rfl,b9⟩;have B9:=aA (bK B5.out b9);clear b9;go_wp2_with fail;go_ret;exact⟨rfl,B9.out⟩
   ·obtain⟨y,hp,hsame⟩:=hf0 (max f0 20000) (Nat.le_max_left _ _);have hge:20000≤max f0 20000:=Nat.le_max_right _ _;generalize max f0 20000=f2 at *
    have HC2:=aA (fun (w':World) (g0:0<w'.heap.size) (g1:1<w'.heap.size) (S1:Hid (iF 0 sgnL w')) (S2:Hid (iF 1 tsgnL w'))=>tM f2 s2 (by omega) (by omega) w' g0 g1 S1 S2);have hm2:=MC (f:=f2) (s:=s2) (by rw [hp]);rw [hp] at HC2 hm2;have HSY:=aA (FW hm2.1);have hcy:bM y≤1000000:=by have:=hm2.2;simp only at this;omega
    have HSA:=aA hsame;clear hp hs2l hm2 hsame HRT hf0;go_enter Tryz.func5,Tryz.ntmps5;go_wp2_with fail;refine (uQ t0 w.heap.size _ _ _ B0.out.size X0).mono ?_;rintro e w1 ⟨rfl,b1⟩;have B1:=aA (bK B0.out b1);have X1:=aA (eQ (b1.mono B0.out.size) _ _ _ X0.out);have K1:=aA (aC K0.out b1);rw [HF.out];clear b1 B0 X0 K0 i0 i1 i2 i3 i4 i5 i6;obtain⟨i0,i1,i2,i3,i4,i5,i6⟩:=aO K1.out;go_wp2_with fail;refine (uE t0 _ _ _ _ (aA ⟨Nat.le_refl _,by have:=B1.out.size;omega,eD ST.out h1 B1.out⟩) (aA (xW B1.out.size _ _ _ X1.out)) HSM.out (by omega)).mono ?_;rintro e w2 ⟨rfl,b2⟩;have B2:=aA (bK B1.out b2);have X2:=aA (eQ (b2.mono B1.out.size) _ _ _ X1.out);have K2:=aA (aC K1.out b2);clear b2 B1 X1 K1 i0 i1 i2 i3 i4 i5 i6;rw [HP.out,HS2.out];go_wp2_with fail;refine (HC2.out _ (by have:=B2.out.size;omega) (by have:=B2.out.size;omega) (aA (eD SG.out h0 B2.out)) (aA (eD ST.out h1 B2.out))).mono ?_;rintro e w4 ⟨nv4,kv4,rfl,n4,b4⟩;obtain⟨c1,d1,c2,d2,rfl,rfl⟩:=aQ n4;have A4:=(Below.refl _ w4).alloc (Nat.le_refl _) (.cells #[.int .i64 y.kind,.int .i64 y.op,.int .i64 y.num,.string y.str,.slice c1 y.names.length d1,.slice c2 y.kids.length d2,.int .i64 y.pl] 26);have B4:=aA (bK (bK B2.out b4) A4);have Y4:=aA (GU (bD (cR A4) n4));have X4:=aA (eQ (A4.mono (by have:=B2.out.size;have:=b4.size;omega)) _ _ _ (eQ (b4.mono B2.out.size) _ _ _ X2.out));have K4:=aA (aC (aC K2.out b4) A4);have L4:=aA (aJ w4 26 #[.int .i64 y.kind,.int .i64 y.op,.int .i64 y.num,.string y.str,.slice c1 y.names.length d1,.slice c2 y.kids.length d2,.int .i64 y.pl]);have hk4:=aF K4.out;clear n4 b4 A4 HC2 B2 X2 K2;obtain⟨i0,i1,i2,i3,i4,i5,i6⟩:=aO K4.out;obtain⟨j0,j1,j2,j3,j4,j5,j6⟩:=aO L4.out;unfold gF;simp only;go_wp2_with fail;refine (Cx y t0 _ _ _ _ _ _ (Nat.le_refl _) Y4 (aA (xW B4.out.size _ _ _ X4.out)) HSY.out hcy).mono ?_;rintro e w5 ⟨rfl,b5⟩;have B5:=aA (bK B4.out b5);clear b5 B4 X4 Y4 K4 L4 i0 i1 i2 i3 i4 i5 i6 j0 j1 j2 j3 j4 j5 j6;rw [HSA.out];go_wp2_with fail;refine (oT _ (by have:=B5.out.size;omega) (by have:=B5.out.size;omega) (aA (eD SG.out h0 B5.out)) (aA (eD ST.out h1 B5.out))).mono ?_;rintro e w9 ⟨rfl,b9⟩;have B9:=aA (bK B5.out b9);clear b9;go_wp2_with fail;go_ret;exact⟨rfl,B9.out⟩
  ·have HE:=aA (Jx hp0);have hne:((lL t0).2 != 0)=true:=by simpa using hp0
   generalize hpo:lL t0=po at *
   obtain⟨pl,pe⟩:=po;have HPO:=aA hpo;clear hpo hp0;go_enter Tryz.func5,Tryz.ntmps5;go_wp2_with fail;refine (uQ t0 w.heap.size _ _ _ B0.out.size X0).mono ?_;rintro e w1 ⟨rfl,b1⟩;have B1:=aA (bK B0.out b1);have X1:=aA (eQ (b1.mono B0.out.size) _ _ _ X0.out);have K1:=aA (aC K0.out b1);rw [HF.out];clear b1 B0 X0 K0 i0 i1 i2 i3 i4 i5 i6;obtain⟨i0,i1,i2,i3,i4,i5,i6⟩:=aO K1.out;go_wp2_with fail;refine (uE t0 _ _ _ _ (aA ⟨Nat.le_refl _,by have:=B1.out.size;omega,eD ST.out h1 B1.out⟩) (aA (xW B1.out.size _ _ _ X1.out)) HSM.out (by omega)).mono ?_;rintro e w2 ⟨rfl,b2⟩;have B2:=aA (bK B1.out b2);have X2:=aA (eQ (b2.mono B1.out.size) _ _ _ X1.out);have K2:=aA (aC K1.out b2);clear b2 B1 X1 K1 i0 i1 i2 i3 i4 i5 i6;rw [HPO.out];have hpl:pl=[]:=HE.out;subst hpl;clear HE HPO;simp only at hne ⊢;go_wp2_with fail;refine (oT _ (by have:=B2.out.size;omega) (by have:=B2.out.size;omega) (aA (eD SG.out h0 B2.out)) (aA (eD ST.out h1 B2.out))).mono ?_;rintro e w9 ⟨rfl,b9⟩;have B9:=aA (bK B2.out b9);clear b9;go_wp2_with fail;go_ret;exact⟨rfl,B9.out⟩

set_option maxRecDepth 100000 in
theorem RW (os:Os) (started:os.Started) (H:Type) (enc:TypeId×Value→H) :
  ReturnsInHanded {} Tryz.checked os 5 .any (fun w args=>(Rows.parseBackSpec.pre enc Tryz.prog Tryz.f5 [] false w args∧laidMetH Tryz.prog EJ w)∧sizedMet enc Tryz.prog Tryz.f5 (OpenSpec.ofChange Rows.parseBackSpec) false w args)
   (Rows.parseBackSpec.post enc Tryz.prog Tryz.f5 false true false false):=by
 refine returnsInHanded_of_change_and (C:=Tryz.checked) (X:=fun w _=>laidMetH Tryz.prog EJ w) (fun _ _ _ hh h=>h.of_heap hh) own started (by kernel_rfl) Tryz.func5
  (ChangeSpec.witness_shaped (enc:=enc) (C:=Tryz.checked) (os:=os) (X:=fun w _=>laidMetH Tryz.prog EJ w) false (World.doorLaid Tryz.prog 14 os) #[.agg #[.int .i64 0,.int .i64 0,.int .i64 0,.string ByteArray.empty,.slice none 0 0,.slice none 0 0,.int .i64 0]] 8 rfl (World.shaped_of_RefB (by kernel_rfl) (by kernel_rfl)) (by kernel_rfl) (by kernel_rfl) (by kernel_rfl) (Na os _)) ?_
 intro W base args ds gs before hval0 hW _ _ hL _;obtain⟨hz,hz1,hSG,hST⟩:=Pt hL;have hval:∀ (j:Nat) t v,Tryz.f5.params[j]? = some t→args[j]? = some v→Value.okWide Tryz.prog W .any base t v:=hval0;have hW':=hW;obtain⟨p,q,hA0,hV,rfl,hfz,hnd⟩:=hW;have hA:DataW.TrodAll enc Tryz.prog W 0 (fun _=>true) true Tryz.f5.params.toList args.toList ds p:=hA0;rw [Tryz.params5] at hA hval;obtain⟨v0,vs0,d0,ds0,p0,q0,hargs,rfl,rfl,h0,r0⟩:=trodAll_cons hA;obtain⟨rfl,rfl,rfl⟩:=trodAll_nil r0;obtain rfl:args=#[v0]:=by cases args;simp_all
 obtain⟨rfl,rfl⟩:=trodVars_none hV;have hk0:=h0;have hlt0:∀ x∈p0,x.block<W.heap.size:=fun x hx=>by simpa using hW'.lt x (by simp [hx])
 obtain⟨t0,nv0,kv0,rfl,w0⟩:=ME (hval 0 26 v0 rfl rfl) h0;clear hA0 hval0;refine (SD t0 nv0 kv0 W w0 hz hz1 hSG hST).mono fun e W' ⟨he,hg⟩=>?_
 subst he;exact⟨_,rfl,_,_,_,[],_,[],hW',trodAll_mk1 (shut_bool Tryz.underlying4 _),(trodAll_cons_mk (Below.trod OT (by kernel_rfl) (of_decide_eq_true (by kernel_rfl)) hk0 hg hlt0) trodAll_mk0),rfl,hg.frame _,fun h=>by cases h⟩

theorem over:Rows.parseBackRow.holds Tryz.pinned (OpenSpec.ofChange Rows.parseBackSpec):=
 OpenClaim.holds_of_wide 5 Tryz.f5 rfl rfl rfl rfl rfl rfl rfl ⟨rfl,rfl,rfl,rfl,rfl⟩ rfl rfl rfl rfl rfl (by kernel_rfl) Tryz.func5 (by kernel_rfl)
  (of_decide_eq_true (by kernel_rfl)) (by unfold Func.isWrapper;first | (rw [if_pos (by decide +kernel)];kernel_rfl) | (rw [if_neg (by decide +kernel)];exact⟨rfl,rfl⟩))
  (fun os started H enc _=>RW os started H enc)

end Go.Proofs.YtdnnmjhfidimcaaGreatDoor.parseBack
namespace Go.Proofs.YtdnnmjhfidimcaaGreatDoor

theorem parseBack_holds:Rows.ParseBackCardSaid:=
 Claim7.holds_tied_plain_at .later [] [.data, .data] true (true, "48c113d553a6c296e334ef0ccdee57f3655c20b7cdba23bb90f56833e88ed0d6") false
  parseBack.over (fun _ h=>by cases h) (by kernel_rfl) (fun _ h=>by cases h) parseBack_row_tie rfl ⟨rfl,rfl⟩ (by kernel_rfl) rfl
  (fun f fn hf hfn=>by
   obtain rfl : f = 5 := Option.some.inj ((show Tryz.prog.funcNamed "proteus/proteuslaw07.ParseBack" = some 5 by kernel_rfl).symm.trans hf) |>.symm
   obtain rfl:fn=Tryz.f5:=(Option.some.inj (Tryz.func5.symm.trans hfn)).symm;exact⟨by kernel_rfl,fun j t ht=>by
    rw [Tryz.params5] at ht;have hm:t∈[26]:=by simpa using Array.mem_of_getElem? ht
    have hall:([26].all fun u=>!Tryz.prog.wantsStandIn u)=true:=by kernel_rfl
    exact (show Tryz.prog.wantsStandIn t=false by simpa using List.all_eq_true.1 hall t hm)⟩)
  (by kernel_rfl)
#print axioms parseBack_holds
end Go.Proofs.YtdnnmjhfidimcaaGreatDoor
