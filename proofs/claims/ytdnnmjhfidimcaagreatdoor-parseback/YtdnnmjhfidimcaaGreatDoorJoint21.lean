/- A built-in call. A delete behind its key. A short statement: a let, a print, a return, a delete. A short statement that is an expression alone. -/
import Derived.Test.YtdnnmjhfidimcaaGreatDoorJoint20
import Derived.Test.YtdnnmjhfidimcaaGreatDoorJoint17
import Derived.Test.YtdnnmjhfidimcaaGreatDoorJoint4
import Derived.Test.YtdnnmjhfidimcaaGreatDoorJoint13
import Derived.Test.YtdnnmjhfidimcaaGreatDoorPsBetw
namespace Go.Proofs.YtdnnmjhfidimcaaGreatDoor
set_option maxRecDepth 100000
set_option maxHeartbeats 6400000
open Go.RowKit
theorem zJ {l:List Tok} : ∀ {s:List Int},pI s l=none→∀ o∈s,cD l (builtT o).1=false
 | [],_,o,ho=>by cases ho
 | a::s,h,o,ho=>by
  rw [pI] at h;split at h
  ·cases h
  ·rename_i hn;rcases List.mem_cons.1 ho with rfl | ho
   ·simpa using hn
   ·exact zJ h o ho
theorem Ig (P:Nat) (L l:List Tok) (w:World) (H:Hid (PSt P L w l)) (hb:oL l=none) :
  Calls Tryz.prog 185 #[.pointer (some ⟨P,0,none⟩)] w (bV P L w (.bad l)):=by
 have HN:=aA (show ∀ j:Nat,1≤j→j≤7→cD l (builtT (j:Int)).1=false from fun j h1 h2=>zJ hb _ (by
  rcases (show j=1∨j=2∨j=3∨j=4∨j=5∨j=6∨j=7 by omega) with rfl | rfl | rfl | rfl | rfl | rfl | rfl<;>simp))
 have A:=aA ((Below.refl _ w).alloc (Nat.le_refl _) (.cells dO 26));have S0:=aA (H.out.on A.out);have B0:=aA (But.of (P:=P) A.out);unfold dO at *
 clear H hb A;go_enter Tryz.func185,Tryz.ntmps185;go_wp2_with fail;go_loopw [3] (fun i wr=>∃ j:Nat,1≤j∧j≤8∧i=.int .i64 j∧Hid (PSt P L wr l)∧Hid (But P w wr)) (fun i _=>8 - (intOf i).toNat)
 case atStart=>exact⟨1,by omega,by omega,rfl,S0.out,B0.out⟩
 case round=>
  obtain⟨j,hj1,hj,rfl,hS,hB⟩:=hrel;clear S0 B0;by_cases hj7:j≤7
  ·have HNj:=aA (show cD l (⟨(builtT (j:Int)).1.toArray⟩:ByteArray).data.toList=false by simpa using HN.out j hj1 hj7);generalize hbt:builtT (j:Int)=bt at HNj;have HBC:=aA (fun w'=>oE (j:Int) w');rw [hbt] at HBC;clear HN hbt;go_wp2_with fail;refine (HBC.out _).mono ?_;rintro e w1 ⟨rfl,rfl⟩;clear HBC;go_wp2_with fail;refine (bI P L l ⟨bt.1.toArray⟩ _ hS HNj.out).mono ?_;rintro e w2 ⟨rfl,b2⟩;have S2:=aA (hS.out.on b2);have B2:=aA (hB.out.trans (But.of b2));clear b2 hS hB HNj;go_wp2_with fail;go_roundw
   case rel=>exact⟨j+1,by omega,by omega,by go_num,S2.out,B2.out⟩
   case measure=>simp [intOf];omega
  ·clear HN;go_wp2_with fail;refine (mQ P _).mono ?_;rintro e w3 ⟨rfl,rfl⟩;unfold aV;go_wp2_with fail;exact⟨rfl,rfl,hS.out,hB.out⟩
theorem Fa {l:List Tok} {o:Int} (h:oL l=some o):∃ m:Nat,o=m∧1≤m∧m≤7∧cD l (builtT (m:Int)).1=true∧∀ j:Nat,1≤j→j<m→cD l (builtT (j:Int)).1=false:=by
 unfold oL at h;simp only [pI] at h;by_cases h1:cD l (builtT 1).1=true
 ·rw [if_pos h1] at h;injection h with h;exact⟨1,h.symm,by omega,by omega,h1,fun j a b=>by omega⟩
 rw [if_neg h1] at h;by_cases h2:cD l (builtT 2).1=true
 ·rw [if_pos h2] at h;injection h with h;refine⟨2,h.symm,by omega,by omega,h2,fun j a b=>?_⟩;obtain rfl:j=1:=by omega
  simpa using h1
 rw [if_neg h2] at h;by_cases h3:cD l (builtT 3).1=true
 ·rw [if_pos h3] at h;injection h with h;refine⟨3,h.symm,by omega,by omega,h3,fun j a b=>?_⟩;obtain rfl | rfl:j=1∨j=2:=by omega
  ·simpa using h1
  ·simpa using h2
 rw [if_neg h3] at h;by_cases h4:cD l (builtT 4).1=true
 ·rw [if_pos h4] at h;injection h with h;refine⟨4,h.symm,by omega,by omega,h4,fun j a b=>?_⟩;obtain rfl | rfl | rfl:j=1∨j=2∨j=3:=by omega
  ·simpa using h1
  ·simpa using h2
  ·simpa using h3
 rw [if_neg h4] at h;by_cases h5:cD l (builtT 5).1=true
 ·rw [if_pos h5] at h;injection h with h;refine⟨5,h.symm,by omega,by omega,h5,fun j a b=>?_⟩;obtain rfl | rfl | rfl | rfl:j=1∨j=2∨j=3∨j=4:=by omega
  ·simpa using h1
  ·simpa using h2
  ·simpa using h3
  ·simpa using h4
 rw [if_neg h5] at h;by_cases h6:cD l (builtT 6).1=true
 ·rw [if_pos h6] at h;injection h with h;refine⟨6,h.symm,by omega,by omega,h6,fun j a b=>?_⟩;obtain rfl | rfl | rfl | rfl | rfl:j=1∨j=2∨j=3∨j=4∨j=5:=by omega
  ·simpa using h1
  ·simpa using h2
  ·simpa using h3
  ·simpa using h4
  ·simpa using h5
 rw [if_neg h6] at h;by_cases h7:cD l (builtT 7).1=true
 ·rw [if_pos h7] at h;injection h with h;refine⟨7,h.symm,by omega,by omega,h7,fun j a b=>?_⟩;obtain rfl | rfl | rfl | rfl | rfl | rfl:j=1∨j=2∨j=3∨j=4∨j=5∨j=6:=by omega
  ·simpa using h1
  ·simpa using h2
  ·simpa using h3
  ·simpa using h4
  ·simpa using h5
  ·simpa using h6
 rw [if_neg h7] at h;cases h
theorem Ih (o:PL) (m:Nat) (P:Nat) (L:List Tok) (t:Tok) (q:List Tok) (w:World) (hO:∀ w',Hid (PSt P L w' q)→Calls Tryz.prog 193 #[.pointer (some ⟨P,0,none⟩),.int .i64 (builtT (m:Int)).2] w' (Bc P L w' o)) (H:Hid (PSt P L w (t::q))) (hm1:1≤m) (hm7:m≤7) (hy:gP t (builtT (m:Int)).1=true) (hn:∀ j:Nat,1≤j→j<m→gP t (builtT (j:Int)).1=false) :
  Calls Tryz.prog 185 #[.pointer (some ⟨P,0,none⟩)] w (bV P L w (o.bind fun _ ks l=>.ok (gS 17 m ks) false l)):=by
 have HN:=aA (show ∀ j:Nat,1≤j→j<m→cD (t::q) (builtT (j:Int)).1=false from hn);have HY:=aA hy;have HD:=aA hO;have hP:=H.out.lt;have A:=aA ((Below.refl _ w).alloc (Nat.le_refl _) (.cells dO 26));have S0:=aA (H.out.on A.out);have G0:=aA (aJ w 26 dO);have B0:=aA (But.of (P:=P) A.out);unfold dO at *
 clear H hy hn hO A;go_enter Tryz.func185,Tryz.ntmps185;go_wp2_with fail;go_loopw [3] (fun i wr=>∃ j:Nat,1≤j∧j≤m∧i=.int .i64 j∧Hid (PSt P L wr (t::q))∧Hid (But P w wr)∧Hid (dT w.heap.size 26 #[.int .i64 0,.int .i64 0,.int .i64 0,.string ⟨#[]⟩,.slice none 0 0,.slice none 0 0,.int .i64 0] wr)) (fun i _=>8 - (intOf i).toNat)
 case atStart=>exact⟨1,by omega,by omega,rfl,S0.out,B0.out,G0.out⟩
 case round=>
  obtain⟨j,hj1,hj,rfl,hS,hB,hG⟩:=hrel;clear S0 B0 G0;have hj7:j≤7:=by omega
  have hg1:=aF hG.out;by_cases hjm:j=m
  ·subst hjm;have HYj:=aA (show gP t (⟨(builtT (j:Int)).1.toArray⟩:ByteArray).data.toList=true by simpa using HY.out);have HBC:=aA (fun w'=>oE (j:Int) w');generalize hbt:builtT (j:Int)=bt at HYj HBC HD;clear HN HY hbt;cases o with
   | bad l'=>
    go_wp2_with fail;refine (HBC.out _).mono ?_;rintro e w1 ⟨rfl,rfl⟩;clear HBC;go_wp2_with fail;refine (cT P L t q ⟨bt.1.toArray⟩ _ hS HYj.out).mono ?_;rintro e w2 ⟨rfl,s2,b2⟩;have S2:=aA s2;have B2:=aA (hB.out.trans b2);clear s2 b2 hS hB hG HYj;go_wp2_with fail;refine (HD.out _ S2).mono ?_;rintro e w3 ⟨rfl,s3,b3⟩;have S3:=aA s3;have B3:=aA (B2.out.trans b3);clear s3 b3 S2 B2 HD;unfold aV;go_wp2_with fail;exact⟨rfl,rfl,S3.out,B3.out⟩
   | ok ns ks l'=>
    go_wp2_with fail;refine (HBC.out _).mono ?_;rintro e w1 ⟨rfl,rfl⟩;clear HBC;go_wp2_with fail;refine (cT P L t q ⟨bt.1.toArray⟩ _ hS HYj.out).mono ?_;rintro e w2 ⟨rfl,s2,b2⟩;have S2:=aA s2;have B2:=aA (hB.out.trans b2);have G2:=aA (aD hG.out b2 (by omega));have hg2:=aF G2.out;clear s2 b2 hS hB hG HYj;go_wp2_with fail;refine (HD.out _ S2).mono ?_;rintro e w3 ⟨⟨kv,rfl,n3⟩,s3,b3⟩;obtain⟨a1,q1,rfl⟩:=uJ n3;have S3:=aA s3;have B3:=aA (B2.out.trans b3);have G3:=aA (aD G2.out b3 (by omega));have N3:=aA (hH (lo':=w.heap.size+1) (by omega) n3);have hg3:=aF G3.out;obtain⟨r0,r1,r2,r3,r4,r5,r6⟩:=aO G3.out;obtain⟨u0,u1,u2,u3,u4,u5,u6⟩:=bT G3.out;clear s3 b3 n3 S2 B2 G2 HD;go_wp2_with fail;have Z:=bX hP (Nat.le_refl _) S3.out B3.out G3.out (.int .i64 17) (.int .i64 j) (.int .i64 0) (.string ⟨#[]⟩) (.slice none 0 0) (.slice a1 ks.length q1) (.int .i64 0);exact bodyPost_ret (cN rfl rfl Z.1) rfl ⟨⟨_,_,rfl,eS ⟨gN,hH (Nat.le_succ _) (oS (cY w3 (Nat.lt_succ_self _) _ _ _ _ _ _ _) N3.out)⟩⟩,Z.2.1,Z.2.2⟩
  ·have HNj:=aA (show cD (t::q) (⟨(builtT (j:Int)).1.toArray⟩:ByteArray).data.toList=false by simpa using HN.out j hj1 (by omega));generalize hbt:builtT (j:Int)=bt at HNj;have HBC:=aA (fun w'=>oE (j:Int) w');rw [hbt] at HBC;clear HN HY HD hbt;go_wp2_with fail;refine (HBC.out _).mono ?_;rintro e w1 ⟨rfl,rfl⟩;clear HBC;go_wp2_with fail;refine (bI P L (t::q) ⟨bt.1.toArray⟩ _ hS HNj.out).mono ?_;rintro e w2 ⟨rfl,b2⟩;have S2:=aA (hS.out.on b2);have B2:=aA (hB.out.trans (But.of b2));have G2:=aA (aC hG.out b2);clear b2 hS hB hG HNj;go_wp2_with fail;go_roundw
   case rel=>exact⟨j+1,by omega,by omega,by go_num,S2.out,B2.out,G2.out⟩
   case measure=>simp [intOf];omega
theorem qX {lo:Nat} {w:World} {x:Nd} {nv kv:Value} (h:uW lo w x nv kv):GS lo w kv x.kids:=by
 obtain⟨k,o,n,s,ns,ks,p⟩:=x;exact (JE h).2
theorem Ao {P:Nat} {L l l':List Tok} {w:World} {x:Nd} {b:Bool} (H:PSt P L w l) (h:Q1 l x b l'):∃ pre u,pre++u::l'=L∧plB x u=decide (b=true∧x.kind≠5)∧Sy x u=b:=by
 obtain⟨_,pre,u,rfl,_,h1,h2⟩:=h;obtain⟨p0,hp0⟩:=H.suf;refine⟨p0++pre,u,by rw [← hp0];simp,?_,?_⟩
 ·unfold plB;cases b with
  | true=>
   have hb:=h2 rfl;have ht:u.text.data.toList≠[41]:=(h1 hb).1 rfl;have ht':(u.text.data.toList==[41])=false:=by simpa using ht
   rw [ht'];rcases hb with h | h | h<;>simp [h]
  | false=>
   by_cases hb:kM x
   ·have ht:u.text.data.toList=[41]:=by
     apply Classical.byContradiction;intro hn;cases (h1 hb).2 hn
    simp [ht]
   ·unfold kM at hb;simp only [not_or] at hb;simp [hb.2.1,hb.2.2]
 ·unfold Sy plB;cases b with
  | true=>
   have hb:=h2 rfl;have ht:u.text.data.toList≠[41]:=(h1 hb).1 rfl;have ht':(u.text.data.toList==[41])=false:=by simpa using ht
   rw [ht'];rcases hb with h | h | h<;>simp [h]
  | false=>
   by_cases hb:kM x
   ·have ht:u.text.data.toList=[41]:=by
     apply Classical.byContradiction;intro hn;cases (h1 hb).2 hn
    simp [ht]
   ·unfold kM at hb;simp only [not_or] at hb;simp [hb.1,hb.2.1,hb.2.2]
def PO (f:Nat) (l:List Tok):PR:=(kS f l).bind fun e b l=>if b=true∧e.kind≠5 then .ok (if e.kind=13 then uU 25 e.str e.kids else iH 26 e.kids) false l else .bad l
theorem LM (f:Nat) (hR:CM f) (P:Nat) (L l:List Tok) (w:World) (hf:20*l.length+3≤f) (H:Hid (PSt P L w l)) :
  Calls Tryz.prog 132 #[.pointer (some ⟨P,0,none⟩)] w (bV P L w (PO f l)):=by
 have A:=aA ((Below.refl _ w).alloc (Nat.le_refl _) (.cells dO 26));have S0:=aA (H.out.on A.out);have G0:=aA (aJ w 26 dO);have hP:=H.out.lt;have HC:=aA (fun w' S=>hR P L l w' hf S);have HM:=aA ((Ak f).post l (kL H.out));have HL:=aA (fun (x:Nd) (b:Bool) (l':List Tok) (h:Q1 l x b l')=>Ao H.out h);unfold dO at *
 unfold PO;clear H hR;cases hq:kS f l with
 | bad l'=>
  rw [hq] at HC;rw [PR.bind_bad];clear HM HL;go_enter Tryz.func132,Tryz.ntmps132;go_wp2_with fail;refine (HC.out _ S0).mono ?_;rintro e w2 ⟨rfl,s2,b2⟩;have S9:=aA s2;have B9:=aA ((But.of A.out).trans b2);clear s2 b2 S0 A G0 HC;unfold aV;go_wp2_with fail;exact⟨rfl,rfl,S9.out,B9.out⟩
 | ok x b l'=>
  rw [hq] at HC HM;rw [PR.bind_ok];obtain⟨pre,u,he,hp,_⟩:=HL.out x b l' HM.out;have HE:=aA he;clear he HL HM;by_cases hb:b=true∧x.kind≠5
  ·rw [if_pos hb];have hp':plB x u=true:=by rw [hp];simpa using hb
   have HP:=aA hp';have hbk:=hb.2;have h34:x.kind=13∨x.kind=14:=by
    unfold plB at hp';simp at hp';exact hp'.1
   clear hp hp' hb hbk;by_cases h13:x.kind=13
   ·rw [if_pos h13];have H13:=aA h13;have h13b:(x.kind==13)=true:=by simp [h13]
    clear h13 h34;go_enter Tryz.func132,Tryz.ntmps132;go_wp2_with fail;refine (HC.out _ S0).mono ?_;rintro e w1 ⟨⟨nv,kv,rfl,n1⟩,s1,b1⟩;obtain⟨a1,q1,a2,q2,rfl,rfl⟩:=aQ n1;have hz1:=b1.size;simp only [World.size_alloc] at hz1;have AA:=(Below.refl _ w1).alloc (Nat.le_refl _) (.cells (fX x (.slice a1 x.names.length q1) (.slice a2 x.kids.length q2)) 26);have S1:=aA (s1.on AA);have B1:=aA (((But.of (P:=P) A.out).trans b1).trans (But.of AA));have G1:=aA (aC (aD G0.out b1 (by omega)) AA);have V1:=aA (aJ w1 26 (fX x (.slice a1 x.names.length q1) (.slice a2 x.kids.length q2)));have N1:=aA (bD (cR AA) (bJ (lo':=w.heap.size+1) (by simp) n1));have HQ:=aA (fun w' (S:Hid (PSt P L w' l'))=>qH P L l' pre u x a1 a2 q1 q2 w' S HE.out);rw [HP.out] at HQ;clear s1 b1 n1 AA S0 A G0 HC HE HP;unfold gF at *
    unfold fX at *
    obtain⟨c0,c1,c2,c3,c4,c5,c6⟩:=aO V1.out;go_wp2_with fail;refine (HQ.out _ S1).mono ?_;rintro e w2 ⟨rfl,b2⟩;have S2:=aA (S1.out.on b2);have B2:=aA (B1.out.trans (But.of b2));have G2:=aA (aC G1.out b2);have V2:=aA (aC V1.out b2);have N2:=aA (bD (cR b2) N1.out);have hz2:=b2.size;simp only [World.size_alloc] at hz2;clear b2 S1 B1 G1 V1 N1 HQ c0 c1 c2 c3 c4 c5 c6;obtain⟨c0,c1,c2,c3,c4,c5,c6⟩:=aO V2.out;obtain⟨r0,r1,r2,r3,r4,r5,r6⟩:=aO G2.out;obtain⟨u0,u1,u2,u3,u4,u5,u6⟩:=bT G2.out;have hg2:=aF G2.out;have hv2:=aF V2.out;go_wp2_with fail;have Z:=bX hP (Nat.le_refl _) S2.out B2.out G2.out (.int .i64 25) (.int .i64 0) (.int .i64 0) (.string x.str) (.slice none 0 0) (.slice a2 x.kids.length q2) (.int .i64 0);exact bodyPost_ret (cN rfl rfl Z.1) rfl ⟨⟨_,_,rfl,eS ⟨gN,hH (Nat.le_succ _) (oS (cY w2 (Nat.lt_succ_self _) _ _ _ _ _ _ _) (qX N2.out))⟩⟩,Z.2.1,Z.2.2⟩
   ·rw [if_neg h13];have h13b:(x.kind==13)=false:=by simp [h13]
    clear h13 h34;go_enter Tryz.func132,Tryz.ntmps132;go_wp2_with fail;refine (HC.out _ S0).mono ?_;rintro e w1 ⟨⟨nv,kv,rfl,n1⟩,s1,b1⟩;obtain⟨a1,q1,a2,q2,rfl,rfl⟩:=aQ n1;have hz1:=b1.size;simp only [World.size_alloc] at hz1;have AA:=(Below.refl _ w1).alloc (Nat.le_refl _) (.cells (fX x (.slice a1 x.names.length q1) (.slice a2 x.kids.length q2)) 26);have S1:=aA (s1.on AA);have B1:=aA (((But.of (P:=P) A.out).trans b1).trans (But.of AA));have G1:=aA (aC (aD G0.out b1 (by omega)) AA);have V1:=aA (aJ w1 26 (fX x (.slice a1 x.names.length q1) (.slice a2 x.kids.length q2)));have N1:=aA (bD (cR AA) (bJ (lo':=w.heap.size+1) (by simp) n1));have HQ:=aA (fun w' (S:Hid (PSt P L w' l'))=>qH P L l' pre u x a1 a2 q1 q2 w' S HE.out);rw [HP.out] at HQ;clear s1 b1 n1 AA S0 A G0 HC HE HP;unfold gF at *
    unfold fX at *
    obtain⟨c0,c1,c2,c3,c4,c5,c6⟩:=aO V1.out;go_wp2_with fail;refine (HQ.out _ S1).mono ?_;rintro e w2 ⟨rfl,b2⟩;have S2:=aA (S1.out.on b2);have B2:=aA (B1.out.trans (But.of b2));have G2:=aA (aC G1.out b2);have V2:=aA (aC V1.out b2);have N2:=aA (bD (cR b2) N1.out);have hz2:=b2.size;simp only [World.size_alloc] at hz2;clear b2 S1 B1 G1 V1 N1 HQ c0 c1 c2 c3 c4 c5 c6;obtain⟨c0,c1,c2,c3,c4,c5,c6⟩:=aO V2.out;obtain⟨r0,r1,r2,r3,r4,r5,r6⟩:=aO G2.out;obtain⟨u0,u1,u2,u3,u4,u5,u6⟩:=bT G2.out;have hg2:=aF G2.out;have hv2:=aF V2.out;go_wp2_with fail;have Z:=bX hP (Nat.le_refl _) S2.out B2.out G2.out (.int .i64 26) (.int .i64 0) (.int .i64 0) (.string ⟨#[]⟩) (.slice none 0 0) (.slice a2 x.kids.length q2) (.int .i64 0);exact bodyPost_ret (cN rfl rfl Z.1) rfl ⟨⟨_,_,rfl,eS ⟨gN,hH (Nat.le_succ _) (oS (cY w2 (Nat.lt_succ_self _) _ _ _ _ _ _ _) (qX N2.out))⟩⟩,Z.2.1,Z.2.2⟩
  ·rw [if_neg hb];have HP:=aA (show plB x u=false by rw [hp];simpa using hb);clear hp hb;go_enter Tryz.func132,Tryz.ntmps132;go_wp2_with fail;refine (HC.out _ S0).mono ?_;rintro e w1 ⟨⟨nv,kv,rfl,n1⟩,s1,b1⟩;obtain⟨a1,q1,a2,q2,rfl,rfl⟩:=aQ n1;have hz1:=b1.size;simp only [World.size_alloc] at hz1;have AA:=(Below.refl _ w1).alloc (Nat.le_refl _) (.cells (fX x (.slice a1 x.names.length q1) (.slice a2 x.kids.length q2)) 26);have S1:=aA (s1.on AA);have B1:=aA (((But.of (P:=P) A.out).trans b1).trans (But.of AA));have G1:=aA (aC (aD G0.out b1 (by omega)) AA);have V1:=aA (aJ w1 26 (fX x (.slice a1 x.names.length q1) (.slice a2 x.kids.length q2)));have N1:=aA (bD (cR AA) (bJ (lo':=w.heap.size+1) (by simp) n1));have HQ:=aA (fun w' (S:Hid (PSt P L w' l'))=>qH P L l' pre u x a1 a2 q1 q2 w' S HE.out);rw [HP.out] at HQ;clear s1 b1 n1 AA S0 A G0 HC HE HP;unfold gF at *
   unfold fX at *
   obtain⟨c0,c1,c2,c3,c4,c5,c6⟩:=aO V1.out;go_wp2_with fail;refine (HQ.out _ S1).mono ?_;rintro e w2 ⟨rfl,b2⟩;have S2:=aA (S1.out.on b2);have B2:=aA (B1.out.trans (But.of b2));have G2:=aA (aC G1.out b2);have V2:=aA (aC V1.out b2);have N2:=aA (bD (cR b2) N1.out);have hz2:=b2.size;simp only [World.size_alloc] at hz2;clear b2 S1 B1 G1 V1 N1 HQ c0 c1 c2 c3 c4 c5 c6;obtain⟨c0,c1,c2,c3,c4,c5,c6⟩:=aO V2.out;obtain⟨r0,r1,r2,r3,r4,r5,r6⟩:=aO G2.out;obtain⟨u0,u1,u2,u3,u4,u5,u6⟩:=bT G2.out;have hg2:=aF G2.out;have hv2:=aF V2.out;go_wp2_with fail;refine (mQ P w2).mono ?_;rintro e w3 ⟨rfl,rfl⟩;unfold aV;go_wp2_with fail;exact⟨rfl,rfl,S2.out,B2.out⟩
theorem LN (f:Nat) (hR:hJ f) (P:Nat) (L:List Tok) (t:Tok) (q:List Tok) (w:World) (hf:20*q.length+10≤f) (H:Hid (PSt P L w (t::q))) (ht:gP t [108,101,116]=true) :
  Calls Tryz.prog 101 #[.pointer (some ⟨P,0,none⟩)] w (bV P L w (PK f q)):=by
 have A:=aA ((Below.refl _ w).alloc (Nat.le_refl _) (.cells dO 26));have S0:=aA (H.out.on A.out);have G0:=aA (aJ w 26 dO);have hP:=H.out.lt;have HC:=aA (fun w' S=>Lw f hR P L q w' (by omega) S);have HT:=aA ht;unfold dO at *
 clear H hR ht ;cases hq:(PK f q) with
 | bad l'=>
  rw [hq] at HC;go_enter Tryz.func101,Tryz.ntmps101;go_wp2_with fail;refine (cT P L t q ⟨#[108,101,116]⟩ _ S0 HT.out).mono ?_;rintro e w1 ⟨rfl,s1,b1⟩;have S9:=aA s1;have B9:=aA ((But.of (P:=P) A.out).trans b1);have G9:=aA (aD G0.out b1 (by omega));have hg9:=aF G9.out;clear s1 b1 S0 A G0 HT;go_wp2_with fail;refine (HC.out _ S9).mono ?_;rintro e wb ⟨rfl,sb,bb⟩;have S8:=aA sb;have B8:=aA (B9.out.trans bb);clear sb bb S9 B9 G9;unfold aV;go_wp2_with fail;exact⟨rfl,rfl,S8.out,B8.out⟩
 | ok x b l'=>
  rw [hq] at HC;go_enter Tryz.func101,Tryz.ntmps101;go_wp2_with fail;refine (cT P L t q ⟨#[108,101,116]⟩ _ S0 HT.out).mono ?_;rintro e w1 ⟨rfl,s1,b1⟩;have S9:=aA s1;have B9:=aA ((But.of (P:=P) A.out).trans b1);have G9:=aA (aD G0.out b1 (by omega));have hg9:=aF G9.out;clear s1 b1 S0 A G0 HT;go_wp2_with fail;refine (HC.out _ S9).mono ?_;rintro e w2 ⟨⟨nv,kv,rfl,n2⟩,s2,b2⟩;obtain⟨a1,q1,a2,q2,rfl,rfl⟩:=aQ n2;have S3:=aA s2;have hg2:=aF G9.out;have N3:=aA (bJ hg2 n2);have B3:=aA (B9.out.trans b2);have G3:=aA (aD G9.out b2 (by omega));have hg3:=aF G3.out;obtain⟨r0,r1,r2,r3,r4,r5,r6⟩:=aO G3.out;obtain⟨u0,u1,u2,u3,u4,u5,u6⟩:=bT G3.out;clear s2 b2 S9 B9 G9 n2;unfold gF;go_wp2_with fail;have Z:=bX hP (Nat.le_refl _) S3.out B3.out G3.out (.int .i64 x.kind) (.int .i64 x.op) (.int .i64 x.num) (.string x.str) (.slice a1 x.names.length q1) (.slice a2 x.kids.length q2) (.int .i64 x.pl);exact bodyPost_ret (cN rfl rfl Z.1) rfl ⟨⟨_,_,rfl,bJ (Nat.le_succ _) (bD (cY w2 (Nat.lt_succ_self _) _ _ _ _ _ _ _) N3.out)⟩,Z.2.1,Z.2.2⟩
theorem Fe (f:Nat) (hR:hJ f) (P:Nat) (L:List Tok) (t:Tok) (q:List Tok) (w:World) (hf:20*q.length+10≤f) (H:Hid (PSt P L w (t::q))) (h1:gP t [108,101,116]=false) (ht:gP t [112,114,105,110,116]=true) :
  Calls Tryz.prog 101 #[.pointer (some ⟨P,0,none⟩)] w (bV P L w ((aS f 1 q).bind fun e _ l=>.ok (iH 27 [e]) false l)):=by
 have A:=aA ((Below.refl _ w).alloc (Nat.le_refl _) (.cells dO 26));have S0:=aA (H.out.on A.out);have G0:=aA (aJ w 26 dO);have hP:=H.out.lt;have HC:=aA (show ∀ w',Hid (PSt P L w' q)→Calls Tryz.prog 24 #[.pointer (some ⟨P,0,none⟩)] w' (bV P L w' (aS f 1 q)) from fun w' S=>hR 1 P L q w' (by omega) (by omega) (by omega) S);have HT:=aA ht;have H1:=aA (show cD (t::q) [108,101,116]=false from h1);unfold dO at *
 clear H hR ht h1;cases hq:aS f 1 q with
 | bad l'=>
  rw [hq] at HC;rw [PR.bind_bad];go_enter Tryz.func101,Tryz.ntmps101;go_wp2_with fail;refine (bI P L (t::q) ⟨#[108,101,116]⟩ _ S0 H1.out).mono ?_;rintro e wn0 ⟨rfl,bn⟩;have S1:=aA (S0.out.on bn);have A1:=aA (aG A.out (Nat.le_refl _) bn);have G1:=aA (aC G0.out bn);have hzn0:=bn.size;try simp only [World.size_alloc] at hzn0
  clear bn S0 A G0 H1;go_wp2_with fail;refine (cT P L t q ⟨#[112,114,105,110,116]⟩ _ S1 HT.out).mono ?_;rintro e w1 ⟨rfl,s1,b1⟩;have S9:=aA s1;have B9:=aA ((But.of (P:=P) A1.out).trans b1);have G9:=aA (aD G1.out b1 (by omega));have hg9:=aF G9.out;clear s1 b1 S1 A1 G1 HT;go_wp2_with fail;refine (HC.out _ S9).mono ?_;rintro e wb ⟨rfl,sb,bb⟩;have S8:=aA sb;have B8:=aA (B9.out.trans bb);clear sb bb S9 B9 G9;unfold aV;go_wp2_with fail;exact⟨rfl,rfl,S8.out,B8.out⟩
 | ok x b l'=>
  rw [hq] at HC;rw [PR.bind_ok];go_enter Tryz.func101,Tryz.ntmps101;go_wp2_with fail;refine (bI P L (t::q) ⟨#[108,101,116]⟩ _ S0 H1.out).mono ?_;rintro e wn0 ⟨rfl,bn⟩;have S1:=aA (S0.out.on bn);have A1:=aA (aG A.out (Nat.le_refl _) bn);have G1:=aA (aC G0.out bn);have hzn0:=bn.size;try simp only [World.size_alloc] at hzn0
  clear bn S0 A G0 H1;go_wp2_with fail;refine (cT P L t q ⟨#[112,114,105,110,116]⟩ _ S1 HT.out).mono ?_;rintro e w1 ⟨rfl,s1,b1⟩;have S9:=aA s1;have B9:=aA ((But.of (P:=P) A1.out).trans b1);have G9:=aA (aD G1.out b1 (by omega));have hg9:=aF G9.out;clear s1 b1 S1 A1 G1 HT;go_wp2_with fail;refine (HC.out _ S9).mono ?_;rintro e w2 ⟨⟨nv,kv,rfl,n2⟩,s2,b2⟩;have S2':=aA s2;have N2':=aA (bJ hg9 n2);have B2':=aA (B9.out.trans b2);have G2':=aA (aD G9.out b2 (by omega));have hg2:=aF G2'.out;obtain⟨r0,r1,r2,r3,r4,r5,r6⟩:=aO G2'.out;obtain⟨u0,u1,u2,u3,u4,u5,u6⟩:=bT G2'.out;clear s2 b2 S9 B9 G9 HC n2;unfold gF;go_wp2_with fail;have Z:=jI (bX hP (Nat.le_refl _) S2'.out B2'.out G2'.out (.int .i64 27) (.int .i64 0) (.int .i64 0) (.string ⟨#[]⟩) (.slice none 0 0) (.slice (some ⟨w2.heap.size,0,none⟩) 1 1) (.int .i64 0)) (.cells (fX x nv kv) 26);have K:=rO (g:=w.heap.size) (T:=26) (Nat.lt_succ_self _) hg2 N2'.out (.int .i64 27) (.int .i64 0) (.int .i64 0) (.string ⟨#[]⟩) (.slice none 0 0) (.slice (some ⟨w2.heap.size,0,none⟩) 1 1) (.int .i64 0);exact bodyPost_ret (cN rfl rfl Z.1) rfl ⟨⟨_,_,rfl,eS ⟨gN,hH (Nat.le_succ _) K⟩⟩,Z.2.1,Z.2.2⟩
theorem DG (f:Nat) (hR:hJ f) (P:Nat) (L:List Tok) (t:Tok) (q:List Tok) (w:World) (hf:20*q.length+10≤f) (H:Hid (PSt P L w (t::q))) (h1:gP t [108,101,116]=false) (h2:gP t [112,114,105,110,116]=false) (ht:gP t [114,101,116,117,114,110]=true) :
  Calls Tryz.prog 101 #[.pointer (some ⟨P,0,none⟩)] w (bV P L w ((aS f 1 q).bind fun e _ l=>.ok (iH 31 [e]) false l)):=by
 have A:=aA ((Below.refl _ w).alloc (Nat.le_refl _) (.cells dO 26));have S0:=aA (H.out.on A.out);have G0:=aA (aJ w 26 dO);have hP:=H.out.lt;have HC:=aA (show ∀ w',Hid (PSt P L w' q)→Calls Tryz.prog 24 #[.pointer (some ⟨P,0,none⟩)] w' (bV P L w' (aS f 1 q)) from fun w' S=>hR 1 P L q w' (by omega) (by omega) (by omega) S);have HT:=aA ht;have H1:=aA (show cD (t::q) [108,101,116]=false from h1);have H2:=aA (show cD (t::q) [112,114,105,110,116]=false from h2);unfold dO at *
 clear H hR ht h1 h2;cases hq:aS f 1 q with
 | bad l'=>
  rw [hq] at HC;rw [PR.bind_bad];go_enter Tryz.func101,Tryz.ntmps101;go_wp2_with fail;refine (bI P L (t::q) ⟨#[108,101,116]⟩ _ S0 H1.out).mono ?_;rintro e wn0 ⟨rfl,bn⟩;have S1:=aA (S0.out.on bn);have A1:=aA (aG A.out (Nat.le_refl _) bn);have G1:=aA (aC G0.out bn);have hzn0:=bn.size;try simp only [World.size_alloc] at hzn0
  clear bn S0 A G0 H1;go_wp2_with fail;refine (bI P L (t::q) ⟨#[112,114,105,110,116]⟩ _ S1 H2.out).mono ?_;rintro e wn1 ⟨rfl,bn⟩;have S2:=aA (S1.out.on bn);have A2:=aA (aG A1.out (Nat.le_refl _) bn);have G2:=aA (aC G1.out bn);have hzn1:=bn.size;try simp only [World.size_alloc] at hzn1
  clear bn S1 A1 G1 H2;go_wp2_with fail;refine (cT P L t q ⟨#[114,101,116,117,114,110]⟩ _ S2 HT.out).mono ?_;rintro e w1 ⟨rfl,s1,b1⟩;have S9:=aA s1;have B9:=aA ((But.of (P:=P) A2.out).trans b1);have G9:=aA (aD G2.out b1 (by omega));have hg9:=aF G9.out;clear s1 b1 S2 A2 G2 HT;go_wp2_with fail;refine (HC.out _ S9).mono ?_;rintro e wb ⟨rfl,sb,bb⟩;have S8:=aA sb;have B8:=aA (B9.out.trans bb);clear sb bb S9 B9 G9;unfold aV;go_wp2_with fail;exact⟨rfl,rfl,S8.out,B8.out⟩
 | ok x b l'=>
  rw [hq] at HC;rw [PR.bind_ok];go_enter Tryz.func101,Tryz.ntmps101;go_wp2_with fail;refine (bI P L (t::q) ⟨#[108,101,116]⟩ _ S0 H1.out).mono ?_;rintro e wn0 ⟨rfl,bn⟩;have S1:=aA (S0.out.on bn);have A1:=aA (aG A.out (Nat.le_refl _) bn);have G1:=aA (aC G0.out bn);have hzn0:=bn.size;try simp only [World.size_alloc] at hzn0
  clear bn S0 A G0 H1;go_wp2_with fail;refine (bI P L (t::q) ⟨#[112,114,105,110,116]⟩ _ S1 H2.out).mono ?_;rintro e wn1 ⟨rfl,bn⟩;have S2:=aA (S1.out.on bn);have A2:=aA (aG A1.out (Nat.le_refl _) bn);have G2:=aA (aC G1.out bn);have hzn1:=bn.size;try simp only [World.size_alloc] at hzn1
  clear bn S1 A1 G1 H2;go_wp2_with fail;refine (cT P L t q ⟨#[114,101,116,117,114,110]⟩ _ S2 HT.out).mono ?_;rintro e w1 ⟨rfl,s1,b1⟩;have S9:=aA s1;have B9:=aA ((But.of (P:=P) A2.out).trans b1);have G9:=aA (aD G2.out b1 (by omega));have hg9:=aF G9.out;clear s1 b1 S2 A2 G2 HT;go_wp2_with fail;refine (HC.out _ S9).mono ?_;rintro e w2 ⟨⟨nv,kv,rfl,n2⟩,s2,b2⟩;have S2':=aA s2;have N2':=aA (bJ hg9 n2);have B2':=aA (B9.out.trans b2);have G2':=aA (aD G9.out b2 (by omega));have hg2:=aF G2'.out;obtain⟨r0,r1,r2,r3,r4,r5,r6⟩:=aO G2'.out;obtain⟨u0,u1,u2,u3,u4,u5,u6⟩:=bT G2'.out;clear s2 b2 S9 B9 G9 HC n2;unfold gF;go_wp2_with fail;have Z:=jI (bX hP (Nat.le_refl _) S2'.out B2'.out G2'.out (.int .i64 31) (.int .i64 0) (.int .i64 0) (.string ⟨#[]⟩) (.slice none 0 0) (.slice (some ⟨w2.heap.size,0,none⟩) 1 1) (.int .i64 0)) (.cells (fX x nv kv) 26);have K:=rO (g:=w.heap.size) (T:=26) (Nat.lt_succ_self _) hg2 N2'.out (.int .i64 31) (.int .i64 0) (.int .i64 0) (.string ⟨#[]⟩) (.slice none 0 0) (.slice (some ⟨w2.heap.size,0,none⟩) 1 1) (.int .i64 0);exact bodyPost_ret (cN rfl rfl Z.1) rfl ⟨⟨_,_,rfl,eS ⟨gN,hH (Nat.le_succ _) K⟩⟩,Z.2.1,Z.2.2⟩
theorem LO (f:Nat) (hR:CM f) (P:Nat) (L:List Tok) (t:Tok) (q:List Tok) (w:World) (hf:20*q.length+3≤f) (H:Hid (PSt P L w (t::q))) (h1:gP t [108,101,116]=false) (h2:gP t [112,114,105,110,116]=false) (h3:gP t [114,101,116,117,114,110]=false) (ht:gP t [100,101,108,101,116,101]=true) :
  Calls Tryz.prog 101 #[.pointer (some ⟨P,0,none⟩)] w (bV P L w (PO f q)):=by
 have A:=aA ((Below.refl _ w).alloc (Nat.le_refl _) (.cells dO 26));have S0:=aA (H.out.on A.out);have G0:=aA (aJ w 26 dO);have hP:=H.out.lt;have HC:=aA (fun w' S=>LM f hR P L q w' hf S);have HT:=aA ht;have H1:=aA (show cD (t::q) [108,101,116]=false from h1);have H2:=aA (show cD (t::q) [112,114,105,110,116]=false from h2);have H3:=aA (show cD (t::q) [114,101,116,117,114,110]=false from h3);unfold dO at *
 clear H hR ht h1 h2 h3;cases hq:(PO f q) with
 | bad l'=>
  rw [hq] at HC;go_enter Tryz.func101,Tryz.ntmps101;go_wp2_with fail;refine (bI P L (t::q) ⟨#[108,101,116]⟩ _ S0 H1.out).mono ?_;rintro e wn0 ⟨rfl,bn⟩;have S1:=aA (S0.out.on bn);have A1:=aA (aG A.out (Nat.le_refl _) bn);have G1:=aA (aC G0.out bn);have hzn0:=bn.size;try simp only [World.size_alloc] at hzn0
  clear bn S0 A G0 H1;go_wp2_with fail;refine (bI P L (t::q) ⟨#[112,114,105,110,116]⟩ _ S1 H2.out).mono ?_;rintro e wn1 ⟨rfl,bn⟩;have S2:=aA (S1.out.on bn);have A2:=aA (aG A1.out (Nat.le_refl _) bn);have G2:=aA (aC G1.out bn);have hzn1:=bn.size;try simp only [World.size_alloc] at hzn1
  clear bn S1 A1 G1 H2;go_wp2_with fail;refine (bI P L (t::q) ⟨#[114,101,116,117,114,110]⟩ _ S2 H3.out).mono ?_;rintro e wn2 ⟨rfl,bn⟩;have S3:=aA (S2.out.on bn);have A3:=aA (aG A2.out (Nat.le_refl _) bn);have G3:=aA (aC G2.out bn);have hzn2:=bn.size;try simp only [World.size_alloc] at hzn2
  clear bn S2 A2 G2 H3;go_wp2_with fail;refine (cT P L t q ⟨#[100,101,108,101,116,101]⟩ _ S3 HT.out).mono ?_;rintro e w1 ⟨rfl,s1,b1⟩;have S9:=aA s1;have B9:=aA ((But.of (P:=P) A3.out).trans b1);have G9:=aA (aD G3.out b1 (by omega));have hg9:=aF G9.out;clear s1 b1 S3 A3 G3 HT;go_wp2_with fail;refine (HC.out _ S9).mono ?_;rintro e wb ⟨rfl,sb,bb⟩;have S8:=aA sb;have B8:=aA (B9.out.trans bb);clear sb bb S9 B9 G9;unfold aV;go_wp2_with fail;exact⟨rfl,rfl,S8.out,B8.out⟩
 | ok x b l'=>
  rw [hq] at HC;go_enter Tryz.func101,Tryz.ntmps101;go_wp2_with fail;refine (bI P L (t::q) ⟨#[108,101,116]⟩ _ S0 H1.out).mono ?_;rintro e wn0 ⟨rfl,bn⟩;have S1:=aA (S0.out.on bn);have A1:=aA (aG A.out (Nat.le_refl _) bn);have G1:=aA (aC G0.out bn);have hzn0:=bn.size;try simp only [World.size_alloc] at hzn0
  clear bn S0 A G0 H1;go_wp2_with fail;refine (bI P L (t::q) ⟨#[112,114,105,110,116]⟩ _ S1 H2.out).mono ?_;rintro e wn1 ⟨rfl,bn⟩;have S2:=aA (S1.out.on bn);have A2:=aA (aG A1.out (Nat.le_refl _) bn);have G2:=aA (aC G1.out bn);have hzn1:=bn.size;try simp only [World.size_alloc] at hzn1
  clear bn S1 A1 G1 H2;go_wp2_with fail;refine (bI P L (t::q) ⟨#[114,101,116,117,114,110]⟩ _ S2 H3.out).mono ?_;rintro e wn2 ⟨rfl,bn⟩;have S3:=aA (S2.out.on bn);have A3:=aA (aG A2.out (Nat.le_refl _) bn);have G3:=aA (aC G2.out bn);have hzn2:=bn.size;try simp only [World.size_alloc] at hzn2
  clear bn S2 A2 G2 H3;go_wp2_with fail;refine (cT P L t q ⟨#[100,101,108,101,116,101]⟩ _ S3 HT.out).mono ?_;rintro e w1 ⟨rfl,s1,b1⟩;have S9:=aA s1;have B9:=aA ((But.of (P:=P) A3.out).trans b1);have G9:=aA (aD G3.out b1 (by omega));have hg9:=aF G9.out;clear s1 b1 S3 A3 G3 HT;go_wp2_with fail;refine (HC.out _ S9).mono ?_;rintro e w2 ⟨⟨nv,kv,rfl,n2⟩,s2,b2⟩;obtain⟨a1,q1,a2,q2,rfl,rfl⟩:=aQ n2;have S3:=aA s2;have hg2:=aF G9.out;have N3:=aA (bJ hg2 n2);have B3:=aA (B9.out.trans b2);have G3:=aA (aD G9.out b2 (by omega));have hg3:=aF G3.out;obtain⟨r0,r1,r2,r3,r4,r5,r6⟩:=aO G3.out;obtain⟨u0,u1,u2,u3,u4,u5,u6⟩:=bT G3.out;clear s2 b2 S9 B9 G9 n2;unfold gF;go_wp2_with fail;have Z:=bX hP (Nat.le_refl _) S3.out B3.out G3.out (.int .i64 x.kind) (.int .i64 x.op) (.int .i64 x.num) (.string x.str) (.slice a1 x.names.length q1) (.slice a2 x.kids.length q2) (.int .i64 x.pl);exact bodyPost_ret (cN rfl rfl Z.1) rfl ⟨⟨_,_,rfl,bJ (Nat.le_succ _) (bD (cY w2 (Nat.lt_succ_self _) _ _ _ _ _ _ _) N3.out)⟩,Z.2.1,Z.2.2⟩
theorem LP (f:Nat) (hR:hJ f) (P:Nat) (L l:List Tok) (w:World) (hf:20*l.length+10≤f) (H:Hid (PSt P L w l)) (h1:cD l [108,101,116]=false) (h2:cD l [112,114,105,110,116]=false) (h3:cD l [114,101,116,117,114,110]=false) (h4:cD l [100,101,108,101,116,101]=false) (l':List Tok) (hq:aS f 1 l=.bad l') :
  Calls Tryz.prog 101 #[.pointer (some ⟨P,0,none⟩)] w (bV P L w (.bad l')):=by
 have A:=aA ((Below.refl _ w).alloc (Nat.le_refl _) (.cells dO 26));have S0:=aA (H.out.on A.out);have G0:=aA (aJ w 26 dO);have hP:=H.out.lt;have HC:=aA (show ∀ w',Hid (PSt P L w' l)→Calls Tryz.prog 24 #[.pointer (some ⟨P,0,none⟩)] w' (bV P L w' (aS f 1 l)) from fun w' S=>hR 1 P L l w' (by omega) (by omega) (by omega) S);have H1:=aA h1;have H2:=aA h2;have H3:=aA h3;have H4:=aA h4;rw [hq] at HC;unfold dO at *
 clear H hR h1 h2 h3 h4;go_enter Tryz.func101,Tryz.ntmps101;go_wp2_with fail;refine (bI P L l ⟨#[108,101,116]⟩ _ S0 H1.out).mono ?_;rintro e wn0 ⟨rfl,bn⟩;have S1:=aA (S0.out.on bn);have A1:=aA (aG A.out (Nat.le_refl _) bn);have G1:=aA (aC G0.out bn);have hzn0:=bn.size;try simp only [World.size_alloc] at hzn0
 clear bn S0 A G0 H1;go_wp2_with fail;refine (bI P L l ⟨#[112,114,105,110,116]⟩ _ S1 H2.out).mono ?_;rintro e wn1 ⟨rfl,bn⟩;have S2:=aA (S1.out.on bn);have A2:=aA (aG A1.out (Nat.le_refl _) bn);have G2:=aA (aC G1.out bn);have hzn1:=bn.size;try simp only [World.size_alloc] at hzn1
 clear bn S1 A1 G1 H2;go_wp2_with fail;refine (bI P L l ⟨#[114,101,116,117,114,110]⟩ _ S2 H3.out).mono ?_;rintro e wn2 ⟨rfl,bn⟩;have S3:=aA (S2.out.on bn);have A3:=aA (aG A2.out (Nat.le_refl _) bn);have G3:=aA (aC G2.out bn);have hzn2:=bn.size;try simp only [World.size_alloc] at hzn2
 clear bn S2 A2 G2 H3;go_wp2_with fail;refine (bI P L l ⟨#[100,101,108,101,116,101]⟩ _ S3 H4.out).mono ?_;rintro e wn3 ⟨rfl,bn⟩;have S4:=aA (S3.out.on bn);have A4:=aA (aG A3.out (Nat.le_refl _) bn);have G4:=aA (aC G3.out bn);have hzn3:=bn.size;try simp only [World.size_alloc] at hzn3
 clear bn S3 A3 G3 H4;go_wp2_with fail;have B4:=aA (But.of (P:=P) A4.out);refine (HC.out _ S4).mono ?_;rintro e wb ⟨rfl,sb,bb⟩;have S8:=aA sb;have B8:=aA (B4.out.trans bb);clear sb bb S4 B4 G4;unfold aV;go_wp2_with fail;exact⟨rfl,rfl,S8.out,B8.out⟩
theorem Ij (f:Nat) (hR:hJ f) (P:Nat) (L l:List Tok) (w:World) (hf:20*l.length+10≤f) (H:Hid (PSt P L w l)) (h1:cD l [108,101,116]=false) (h2:cD l [112,114,105,110,116]=false) (h3:cD l [114,101,116,117,114,110]=false) (h4:cD l [100,101,108,101,116,101]=false) (x:Nd) (b:Bool) (l':List Tok) (hq:aS f 1 l=.ok x b l') (hn:¬ (b=true∧cD l' [61]=true)) :
  Calls Tryz.prog 101 #[.pointer (some ⟨P,0,none⟩)] w (bV P L w (.ok (iH 32 [x]) false l')):=by
 have A:=aA ((Below.refl _ w).alloc (Nat.le_refl _) (.cells dO 26));have S0:=aA (H.out.on A.out);have G0:=aA (aJ w 26 dO);have hP:=H.out.lt;have HC:=aA (show ∀ w',Hid (PSt P L w' l)→Calls Tryz.prog 24 #[.pointer (some ⟨P,0,none⟩)] w' (bV P L w' (aS f 1 l)) from fun w' S=>hR 1 P L l w' (by omega) (by omega) (by omega) S);have HM:=(Ak f).rank 1 l (kL H.out);rw [hq] at HM;obtain⟨pre,u,he,_,hp⟩:=Ao H.out HM;have HE:=aA he;have H1:=aA h1;have H2:=aA h2;have H3:=aA h3;have H4:=aA h4;rw [hq] at HC;unfold dO at *
 clear H hR h1 h2 h3 h4 HM he;cases b with
 | false=>
  have HP:=aA hp;clear hp hn;go_enter Tryz.func101,Tryz.ntmps101;go_wp2_with fail;refine (bI P L l ⟨#[108,101,116]⟩ _ S0 H1.out).mono ?_;rintro e wn0 ⟨rfl,bn⟩;have S1:=aA (S0.out.on bn);have A1:=aA (aG A.out (Nat.le_refl _) bn);have G1:=aA (aC G0.out bn);have hzn0:=bn.size;try simp only [World.size_alloc] at hzn0
  clear bn S0 A G0 H1;go_wp2_with fail;refine (bI P L l ⟨#[112,114,105,110,116]⟩ _ S1 H2.out).mono ?_;rintro e wn1 ⟨rfl,bn⟩;have S2:=aA (S1.out.on bn);have A2:=aA (aG A1.out (Nat.le_refl _) bn);have G2:=aA (aC G1.out bn);have hzn1:=bn.size;try simp only [World.size_alloc] at hzn1
  clear bn S1 A1 G1 H2;go_wp2_with fail;refine (bI P L l ⟨#[114,101,116,117,114,110]⟩ _ S2 H3.out).mono ?_;rintro e wn2 ⟨rfl,bn⟩;have S3:=aA (S2.out.on bn);have A3:=aA (aG A2.out (Nat.le_refl _) bn);have G3:=aA (aC G2.out bn);have hzn2:=bn.size;try simp only [World.size_alloc] at hzn2
  clear bn S2 A2 G2 H3;go_wp2_with fail;refine (bI P L l ⟨#[100,101,108,101,116,101]⟩ _ S3 H4.out).mono ?_;rintro e wn3 ⟨rfl,bn⟩;have S4:=aA (S3.out.on bn);have A4:=aA (aG A3.out (Nat.le_refl _) bn);have G4:=aA (aC G3.out bn);have hzn3:=bn.size;try simp only [World.size_alloc] at hzn3
  clear bn S3 A3 G3 H4;go_wp2_with fail;refine (HC.out _ S4).mono ?_;rintro e w2 ⟨⟨nv,kv,rfl,n2⟩,s2,b2⟩;obtain⟨a1,q1,a2,q2,rfl,rfl⟩:=aQ n2;have hz2:=b2.size;have hg4:=aF G4.out;have AA:=(Below.refl _ w2).alloc (Nat.le_refl _) (.cells (fX x (.slice a1 x.names.length q1) (.slice a2 x.kids.length q2)) 26);have S5:=aA (s2.on AA);have B5:=aA (((But.of (P:=P) A4.out).trans b2).trans (But.of AA));have G5:=aA (aC (aD G4.out b2 (by omega)) AA);have V5:=aA (aJ w2 26 (fX x (.slice a1 x.names.length q1) (.slice a2 x.kids.length q2)));have N5:=aA (bD (cR AA) (bJ hg4 n2));have HQ:=aA (fun w' (S:Hid (PSt P L w' l'))=>uL P L l' pre u x a1 a2 q1 q2 w' S HE.out);rw [HP.out] at HQ;clear s2 b2 n2 AA S4 A4 G4 HC HE HP;unfold gF at *
  unfold fX at *
  obtain⟨c0,c1,c2,c3,c4,c5,c6⟩:=aO V5.out;go_wp2_with fail;refine (HQ.out _ S5).mono ?_;rintro e w3 ⟨rfl,b3⟩;have S6:=aA (S5.out.on b3);have B6:=aA (B5.out.trans (But.of b3));have G6:=aA (aC G5.out b3);have V6:=aA (aC V5.out b3);have N6:=aA (bD (cR b3) N5.out);have hz3:=b3.size;simp only [World.size_alloc] at hz3;clear b3 S5 B5 G5 V5 N5 HQ c0 c1 c2 c3 c4 c5 c6;obtain⟨c0,c1,c2,c3,c4,c5,c6⟩:=aO V6.out;obtain⟨r0,r1,r2,r3,r4,r5,r6⟩:=aO G6.out;obtain⟨u0,u1,u2,u3,u4,u5,u6⟩:=bT G6.out;have hg9:=aF G6.out;have hv9:=aF V6.out;go_wp2_with fail;have Z:=jI (bX hP (Nat.le_refl _) S6.out B6.out G6.out (.int .i64 32) (.int .i64 0) (.int .i64 0) (.string ⟨#[]⟩) (.slice none 0 0) (.slice (some ⟨w3.heap.size,0,none⟩) 1 1) (.int .i64 0)) (.cells (fX x (.slice a1 x.names.length q1) (.slice a2 x.kids.length q2)) 26);have K:=rO (g:=w.heap.size) (T:=26) (Nat.lt_succ_self _) hg9 N6.out (.int .i64 32) (.int .i64 0) (.int .i64 0) (.string ⟨#[]⟩) (.slice none 0 0) (.slice (some ⟨w3.heap.size,0,none⟩) 1 1) (.int .i64 0);exact bodyPost_ret (cN rfl rfl Z.1) rfl ⟨⟨_,_,rfl,eS ⟨gN,hH (Nat.le_succ _) K⟩⟩,Z.2.1,Z.2.2⟩
 | true=>
  have HP:=aA hp;have HX:=aA (show cD l' (⟨#[61]⟩:ByteArray).data.toList=false by simpa using hn);clear hp hn;go_enter Tryz.func101,Tryz.ntmps101;go_wp2_with fail;refine (bI P L l ⟨#[108,101,116]⟩ _ S0 H1.out).mono ?_;rintro e wn0 ⟨rfl,bn⟩;have S1:=aA (S0.out.on bn);have A1:=aA (aG A.out (Nat.le_refl _) bn);have G1:=aA (aC G0.out bn);have hzn0:=bn.size;try simp only [World.size_alloc] at hzn0
  clear bn S0 A G0 H1;go_wp2_with fail;refine (bI P L l ⟨#[112,114,105,110,116]⟩ _ S1 H2.out).mono ?_;rintro e wn1 ⟨rfl,bn⟩;have S2:=aA (S1.out.on bn);have A2:=aA (aG A1.out (Nat.le_refl _) bn);have G2:=aA (aC G1.out bn);have hzn1:=bn.size;try simp only [World.size_alloc] at hzn1
  clear bn S1 A1 G1 H2;go_wp2_with fail;refine (bI P L l ⟨#[114,101,116,117,114,110]⟩ _ S2 H3.out).mono ?_;rintro e wn2 ⟨rfl,bn⟩;have S3:=aA (S2.out.on bn);have A3:=aA (aG A2.out (Nat.le_refl _) bn);have G3:=aA (aC G2.out bn);have hzn2:=bn.size;try simp only [World.size_alloc] at hzn2
  clear bn S2 A2 G2 H3;go_wp2_with fail;refine (bI P L l ⟨#[100,101,108,101,116,101]⟩ _ S3 H4.out).mono ?_;rintro e wn3 ⟨rfl,bn⟩;have S4:=aA (S3.out.on bn);have A4:=aA (aG A3.out (Nat.le_refl _) bn);have G4:=aA (aC G3.out bn);have hzn3:=bn.size;try simp only [World.size_alloc] at hzn3
  clear bn S3 A3 G3 H4;go_wp2_with fail;refine (HC.out _ S4).mono ?_;rintro e w2 ⟨⟨nv,kv,rfl,n2⟩,s2,b2⟩;obtain⟨a1,q1,a2,q2,rfl,rfl⟩:=aQ n2;have hz2:=b2.size;have hg4:=aF G4.out;have AA:=(Below.refl _ w2).alloc (Nat.le_refl _) (.cells (fX x (.slice a1 x.names.length q1) (.slice a2 x.kids.length q2)) 26);have S5:=aA (s2.on AA);have B5:=aA (((But.of (P:=P) A4.out).trans b2).trans (But.of AA));have G5:=aA (aC (aD G4.out b2 (by omega)) AA);have V5:=aA (aJ w2 26 (fX x (.slice a1 x.names.length q1) (.slice a2 x.kids.length q2)));have N5:=aA (bD (cR AA) (bJ hg4 n2));have HQ:=aA (fun w' (S:Hid (PSt P L w' l'))=>uL P L l' pre u x a1 a2 q1 q2 w' S HE.out);rw [HP.out] at HQ;clear s2 b2 n2 AA S4 A4 G4 HC HE HP;unfold gF at *
  unfold fX at *
  obtain⟨c0,c1,c2,c3,c4,c5,c6⟩:=aO V5.out;go_wp2_with fail;refine (HQ.out _ S5).mono ?_;rintro e w3 ⟨rfl,b3⟩;have S6:=aA (S5.out.on b3);have B6:=aA (B5.out.trans (But.of b3));have G6:=aA (aC G5.out b3);have V6:=aA (aC V5.out b3);have N6:=aA (bD (cR b3) N5.out);have hz3:=b3.size;simp only [World.size_alloc] at hz3;clear b3 S5 B5 G5 V5 N5 HQ c0 c1 c2 c3 c4 c5 c6;go_wp2_with fail;refine (bI P L l' ⟨#[61]⟩ _ S6 HX.out).mono ?_;rintro e w4 ⟨rfl,b4⟩;have S7:=aA (S6.out.on b4);have B7:=aA (B6.out.trans (But.of b4));have G7:=aA (aC G6.out b4);have V7:=aA (aC V6.out b4);have N7:=aA (bD (cR b4) N6.out);have hz4:=b4.size;clear b4 S6 B6 G6 V6 N6 HX;obtain⟨c0,c1,c2,c3,c4,c5,c6⟩:=aO V7.out;obtain⟨r0,r1,r2,r3,r4,r5,r6⟩:=aO G7.out;obtain⟨u0,u1,u2,u3,u4,u5,u6⟩:=bT G7.out;have hg9:=aF G7.out;have hv9:=aF V7.out;go_wp2_with fail;have Z:=jI (bX hP (Nat.le_refl _) S7.out B7.out G7.out (.int .i64 32) (.int .i64 0) (.int .i64 0) (.string ⟨#[]⟩) (.slice none 0 0) (.slice (some ⟨w4.heap.size,0,none⟩) 1 1) (.int .i64 0)) (.cells (fX x (.slice a1 x.names.length q1) (.slice a2 x.kids.length q2)) 26);have K:=rO (g:=w.heap.size) (T:=26) (Nat.lt_succ_self _) hg9 N7.out (.int .i64 32) (.int .i64 0) (.int .i64 0) (.string ⟨#[]⟩) (.slice none 0 0) (.slice (some ⟨w4.heap.size,0,none⟩) 1 1) (.int .i64 0);exact bodyPost_ret (cN rfl rfl Z.1) rfl ⟨⟨_,_,rfl,eS ⟨gN,hH (Nat.le_succ _) K⟩⟩,Z.2.1,Z.2.2⟩
end Go.Proofs.YtdnnmjhfidimcaaGreatDoor
