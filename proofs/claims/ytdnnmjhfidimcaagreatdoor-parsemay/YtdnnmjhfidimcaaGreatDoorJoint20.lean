/- A built-in call. A delete behind its key. -/
import Derived.Test.YtdnnmjhfidimcaaGreatDoorJoint19
import Derived.Test.YtdnnmjhfidimcaaGreatDoorJoint16
import Derived.Test.YtdnnmjhfidimcaaGreatDoorJoint12
import Derived.Test.YtdnnmjhfidimcaaGreatDoorJoint14
import Derived.Test.YtdnnmjhfidimcaaGreatDoorPsBetw
namespace Go.Proofs.YtdnnmjhfidimcaaGreatDoor
set_option maxRecDepth 100000
set_option maxHeartbeats 6400000
open Go.RowKit
theorem xI {l:List Tok} : ∀ {s:List Int},oK s l=none→∀ o∈s,bZ l (builtT o).1=false
 | [],_,o,ho=>by cases ho
 | a::s,h,o,ho=>by
  rw [oK] at h;split at h
  ·cases h
  ·rename_i hn;rcases List.mem_cons.1 ho with rfl | ho
   ·simpa using hn
   ·exact xI h o ho
theorem Gi (P:Nat) (L l:List Tok) (w:World) (H:Hid (PSt P L w l)) (hb:nS l=none) :
  Calls Tryz.prog 185 #[.pointer (some ⟨P,0,none⟩)] w (bR P L w (.bad l)):=by
 have HN:=aA (show ∀ j:Nat,1≤j→j≤7→bZ l (builtT (j:Int)).1=false from fun j h1 h2=>xI hb _ (by
  rcases (show j=1∨j=2∨j=3∨j=4∨j=5∨j=6∨j=7 by omega) with rfl | rfl | rfl | rfl | rfl | rfl | rfl<;>simp))
 have A:=aA ((Below.refl _ w).alloc (Nat.le_refl _) (.cells dK 26));have S0:=aA (H.out.on A.out);have B0:=aA (But.of (P:=P) A.out);unfold dK at *
 clear H hb A;go_enter Tryz.func185,Tryz.ntmps185;go_wp2_with fail;go_loopw [3] (fun i wr=>∃ j:Nat,1≤j∧j≤8∧i=.int .i64 j∧Hid (PSt P L wr l)∧Hid (But P w wr)) (fun i _=>8 - (intOf i).toNat)
 case atStart=>exact⟨1,by omega,by omega,rfl,S0.out,B0.out⟩
 case round=>
  obtain⟨j,hj1,hj,rfl,hS,hB⟩:=hrel;clear S0 B0;by_cases hj7:j≤7
  ·have HNj:=aA (show bZ l (⟨(builtT (j:Int)).1.toArray⟩:ByteArray).data.toList=false by simpa using HN.out j hj1 hj7);generalize hbt:builtT (j:Int)=bt at HNj;have HBC:=aA (fun w'=>nJ (j:Int) w');rw [hbt] at HBC;clear HN hbt;go_wp2_with fail;refine (HBC.out _).mono ?_;rintro e w1 ⟨rfl,rfl⟩;clear HBC;go_wp2_with fail;refine (bF P L l ⟨bt.1.toArray⟩ _ hS HNj.out).mono ?_;rintro e w2 ⟨rfl,b2⟩;have S2:=aA (hS.out.on b2);have B2:=aA (hB.out.trans (But.of b2));clear b2 hS hB HNj;go_wp2_with fail;go_roundw
   case rel=>exact⟨j+1,by omega,by omega,by go_num,S2.out,B2.out⟩
   case measure=>simp [intOf];omega
  ·clear HN;go_wp2_with fail;refine (lX P _).mono ?_;rintro e w3 ⟨rfl,rfl⟩;unfold aV;go_wp2_with fail;exact⟨rfl,rfl,hS.out,hB.out⟩
theorem DX {l:List Tok} {o:Int} (h:nS l=some o):∃ m:Nat,o=m∧1≤m∧m≤7∧bZ l (builtT (m:Int)).1=true∧∀ j:Nat,1≤j→j<m→bZ l (builtT (j:Int)).1=false:=by
 unfold nS at h;simp only [oK] at h;by_cases h1:bZ l (builtT 1).1=true
 ·rw [if_pos h1] at h;injection h with h;exact⟨1,h.symm,by omega,by omega,h1,fun j a b=>by omega⟩
 rw [if_neg h1] at h;by_cases h2:bZ l (builtT 2).1=true
 ·rw [if_pos h2] at h;injection h with h;refine⟨2,h.symm,by omega,by omega,h2,fun j a b=>?_⟩;obtain rfl:j=1:=by omega
  simpa using h1
 rw [if_neg h2] at h;by_cases h3:bZ l (builtT 3).1=true
 ·rw [if_pos h3] at h;injection h with h;refine⟨3,h.symm,by omega,by omega,h3,fun j a b=>?_⟩;obtain rfl | rfl:j=1∨j=2:=by omega
  ·simpa using h1
  ·simpa using h2
 rw [if_neg h3] at h;by_cases h4:bZ l (builtT 4).1=true
 ·rw [if_pos h4] at h;injection h with h;refine⟨4,h.symm,by omega,by omega,h4,fun j a b=>?_⟩;obtain rfl | rfl | rfl:j=1∨j=2∨j=3:=by omega
  ·simpa using h1
  ·simpa using h2
  ·simpa using h3
 rw [if_neg h4] at h;by_cases h5:bZ l (builtT 5).1=true
 ·rw [if_pos h5] at h;injection h with h;refine⟨5,h.symm,by omega,by omega,h5,fun j a b=>?_⟩;obtain rfl | rfl | rfl | rfl:j=1∨j=2∨j=3∨j=4:=by omega
  ·simpa using h1
  ·simpa using h2
  ·simpa using h3
  ·simpa using h4
 rw [if_neg h5] at h;by_cases h6:bZ l (builtT 6).1=true
 ·rw [if_pos h6] at h;injection h with h;refine⟨6,h.symm,by omega,by omega,h6,fun j a b=>?_⟩;obtain rfl | rfl | rfl | rfl | rfl:j=1∨j=2∨j=3∨j=4∨j=5:=by omega
  ·simpa using h1
  ·simpa using h2
  ·simpa using h3
  ·simpa using h4
  ·simpa using h5
 rw [if_neg h6] at h;by_cases h7:bZ l (builtT 7).1=true
 ·rw [if_pos h7] at h;injection h with h;refine⟨7,h.symm,by omega,by omega,h7,fun j a b=>?_⟩;obtain rfl | rfl | rfl | rfl | rfl | rfl:j=1∨j=2∨j=3∨j=4∨j=5∨j=6:=by omega
  ·simpa using h1
  ·simpa using h2
  ·simpa using h3
  ·simpa using h4
  ·simpa using h5
  ·simpa using h6
 rw [if_neg h7] at h;cases h
theorem Gj (o:PL) (m:Nat) (P:Nat) (L:List Tok) (t:Tok) (q:List Tok) (w:World) (hO:∀ w',Hid (PSt P L w' q)→Calls Tryz.prog 193 #[.pointer (some ⟨P,0,none⟩),.int .i64 (builtT (m:Int)).2] w' (zV P L w' o)) (H:Hid (PSt P L w (t::q))) (hm1:1≤m) (hm7:m≤7) (hy:gH t (builtT (m:Int)).1=true) (hn:∀ j:Nat,1≤j→j<m→gH t (builtT (j:Int)).1=false) :
  Calls Tryz.prog 185 #[.pointer (some ⟨P,0,none⟩)] w (bR P L w (o.bind fun _ ks l=>.ok (gK 17 m ks) false l)):=by
 have HN:=aA (show ∀ j:Nat,1≤j→j<m→bZ (t::q) (builtT (j:Int)).1=false from hn);have HY:=aA hy;have HD:=aA hO;have hP:=H.out.lt;have A:=aA ((Below.refl _ w).alloc (Nat.le_refl _) (.cells dK 26));have S0:=aA (H.out.on A.out);have G0:=aA (aI w 26 dK);have B0:=aA (But.of (P:=P) A.out);unfold dK at *
 clear H hy hn hO A;go_enter Tryz.func185,Tryz.ntmps185;go_wp2_with fail;go_loopw [3] (fun i wr=>∃ j:Nat,1≤j∧j≤m∧i=.int .i64 j∧Hid (PSt P L wr (t::q))∧Hid (But P w wr)∧Hid (dP w.heap.size 26 #[.int .i64 0,.int .i64 0,.int .i64 0,.string ⟨#[]⟩,.slice none 0 0,.slice none 0 0,.int .i64 0] wr)) (fun i _=>8 - (intOf i).toNat)
 case atStart=>exact⟨1,by omega,by omega,rfl,S0.out,B0.out,G0.out⟩
 case round=>
  obtain⟨j,hj1,hj,rfl,hS,hB,hG⟩:=hrel;clear S0 B0 G0;have hj7:j≤7:=by omega
  have hg1:=aF hG.out;by_cases hjm:j=m
  ·subst hjm;have HYj:=aA (show gH t (⟨(builtT (j:Int)).1.toArray⟩:ByteArray).data.toList=true by simpa using HY.out);have HBC:=aA (fun w'=>nJ (j:Int) w');generalize hbt:builtT (j:Int)=bt at HYj HBC HD;clear HN HY hbt;cases o with
   | bad l'=>
    go_wp2_with fail;refine (HBC.out _).mono ?_;rintro e w1 ⟨rfl,rfl⟩;clear HBC;go_wp2_with fail;refine (cQ P L t q ⟨bt.1.toArray⟩ _ hS HYj.out).mono ?_;rintro e w2 ⟨rfl,s2,b2⟩;have S2:=aA s2;have B2:=aA (hB.out.trans b2);clear s2 b2 hS hB hG HYj;go_wp2_with fail;refine (HD.out _ S2).mono ?_;rintro e w3 ⟨rfl,s3,b3⟩;have S3:=aA s3;have B3:=aA (B2.out.trans b3);clear s3 b3 S2 B2 HD;unfold aV;go_wp2_with fail;exact⟨rfl,rfl,S3.out,B3.out⟩
   | ok ns ks l'=>
    go_wp2_with fail;refine (HBC.out _).mono ?_;rintro e w1 ⟨rfl,rfl⟩;clear HBC;go_wp2_with fail;refine (cQ P L t q ⟨bt.1.toArray⟩ _ hS HYj.out).mono ?_;rintro e w2 ⟨rfl,s2,b2⟩;have S2:=aA s2;have B2:=aA (hB.out.trans b2);have G2:=aA (aD hG.out b2 (by omega));have hg2:=aF G2.out;clear s2 b2 hS hB hG HYj;go_wp2_with fail;refine (HD.out _ S2).mono ?_;rintro e w3 ⟨⟨kv,rfl,n3⟩,s3,b3⟩;obtain⟨a1,q1,rfl⟩:=tC n3;have S3:=aA s3;have B3:=aA (B2.out.trans b3);have G3:=aA (aD G2.out b3 (by omega));have N3:=aA (gR (lo':=w.heap.size+1) (by omega) n3);have hg3:=aF G3.out;obtain⟨r0,r1,r2,r3,r4,r5,r6⟩:=aN G3.out;obtain⟨u0,u1,u2,u3,u4,u5,u6⟩:=bP G3.out;clear s3 b3 n3 S2 B2 G2 HD;go_wp2_with fail;have Z:=bS hP (Nat.le_refl _) S3.out B3.out G3.out (.int .i64 17) (.int .i64 j) (.int .i64 0) (.string ⟨#[]⟩) (.slice none 0 0) (.slice a1 ks.length q1) (.int .i64 0);exact bodyPost_ret (cJ rfl rfl Z.1) rfl ⟨⟨_,_,rfl,eN ⟨gF,gR (Nat.le_succ _) (oC (cV w3 (Nat.lt_succ_self _) _ _ _ _ _ _ _) N3.out)⟩⟩,Z.2.1,Z.2.2⟩
  ·have HNj:=aA (show bZ (t::q) (⟨(builtT (j:Int)).1.toArray⟩:ByteArray).data.toList=false by simpa using HN.out j hj1 (by omega));generalize hbt:builtT (j:Int)=bt at HNj;have HBC:=aA (fun w'=>nJ (j:Int) w');rw [hbt] at HBC;clear HN HY HD hbt;go_wp2_with fail;refine (HBC.out _).mono ?_;rintro e w1 ⟨rfl,rfl⟩;clear HBC;go_wp2_with fail;refine (bF P L (t::q) ⟨bt.1.toArray⟩ _ hS HNj.out).mono ?_;rintro e w2 ⟨rfl,b2⟩;have S2:=aA (hS.out.on b2);have B2:=aA (hB.out.trans (But.of b2));have G2:=aA (aC hG.out b2);clear b2 hS hB hG HNj;go_wp2_with fail;go_roundw
   case rel=>exact⟨j+1,by omega,by omega,by go_num,S2.out,B2.out,G2.out⟩
   case measure=>simp [intOf];omega
theorem pR {lo:Nat} {w:World} {x:Nd} {nv kv:Value} (h:tP lo w x nv kv):FL lo w kv x.kids:=by
 obtain⟨k,o,n,s,ns,ks,p⟩:=x;exact (In h).2
theorem yI {P:Nat} {L l l':List Tok} {w:World} {x:Nd} {b:Bool} (H:PSt P L w l) (h:Q1 l x b l'):∃ pre u,pre++u::l'=L∧plB x u=decide (b=true∧x.kind≠5)∧QJ x u=b:=by
 obtain⟨_,pre,u,rfl,_,h1,h2⟩:=h;obtain⟨p0,hp0⟩:=H.suf;refine⟨p0++pre,u,by rw [← hp0];simp,?_,?_⟩
 ·unfold plB;cases b with
  | true=>
   have hb:=h2 rfl;have ht:u.text.data.toList≠[41]:=(h1 hb).1 rfl;have ht':(u.text.data.toList==[41])=false:=by simpa using ht
   rw [ht'];rcases hb with h | h | h<;>simp [h]
  | false=>
   by_cases hb:kA x
   ·have ht:u.text.data.toList=[41]:=by
     apply Classical.byContradiction;intro hn;cases (h1 hb).2 hn
    simp [ht]
   ·unfold kA at hb;simp only [not_or] at hb;simp [hb.2.1,hb.2.2]
 ·unfold QJ plB;cases b with
  | true=>
   have hb:=h2 rfl;have ht:u.text.data.toList≠[41]:=(h1 hb).1 rfl;have ht':(u.text.data.toList==[41])=false:=by simpa using ht
   rw [ht'];rcases hb with h | h | h<;>simp [h]
  | false=>
   by_cases hb:kA x
   ·have ht:u.text.data.toList=[41]:=by
     apply Classical.byContradiction;intro hn;cases (h1 hb).2 hn
    simp [ht]
   ·unfold kA at hb;simp only [not_or] at hb;simp [hb.1,hb.2.1,hb.2.2]
def Om (f:Nat) (l:List Tok):PR:=(kG f l).bind fun e b l=>if b=true∧e.kind≠5 then .ok (if e.kind=13 then tN 25 e.str e.kids else hJ 26 e.kids) false l else .bad l
theorem Kl (f:Nat) (hR:BE f) (P:Nat) (L l:List Tok) (w:World) (hf:20*l.length+3≤f) (H:Hid (PSt P L w l)) :
  Calls Tryz.prog 132 #[.pointer (some ⟨P,0,none⟩)] w (bR P L w (Om f l)):=by
 have A:=aA ((Below.refl _ w).alloc (Nat.le_refl _) (.cells dK 26));have S0:=aA (H.out.on A.out);have G0:=aA (aI w 26 dK);have hP:=H.out.lt;have HC:=aA (fun w' S=>hR P L l w' hf S);have HM:=aA ((yF f).post l (jX H.out));have HL:=aA (fun (x:Nd) (b:Bool) (l':List Tok) (h:Q1 l x b l')=>yI H.out h);unfold dK at *
 unfold Om;clear H hR;cases hq:kG f l with
 | bad l'=>
  rw [hq] at HC;rw [PR.bind_bad];clear HM HL;go_enter Tryz.func132,Tryz.ntmps132;go_wp2_with fail;refine (HC.out _ S0).mono ?_;rintro e w2 ⟨rfl,s2,b2⟩;have S9:=aA s2;have B9:=aA ((But.of A.out).trans b2);clear s2 b2 S0 A G0 HC;unfold aV;go_wp2_with fail;exact⟨rfl,rfl,S9.out,B9.out⟩
 | ok x b l'=>
  rw [hq] at HC HM;rw [PR.bind_ok];obtain⟨pre,u,he,hp,_⟩:=HL.out x b l' HM.out;have HE:=aA he;clear he HL HM;by_cases hb:b=true∧x.kind≠5
  ·rw [if_pos hb];have hp':plB x u=true:=by rw [hp];simpa using hb
   have HP:=aA hp';have hbk:=hb.2;have h34:x.kind=13∨x.kind=14:=by
    unfold plB at hp';simp at hp';exact hp'.1
   clear hp hp' hb hbk;by_cases h13:x.kind=13
   ·rw [if_pos h13];have H13:=aA h13;have h13b:(x.kind==13)=true:=by simp [h13]
    clear h13 h34;go_enter Tryz.func132,Tryz.ntmps132;go_wp2_with fail;refine (HC.out _ S0).mono ?_;rintro e w1 ⟨⟨nv,kv,rfl,n1⟩,s1,b1⟩;obtain⟨a1,q1,a2,q2,rfl,rfl⟩:=aP n1;have hz1:=b1.size;simp only [World.size_alloc] at hz1;have AA:=(Below.refl _ w1).alloc (Nat.le_refl _) (.cells (fL x (.slice a1 x.names.length q1) (.slice a2 x.kids.length q2)) 26);have S1:=aA (s1.on AA);have B1:=aA (((But.of (P:=P) A.out).trans b1).trans (But.of AA));have G1:=aA (aC (aD G0.out b1 (by omega)) AA);have V1:=aA (aI w1 26 (fL x (.slice a1 x.names.length q1) (.slice a2 x.kids.length q2)));have N1:=aA (aY (bO AA) (bE (lo':=w.heap.size+1) (by simp) n1));have HQ:=aA (fun w' (S:Hid (PSt P L w' l'))=>pG P L l' pre u x a1 a2 q1 q2 w' S HE.out);rw [HP.out] at HQ;clear s1 b1 n1 AA S0 A G0 HC HE HP;unfold fR at *
    unfold fL at *
    obtain⟨c0,c1,c2,c3,c4,c5,c6⟩:=aN V1.out;go_wp2_with fail;refine (HQ.out _ S1).mono ?_;rintro e w2 ⟨rfl,b2⟩;have S2:=aA (S1.out.on b2);have B2:=aA (B1.out.trans (But.of b2));have G2:=aA (aC G1.out b2);have V2:=aA (aC V1.out b2);have N2:=aA (aY (bO b2) N1.out);have hz2:=b2.size;simp only [World.size_alloc] at hz2;clear b2 S1 B1 G1 V1 N1 HQ c0 c1 c2 c3 c4 c5 c6;obtain⟨c0,c1,c2,c3,c4,c5,c6⟩:=aN V2.out;obtain⟨r0,r1,r2,r3,r4,r5,r6⟩:=aN G2.out;obtain⟨u0,u1,u2,u3,u4,u5,u6⟩:=bP G2.out;have hg2:=aF G2.out;have hv2:=aF V2.out;go_wp2_with fail;have Z:=bS hP (Nat.le_refl _) S2.out B2.out G2.out (.int .i64 25) (.int .i64 0) (.int .i64 0) (.string x.str) (.slice none 0 0) (.slice a2 x.kids.length q2) (.int .i64 0);exact bodyPost_ret (cJ rfl rfl Z.1) rfl ⟨⟨_,_,rfl,eN ⟨gF,gR (Nat.le_succ _) (oC (cV w2 (Nat.lt_succ_self _) _ _ _ _ _ _ _) (pR N2.out))⟩⟩,Z.2.1,Z.2.2⟩
   ·rw [if_neg h13];have h13b:(x.kind==13)=false:=by simp [h13]
    clear h13 h34;go_enter Tryz.func132,Tryz.ntmps132;go_wp2_with fail;refine (HC.out _ S0).mono ?_;rintro e w1 ⟨⟨nv,kv,rfl,n1⟩,s1,b1⟩;obtain⟨a1,q1,a2,q2,rfl,rfl⟩:=aP n1;have hz1:=b1.size;simp only [World.size_alloc] at hz1;have AA:=(Below.refl _ w1).alloc (Nat.le_refl _) (.cells (fL x (.slice a1 x.names.length q1) (.slice a2 x.kids.length q2)) 26);have S1:=aA (s1.on AA);have B1:=aA (((But.of (P:=P) A.out).trans b1).trans (But.of AA));have G1:=aA (aC (aD G0.out b1 (by omega)) AA);have V1:=aA (aI w1 26 (fL x (.slice a1 x.names.length q1) (.slice a2 x.kids.length q2)));have N1:=aA (aY (bO AA) (bE (lo':=w.heap.size+1) (by simp) n1));have HQ:=aA (fun w' (S:Hid (PSt P L w' l'))=>pG P L l' pre u x a1 a2 q1 q2 w' S HE.out);rw [HP.out] at HQ;clear s1 b1 n1 AA S0 A G0 HC HE HP;unfold fR at *
    unfold fL at *
    obtain⟨c0,c1,c2,c3,c4,c5,c6⟩:=aN V1.out;go_wp2_with fail;refine (HQ.out _ S1).mono ?_;rintro e w2 ⟨rfl,b2⟩;have S2:=aA (S1.out.on b2);have B2:=aA (B1.out.trans (But.of b2));have G2:=aA (aC G1.out b2);have V2:=aA (aC V1.out b2);have N2:=aA (aY (bO b2) N1.out);have hz2:=b2.size;simp only [World.size_alloc] at hz2;clear b2 S1 B1 G1 V1 N1 HQ c0 c1 c2 c3 c4 c5 c6;obtain⟨c0,c1,c2,c3,c4,c5,c6⟩:=aN V2.out;obtain⟨r0,r1,r2,r3,r4,r5,r6⟩:=aN G2.out;obtain⟨u0,u1,u2,u3,u4,u5,u6⟩:=bP G2.out;have hg2:=aF G2.out;have hv2:=aF V2.out;go_wp2_with fail;have Z:=bS hP (Nat.le_refl _) S2.out B2.out G2.out (.int .i64 26) (.int .i64 0) (.int .i64 0) (.string ⟨#[]⟩) (.slice none 0 0) (.slice a2 x.kids.length q2) (.int .i64 0);exact bodyPost_ret (cJ rfl rfl Z.1) rfl ⟨⟨_,_,rfl,eN ⟨gF,gR (Nat.le_succ _) (oC (cV w2 (Nat.lt_succ_self _) _ _ _ _ _ _ _) (pR N2.out))⟩⟩,Z.2.1,Z.2.2⟩
  ·rw [if_neg hb];have HP:=aA (show plB x u=false by rw [hp];simpa using hb);clear hp hb;go_enter Tryz.func132,Tryz.ntmps132;go_wp2_with fail;refine (HC.out _ S0).mono ?_;rintro e w1 ⟨⟨nv,kv,rfl,n1⟩,s1,b1⟩;obtain⟨a1,q1,a2,q2,rfl,rfl⟩:=aP n1;have hz1:=b1.size;simp only [World.size_alloc] at hz1;have AA:=(Below.refl _ w1).alloc (Nat.le_refl _) (.cells (fL x (.slice a1 x.names.length q1) (.slice a2 x.kids.length q2)) 26);have S1:=aA (s1.on AA);have B1:=aA (((But.of (P:=P) A.out).trans b1).trans (But.of AA));have G1:=aA (aC (aD G0.out b1 (by omega)) AA);have V1:=aA (aI w1 26 (fL x (.slice a1 x.names.length q1) (.slice a2 x.kids.length q2)));have N1:=aA (aY (bO AA) (bE (lo':=w.heap.size+1) (by simp) n1));have HQ:=aA (fun w' (S:Hid (PSt P L w' l'))=>pG P L l' pre u x a1 a2 q1 q2 w' S HE.out);rw [HP.out] at HQ;clear s1 b1 n1 AA S0 A G0 HC HE HP;unfold fR at *
   unfold fL at *
   obtain⟨c0,c1,c2,c3,c4,c5,c6⟩:=aN V1.out;go_wp2_with fail;refine (HQ.out _ S1).mono ?_;rintro e w2 ⟨rfl,b2⟩;have S2:=aA (S1.out.on b2);have B2:=aA (B1.out.trans (But.of b2));have G2:=aA (aC G1.out b2);have V2:=aA (aC V1.out b2);have N2:=aA (aY (bO b2) N1.out);have hz2:=b2.size;simp only [World.size_alloc] at hz2;clear b2 S1 B1 G1 V1 N1 HQ c0 c1 c2 c3 c4 c5 c6;obtain⟨c0,c1,c2,c3,c4,c5,c6⟩:=aN V2.out;obtain⟨r0,r1,r2,r3,r4,r5,r6⟩:=aN G2.out;obtain⟨u0,u1,u2,u3,u4,u5,u6⟩:=bP G2.out;have hg2:=aF G2.out;have hv2:=aF V2.out;go_wp2_with fail;refine (lX P w2).mono ?_;rintro e w3 ⟨rfl,rfl⟩;unfold aV;go_wp2_with fail;exact⟨rfl,rfl,S2.out,B2.out⟩
end Go.Proofs.YtdnnmjhfidimcaaGreatDoor
