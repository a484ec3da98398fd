/- A built-in call. A delete behind its key. -/
import Derived.Test.YtdnnmjhfidimcaaGreatDoorJoint17
import Derived.Test.YtdnnmjhfidimcaaGreatDoorJoint14
import Derived.Test.YtdnnmjhfidimcaaGreatDoorJoint11
import Derived.Test.YtdnnmjhfidimcaaGreatDoorJoint13
import Derived.Test.YtdnnmjhfidimcaaGreatDoorPsBetw
namespace Go.Proofs.YtdnnmjhfidimcaaGreatDoor
open Go.RowKit

theorem Szk {l:List Tok} : ∀ {s:List Int},Czg s l=none→∀ o∈s,isH l (builtT o).1=false
 | [],_,o,ho=>by cases ho
 | a::s,h,o,ho=>by
  rw [Czg] at h;split at h
  ·cases h
  ·rename_i hn;rcases List.mem_cons.1 ho with rfl | ho
   ·simpa using hn
   ·exact Szk h o ho

set_option maxRecDepth 100000 in
set_option maxHeartbeats 6400000 in
theorem Jzr (P:Nat) (L l:List Tok) (w:World) (H:Hid (PSt P L w l)) (hb:lzg l=none) :
  Calls Tryz.prog 185 #[.pointer (some ⟨P,0,none⟩)] w (Sza P L w (.bad l)):=by
 have HN:=hid (show ∀ j:Nat,1≤j→j≤7→isH l (builtT (j:Int)).1=false from fun j h1 h2=>Szk hb _ (by
  rcases (show j=1∨j=2∨j=3∨j=4∨j=5∨j=6∨j=7 by omega) with rfl | rfl | rfl | rfl | rfl | rfl | rfl<;>simp))
 have A:=hid ((Below.refl _ w).alloc (Nat.le_refl _) (.cells znd 26));have S0:=hid (H.out.on A.out);have B0:=hid (But.of (P:=P) A.out);unfold znd at *
 clear H hb A;go_enter Tryz.func185,Tryz.ntmps185;go_wp2_with fail;go_loopw [3] (fun i wr=>∃ j:Nat,1≤j∧j≤8∧i=.int .i64 j∧Hid (PSt P L wr l)∧Hid (But P w wr)) (fun i _=>8 - (intOf i).toNat)
 case atStart=>exact⟨1,by omega,by omega,rfl,S0.out,B0.out⟩
 case round=>
  obtain⟨j,hj1,hj,rfl,hS,hB⟩:=hrel;clear S0 B0;by_cases hj7:j≤7
  ·have HNj:=hid (show isH l (⟨(builtT (j:Int)).1.toArray⟩:ByteArray).data.toList=false by simpa using HN.out j hj1 hj7);generalize hbt:builtT (j:Int)=bt at HNj;have HBC:=hid (fun w'=>czg (j:Int) w');rw [hbt] at HBC;clear HN hbt;go_wp2_with fail;refine (HBC.out _).mono ?_;rintro e w1 ⟨rfl,rfl⟩;clear HBC;go_wp2_with fail;refine (Hza P L l ⟨bt.1.toArray⟩ _ hS HNj.out).mono ?_;rintro e w2 ⟨rfl,b2⟩;have S2:=hid (hS.out.on b2);have B2:=hid (hB.out.trans (But.of b2));clear b2 hS hB HNj;go_wp2_with fail;go_roundw
   case rel=>exact⟨j+1,by omega,by omega,by go_num,S2.out,B2.out⟩
   case measure=>simp [intOf];omega
  ·clear HN;go_wp2_with fail;refine (szf P _).mono ?_;rintro e w3 ⟨rfl,rfl⟩;unfold uza;go_wp2_with fail;exact⟨rfl,rfl,hS.out,hB.out⟩

theorem Hzp {l:List Tok} {o:Int} (h:lzg l=some o):∃ m:Nat,o=m∧1≤m∧m≤7∧isH l (builtT (m:Int)).1=true∧∀ j:Nat,1≤j→j<m→isH l (builtT (j:Int)).1=false:=by
 unfold lzg at h;simp only [Czg] at h;by_cases h1:isH l (builtT 1).1=true
 ·rw [if_pos h1] at h;injection h with h;exact⟨1,h.symm,by omega,by omega,h1,fun j a b=>by omega⟩
 rw [if_neg h1] at h;by_cases h2:isH l (builtT 2).1=true
 ·rw [if_pos h2] at h;injection h with h;refine⟨2,h.symm,by omega,by omega,h2,fun j a b=>?_⟩;obtain rfl:j=1:=by omega
  simpa using h1
 rw [if_neg h2] at h;by_cases h3:isH l (builtT 3).1=true
 ·rw [if_pos h3] at h;injection h with h;refine⟨3,h.symm,by omega,by omega,h3,fun j a b=>?_⟩;obtain rfl | rfl:j=1∨j=2:=by omega
  ·simpa using h1
  ·simpa using h2
 rw [if_neg h3] at h;by_cases h4:isH l (builtT 4).1=true
 ·rw [if_pos h4] at h;injection h with h;refine⟨4,h.symm,by omega,by omega,h4,fun j a b=>?_⟩;obtain rfl | rfl | rfl:j=1∨j=2∨j=3:=by omega
  ·simpa using h1
  ·simpa using h2
  ·simpa using h3
 rw [if_neg h4] at h;by_cases h5:isH l (builtT 5).1=true
 ·rw [if_pos h5] at h;injection h with h;refine⟨5,h.symm,by omega,by omega,h5,fun j a b=>?_⟩;obtain rfl | rfl | rfl | rfl:j=1∨j=2∨j=3∨j=4:=by omega
  ·simpa using h1
  ·simpa using h2
  ·simpa using h3
  ·simpa using h4
 rw [if_neg h5] at h;by_cases h6:isH l (builtT 6).1=true
 ·rw [if_pos h6] at h;injection h with h;refine⟨6,h.symm,by omega,by omega,h6,fun j a b=>?_⟩;obtain rfl | rfl | rfl | rfl | rfl:j=1∨j=2∨j=3∨j=4∨j=5:=by omega
  ·simpa using h1
  ·simpa using h2
  ·simpa using h3
  ·simpa using h4
  ·simpa using h5
 rw [if_neg h6] at h;by_cases h7:isH l (builtT 7).1=true
 ·rw [if_pos h7] at h;injection h with h;refine⟨7,h.symm,by omega,by omega,h7,fun j a b=>?_⟩;obtain rfl | rfl | rfl | rfl | rfl | rfl:j=1∨j=2∨j=3∨j=4∨j=5∨j=6:=by omega
  ·simpa using h1
  ·simpa using h2
  ·simpa using h3
  ·simpa using h4
  ·simpa using h5
  ·simpa using h6
 rw [if_neg h7] at h;cases h

set_option maxRecDepth 100000 in
set_option maxHeartbeats 6400000 in
theorem Kzr (o:PL) (m:Nat) (P:Nat) (L:List Tok) (t:Tok) (q:List Tok) (w:World) (hO:∀ w',Hid (PSt P L w' q)→Calls Tryz.prog 193 #[.pointer (some ⟨P,0,none⟩),.int .i64 (builtT (m:Int)).2] w' (Yzl P L w' o)) (H:Hid (PSt P L w (t::q))) (hm1:1≤m) (hm7:m≤7) (hy:isT t (builtT (m:Int)).1=true) (hn:∀ j:Nat,1≤j→j<m→isT t (builtT (j:Int)).1=false) :
  Calls Tryz.prog 185 #[.pointer (some ⟨P,0,none⟩)] w (Sza P L w (o.bind fun _ ks l=>.ok (ndO 17 m ks) false l)):=by
 have HN:=hid (show ∀ j:Nat,1≤j→j<m→isH (t::q) (builtT (j:Int)).1=false from hn);have HY:=hid hy;have HD:=hid hO;have hP:=H.out.lt;have A:=hid ((Below.refl _ w).alloc (Nat.le_refl _) (.cells znd 26));have S0:=hid (H.out.on A.out);have G0:=hid (iza w 26 znd);have B0:=hid (But.of (P:=P) A.out);unfold znd at *
 clear H hy hn hO A;go_enter Tryz.func185,Tryz.ntmps185;go_wp2_with fail;go_loopw [3] (fun i wr=>∃ j:Nat,1≤j∧j≤m∧i=.int .i64 j∧Hid (PSt P L wr (t::q))∧Hid (But P w wr)∧Hid (Blk w.heap.size 26 #[.int .i64 0,.int .i64 0,.int .i64 0,.string ⟨#[]⟩,.slice none 0 0,.slice none 0 0,.int .i64 0] wr)) (fun i _=>8 - (intOf i).toNat)
 case atStart=>exact⟨1,by omega,by omega,rfl,S0.out,B0.out,G0.out⟩
 case round=>
  obtain⟨j,hj1,hj,rfl,hS,hB,hG⟩:=hrel;clear S0 B0 G0;have hj7:j≤7:=by omega
  have hg1:=fza hG.out;by_cases hjm:j=m
  ·subst hjm;have HYj:=hid (show isT t (⟨(builtT (j:Int)).1.toArray⟩:ByteArray).data.toList=true by simpa using HY.out);have HBC:=hid (fun w'=>czg (j:Int) w');generalize hbt:builtT (j:Int)=bt at HYj HBC HD;clear HN HY hbt;cases o with
   | bad l'=>
    go_wp2_with fail;refine (HBC.out _).mono ?_;rintro e w1 ⟨rfl,rfl⟩;clear HBC;go_wp2_with fail;refine (szb P L t q ⟨bt.1.toArray⟩ _ hS HYj.out).mono ?_;rintro e w2 ⟨rfl,s2,b2⟩;have S2:=hid s2;have B2:=hid (hB.out.trans b2);clear s2 b2 hS hB hG HYj;go_wp2_with fail;refine (HD.out _ S2).mono ?_;rintro e w3 ⟨rfl,s3,b3⟩;have S3:=hid s3;have B3:=hid (B2.out.trans b3);clear s3 b3 S2 B2 HD;unfold uza;go_wp2_with fail;exact⟨rfl,rfl,S3.out,B3.out⟩
   | ok ns ks l'=>
    go_wp2_with fail;refine (HBC.out _).mono ?_;rintro e w1 ⟨rfl,rfl⟩;clear HBC;go_wp2_with fail;refine (szb P L t q ⟨bt.1.toArray⟩ _ hS HYj.out).mono ?_;rintro e w2 ⟨rfl,s2,b2⟩;have S2:=hid s2;have B2:=hid (hB.out.trans b2);have G2:=hid (dza hG.out b2 (by omega));have hg2:=fza G2.out;clear s2 b2 hS hB hG HYj;go_wp2_with fail;refine (HD.out _ S2).mono ?_;rintro e w3 ⟨⟨kv,rfl,n3⟩,s3,b3⟩;obtain⟨a1,q1,rfl⟩:=Qzi n3;have S3:=hid s3;have B3:=hid (B2.out.trans b3);have G3:=hid (dza G2.out b3 (by omega));have N3:=hid (lzd (lo':=w.heap.size+1) (by omega) n3);have hg3:=fza G3.out;obtain⟨r0,r1,r2,r3,r4,r5,r6⟩:=oza G3.out;obtain⟨u0,u1,u2,u3,u4,u5,u6⟩:=Qza G3.out;clear s3 b3 n3 S2 B2 G2 HD;go_wp2_with fail;have Z:=Tza hP (Nat.le_refl _) S3.out B3.out G3.out (.int .i64 17) (.int .i64 j) (.int .i64 0) (.string ⟨#[]⟩) (.slice none 0 0) (.slice a1 ks.length q1) (.int .i64 0);exact bodyPost_ret (jzb rfl rfl Z.1) rfl ⟨⟨_,_,rfl,mzc ⟨bzd,lzd (Nat.le_succ _) (uzg (yzb w3 (Nat.lt_succ_self _) _ _ _ _ _ _ _) N3.out)⟩⟩,Z.2.1,Z.2.2⟩
  ·have HNj:=hid (show isH (t::q) (⟨(builtT (j:Int)).1.toArray⟩:ByteArray).data.toList=false by simpa using HN.out j hj1 (by omega));generalize hbt:builtT (j:Int)=bt at HNj;have HBC:=hid (fun w'=>czg (j:Int) w');rw [hbt] at HBC;clear HN HY HD hbt;go_wp2_with fail;refine (HBC.out _).mono ?_;rintro e w1 ⟨rfl,rfl⟩;clear HBC;go_wp2_with fail;refine (Hza P L (t::q) ⟨bt.1.toArray⟩ _ hS HNj.out).mono ?_;rintro e w2 ⟨rfl,b2⟩;have S2:=hid (hS.out.on b2);have B2:=hid (hB.out.trans (But.of b2));have G2:=hid (bza hG.out b2);clear b2 hS hB hG HNj;go_wp2_with fail;go_roundw
   case rel=>exact⟨j+1,by omega,by omega,by go_num,S2.out,B2.out,G2.out⟩
   case measure=>simp [intOf];omega

end Go.Proofs.YtdnnmjhfidimcaaGreatDoor

namespace Go.Proofs.YtdnnmjhfidimcaaGreatDoor
open Go.RowKit

theorem jzh {lo:Nat} {w:World} {x:Nd} {nv kv:Value} (h:NdR lo w x nv kv):KdR lo w kv x.kids:=by
 obtain⟨k,o,n,s,ns,ks,p⟩:=x;exact (Uzs h).2
theorem rzl {P:Nat} {L l l':List Tok} {w:World} {x:Nd} {b:Bool} (H:PSt P L w l) (h:Q1 l x b l'):∃ pre u,pre++u::l'=L∧plB x u=decide (b=true∧x.kind≠5)∧caB x u=b:=by
 obtain⟨_,pre,u,rfl,_,h1,h2⟩:=h;obtain⟨p0,hp0⟩:=H.suf;refine⟨p0++pre,u,by rw [← hp0];simp,?_,?_⟩
 ·unfold plB;cases b with
  | true=>
   have hb:=h2 rfl;have ht:u.text.data.toList≠[41]:=(h1 hb).1 rfl;have ht':(u.text.data.toList==[41])=false:=by simpa using ht
   rw [ht'];rcases hb with h | h | h<;>simp [h]
  | false=>
   by_cases hb:xze x
   ·have ht:u.text.data.toList=[41]:=by
     apply Classical.byContradiction;intro hn;cases (h1 hb).2 hn
    simp [ht]
   ·unfold xze at hb;simp only [not_or] at hb;simp [hb.2.1,hb.2.2]
 ·unfold caB plB;cases b with
  | true=>
   have hb:=h2 rfl;have ht:u.text.data.toList≠[41]:=(h1 hb).1 rfl;have ht':(u.text.data.toList==[41])=false:=by simpa using ht
   rw [ht'];rcases hb with h | h | h<;>simp [h]
  | false=>
   by_cases hb:xze x
   ·have ht:u.text.data.toList=[41]:=by
     apply Classical.byContradiction;intro hn;cases (h1 hb).2 hn
    simp [ht]
   ·unfold xze at hb;simp only [not_or] at hb;simp [hb.1,hb.2.1,hb.2.2]

def szy (f:Nat) (l:List Tok):PR:=(Cze f l).bind fun e b l=>if b=true∧e.kind≠5 then .ok (if e.kind=13 then ndS 25 e.str e.kids else ndK 26 e.kids) false l else .bad l

set_option maxRecDepth 100000 in
set_option maxHeartbeats 3200000 in
theorem Lzu (f:Nat) (hR:vzn f) (P:Nat) (L l:List Tok) (w:World) (hf:20*l.length+3≤f) (H:Hid (PSt P L w l)) :
  Calls Tryz.prog 132 #[.pointer (some ⟨P,0,none⟩)] w (Sza P L w (szy f l)):=by
 have A:=hid ((Below.refl _ w).alloc (Nat.le_refl _) (.cells znd 26));have S0:=hid (H.out.on A.out);have G0:=hid (iza w 26 znd);have hP:=H.out.lt;have HC:=hid (fun w' S=>hR P L l w' hf S);have HM:=hid ((may f).post l (uze H.out));have HL:=hid (fun (x:Nd) (b:Bool) (l':List Tok) (h:Q1 l x b l')=>rzl H.out h);unfold znd at *
 unfold szy;clear H hR;cases hq:Cze f l with
 | bad l'=>
  rw [hq] at HC;rw [PR.bind_bad];clear HM HL;go_enter Tryz.func132,Tryz.ntmps132;go_wp2_with fail;refine (HC.out _ S0).mono ?_;rintro e w2 ⟨rfl,s2,b2⟩;have S9:=hid s2;have B9:=hid ((But.of A.out).trans b2);clear s2 b2 S0 A G0 HC;unfold uza;go_wp2_with fail;exact⟨rfl,rfl,S9.out,B9.out⟩
 | ok x b l'=>
  rw [hq] at HC HM;rw [PR.bind_ok];obtain⟨pre,u,he,hp,_⟩:=HL.out x b l' HM.out;have HE:=hid he;clear he HL HM;by_cases hb:b=true∧x.kind≠5
  ·rw [if_pos hb];have hp':plB x u=true:=by rw [hp];simpa using hb
   have HP:=hid hp';have hbk:=hb.2;have h34:x.kind=13∨x.kind=14:=by
    unfold plB at hp';simp at hp';exact hp'.1
   clear hp hp' hb hbk;by_cases h13:x.kind=13
   ·rw [if_pos h13];have H13:=hid h13;have h13b:(x.kind==13)=true:=by simp [h13]
    clear h13 h34;go_enter Tryz.func132,Tryz.ntmps132;go_wp2_with fail;refine (HC.out _ S0).mono ?_;rintro e w1 ⟨⟨nv,kv,rfl,n1⟩,s1,b1⟩;obtain⟨a1,q1,a2,q2,rfl,rfl⟩:=pza n1;have hz1:=b1.size;simp only [World.size_alloc] at hz1;have AA:=(Below.refl _ w1).alloc (Nat.le_refl _) (.cells (ndc x (.slice a1 x.names.length q1) (.slice a2 x.kids.length q2)) 26);have S1:=hid (s1.on AA);have B1:=hid (((But.of (P:=P) A.out).trans b1).trans (But.of AA));have G1:=hid (bza (dza G0.out b1 (by omega)) AA);have V1:=hid (iza w1 26 (ndc x (.slice a1 x.names.length q1) (.slice a2 x.kids.length q2)));have N1:=hid (xza (Pza AA) (Gza (lo':=w.heap.size+1) (by simp) n1));have HQ:=hid (fun w' (S:Hid (PSt P L w' l'))=>Xzg P L l' pre u x a1 a2 q1 q2 w' S HE.out);rw [HP.out] at HQ;clear s1 b1 n1 AA S0 A G0 HC HE HP;unfold ndv at *
    unfold ndc at *
    obtain⟨c0,c1,c2,c3,c4,c5,c6⟩:=oza V1.out;go_wp2_with fail;refine (HQ.out _ S1).mono ?_;rintro e w2 ⟨rfl,b2⟩;have S2:=hid (S1.out.on b2);have B2:=hid (B1.out.trans (But.of b2));have G2:=hid (bza G1.out b2);have V2:=hid (bza V1.out b2);have N2:=hid (xza (Pza b2) N1.out);have hz2:=b2.size;simp only [World.size_alloc] at hz2;clear b2 S1 B1 G1 V1 N1 HQ c0 c1 c2 c3 c4 c5 c6;obtain⟨c0,c1,c2,c3,c4,c5,c6⟩:=oza V2.out;obtain⟨r0,r1,r2,r3,r4,r5,r6⟩:=oza G2.out;obtain⟨u0,u1,u2,u3,u4,u5,u6⟩:=Qza G2.out;have hg2:=fza G2.out;have hv2:=fza V2.out;go_wp2_with fail;have Z:=Tza hP (Nat.le_refl _) S2.out B2.out G2.out (.int .i64 25) (.int .i64 0) (.int .i64 0) (.string x.str) (.slice none 0 0) (.slice a2 x.kids.length q2) (.int .i64 0);exact bodyPost_ret (jzb rfl rfl Z.1) rfl ⟨⟨_,_,rfl,mzc ⟨bzd,lzd (Nat.le_succ _) (uzg (yzb w2 (Nat.lt_succ_self _) _ _ _ _ _ _ _) (jzh N2.out))⟩⟩,Z.2.1,Z.2.2⟩
   ·rw [if_neg h13];have h13b:(x.kind==13)=false:=by simp [h13]
    clear h13 h34;go_enter Tryz.func132,Tryz.ntmps132;go_wp2_with fail;refine (HC.out _ S0).mono ?_;rintro e w1 ⟨⟨nv,kv,rfl,n1⟩,s1,b1⟩;obtain⟨a1,q1,a2,q2,rfl,rfl⟩:=pza n1;have hz1:=b1.size;simp only [World.size_alloc] at hz1;have AA:=(Below.refl _ w1).alloc (Nat.le_refl _) (.cells (ndc x (.slice a1 x.names.length q1) (.slice a2 x.kids.length q2)) 26);have S1:=hid (s1.on AA);have B1:=hid (((But.of (P:=P) A.out).trans b1).trans (But.of AA));have G1:=hid (bza (dza G0.out b1 (by omega)) AA);have V1:=hid (iza w1 26 (ndc x (.slice a1 x.names.length q1) (.slice a2 x.kids.length q2)));have N1:=hid (xza (Pza AA) (Gza (lo':=w.heap.size+1) (by simp) n1));have HQ:=hid (fun w' (S:Hid (PSt P L w' l'))=>Xzg P L l' pre u x a1 a2 q1 q2 w' S HE.out);rw [HP.out] at HQ;clear s1 b1 n1 AA S0 A G0 HC HE HP;unfold ndv at *
    unfold ndc at *
    obtain⟨c0,c1,c2,c3,c4,c5,c6⟩:=oza V1.out;go_wp2_with fail;refine (HQ.out _ S1).mono ?_;rintro e w2 ⟨rfl,b2⟩;have S2:=hid (S1.out.on b2);have B2:=hid (B1.out.trans (But.of b2));have G2:=hid (bza G1.out b2);have V2:=hid (bza V1.out b2);have N2:=hid (xza (Pza b2) N1.out);have hz2:=b2.size;simp only [World.size_alloc] at hz2;clear b2 S1 B1 G1 V1 N1 HQ c0 c1 c2 c3 c4 c5 c6;obtain⟨c0,c1,c2,c3,c4,c5,c6⟩:=oza V2.out;obtain⟨r0,r1,r2,r3,r4,r5,r6⟩:=oza G2.out;obtain⟨u0,u1,u2,u3,u4,u5,u6⟩:=Qza G2.out;have hg2:=fza G2.out;have hv2:=fza V2.out;go_wp2_with fail;have Z:=Tza hP (Nat.le_refl _) S2.out B2.out G2.out (.int .i64 26) (.int .i64 0) (.int .i64 0) (.string ⟨#[]⟩) (.slice none 0 0) (.slice a2 x.kids.length q2) (.int .i64 0);exact bodyPost_ret (jzb rfl rfl Z.1) rfl ⟨⟨_,_,rfl,mzc ⟨bzd,lzd (Nat.le_succ _) (uzg (yzb w2 (Nat.lt_succ_self _) _ _ _ _ _ _ _) (jzh N2.out))⟩⟩,Z.2.1,Z.2.2⟩
  ·rw [if_neg hb];have HP:=hid (show plB x u=false by rw [hp];simpa using hb);clear hp hb;go_enter Tryz.func132,Tryz.ntmps132;go_wp2_with fail;refine (HC.out _ S0).mono ?_;rintro e w1 ⟨⟨nv,kv,rfl,n1⟩,s1,b1⟩;obtain⟨a1,q1,a2,q2,rfl,rfl⟩:=pza n1;have hz1:=b1.size;simp only [World.size_alloc] at hz1;have AA:=(Below.refl _ w1).alloc (Nat.le_refl _) (.cells (ndc x (.slice a1 x.names.length q1) (.slice a2 x.kids.length q2)) 26);have S1:=hid (s1.on AA);have B1:=hid (((But.of (P:=P) A.out).trans b1).trans (But.of AA));have G1:=hid (bza (dza G0.out b1 (by omega)) AA);have V1:=hid (iza w1 26 (ndc x (.slice a1 x.names.length q1) (.slice a2 x.kids.length q2)));have N1:=hid (xza (Pza AA) (Gza (lo':=w.heap.size+1) (by simp) n1));have HQ:=hid (fun w' (S:Hid (PSt P L w' l'))=>Xzg P L l' pre u x a1 a2 q1 q2 w' S HE.out);rw [HP.out] at HQ;clear s1 b1 n1 AA S0 A G0 HC HE HP;unfold ndv at *
   unfold ndc at *
   obtain⟨c0,c1,c2,c3,c4,c5,c6⟩:=oza V1.out;go_wp2_with fail;refine (HQ.out _ S1).mono ?_;rintro e w2 ⟨rfl,b2⟩;have S2:=hid (S1.out.on b2);have B2:=hid (B1.out.trans (But.of b2));have G2:=hid (bza G1.out b2);have V2:=hid (bza V1.out b2);have N2:=hid (xza (Pza b2) N1.out);have hz2:=b2.size;simp only [World.size_alloc] at hz2;clear b2 S1 B1 G1 V1 N1 HQ c0 c1 c2 c3 c4 c5 c6;obtain⟨c0,c1,c2,c3,c4,c5,c6⟩:=oza V2.out;obtain⟨r0,r1,r2,r3,r4,r5,r6⟩:=oza G2.out;obtain⟨u0,u1,u2,u3,u4,u5,u6⟩:=Qza G2.out;have hg2:=fza G2.out;have hv2:=fza V2.out;go_wp2_with fail;refine (szf P w2).mono ?_;rintro e w3 ⟨rfl,rfl⟩;unfold uza;go_wp2_with fail;exact⟨rfl,rfl,S2.out,B2.out⟩

end Go.Proofs.YtdnnmjhfidimcaaGreatDoor
