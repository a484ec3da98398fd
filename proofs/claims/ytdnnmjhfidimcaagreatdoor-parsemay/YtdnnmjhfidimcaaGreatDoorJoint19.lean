/- The list of a call's arguments. The parts of a built-in call. A call's arguments. A list with any closure. There is an end among a text's tokens, and each has a place. -/
import Derived.Test.YtdnnmjhfidimcaaGreatDoorJoint16
import Derived.Test.YtdnnmjhfidimcaaGreatDoorJoint18
import Derived.Test.YtdnnmjhfidimcaaGreatDoorJoint4
namespace Go.Proofs.YtdnnmjhfidimcaaGreatDoor
set_option maxRecDepth 100000
set_option maxHeartbeats 12800000
open Go.RowKit
def FX (P kb pb lo:Nat) (L:List Tok) (ok:Nat→Prop) (ks:List Nd) (w:World) (out:PR) (e:Ending) (w':World):Prop:=
 match out with
 | .ok x _ l=>e=.returned (.tuple #[])∧(∃ v',dP kb 24 #[v'] w'∧jC lo ok w' v' (ks++[x]))∧dP pb 43 #[.pointer (some ⟨P,0,none⟩)] w'∧PSt P L w' l∧ButLo lo P w w'
 | .bad l=>e=aV∧PSt P L w' l∧ButLo lo P w w'
def yH (P kb pb lo:Nat) (L:List Tok) (ok:Nat→Prop) (w:World) (out:PL) (e:Ending) (w':World):Prop:=
 match out with
 | .ok _ ks l=>e=.returned (.tuple #[])∧(∃ v',dP kb 24 #[v'] w'∧jC lo ok w' v' ks)∧dP pb 43 #[.pointer (some ⟨P,0,none⟩)] w'∧PSt P L w' l∧ButLo lo P w w'
 | .bad l=>e=aV∧PSt P L w' l∧ButLo lo P w w'
def CA (f P kb pb lo:Nat) (L:List Tok) (ok:Nat→Prop):Prop:=∀ (l:List Tok) (v:Value) (ks:List Nd) (w:World),20*l.length+10≤f→ks.length≤40→lo≤w.heap.size→
 Hid (PSt P L w l)→Hid (dP kb 24 #[v] w)→Hid (dP pb 43 #[.pointer (some ⟨P,0,none⟩)] w)→Hid (jC lo ok w v ks)→
 Calls Tryz.prog 188 #[.pointer (some ⟨kb,0,none⟩),.pointer (some ⟨pb,0,none⟩)] w (FX P kb pb lo L ok ks w (aS f 1 l))
theorem FY (P kb pb lo:Nat) (L:List Tok) (ok:Nat→Prop) (t:Tok) (q:List Tok) (v:Value) (ks:List Nd) (w:World) (hlw:lo≤w.heap.size) (hkp:kb≠P) (hpp:pb≠P) (hok:¬ ok P)
  (H:Hid (PSt P L w (t::q))) (HK:Hid (dP kb 24 #[v] w)) (HQ:Hid (dP pb 43 #[.pointer (some ⟨P,0,none⟩)] w)) (HR:Hid (jC lo ok w v ks)) (ht:gH t [41]=true) :
  Calls Tryz.prog 187 #[.pointer (some ⟨P,0,none⟩),.int .i64 6,.string ⟨#[41]⟩,.func (.func 188) #[] #[.pointer (some ⟨kb,0,none⟩),.pointer (some ⟨pb,0,none⟩)]] w (yH P kb pb lo L ok w (.ok [] ks q)):=by
 have HT:=aA ht;clear ht;go_enter Tryz.func187,Tryz.ntmps187;go_wp2_with fail;refine (cQ P L t q ⟨#[41]⟩ _ H HT.out).mono ?_;rintro e w1 ⟨rfl,s1,b1⟩;have S1:=aA s1;have K1:=aA (aD HK.out b1 hkp);have Q1':=aA (aD HQ.out b1 hpp);have R1:=aA (dR HR.out b1 hok);have B1:=aA (ButLo.of (lo:=lo) b1 hlw);clear s1 b1 H HK HQ HR HT;go_wp2_with fail;go_end0
 exact⟨rfl,⟨v,K1.out,R1.out⟩,Q1'.out,S1.out,B1.out⟩
theorem zY {g:Nat} {ks:List Nd} {m:List Tok} (h:¬ (ks.length<7∧bZ m [44]=true)):iB (g+1) ks m=mustL [41] m fun l=>.ok [] ks l:=by rw [iB,if_neg h]
theorem FZ {g:Nat} {ks:List Nd} {t:Tok} {z:List Tok} (h:ks.length<7∧bZ (t::z) [44]=true):iB (g+1) ks (t::z)=(aS g 1 z).bindL fun e _ l=>iB g (ks++[e]) l:=by rw [iB,if_pos h];rfl
theorem zZ {f r:Nat} {l:List Tok} {P:Nat} {L:List Tok} {w:World} (H:PSt P L w l) {x:Nd} {b:Bool} {l':List Tok} (h:aS f r l=.ok x b l'):l'.length+1≤l.length:=by
 have:=(yF f).rank r l (jX H);rw [h] at this;obtain⟨_,pre,u,e,_⟩:=this;rw [e];simp
theorem Ml (f P kb pb lo:Nat) (L:List Tok) (ok:Nat→Prop) (hC:CA f P kb pb lo L ok) (l:List Tok) (v:Value) (ks:List Nd) (w:World) (hf:20*l.length+10≤f) (hk:ks.length≤1) (hlw:lo≤w.heap.size)
  (H:Hid (PSt P L w l)) (HK:Hid (dP kb 24 #[v] w)) (HQ:Hid (dP pb 43 #[.pointer (some ⟨P,0,none⟩)] w)) (HR:Hid (jC lo ok w v ks)) (hn:bZ l [41]=false) (l1:List Tok) (hq:aS f 1 l=.bad l1) :
  Calls Tryz.prog 187 #[.pointer (some ⟨P,0,none⟩),.int .i64 6,.string ⟨#[41]⟩,.func (.func 188) #[] #[.pointer (some ⟨kb,0,none⟩),.pointer (some ⟨pb,0,none⟩)]] w (yH P kb pb lo L ok w (.bad l1)):=by
 have HN:=aA (show bZ l (⟨#[41]⟩:ByteArray).data.toList=false from hn);have HC:=aA hC;clear hC hn;go_enter Tryz.func187,Tryz.ntmps187;go_wp2_with fail;refine (bF P L l ⟨#[41]⟩ _ H HN.out).mono ?_;rintro e w1 ⟨rfl,b1⟩;have S1:=aA (H.out.on b1);have K1:=aA (aC HK.out b1);have Q1':=aA (aC HQ.out b1);have R1:=aA (bD HR.out b1);have B1:=aA (ButLo.of (lo:=lo) (But.of (P:=P) b1) hlw);have hz1:=b1.size;clear b1 H HK HQ HR HN;go_wp2_with fail;have CC:=HC.out l v ks w1 hf (by omega) (by omega) S1 K1 Q1' R1;rw [hq] at CC;refine CC.mono ?_;rintro e w2 ⟨rfl,s2,b2⟩;have S2:=aA s2;have B2:=aA (B1.out.trans b2);clear s2 b2 CC S1 K1 Q1' R1 B1 HC;unfold aV;go_wp2_with fail;exact⟨rfl,rfl,S2.out,B2.out⟩
theorem JZ (f P kb pb lo:Nat) (L:List Tok) (ok:Nat→Prop) (hC:∀ g,g≤f→CA g P kb pb lo L ok) (l:List Tok) (v:Value) (ks:List Nd) (w:World) (hf:20*l.length+10≤f) (hk:ks.length=1) (hlw:lo≤w.heap.size) (hkp:kb≠P) (hpp:pb≠P) (hok:¬ ok P)
  (H:Hid (PSt P L w l)) (HK:Hid (dP kb 24 #[v] w)) (HQ:Hid (dP pb 43 #[.pointer (some ⟨P,0,none⟩)] w)) (HR:Hid (jC lo ok w v ks)) (hn:bZ l [41]=false) (x:Nd) (b:Bool) (l1:List Tok) (hq:aS f 1 l=.ok x b l1) :
  Calls Tryz.prog 187 #[.pointer (some ⟨P,0,none⟩),.int .i64 6,.string ⟨#[41]⟩,.func (.func 188) #[] #[.pointer (some ⟨kb,0,none⟩),.pointer (some ⟨pb,0,none⟩)]] w (yH P kb pb lo L ok w (iB f (ks++[x]) l1)):=by
 have HN:=aA (show bZ l (⟨#[41]⟩:ByteArray).data.toList=false from hn);have HC:=aA hC;have hl1:=zZ H.out hq;clear hC hn;go_enter Tryz.func187,Tryz.ntmps187;go_wp2_with fail;refine (bF P L l ⟨#[41]⟩ _ H HN.out).mono ?_;rintro e w1 ⟨rfl,b1⟩;have S1:=aA (H.out.on b1);have K1:=aA (aC HK.out b1);have Q1':=aA (aC HQ.out b1);have R1:=aA (bD HR.out b1);have B1:=aA (ButLo.of (lo:=lo) (But.of (P:=P) b1) hlw);have hz1:=b1.size;clear b1 H HK HQ HR HN;go_wp2_with fail;have CC:=HC.out f (Nat.le_refl _) l v ks w1 hf (by omega) (by omega) S1 K1 Q1' R1;rw [hq] at CC;refine CC.mono ?_;rintro e w2 ⟨rfl,⟨v2,k2,r2⟩,q2,s2,b2⟩;have K2:=aA k2;have R2:=aA r2;have Q2:=aA q2;have S2:=aA s2;have B2:=aA (B1.out.trans b2);clear k2 r2 q2 s2 b2 CC S1 K1 Q1' R1 B1;go_wp2_with fail;go_loopw [8] (fun i wr=>∃ (g:Nat) (ks':List Nd) (m:List Tok) (v':Value) (n:Nat),Hid (iB f (ks++[x]) l1=iB g ks' m)∧i=.int .i64 n∧n+1=ks'.length∧ks'.length≤7∧20*m.length+25≤g∧g≤f∧Hid (PSt P L wr m)∧Hid (dP kb 24 #[v'] wr)∧Hid (dP pb 43 #[.pointer (some ⟨P,0,none⟩)] wr)∧Hid (jC lo ok wr v' ks')∧Hid (ButLo lo P w wr)) (fun _ wr=>eU P L wr)
 case atStart=>exact⟨f,ks++[x],l1,v2,1,(show Hid (_=_) from rfl),rfl,by simp [hk],by simp [hk],by omega,Nat.le_refl _,S2.out,K2.out,Q2.out,R2.out,B2.out⟩
 case round=>
  obtain⟨g,ks',m,v',n,hE,rfl,hn,hk7,hgm,hgf,hS,hK,hQ,hR,hB⟩:=hrel;clear S2 K2 Q2 R2 B2;obtain⟨g,rfl⟩:∃ g',g=g'+1:=⟨g - 1,by omega⟩
  have hzr:=hB.out.size;have LW:=aA (eO hS.out);by_cases h7:ks'.length<7
  ·by_cases h44:bZ m [44]=true
   ·obtain⟨u,z,rfl,hu⟩:=aX h44;have HE:=aA (hE.out.trans (FZ ⟨h7,h44⟩));have HU:=aA hu;have hzl:20*z.length+10≤g:=by simp at hgm;omega
    clear hE h44 hu;cases hq2:aS g 1 z with
    | bad l3=>
     rw [hq2] at HE;go_wp2_with fail;refine (cQ P L u z ⟨#[44]⟩ _ hS HU.out).mono ?_;rintro e w3 ⟨rfl,s3,b3⟩;have S3:=aA s3;have K3:=aA (aD hK.out b3 hkp);have Q3':=aA (aD hQ.out b3 hpp);have R3:=aA (dR hR.out b3 hok);have B3:=aA (hB.out.trans (ButLo.of b3 (by omega)));have hz3:=b3.size;clear s3 b3 hS hK hQ hR hB HU LW;go_wp2_with fail;have CC:=HC.out g (by omega) z v' ks' w3 hzl (by omega) (by omega) S3 K3 Q3' R3;rw [hq2] at CC;refine CC.mono ?_;rintro e w4 ⟨rfl,s4,b4⟩;have S4:=aA s4;have B4:=aA (B3.out.trans b4);clear s4 b4 CC S3 K3 Q3' R3 B3 HC;unfold aV;go_wp2_with fail;refine⟨rfl,?_⟩;rw [HE.out];exact⟨rfl,S4.out,B4.out⟩
    | ok y b3 l3=>
     have HL3:=aA (fun (w':World) (S:PSt P L w' z)=>zZ S hq2);rw [hq2] at HE;go_wp2_with fail;refine (cQ P L u z ⟨#[44]⟩ _ hS HU.out).mono ?_;rintro e w3 ⟨rfl,s3,b3⟩;have hl3:=HL3.out w3 s3;have S3:=aA s3;have K3:=aA (aD hK.out b3 hkp);have Q3':=aA (aD hQ.out b3 hpp);have R3:=aA (dR hR.out b3 hok);have B3:=aA (hB.out.trans (ButLo.of b3 (by omega)));have hz3:=b3.size;clear s3 b3 hS hK hQ hR hB HU HL3;go_wp2_with fail;have CC:=HC.out g (by omega) z v' ks' w3 hzl (by omega) (by omega) S3 K3 Q3' R3;rw [hq2] at CC;refine CC.mono ?_;rintro e w4 ⟨rfl,⟨v4,k4,r4⟩,q4,s4,b4⟩;have K4:=aA k4;have R4:=aA r4;have Q4:=aA q4;have S4:=aA s4;have B4:=aA (B3.out.trans b4);have HLE:=aA (show eU P L w4<eU P L wr by rw [eO s4,LW.out];simp;omega);have HE4:=aA (HE.out.trans (PR.bindL_ok y b3 l3 _));clear k4 r4 q4 s4 b4 CC S3 K3 Q3' R3 B3 HE LW;go_wp2_with fail;go_roundw
     case rel=>exact⟨g,ks'++[y],l3,v4,n+1,HE4.out,by go_num,by simp;omega,by simp;omega,by simp at hgm;omega,by omega,S4.out,K4.out,Q4.out,R4.out,B4.out⟩
     case measure=>exact HLE.out
   ·have hE':=hE.out.trans (zY (fun h=>h44 h.2));have H44:=aA (show bZ m (⟨#[44]⟩:ByteArray).data.toList=false by simpa using h44);clear hE h44 HC LW;by_cases he:bZ m [41]=true
    ·obtain⟨u,z,rfl,hu⟩:=aX he;have HE:=aA (hE'.trans (show _=PL.ok [] ks' z by unfold Go.Proofs.YtdnnmjhfidimcaaGreatDoor.mustL;rw [if_pos he];rfl));have HU:=aA hu;clear hE' he hu;go_wp2_with fail;refine (bF P L (u::z) ⟨#[44]⟩ _ hS H44.out).mono ?_;rintro e w4 ⟨rfl,b4⟩;have S4:=aA (hS.out.on b4);have K4:=aA (aC hK.out b4);have Q4:=aA (aC hQ.out b4);have R4:=aA (bD hR.out b4);have B4:=aA (hB.out.trans (ButLo.of (But.of (P:=P) b4) (by omega)));have hz4:=b4.size;clear b4 H44;go_wp2_with fail;refine (dI P L u z ⟨#[41]⟩ _ S4 HU.out).mono ?_;rintro e w5 ⟨rfl,s5,b5⟩;have S5:=aA s5;have K5:=aA (aD K4.out b5 hkp);have Q5:=aA (aD Q4.out b5 hpp);have R5:=aA (dR R4.out b5 hok);have B5:=aA (B4.out.trans (ButLo.of b5 (by omega)));clear s5 b5;go_wp2_with fail;go_end0
     rw [HE.out];exact⟨rfl,⟨_,K5.out,R5.out⟩,Q5.out,S5.out,B5.out⟩
    ·have HE:=aA (hE'.trans (show _=PL.bad m by unfold Go.Proofs.YtdnnmjhfidimcaaGreatDoor.mustL;rw [if_neg he]));have HN:=aA (show bZ m (⟨#[41]⟩:ByteArray).data.toList=false by simpa using he);clear hE' he;go_wp2_with fail;refine (bF P L m ⟨#[44]⟩ _ hS H44.out).mono ?_;rintro e w4 ⟨rfl,b4⟩;have S4:=aA (hS.out.on b4);have K4:=aA (aC hK.out b4);have Q4:=aA (aC hQ.out b4);have R4:=aA (bD hR.out b4);have B4:=aA (hB.out.trans (ButLo.of (But.of (P:=P) b4) (by omega)));have hz4:=b4.size;clear b4 H44;go_wp2_with fail;refine (iI P L m ⟨#[41]⟩ _ S4 HN.out).mono ?_;rintro e w5 ⟨rfl,b5⟩;have S5:=aA (S4.out.on b5);have B5:=aA (B4.out.trans (ButLo.of (But.of (P:=P) b5) (by omega)));clear b5;unfold aV;go_wp2_with fail;refine⟨rfl,?_⟩;rw [HE.out];exact⟨rfl,S5.out,B5.out⟩
  ·have hE':=hE.out.trans (zY (fun h=>h7 h.1));clear hE HC LW;by_cases he:bZ m [41]=true
   ·obtain⟨u,z,rfl,hu⟩:=aX he;have HE:=aA (hE'.trans (show _=PL.ok [] ks' z by unfold Go.Proofs.YtdnnmjhfidimcaaGreatDoor.mustL;rw [if_pos he];rfl));have HU:=aA hu;clear hE' he hu;go_wp2_with fail;refine (dI P L u z ⟨#[41]⟩ _ hS HU.out).mono ?_;rintro e w5 ⟨rfl,s5,b5⟩;have S5:=aA s5;have K5:=aA (aD hK.out b5 hkp);have Q5:=aA (aD hQ.out b5 hpp);have R5:=aA (dR hR.out b5 hok);have B5:=aA (hB.out.trans (ButLo.of b5 (by omega)));clear s5 b5;go_wp2_with fail;go_end0
    rw [HE.out];exact⟨rfl,⟨_,K5.out,R5.out⟩,Q5.out,S5.out,B5.out⟩
   ·have HE:=aA (hE'.trans (show _=PL.bad m by unfold Go.Proofs.YtdnnmjhfidimcaaGreatDoor.mustL;rw [if_neg he]));have HN:=aA (show bZ m (⟨#[41]⟩:ByteArray).data.toList=false by simpa using he);clear hE' he;go_wp2_with fail;refine (iI P L m ⟨#[41]⟩ _ hS HN.out).mono ?_;rintro e w5 ⟨rfl,b5⟩;have S5:=aA (hS.out.on b5);have B5:=aA (hB.out.trans (ButLo.of (But.of (P:=P) b5) (by omega)));clear b5;unfold aV;go_wp2_with fail;refine⟨rfl,?_⟩;rw [HE.out];exact⟨rfl,S5.out,B5.out⟩
def gX (f:Nat):Nat→List Nd→List Tok→PL
 | 0,ks,l=>mustL [41] l fun l=>.ok [] ks l
 | n+1,ks,l=>mustL [44] l fun l=>(aS f 1 l).bindL fun e _ l=>gX f n (ks++[e]) l
def rS (f m:Nat) (l:List Tok):PL:=mustL [40] l fun l=>(aS f 1 l).bindL fun e _ l=>gX f (m - 1) [e] l
theorem DY {lo:Nat} {ok:Nat→Prop} {w:World} {x:Nd} {nv kv:Value} (hl:lo≤w.heap.size) (hg:ok w.heap.size) (N:rI ok w x nv kv):jC lo ok (w.alloc (.cells (fL x nv kv) 26)) (.slice (some ⟨w.heap.size,0,none⟩) 1 1) [x]:=by
 have AL:=(Below.refl _ w).alloc (Nat.le_refl _) (.cells (fL x nv kv) 26);refine⟨oX x nv kv,⟨rfl,.inr ⟨w.heap.size,1,fL x nv kv,rfl,hl,heap_alloc_new w _,Nat.le_refl _,by unfold maxLen;decide,rfl,rfl⟩⟩,⟨nv,kv,[],by simp,gU (fun b hb=>⟨⟨hb.1,by have:=hb.2;simp;omega,by have:=hb.2;simp [Value.ownBlock];omega⟩,AL.block b hb.2⟩) _ _ _ N,rfl⟩,fun g h=>?_⟩;simp [Value.ownBlock] at h;exact h▸hg
theorem BG {f r:Nat} {l:List Tok} {P:Nat} {L:List Tok} {w:World} (H:PSt P L w l) {x:Nd} {b:Bool} {l':List Tok} (h:aS f r l=.ok x b l'):l'.length+1≤l.length:=by
 have:=(yF f).rank r l (jX H);rw [h] at this;obtain⟨_,pre,u,e,_⟩:=this;rw [e];simp
theorem Kg (f:Nat) (hR:gS f) (P:Nat) (L:List Tok) (t:Tok) (q:List Tok) (m:Nat) (w:World) (hm:1≤m∧m≤2) (hf:20*q.length+10≤f) (H:Hid (PSt P L w (t::q))) (ht:gH t [40]=true) :
  Calls Tryz.prog 193 #[.pointer (some ⟨P,0,none⟩),.int .i64 m] w (zV P L w ((aS f 1 q).bindL fun e _ l=>gX f (m - 1) [e] l)):=by
 have HR:=aA (show ∀ (q:List Tok) (w':World),20*q.length+10≤f→Hid (PSt P L w' q)→Calls Tryz.prog 24 #[.pointer (some ⟨P,0,none⟩)] w' (bR P L w' (aS f 1 q)) from fun q w' hq S=>hR 1 P L q w' (by omega) (by omega) (by omega) S);have HT:=aA ht;have hP:=H.out.lt;clear ht hR;cases hq:aS f 1 q with
 | bad l'=>
  rw [PR.bindL_bad];have HC:=aA (fun w' S=>HR.out q w' hf S);rw [hq] at HC;clear HR;go_enter Tryz.func193,Tryz.ntmps193;go_wp2_with fail;refine (dI P L t q ⟨#[40]⟩ _ H HT.out).mono ?_;rintro e w1 ⟨rfl,s1,b1⟩;have S1:=aA s1;have B1:=aA b1;clear s1 b1 H HT;go_wp2_with fail;refine (HC.out _ S1).mono ?_;rintro e w2 ⟨rfl,s2,b2⟩;have S2:=aA s2;have B2:=aA (B1.out.trans b2);clear s2 b2 S1 B1 HC;unfold aV;go_wp2_with fail;exact⟨rfl,rfl,S2.out,B2.out⟩
 | ok x b l1=>
  rw [PR.bindL_ok];have HC:=aA (fun w' S=>HR.out q w' hf S);rw [hq] at HC;have HL1:=aA (fun (w':World) (S:PSt P L w' q)=>BG S hq);go_enter Tryz.func193,Tryz.ntmps193;go_wp2_with fail;refine (dI P L t q ⟨#[40]⟩ _ H HT.out).mono ?_;rintro e w1 ⟨rfl,s1,b1⟩;have hl1:=HL1.out w1 s1;have S1:=aA s1;have B1:=aA b1;have hz1:=b1.size;clear s1 b1 H HT HL1;go_wp2_with fail;refine (HC.out _ S1).mono ?_;rintro e w2 ⟨⟨nv,kv,rfl,n2⟩,s2,b2⟩;obtain⟨a1,q1,a2,q2,rfl,rfl⟩:=aP n2;have hz2:=b2.size;have AL:=(Below.refl _ w2).alloc (Nat.le_refl _) (.cells (fL x (.slice a1 x.names.length q1) (.slice a2 x.kids.length q2)) 26);have S2:=aA (s2.on AL);have B2:=aA ((B1.out.trans b2).trans (But.of AL));have K2:=aA (DY (lo:=w.heap.size) (ok:=(fun b=>w.heap.size≤b)) (by omega) (by show w.heap.size≤w2.heap.size;omega) (jO n2 (fun b h1 h2=>by show w.heap.size≤b;omega)));clear s2 b2 n2 AL S1 B1 HC;unfold fR;unfold fL at *
  go_wp2_with fail;go_loopw [5] (fun v wr=>∃ (n:Nat) (ks:List Nd) (l':List Tok),Hid (gX f (m - 1) [x] l1=gX f n ks l')∧ks.length+n=m∧20*l'.length+10≤f∧Hid (jC w.heap.size (fun b=>w.heap.size≤b) wr v ks)∧Hid (PSt P L wr l')∧Hid (But P w wr)) (fun _ wr=>eU P L wr)
  case atStart=>exact⟨m - 1,[x],l1,(show Hid (_=_) from rfl),by simp;omega,by omega,K2.out,S2.out,B2.out⟩
  case round=>
   obtain⟨n,ks,l',hE,hn,hf',hK,hS,hB⟩:=hrel;obtain⟨ao,cap,rfl⟩:=iR hK.out;clear K2 S2 B2;have hsz:=hB.out.size;have LW:=aA (eO hS.out);cases n with
   | zero=>
    have hnl:¬ (ks.length<m):=by omega
    have hkm:ks.length≤2:=by omega
    clear HR LW;by_cases hh:bZ l' [41]=true
    ·obtain⟨u,z,rfl,hu⟩:=aX hh;have HE:=aA (hE.out.trans (show gX f 0 ks (u::z)=.ok [] ks z by rw [gX];unfold Go.Proofs.YtdnnmjhfidimcaaGreatDoor.mustL;rw [if_pos hh];rfl));have HU:=aA hu;clear hE hh hu;go_wp2_with fail;refine (dI P L u z ⟨#[41]⟩ _ hS HU.out).mono ?_;rintro e w3 ⟨rfl,s3,b3⟩;have S3:=aA s3;have B3:=aA (hB.out.trans b3);have K3:=aA (dR hK.out b3 (by omega));clear s3 b3 hS hB hK HU;go_wp2_with fail;go_ret;rw [HE.out];exact⟨⟨_,rfl,jT K3.out⟩,S3.out,B3.out⟩
    ·have HE:=aA (hE.out.trans (show gX f 0 ks l'=.bad l' by rw [gX];unfold Go.Proofs.YtdnnmjhfidimcaaGreatDoor.mustL;rw [if_neg hh]));have HN:=aA (show bZ l' (⟨#[41]⟩:ByteArray).data.toList=false by simpa using hh);clear hE hh;go_wp2_with fail;refine (iI P L l' ⟨#[41]⟩ _ hS HN.out).mono ?_;rintro e w3 ⟨rfl,b3⟩;have S3:=aA (hS.out.on b3);have B3:=aA (hB.out.trans (But.of b3));clear b3 hS hB hK HN;unfold aV;go_wp2_with fail;refine⟨rfl,?_⟩;rw [HE.out];exact⟨rfl,S3.out,B3.out⟩
   | succ n=>
    have hnl:ks.length<m:=by omega
    have hkm:ks.length≤2:=by omega
    by_cases hh:bZ l' [44]=true
    ·obtain⟨u,z,rfl,hu⟩:=aX hh;have HE:=aA (hE.out.trans (show gX f (n+1) ks (u::z)=(aS f 1 z).bindL fun e _ l=>gX f n (ks++[e]) l by rw [gX];unfold Go.Proofs.YtdnnmjhfidimcaaGreatDoor.mustL;rw [if_pos hh];rfl));have HU:=aA hu;have hfz:20*z.length+10≤f:=by simp at hf';omega
     have HC:=aA (fun w' S=>HR.out z w' hfz S);clear hE hh hu HR;cases hq2:aS f 1 z with
     | bad l3=>
      rw [hq2] at HC HE;clear LW;go_wp2_with fail;refine (dI P L u z ⟨#[44]⟩ _ hS HU.out).mono ?_;rintro e w3 ⟨rfl,s3,b3⟩;have S3:=aA s3;have B3:=aA (hB.out.trans b3);clear s3 b3 hS hB hK HU;go_wp2_with fail;refine (HC.out _ S3).mono ?_;rintro e w4 ⟨rfl,s4,b4⟩;have S4:=aA s4;have B4:=aA (B3.out.trans b4);clear s4 b4 S3 B3 HC;unfold aV;go_wp2_with fail;refine⟨rfl,?_⟩;rw [HE.out];exact⟨rfl,S4.out,B4.out⟩
     | ok y b3 l3=>
      have HL3:=aA (fun (w':World) (S:PSt P L w' z)=>BG S hq2);rw [hq2] at HC HE;go_wp2_with fail;refine (dI P L u z ⟨#[44]⟩ _ hS HU.out).mono ?_;rintro e w3 ⟨rfl,s3,b3⟩;have hl3:=HL3.out w3 s3;have S3:=aA s3;have B3:=aA (hB.out.trans b3);have K3:=aA (dR hK.out b3 (by omega));have hz3:=b3.size;clear s3 b3 hS hB hK HU HL3;go_wp2_with fail;refine (HC.out _ S3).mono ?_;rintro e w4 ⟨⟨nv,kv,rfl,n4⟩,s4,b4⟩;obtain⟨b1,p1,b2,p2,rfl,rfl⟩:=aP n4;have S4:=aA s4;have B4:=aA (B3.out.trans b4);have K4:=aA (dR K3.out b4 (by omega));have hz4:=b4.size;have hzb:=B3.out.size;have HO:=aA (bA K3.out);have Y4:=aA (show wG (Fb (fun b=>w.heap.size≤b) (.slice ao ks.length cap) w4) w4 y (.slice b1 y.names.length p1) (.slice b2 y.kids.length p2) from gU (fun k hk=>⟨⟨by have:=hk.1;omega,hk.2,fun e=>by have:=HO.out k e.symm;have:=hk.1;omega⟩,rfl⟩) _ _ _ n4);clear s4 b4 n4 S3 B3 K3 HC;have AL:=(Below.refl _ w4).alloc (Nat.le_refl _) (.cells (fL y (.slice b1 y.names.length p1) (.slice b2 y.kids.length p2)) 26);have S4':=aA (S4.out.on AL);have B4':=aA (B4.out.trans (But.of AL));have HO4:=aA (bA K4.out);clear AL S4 B4;unfold fR;unfold fL at S4' B4';go_wp2_with (at_builtin;refine Ir rfl _ _ rfl w.heap.size (fun b=>w.heap.size≤b) ks y b1 b2 p1 p2 _ rfl _ (by rfl) K4.out Y4.out _ (by rfl) (by simp) (by omega) (by omega) (fun k hk=>by omega) ?_)
      intro v5 w5 k5 gr5;have S5:=aA (eP S4'.out (gG gr5 (by simp;omega) (fun k hk=>by have:=(HO4.out k hk).2.1;omega)));have B5:=aA (show But P w w5 from⟨gr5.os.trans B4'.out.os,gr5.tape.trans B4'.out.tape,gr5.output.trans B4'.out.output,Nat.le_trans B4'.out.size gr5.size,fun k h1 h2=>(gr5.block k (by have:=B4'.out.size;omega) (fun e=>by have:=(HO4.out k e.symm).2.1;omega)).trans (B4'.out.block k h1 h2)⟩);have K5:=aA k5;have HLE:=aA (show eU P L w5<eU P L wr by rw [eO S5.out,LW.out];simp;omega);have HE5:=aA (HE.out.trans (PR.bindL_ok y b3 l3 _));clear k5 gr5 S4' B4' K4 Y4 HO4 HO HE LW;go_wp2_with fail;go_roundw
      case rel=>exact⟨n,ks++[y],l3,HE5.out,by simp;omega,by omega,K5.out,S5.out,B5.out⟩
      case measure=>exact HLE.out
    ·have HE:=aA (hE.out.trans (show gX f (n+1) ks l'=.bad l' by rw [gX];unfold Go.Proofs.YtdnnmjhfidimcaaGreatDoor.mustL;rw [if_neg hh]));have HN:=aA (show bZ l' (⟨#[44]⟩:ByteArray).data.toList=false by simpa using hh);clear hE hh LW HR;go_wp2_with fail;refine (iI P L l' ⟨#[44]⟩ _ hS HN.out).mono ?_;rintro e w3 ⟨rfl,b3⟩;have S3:=aA (hS.out.on b3);have B3:=aA (hB.out.trans (But.of b3));clear b3 hS hB hK HN;unfold aV;go_wp2_with fail;refine⟨rfl,?_⟩;rw [HE.out];exact⟨rfl,S3.out,B3.out⟩
structure C1 (P kb pb lo:Nat) (ok:Nat→Prop):Prop where
 p:P<lo
 k:lo≤kb
 q:P<pb
 ne:kb≠pb
 nk:¬ ok kb
 nq:¬ ok pb
 np:¬ ok P
 up:∀ b,kb<b→pb<b→ok b
theorem Kh (P:Nat) (L:List Tok) (ok:Nat→Prop) (x:Nd) (a1 a2:Option Addr) (q1 q2:Nat) (w:World) (o:PL)
  (CC:Hid (Calls Tryz.prog 187 #[.pointer (some ⟨P,0,none⟩),.int .i64 6,.string ⟨#[41]⟩,.func (.func 188) #[] #[.pointer (some ⟨w.heap.size+1+1+1,0,none⟩),.pointer (some ⟨w.heap.size,0,none⟩)]] ((((w.alloc (.cells #[.pointer (some ⟨P,0,none⟩)] 43)).alloc (.cells #[.int .i64 x.kind,.int .i64 x.op,.int .i64 x.num,.string x.str,.slice a1 x.names.length q1,.slice a2 x.kids.length q2,.int .i64 x.pl] 26)).alloc (.cells #[.int .i64 x.kind,.int .i64 x.op,.int .i64 x.num,.string x.str,.slice a1 x.names.length q1,.slice a2 x.kids.length q2,.int .i64 x.pl] 26)).alloc (.cells #[.slice (some ⟨w.heap.size+1+1,0,none⟩) 1 1] 24)) (yH P (w.heap.size+1+1+1) (w.heap.size) w.heap.size L (fun b=>ok b∧b≠w.heap.size+1+1+1∧b≠w.heap.size) ((((w.alloc (.cells #[.pointer (some ⟨P,0,none⟩)] 43)).alloc (.cells #[.int .i64 x.kind,.int .i64 x.op,.int .i64 x.num,.string x.str,.slice a1 x.names.length q1,.slice a2 x.kids.length q2,.int .i64 x.pl] 26)).alloc (.cells #[.int .i64 x.kind,.int .i64 x.op,.int .i64 x.num,.string x.str,.slice a1 x.names.length q1,.slice a2 x.kids.length q2,.int .i64 x.pl] 26)).alloc (.cells #[.slice (some ⟨w.heap.size+1+1,0,none⟩) 1 1] 24)) o))) :
  Calls Tryz.prog 174 #[.pointer (some ⟨P,0,none⟩),fR x (.slice a1 x.names.length q1) (.slice a2 x.kids.length q2)] w (LX P L ok w o):=by
 have B0:=aA (show But P w ((((w.alloc (.cells #[.pointer (some ⟨P,0,none⟩)] 43)).alloc (.cells #[.int .i64 x.kind,.int .i64 x.op,.int .i64 x.num,.string x.str,.slice a1 x.names.length q1,.slice a2 x.kids.length q2,.int .i64 x.pl] 26)).alloc (.cells #[.int .i64 x.kind,.int .i64 x.op,.int .i64 x.num,.string x.str,.slice a1 x.names.length q1,.slice a2 x.kids.length q2,.int .i64 x.pl] 26)).alloc (.cells #[.slice (some ⟨w.heap.size+1+1,0,none⟩) 1 1] 24)) from (((But.of ((Below.refl _ w).alloc (Nat.le_refl _) _)).trans (But.of ((Below.refl _ _).alloc (Nat.le_refl _) _))).trans (But.of ((Below.refl _ _).alloc (Nat.le_refl _) _))).trans (But.of ((Below.refl _ _).alloc (Nat.le_refl _) _)));have lift:∀ w',ButLo w.heap.size P ((((w.alloc (.cells #[.pointer (some ⟨P,0,none⟩)] 43)).alloc (.cells #[.int .i64 x.kind,.int .i64 x.op,.int .i64 x.num,.string x.str,.slice a1 x.names.length q1,.slice a2 x.kids.length q2,.int .i64 x.pl] 26)).alloc (.cells #[.int .i64 x.kind,.int .i64 x.op,.int .i64 x.num,.string x.str,.slice a1 x.names.length q1,.slice a2 x.kids.length q2,.int .i64 x.pl] 26)).alloc (.cells #[.slice (some ⟨w.heap.size+1+1,0,none⟩) 1 1] 24)) w'→But P w w':=fun w' h=>⟨h.os.trans B0.out.os,h.tape.trans B0.out.tape,h.output.trans B0.out.output,Nat.le_trans B0.out.size h.size,fun k h1 h2=>(h.block k h1 h2).trans (B0.out.block k h1 h2)⟩
 have LF:=aA lift;clear lift B0;unfold fR;cases o with
 | bad l'=>
  go_enter Tryz.func174,Tryz.ntmps174;go_wp2_with fail;refine CC.out.mono ?_;rintro e w1 ⟨rfl,s1,b1⟩;have S1:=aA s1;have B1:=aA (LF.out w1 b1);clear s1 b1 CC LF;unfold aV;go_wp2_with fail;exact⟨rfl,rfl,S1.out,B1.out⟩
 | ok ns ks l'=>
  go_enter Tryz.func174,Tryz.ntmps174;go_wp2_with fail;refine CC.out.mono ?_;rintro e w1 ⟨rfl,⟨v,k1,r1⟩,_,s1,b1⟩;obtain⟨ao,cap,rfl⟩:=iR r1;have S1:=aA s1;have B1:=aA (LF.out w1 b1);have K1:=aA (zT (ok':=ok) (jT r1) (fun b h _=>h.1));have c1:=aB k1 0;simp at c1;clear s1 b1 CC LF r1 k1;go_wp2_with fail;go_ret;exact⟨⟨_,rfl,K1.out⟩,S1.out,B1.out⟩
theorem Gk (f:Nat) (h1:∀ g,g≤f→∀ (P kb pb lo:Nat) (L:List Tok) (ok:Nat→Prop),C1 P kb pb lo ok→CA g P kb pb lo L ok):Ip (f+1):=by
 intro P L l ok x nv kv w hf FR H N;obtain⟨a1,q1,a2,q2,rfl,rfl⟩:=hM N.out;have hP:=H.out.lt;refine Kh P L ok x a1 a2 q1 q2 w _ ?_;have A1:=(Below.refl _ w).alloc (Nat.le_refl _) (.cells #[.pointer (some ⟨P,0,none⟩)] 43);have A2:=(Below.refl _ (w.alloc (.cells #[.pointer (some ⟨P,0,none⟩)] 43))).alloc (Nat.le_refl _) (.cells #[.int .i64 x.kind,.int .i64 x.op,.int .i64 x.num,.string x.str,.slice a1 x.names.length q1,.slice a2 x.kids.length q2,.int .i64 x.pl] 26);have A3:=(Below.refl _ ((w.alloc (.cells #[.pointer (some ⟨P,0,none⟩)] 43)).alloc (.cells #[.int .i64 x.kind,.int .i64 x.op,.int .i64 x.num,.string x.str,.slice a1 x.names.length q1,.slice a2 x.kids.length q2,.int .i64 x.pl] 26))).alloc (Nat.le_refl _) (.cells #[.int .i64 x.kind,.int .i64 x.op,.int .i64 x.num,.string x.str,.slice a1 x.names.length q1,.slice a2 x.kids.length q2,.int .i64 x.pl] 26);have A4:=(Below.refl _ (((w.alloc (.cells #[.pointer (some ⟨P,0,none⟩)] 43)).alloc (.cells #[.int .i64 x.kind,.int .i64 x.op,.int .i64 x.num,.string x.str,.slice a1 x.names.length q1,.slice a2 x.kids.length q2,.int .i64 x.pl] 26)).alloc (.cells #[.int .i64 x.kind,.int .i64 x.op,.int .i64 x.num,.string x.str,.slice a1 x.names.length q1,.slice a2 x.kids.length q2,.int .i64 x.pl] 26))).alloc (Nat.le_refl _) (.cells #[.slice (some ⟨w.heap.size+1+1,0,none⟩) 1 1] 24);have S4:=aA ((((H.out.on A1).on A2).on A3).on A4);have Q4:=aA (aC (aC (aC (aI w 43 #[.pointer (some ⟨P,0,none⟩)]) A2) A3) A4);have K4:=aA (show dP (w.heap.size+1+1+1) 24 #[.slice (some ⟨w.heap.size+1+1,0,none⟩) 1 1] ((((w.alloc (.cells #[.pointer (some ⟨P,0,none⟩)] 43)).alloc (.cells #[.int .i64 x.kind,.int .i64 x.op,.int .i64 x.num,.string x.str,.slice a1 x.names.length q1,.slice a2 x.kids.length q2,.int .i64 x.pl] 26)).alloc (.cells #[.int .i64 x.kind,.int .i64 x.op,.int .i64 x.num,.string x.str,.slice a1 x.names.length q1,.slice a2 x.kids.length q2,.int .i64 x.pl] 26)).alloc (.cells #[.slice (some ⟨w.heap.size+1+1,0,none⟩) 1 1] 24)) from by
  have:=aI (((w.alloc (.cells #[.pointer (some ⟨P,0,none⟩)] 43)).alloc (.cells #[.int .i64 x.kind,.int .i64 x.op,.int .i64 x.num,.string x.str,.slice a1 x.names.length q1,.slice a2 x.kids.length q2,.int .i64 x.pl] 26)).alloc (.cells #[.int .i64 x.kind,.int .i64 x.op,.int .i64 x.num,.string x.str,.slice a1 x.names.length q1,.slice a2 x.kids.length q2,.int .i64 x.pl] 26)) 24 #[.slice (some ⟨w.heap.size+1+1,0,none⟩) 1 1];simpa using this)
 have N2:rI (fun b=>ok b∧b≠w.heap.size+1+1+1∧b≠w.heap.size) ((w.alloc (.cells #[.pointer (some ⟨P,0,none⟩)] 43)).alloc (.cells #[.int .i64 x.kind,.int .i64 x.op,.int .i64 x.num,.string x.str,.slice a1 x.names.length q1,.slice a2 x.kids.length q2,.int .i64 x.pl] 26)) x (.slice a1 x.names.length q1) (.slice a2 x.kids.length q2):=aU (aT A2) (aU (aT A1) (DQ N.out (fun b h hb=>⟨h,by omega,by omega⟩)));have R3:=DY (lo:=w.heap.size) (ok:=(fun b=>ok b∧b≠w.heap.size+1+1+1∧b≠w.heap.size)) (w:=((w.alloc (.cells #[.pointer (some ⟨P,0,none⟩)] 43)).alloc (.cells #[.int .i64 x.kind,.int .i64 x.op,.int .i64 x.num,.string x.str,.slice a1 x.names.length q1,.slice a2 x.kids.length q2,.int .i64 x.pl] 26))) (by simp;omega) ⟨FR.up _ (by simp;omega),by simp,by simp;omega⟩ N2;have R4:=aA (show jC w.heap.size (fun b=>ok b∧b≠w.heap.size+1+1+1∧b≠w.heap.size) ((((w.alloc (.cells #[.pointer (some ⟨P,0,none⟩)] 43)).alloc (.cells #[.int .i64 x.kind,.int .i64 x.op,.int .i64 x.num,.string x.str,.slice a1 x.names.length q1,.slice a2 x.kids.length q2,.int .i64 x.pl] 26)).alloc (.cells #[.int .i64 x.kind,.int .i64 x.op,.int .i64 x.num,.string x.str,.slice a1 x.names.length q1,.slice a2 x.kids.length q2,.int .i64 x.pl] 26)).alloc (.cells #[.slice (some ⟨w.heap.size+1+1,0,none⟩) 1 1] 24)) (.slice (some ⟨w.heap.size+1+1,0,none⟩) 1 1) [x] from by
  have:=bD R3 A4;simpa [fL] using this)
 have hcl:C1 P (w.heap.size+1+1+1) (w.heap.size) w.heap.size (fun b=>ok b∧b≠w.heap.size+1+1+1∧b≠w.heap.size):=⟨hP,by omega,hP,by omega,fun h=>h.2.1 rfl,fun h=>h.2.2 rfl,fun h=>FR.no h.1,fun b h1 h2=>⟨FR.up b (by omega),by omega,by omega⟩⟩
 clear A1 A2 A3 A4 R3 N2;rw [jB];by_cases hh:bZ l [41]=true
 ·obtain⟨t,q,rfl,ht⟩:=aX hh;rw [if_pos hh];exact aA (FY P _ _ _ L _ t q _ [x] _ (by simp;omega) (by omega) (by omega) (fun h=>FR.no h.1) S4 K4 Q4 R4 ht)
 ·rw [if_neg hh];cases hq:aS f 1 l with
  | bad l1=>
   rw [PR.bindL_bad];exact aA (Ml f P _ _ _ L _ (h1 f (Nat.le_refl _) P _ _ _ L _ hcl) l _ [x] _ (by omega) (by simp) (by simp;omega) S4 K4 Q4 R4 (by simpa using hh) l1 hq)
  | ok y b l1=>
   rw [PR.bindL_ok];exact aA (JZ f P _ _ _ L _ (fun g hg=>h1 g hg P _ _ _ L _ hcl) l _ [x] _ (by omega) rfl (by simp;omega) (by omega) (by omega) (fun h=>FR.no h.1) S4 K4 Q4 R4 (by simpa using hh) y b l1 hq)
inductive PG (σ:Type) where
 | ok:σ→List Tok→PG σ
 | bad:List Tok→PG σ
def PG.bind {σ τ:Type} : PG σ→(σ→List Tok→PG τ)→PG τ
 | .ok s l,k=>k s l
 | .bad l,_=>.bad l
theorem PG.bind_ok {σ τ:Type} (s:σ) (l:List Tok) (k:σ→List Tok→PG τ):(PG.ok s l).bind k=k s l:=rfl
theorem PG.bind_bad {σ τ:Type} (l:List Tok) (k:σ→List Tok→PG τ):(PG.bad l:PG σ).bind k=.bad l:=rfl
def Ab {σ:Type} (en:UInt8) (s:σ) (l:List Tok):PG σ:=if bZ l [en] then .ok s l.tail else .bad l
def kJ {σ:Type} (step:Nat→σ→List Tok→PG σ) (cnt:σ→Nat) (most:Nat) (en:UInt8):Nat→σ→List Tok→PG σ
 | 0,_,l=>.bad l
 | 1,s,l=>if cnt s<most∧bZ l [44]=true then .bad l.tail else Ab en s l
 | f+2,s,l=>if cnt s<most∧bZ l [44]=true then (step f s l.tail).bind fun s l=>kJ step cnt most en f s l else Ab en s l
def tS {σ:Type} (step:Nat→σ→List Tok→PG σ) (cnt:σ→Nat) (most:Nat) (en:UInt8) (f:Nat) (s:σ) (l:List Tok):PG σ:=
 if bZ l [en] then .ok s l.tail else (step f s l).bind fun s l=>kJ step cnt most en f s l
def kK {σ:Type} (I:σ→World→Prop) (lo P:Nat) (L:List Tok) (w:World) (out:PG σ) (e:Ending) (w':World):Prop:=
 match out with
 | .ok s l=>e=.returned (.tuple #[])∧I s w'∧PSt P L w' l∧ButLo lo P w w'
 | .bad l=>e=aV∧PSt P L w' l∧ButLo lo P w w'
def Ed {σ:Type} (N:Nat) (c1 c2:Value) (I:σ→World→Prop) (cnt:σ→Nat) (most:Nat) (step:Nat→σ→List Tok→PG σ) (lo P:Nat) (L:List Tok) (g:Nat):Prop:=
 ∀ (s:σ) (l:List Tok) (w:World),20*l.length+10≤g→cnt s<most→lo≤w.heap.size→Hid (PSt P L w l)→Hid (I s w)→Calls Tryz.prog N #[c1,c2] w (kK I lo P L w (step g s l))
theorem Gm {σ:Type} {step:Nat→σ→List Tok→PG σ} {cnt:σ→Nat} {most:Nat} {en:UInt8} {g:Nat} {s:σ} {t:Tok} {z:List Tok} (h:cnt s<most∧bZ (t::z) [44]=true):kJ step cnt most en (g+2) s (t::z)=(step g s z).bind fun s l=>kJ step cnt most en g s l:=by rw [kJ,if_pos h];rfl
theorem Ac {σ:Type} {step:Nat→σ→List Tok→PG σ} {cnt:σ→Nat} {most:Nat} {en:UInt8} {g:Nat} {s:σ} {m:List Tok} (h:¬ (cnt s<most∧bZ m [44]=true)):kJ step cnt most en (g+2) s m=Ab en s m:=by rw [kJ,if_neg h]
theorem Ee {σ:Type} {en:UInt8} {s:σ} {u:Tok} {z:List Tok} (h:bZ (u::z) [en]=true):Ab en s (u::z)=.ok s z:=by unfold Ab;rw [if_pos h];rfl
theorem Ix {σ:Type} {en:UInt8} {s:σ} {m:List Tok} (h:¬ bZ m [en]=true):Ab en s m=.bad m:=by unfold Ab;rw [if_neg h]
theorem PX {l:List UInt8} {k:Nat} (h:(cO l k).2.2=0):k<(cO l k).2.1∧(cO l k).2.1≤k+l.length∧(cO l k).1.pl=k:=by
 match l with
 | []=>simp [cO] at h
 | b::r=>
  unfold cO at h ⊢;simp only at h ⊢;by_cases hl:bW b.toNat=true
  ·rw [if_pos hl] at h ⊢;have h1:=sY fN (b::r);have h2:0<jW fN (b::r):=by rw [jW,if_pos (xK hl)];omega
   unfold jY at h ⊢;split
   ·exact⟨by simp only;omega,by simp only;omega,rfl⟩
   ·rename_i hk;rw [if_neg hk] at h;split
    ·exact⟨by simp only;omega,by simp only;omega,rfl⟩
    ·rename_i hm;rw [if_neg hm] at h;cases h
  ·rw [if_neg hl] at h ⊢;by_cases hd:bX b.toNat=true
   ·rw [if_pos hd] at h ⊢;have h1:=sY bX (b::r);have h2:0<jW bX (b::r):=by rw [jW,if_pos hd];omega
    unfold kM at h ⊢;split
    ·exact⟨by simp only;omega,by simp only;omega,rfl⟩
    ·rename_i hk;rw [if_neg hk] at h;exact absurd h hk
   ·rw [if_neg hd] at h ⊢;by_cases h34:b.toNat=34
    ·rw [if_pos h34] at h ⊢;have h3:(takeOut (b::r)).2.2=0:=by
      unfold mR at h;by_cases h3:(takeOut (b::r)).2.2=0
      ·exact h3
      ·rw [if_neg h3] at h;exact h
     have hg:takeOut (b::r)=((takeOut (b::r)).1,(takeOut (b::r)).2.1,0):=by rw [← h3]
     obtain⟨r',e',hgo⟩:=yX hg;obtain⟨body,rest,y,er,en,_,_⟩:=rK _ _ _ _ _ _ hgo;have hlen:(b::r).length=body.length+rest.length+2:=by rw [e',er];simp;omega
     unfold mR at h ⊢;rw [if_pos h3] at h ⊢;split
     ·rename_i hk;rw [if_pos hk] at h;cases h
     ·exact⟨by simp only;omega,by simp only;omega,rfl⟩
    ·rw [if_neg h34] at h ⊢;unfold nQ at h ⊢;by_cases hk:signL (b::r)=[]
     ·rw [if_pos hk] at h;cases h
     ·rw [if_neg hk];have hp:∀ L:List (List UInt8),gB L (b::r)≠[]→(gB L (b::r)).length≤(b::r).length:=by
       intro L;induction L with
       | nil=>intro h;exact absurd rfl h
       | cons x L ih=>
        intro h;rw [gB] at h ⊢;split
        ·rename_i hx;exact (List.isPrefixOf_iff_prefix.1 hx).length_le
        ·rename_i hx;rw [if_neg hx] at h;exact ih h
      have h1:=hp sgnL hk;have h2:=List.length_pos_iff.2 hk;refine⟨?_,?_,rfl⟩
      ·simp only;omega
      ·simp only;unfold signL;omega
theorem El (s:ByteArray):∀ (f k:Nat) (acc out:List Tok) (p:Nat),jI s f k acc=(out,p,0)→0<f→s.size<k+f→k≤s.size→
  ∃ new,out=acc++new∧(∃ t∈new,t.kind=6)∧∀ t∈new,∃ a:Nat,t.pl=a∧k≤a∧a≤s.size
 | 0,_,_,_,_,_,h0,_,_=>by omega
 | f+1,k,acc,out,p,h,_,hf,hk=>by
  rw [jI] at h;split at h
  ·rename_i hks;injection h with h1 h2;exact⟨_,h1.symm,⟨_,List.mem_singleton.2 rfl,rfl⟩,fun t ht=>by rw [List.mem_singleton.1 ht];exact⟨s.size,rfl,hk,Nat.le_refl _⟩⟩
  ·rename_i hks;split at h
   ·rename_i he;injection h with h1 h2;injection h2 with h2 h3;exact absurd h3 he
   ·rename_i he;have he0:(cO (s.data.toList.drop k) k).2.2=0:=by simpa using he
    split at h
    ·injection h with h1 h2;injection h2 with h2 h3;cases h3
    ·obtain⟨g1,g2,g3⟩:=PX he0;rw [List.length_drop,cF] at g2;have g4:=Bv false s (cO (s.data.toList.drop k) k).2.1;have g5:=sZ (f:=false) (s:=s) (k:=(cO (s.data.toList.drop k) k).2.1) (by omega);obtain⟨new,e1,e2,e3⟩:=El s f _ _ out p h (by omega) (by omega) g5;refine⟨(cO (s.data.toList.drop k) k).1::new,by rw [e1];simp,by obtain⟨u,u1,u2⟩:=e2;exact⟨u,List.mem_cons_of_mem _ u1,u2⟩,fun t ht=>?_⟩;rcases List.mem_cons.1 ht with rfl | ht
     ·exact⟨k,g3,Nat.le_refl _,by omega⟩
     ·obtain⟨a,a1,a2,a3⟩:=e3 t ht;exact⟨a,a1,by omega,a3⟩
theorem Oy {s:ByteArray} {out:List Tok} {p:Nat} (h:tokOut s=(out,p,0)):(∃ t∈out,t.kind=6)∧∀ t∈out,∃ a:Nat,t.pl=a∧a≤s.size:=by
 unfold tokOut at h;split at h
 ·injection h with h1 h2;injection h2 with h2 h3;cases h3
 ·have hk:=sZ (f:=false) (s:=s) (k:=0) (Nat.zero_le _);obtain⟨new,en,nn,nt⟩:=El s _ _ _ _ _ h (by omega) (by omega) hk;rw [List.nil_append] at en;subst en;exact⟨nn,fun t ht=>by obtain⟨a,a1,_,a3⟩:=nt t ht;exact⟨a,a1,a3⟩⟩
end Go.Proofs.YtdnnmjhfidimcaaGreatDoor
