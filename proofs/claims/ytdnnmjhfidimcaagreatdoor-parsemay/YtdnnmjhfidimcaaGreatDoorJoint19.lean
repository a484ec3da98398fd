/- The list of a call's arguments. The parts of a built-in call. A call's arguments. A list with any closure. There is an end among a text's tokens, and each has a place. -/
import Derived.Test.YtdnnmjhfidimcaaGreatDoorJoint16
import Derived.Test.YtdnnmjhfidimcaaGreatDoorJoint18
import Derived.Test.YtdnnmjhfidimcaaGreatDoorJoint4
namespace Go.Proofs.YtdnnmjhfidimcaaGreatDoor
open Go.RowKit

def zzr (P kb pb lo:Nat) (L:List Tok) (ok:Nat→Prop) (ks:List Nd) (w:World) (out:PR) (e:Ending) (w':World):Prop:=
 match out with
 | .ok x _ l=>e=.returned (.tuple #[])∧(∃ v',Blk kb 24 #[v'] w'∧aze lo ok w' v' (ks++[x]))∧Blk pb 43 #[.pointer (some ⟨P,0,none⟩)] w'∧PSt P L w' l∧ButLo lo P w w'
 | .bad l=>e=uza∧PSt P L w' l∧ButLo lo P w w'
def qzl (P kb pb lo:Nat) (L:List Tok) (ok:Nat→Prop) (w:World) (out:PL) (e:Ending) (w':World):Prop:=
 match out with
 | .ok _ ks l=>e=.returned (.tuple #[])∧(∃ v',Blk kb 24 #[v'] w'∧aze lo ok w' v' ks)∧Blk pb 43 #[.pointer (some ⟨P,0,none⟩)] w'∧PSt P L w' l∧ButLo lo P w w'
 | .bad l=>e=uza∧PSt P L w' l∧ButLo lo P w w'
def ozo (f P kb pb lo:Nat) (L:List Tok) (ok:Nat→Prop):Prop:=∀ (l:List Tok) (v:Value) (ks:List Nd) (w:World),20*l.length+10≤f→ks.length≤40→lo≤w.heap.size→
 Hid (PSt P L w l)→Hid (Blk kb 24 #[v] w)→Hid (Blk pb 43 #[.pointer (some ⟨P,0,none⟩)] w)→Hid (aze lo ok w v ks)→
 Calls Tryz.prog 188 #[.pointer (some ⟨kb,0,none⟩),.pointer (some ⟨pb,0,none⟩)] w (zzr P kb pb lo L ok ks w (rza f 1 l))

set_option maxRecDepth 100000 in
set_option maxHeartbeats 12800000 in
theorem Azr (P kb pb lo:Nat) (L:List Tok) (ok:Nat→Prop) (t:Tok) (q:List Tok) (v:Value) (ks:List Nd) (w:World) (hlw:lo≤w.heap.size) (hkp:kb≠P) (hpp:pb≠P) (hok:¬ ok P)
  (H:Hid (PSt P L w (t::q))) (HK:Hid (Blk kb 24 #[v] w)) (HQ:Hid (Blk pb 43 #[.pointer (some ⟨P,0,none⟩)] w)) (HR:Hid (aze lo ok w v ks)) (ht:isT t [41]=true) :
  Calls Tryz.prog 187 #[.pointer (some ⟨P,0,none⟩),.int .i64 6,.string ⟨#[41]⟩,.func (.func 188) #[] #[.pointer (some ⟨kb,0,none⟩),.pointer (some ⟨pb,0,none⟩)]] w (qzl P kb pb lo L ok w (.ok [] ks q)):=by
 have HT:=hid ht;clear ht;go_enter Tryz.func187,Tryz.ntmps187;go_wp2_with fail;refine (szb P L t q ⟨#[41]⟩ _ H HT.out).mono ?_;rintro e w1 ⟨rfl,s1,b1⟩;have S1:=hid s1;have K1:=hid (dza HK.out b1 hkp);have Q1':=hid (dza HQ.out b1 hpp);have R1:=hid (Qzb HR.out b1 hok);have B1:=hid (ButLo.of (lo:=lo) b1 hlw);clear s1 b1 H HK HQ HR HT;go_wp2_with fail;go_end0
 exact⟨rfl,⟨v,K1.out,R1.out⟩,Q1'.out,S1.out,B1.out⟩

theorem bzm {g:Nat} {ks:List Nd} {m:List Tok} (h:¬ (ks.length<7∧isH m [44]=true)):Azd (g+1) ks m=mustL [41] m fun l=>.ok [] ks l:=by rw [Azd,if_neg h]
theorem Bzr {g:Nat} {ks:List Nd} {t:Tok} {z:List Tok} (h:ks.length<7∧isH (t::z) [44]=true):Azd (g+1) ks (t::z)=(rza g 1 z).bindL fun e _ l=>Azd g (ks++[e]) l:=by rw [Azd,if_pos h];rfl
theorem czm {f r:Nat} {l:List Tok} {P:Nat} {L:List Tok} {w:World} (H:PSt P L w l) {x:Nd} {b:Bool} {l':List Tok} (h:rza f r l=.ok x b l'):l'.length+1≤l.length:=by
 have:=(may f).rank r l (uze H);rw [h] at this;obtain⟨_,pre,u,e,_⟩:=this;rw [e];simp

set_option maxRecDepth 100000 in
set_option maxHeartbeats 12800000 in
theorem Bzw (f P kb pb lo:Nat) (L:List Tok) (ok:Nat→Prop) (hC:ozo f P kb pb lo L ok) (l:List Tok) (v:Value) (ks:List Nd) (w:World) (hf:20*l.length+10≤f) (hk:ks.length≤1) (hlw:lo≤w.heap.size)
  (H:Hid (PSt P L w l)) (HK:Hid (Blk kb 24 #[v] w)) (HQ:Hid (Blk pb 43 #[.pointer (some ⟨P,0,none⟩)] w)) (HR:Hid (aze lo ok w v ks)) (hn:isH l [41]=false) (l1:List Tok) (hq:rza f 1 l=.bad l1) :
  Calls Tryz.prog 187 #[.pointer (some ⟨P,0,none⟩),.int .i64 6,.string ⟨#[41]⟩,.func (.func 188) #[] #[.pointer (some ⟨kb,0,none⟩),.pointer (some ⟨pb,0,none⟩)]] w (qzl P kb pb lo L ok w (.bad l1)):=by
 have HN:=hid (show isH l (⟨#[41]⟩:ByteArray).data.toList=false from hn);have HC:=hid hC;clear hC hn;go_enter Tryz.func187,Tryz.ntmps187;go_wp2_with fail;refine (Hza P L l ⟨#[41]⟩ _ H HN.out).mono ?_;rintro e w1 ⟨rfl,b1⟩;have S1:=hid (H.out.on b1);have K1:=hid (bza HK.out b1);have Q1':=hid (bza HQ.out b1);have R1:=hid (Fza HR.out b1);have B1:=hid (ButLo.of (lo:=lo) (But.of (P:=P) b1) hlw);have hz1:=b1.size;clear b1 H HK HQ HR HN;go_wp2_with fail;have CC:=HC.out l v ks w1 hf (by omega) (by omega) S1 K1 Q1' R1;rw [hq] at CC;refine CC.mono ?_;rintro e w2 ⟨rfl,s2,b2⟩;have S2:=hid s2;have B2:=hid (B1.out.trans b2);clear s2 b2 CC S1 K1 Q1' R1 B1 HC;unfold uza;go_wp2_with fail;exact⟨rfl,rfl,S2.out,B2.out⟩

set_option maxRecDepth 100000 in
set_option maxHeartbeats 12800000 in
theorem zzu (f P kb pb lo:Nat) (L:List Tok) (ok:Nat→Prop) (hC:∀ g,g≤f→ozo g P kb pb lo L ok) (l:List Tok) (v:Value) (ks:List Nd) (w:World) (hf:20*l.length+10≤f) (hk:ks.length=1) (hlw:lo≤w.heap.size) (hkp:kb≠P) (hpp:pb≠P) (hok:¬ ok P)
  (H:Hid (PSt P L w l)) (HK:Hid (Blk kb 24 #[v] w)) (HQ:Hid (Blk pb 43 #[.pointer (some ⟨P,0,none⟩)] w)) (HR:Hid (aze lo ok w v ks)) (hn:isH l [41]=false) (x:Nd) (b:Bool) (l1:List Tok) (hq:rza f 1 l=.ok x b l1) :
  Calls Tryz.prog 187 #[.pointer (some ⟨P,0,none⟩),.int .i64 6,.string ⟨#[41]⟩,.func (.func 188) #[] #[.pointer (some ⟨kb,0,none⟩),.pointer (some ⟨pb,0,none⟩)]] w (qzl P kb pb lo L ok w (Azd f (ks++[x]) l1)):=by
 have HN:=hid (show isH l (⟨#[41]⟩:ByteArray).data.toList=false from hn);have HC:=hid hC;have hl1:=czm H.out hq;clear hC hn;go_enter Tryz.func187,Tryz.ntmps187;go_wp2_with fail;refine (Hza P L l ⟨#[41]⟩ _ H HN.out).mono ?_;rintro e w1 ⟨rfl,b1⟩;have S1:=hid (H.out.on b1);have K1:=hid (bza HK.out b1);have Q1':=hid (bza HQ.out b1);have R1:=hid (Fza HR.out b1);have B1:=hid (ButLo.of (lo:=lo) (But.of (P:=P) b1) hlw);have hz1:=b1.size;clear b1 H HK HQ HR HN;go_wp2_with fail;have CC:=HC.out f (Nat.le_refl _) l v ks w1 hf (by omega) (by omega) S1 K1 Q1' R1;rw [hq] at CC;refine CC.mono ?_;rintro e w2 ⟨rfl,⟨v2,k2,r2⟩,q2,s2,b2⟩;have K2:=hid k2;have R2:=hid r2;have Q2:=hid q2;have S2:=hid s2;have B2:=hid (B1.out.trans b2);clear k2 r2 q2 s2 b2 CC S1 K1 Q1' R1 B1;go_wp2_with fail;go_loopw [8] (fun i wr=>∃ (g:Nat) (ks':List Nd) (m:List Tok) (v':Value) (n:Nat),Hid (Azd f (ks++[x]) l1=Azd g ks' m)∧i=.int .i64 n∧n+1=ks'.length∧ks'.length≤7∧20*m.length+25≤g∧g≤f∧Hid (PSt P L wr m)∧Hid (Blk kb 24 #[v'] wr)∧Hid (Blk pb 43 #[.pointer (some ⟨P,0,none⟩)] wr)∧Hid (aze lo ok wr v' ks')∧Hid (ButLo lo P w wr)) (fun _ wr=>tzc P L wr)
 case atStart=>exact⟨f,ks++[x],l1,v2,1,(show Hid (_=_) from rfl),rfl,by simp [hk],by simp [hk],by omega,Nat.le_refl _,S2.out,K2.out,Q2.out,R2.out,B2.out⟩
 case round=>
  obtain⟨g,ks',m,v',n,hE,rfl,hn,hk7,hgm,hgf,hS,hK,hQ,hR,hB⟩:=hrel;clear S2 K2 Q2 R2 B2;obtain⟨g,rfl⟩:∃ g',g=g'+1:=⟨g - 1,by omega⟩
  have hzr:=hB.out.size;have LW:=hid (nzc hS.out);by_cases h7:ks'.length<7
  ·by_cases h44:isH m [44]=true
   ·obtain⟨u,z,rfl,hu⟩:=wza h44;have HE:=hid (hE.out.trans (Bzr ⟨h7,h44⟩));have HU:=hid hu;have hzl:20*z.length+10≤g:=by simp at hgm;omega
    clear hE h44 hu;cases hq2:rza g 1 z with
    | bad l3=>
     rw [hq2] at HE;go_wp2_with fail;refine (szb P L u z ⟨#[44]⟩ _ hS HU.out).mono ?_;rintro e w3 ⟨rfl,s3,b3⟩;have S3:=hid s3;have K3:=hid (dza hK.out b3 hkp);have Q3':=hid (dza hQ.out b3 hpp);have R3:=hid (Qzb hR.out b3 hok);have B3:=hid (hB.out.trans (ButLo.of b3 (by omega)));have hz3:=b3.size;clear s3 b3 hS hK hQ hR hB HU LW;go_wp2_with fail;have CC:=HC.out g (by omega) z v' ks' w3 hzl (by omega) (by omega) S3 K3 Q3' R3;rw [hq2] at CC;refine CC.mono ?_;rintro e w4 ⟨rfl,s4,b4⟩;have S4:=hid s4;have B4:=hid (B3.out.trans b4);clear s4 b4 CC S3 K3 Q3' R3 B3 HC;unfold uza;go_wp2_with fail;refine⟨rfl,?_⟩;rw [HE.out];exact⟨rfl,S4.out,B4.out⟩
    | ok y b3 l3=>
     have HL3:=hid (fun (w':World) (S:PSt P L w' z)=>czm S hq2);rw [hq2] at HE;go_wp2_with fail;refine (szb P L u z ⟨#[44]⟩ _ hS HU.out).mono ?_;rintro e w3 ⟨rfl,s3,b3⟩;have hl3:=HL3.out w3 s3;have S3:=hid s3;have K3:=hid (dza hK.out b3 hkp);have Q3':=hid (dza hQ.out b3 hpp);have R3:=hid (Qzb hR.out b3 hok);have B3:=hid (hB.out.trans (ButLo.of b3 (by omega)));have hz3:=b3.size;clear s3 b3 hS hK hQ hR hB HU HL3;go_wp2_with fail;have CC:=HC.out g (by omega) z v' ks' w3 hzl (by omega) (by omega) S3 K3 Q3' R3;rw [hq2] at CC;refine CC.mono ?_;rintro e w4 ⟨rfl,⟨v4,k4,r4⟩,q4,s4,b4⟩;have K4:=hid k4;have R4:=hid r4;have Q4:=hid q4;have S4:=hid s4;have B4:=hid (B3.out.trans b4);have HLE:=hid (show tzc P L w4<tzc P L wr by rw [nzc s4,LW.out];simp;omega);have HE4:=hid (HE.out.trans (PR.bindL_ok y b3 l3 _));clear k4 r4 q4 s4 b4 CC S3 K3 Q3' R3 B3 HE LW;go_wp2_with fail;go_roundw
     case rel=>exact⟨g,ks'++[y],l3,v4,n+1,HE4.out,by go_num,by simp;omega,by simp;omega,by simp at hgm;omega,by omega,S4.out,K4.out,Q4.out,R4.out,B4.out⟩
     case measure=>exact HLE.out
   ·have hE':=hE.out.trans (bzm (fun h=>h44 h.2));have H44:=hid (show isH m (⟨#[44]⟩:ByteArray).data.toList=false by simpa using h44);clear hE h44 HC LW;by_cases he:isH m [41]=true
    ·obtain⟨u,z,rfl,hu⟩:=wza he;have HE:=hid (hE'.trans (show _=PL.ok [] ks' z by unfold Go.Proofs.YtdnnmjhfidimcaaGreatDoor.mustL;rw [if_pos he];rfl));have HU:=hid hu;clear hE' he hu;go_wp2_with fail;refine (Hza P L (u::z) ⟨#[44]⟩ _ hS H44.out).mono ?_;rintro e w4 ⟨rfl,b4⟩;have S4:=hid (hS.out.on b4);have K4:=hid (bza hK.out b4);have Q4:=hid (bza hQ.out b4);have R4:=hid (Fza hR.out b4);have B4:=hid (hB.out.trans (ButLo.of (But.of (P:=P) b4) (by omega)));have hz4:=b4.size;clear b4 H44;go_wp2_with fail;refine (Jzb P L u z ⟨#[41]⟩ _ S4 HU.out).mono ?_;rintro e w5 ⟨rfl,s5,b5⟩;have S5:=hid s5;have K5:=hid (dza K4.out b5 hkp);have Q5:=hid (dza Q4.out b5 hpp);have R5:=hid (Qzb R4.out b5 hok);have B5:=hid (B4.out.trans (ButLo.of b5 (by omega)));clear s5 b5;go_wp2_with fail;go_end0
     rw [HE.out];exact⟨rfl,⟨_,K5.out,R5.out⟩,Q5.out,S5.out,B5.out⟩
    ·have HE:=hid (hE'.trans (show _=PL.bad m by unfold Go.Proofs.YtdnnmjhfidimcaaGreatDoor.mustL;rw [if_neg he]));have HN:=hid (show isH m (⟨#[41]⟩:ByteArray).data.toList=false by simpa using he);clear hE' he;go_wp2_with fail;refine (Hza P L m ⟨#[44]⟩ _ hS H44.out).mono ?_;rintro e w4 ⟨rfl,b4⟩;have S4:=hid (hS.out.on b4);have K4:=hid (bza hK.out b4);have Q4:=hid (bza hQ.out b4);have R4:=hid (Fza hR.out b4);have B4:=hid (hB.out.trans (ButLo.of (But.of (P:=P) b4) (by omega)));have hz4:=b4.size;clear b4 H44;go_wp2_with fail;refine (Hzd P L m ⟨#[41]⟩ _ S4 HN.out).mono ?_;rintro e w5 ⟨rfl,b5⟩;have S5:=hid (S4.out.on b5);have B5:=hid (B4.out.trans (ButLo.of (But.of (P:=P) b5) (by omega)));clear b5;unfold uza;go_wp2_with fail;refine⟨rfl,?_⟩;rw [HE.out];exact⟨rfl,S5.out,B5.out⟩
  ·have hE':=hE.out.trans (bzm (fun h=>h7 h.1));clear hE HC LW;by_cases he:isH m [41]=true
   ·obtain⟨u,z,rfl,hu⟩:=wza he;have HE:=hid (hE'.trans (show _=PL.ok [] ks' z by unfold Go.Proofs.YtdnnmjhfidimcaaGreatDoor.mustL;rw [if_pos he];rfl));have HU:=hid hu;clear hE' he hu;go_wp2_with fail;refine (Jzb P L u z ⟨#[41]⟩ _ hS HU.out).mono ?_;rintro e w5 ⟨rfl,s5,b5⟩;have S5:=hid s5;have K5:=hid (dza hK.out b5 hkp);have Q5:=hid (dza hQ.out b5 hpp);have R5:=hid (Qzb hR.out b5 hok);have B5:=hid (hB.out.trans (ButLo.of b5 (by omega)));clear s5 b5;go_wp2_with fail;go_end0
    rw [HE.out];exact⟨rfl,⟨_,K5.out,R5.out⟩,Q5.out,S5.out,B5.out⟩
   ·have HE:=hid (hE'.trans (show _=PL.bad m by unfold Go.Proofs.YtdnnmjhfidimcaaGreatDoor.mustL;rw [if_neg he]));have HN:=hid (show isH m (⟨#[41]⟩:ByteArray).data.toList=false by simpa using he);clear hE' he;go_wp2_with fail;refine (Hzd P L m ⟨#[41]⟩ _ hS HN.out).mono ?_;rintro e w5 ⟨rfl,b5⟩;have S5:=hid (hS.out.on b5);have B5:=hid (hB.out.trans (ButLo.of (But.of (P:=P) b5) (by omega)));clear b5;unfold uza;go_wp2_with fail;refine⟨rfl,?_⟩;rw [HE.out];exact⟨rfl,S5.out,B5.out⟩

end Go.Proofs.YtdnnmjhfidimcaaGreatDoor

namespace Go.Proofs.YtdnnmjhfidimcaaGreatDoor
open Go.RowKit

def rzd (f:Nat):Nat→List Nd→List Tok→PL
 | 0,ks,l=>mustL [41] l fun l=>.ok [] ks l
 | n+1,ks,l=>mustL [44] l fun l=>(rza f 1 l).bindL fun e _ l=>rzd f n (ks++[e]) l
def gzi (f m:Nat) (l:List Tok):PL:=mustL [40] l fun l=>(rza f 1 l).bindL fun e _ l=>rzd f (m - 1) [e] l
theorem Izp {lo:Nat} {ok:Nat→Prop} {w:World} {x:Nd} {nv kv:Value} (hl:lo≤w.heap.size) (hg:ok w.heap.size) (N:NdO ok w x nv kv):aze lo ok (w.alloc (.cells (ndc x nv kv) 26)) (.slice (some ⟨w.heap.size,0,none⟩) 1 1) [x]:=by
 have AL:=(Below.refl _ w).alloc (Nat.le_refl _) (.cells (ndc x nv kv) 26);refine⟨ndl x nv kv,⟨rfl,.inr ⟨w.heap.size,1,ndc x nv kv,rfl,hl,heap_alloc_new w _,Nat.le_refl _,by unfold maxLen;decide,rfl,rfl⟩⟩,⟨nv,kv,[],by simp,nzd (fun b hb=>⟨⟨hb.1,by have:=hb.2;simp;omega,by have:=hb.2;simp [Value.ownBlock];omega⟩,AL.block b hb.2⟩) _ _ _ N,rfl⟩,fun g h=>?_⟩;simp [Value.ownBlock] at h;exact h▸hg
theorem xzn {f r:Nat} {l:List Tok} {P:Nat} {L:List Tok} {w:World} (H:PSt P L w l) {x:Nd} {b:Bool} {l':List Tok} (h:rza f r l=.ok x b l'):l'.length+1≤l.length:=by
 have:=(may f).rank r l (uze H);rw [h] at this;obtain⟨_,pre,u,e,_⟩:=this;rw [e];simp

set_option maxRecDepth 100000 in
set_option maxHeartbeats 12800000 in
theorem Gzu (f:Nat) (hR:mzd f) (P:Nat) (L:List Tok) (t:Tok) (q:List Tok) (m:Nat) (w:World) (hm:1≤m∧m≤2) (hf:20*q.length+10≤f) (H:Hid (PSt P L w (t::q))) (ht:isT t [40]=true) :
  Calls Tryz.prog 193 #[.pointer (some ⟨P,0,none⟩),.int .i64 m] w (Yzl P L w ((rza f 1 q).bindL fun e _ l=>rzd f (m - 1) [e] l)):=by
 have HR:=hid (show ∀ (q:List Tok) (w':World),20*q.length+10≤f→Hid (PSt P L w' q)→Calls Tryz.prog 24 #[.pointer (some ⟨P,0,none⟩)] w' (Sza P L w' (rza f 1 q)) from fun q w' hq S=>hR 1 P L q w' (by omega) (by omega) (by omega) S);have HT:=hid ht;have hP:=H.out.lt;clear ht hR;cases hq:rza f 1 q with
 | bad l'=>
  rw [PR.bindL_bad];have HC:=hid (fun w' S=>HR.out q w' hf S);rw [hq] at HC;clear HR;go_enter Tryz.func193,Tryz.ntmps193;go_wp2_with fail;refine (Jzb P L t q ⟨#[40]⟩ _ H HT.out).mono ?_;rintro e w1 ⟨rfl,s1,b1⟩;have S1:=hid s1;have B1:=hid b1;clear s1 b1 H HT;go_wp2_with fail;refine (HC.out _ S1).mono ?_;rintro e w2 ⟨rfl,s2,b2⟩;have S2:=hid s2;have B2:=hid (B1.out.trans b2);clear s2 b2 S1 B1 HC;unfold uza;go_wp2_with fail;exact⟨rfl,rfl,S2.out,B2.out⟩
 | ok x b l1=>
  rw [PR.bindL_ok];have HC:=hid (fun w' S=>HR.out q w' hf S);rw [hq] at HC;have HL1:=hid (fun (w':World) (S:PSt P L w' q)=>xzn S hq);go_enter Tryz.func193,Tryz.ntmps193;go_wp2_with fail;refine (Jzb P L t q ⟨#[40]⟩ _ H HT.out).mono ?_;rintro e w1 ⟨rfl,s1,b1⟩;have hl1:=HL1.out w1 s1;have S1:=hid s1;have B1:=hid b1;have hz1:=b1.size;clear s1 b1 H HT HL1;go_wp2_with fail;refine (HC.out _ S1).mono ?_;rintro e w2 ⟨⟨nv,kv,rfl,n2⟩,s2,b2⟩;obtain⟨a1,q1,a2,q2,rfl,rfl⟩:=pza n2;have hz2:=b2.size;have AL:=(Below.refl _ w2).alloc (Nat.le_refl _) (.cells (ndc x (.slice a1 x.names.length q1) (.slice a2 x.kids.length q2)) 26);have S2:=hid (s2.on AL);have B2:=hid ((B1.out.trans b2).trans (But.of AL));have K2:=hid (Izp (lo:=w.heap.size) (ok:=(fun b=>w.heap.size≤b)) (by omega) (by show w.heap.size≤w2.heap.size;omega) (mze n2 (fun b h1 h2=>by show w.heap.size≤b;omega)));clear s2 b2 n2 AL S1 B1 HC;unfold ndv;unfold ndc at *
  go_wp2_with fail;go_loopw [5] (fun v wr=>∃ (n:Nat) (ks:List Nd) (l':List Tok),Hid (rzd f (m - 1) [x] l1=rzd f n ks l')∧ks.length+n=m∧20*l'.length+10≤f∧Hid (aze w.heap.size (fun b=>w.heap.size≤b) wr v ks)∧Hid (PSt P L wr l')∧Hid (But P w wr)) (fun _ wr=>tzc P L wr)
  case atStart=>exact⟨m - 1,[x],l1,(show Hid (_=_) from rfl),by simp;omega,by omega,K2.out,S2.out,B2.out⟩
  case round=>
   obtain⟨n,ks,l',hE,hn,hf',hK,hS,hB⟩:=hrel;obtain⟨ao,cap,rfl⟩:=Rzd hK.out;clear K2 S2 B2;have hsz:=hB.out.size;have LW:=hid (nzc hS.out);cases n with
   | zero=>
    have hnl:¬ (ks.length<m):=by omega
    have hkm:ks.length≤2:=by omega
    clear HR LW;by_cases hh:isH l' [41]=true
    ·obtain⟨u,z,rfl,hu⟩:=wza hh;have HE:=hid (hE.out.trans (show rzd f 0 ks (u::z)=.ok [] ks z by rw [rzd];unfold Go.Proofs.YtdnnmjhfidimcaaGreatDoor.mustL;rw [if_pos hh];rfl));have HU:=hid hu;clear hE hh hu;go_wp2_with fail;refine (Jzb P L u z ⟨#[41]⟩ _ hS HU.out).mono ?_;rintro e w3 ⟨rfl,s3,b3⟩;have S3:=hid s3;have B3:=hid (hB.out.trans b3);have K3:=hid (Qzb hK.out b3 (by omega));clear s3 b3 hS hB hK HU;go_wp2_with fail;go_ret;rw [HE.out];exact⟨⟨_,rfl,qze K3.out⟩,S3.out,B3.out⟩
    ·have HE:=hid (hE.out.trans (show rzd f 0 ks l'=.bad l' by rw [rzd];unfold Go.Proofs.YtdnnmjhfidimcaaGreatDoor.mustL;rw [if_neg hh]));have HN:=hid (show isH l' (⟨#[41]⟩:ByteArray).data.toList=false by simpa using hh);clear hE hh;go_wp2_with fail;refine (Hzd P L l' ⟨#[41]⟩ _ hS HN.out).mono ?_;rintro e w3 ⟨rfl,b3⟩;have S3:=hid (hS.out.on b3);have B3:=hid (hB.out.trans (But.of b3));clear b3 hS hB hK HN;unfold uza;go_wp2_with fail;refine⟨rfl,?_⟩;rw [HE.out];exact⟨rfl,S3.out,B3.out⟩
   | succ n=>
    have hnl:ks.length<m:=by omega
    have hkm:ks.length≤2:=by omega
    by_cases hh:isH l' [44]=true
    ·obtain⟨u,z,rfl,hu⟩:=wza hh;have HE:=hid (hE.out.trans (show rzd f (n+1) ks (u::z)=(rza f 1 z).bindL fun e _ l=>rzd f n (ks++[e]) l by rw [rzd];unfold Go.Proofs.YtdnnmjhfidimcaaGreatDoor.mustL;rw [if_pos hh];rfl));have HU:=hid hu;have hfz:20*z.length+10≤f:=by simp at hf';omega
     have HC:=hid (fun w' S=>HR.out z w' hfz S);clear hE hh hu HR;cases hq2:rza f 1 z with
     | bad l3=>
      rw [hq2] at HC HE;clear LW;go_wp2_with fail;refine (Jzb P L u z ⟨#[44]⟩ _ hS HU.out).mono ?_;rintro e w3 ⟨rfl,s3,b3⟩;have S3:=hid s3;have B3:=hid (hB.out.trans b3);clear s3 b3 hS hB hK HU;go_wp2_with fail;refine (HC.out _ S3).mono ?_;rintro e w4 ⟨rfl,s4,b4⟩;have S4:=hid s4;have B4:=hid (B3.out.trans b4);clear s4 b4 S3 B3 HC;unfold uza;go_wp2_with fail;refine⟨rfl,?_⟩;rw [HE.out];exact⟨rfl,S4.out,B4.out⟩
     | ok y b3 l3=>
      have HL3:=hid (fun (w':World) (S:PSt P L w' z)=>xzn S hq2);rw [hq2] at HC HE;go_wp2_with fail;refine (Jzb P L u z ⟨#[44]⟩ _ hS HU.out).mono ?_;rintro e w3 ⟨rfl,s3,b3⟩;have hl3:=HL3.out w3 s3;have S3:=hid s3;have B3:=hid (hB.out.trans b3);have K3:=hid (Qzb hK.out b3 (by omega));have hz3:=b3.size;clear s3 b3 hS hB hK HU HL3;go_wp2_with fail;refine (HC.out _ S3).mono ?_;rintro e w4 ⟨⟨nv,kv,rfl,n4⟩,s4,b4⟩;obtain⟨b1,p1,b2,p2,rfl,rfl⟩:=pza n4;have S4:=hid s4;have B4:=hid (B3.out.trans b4);have K4:=hid (Qzb K3.out b4 (by omega));have hz4:=b4.size;have hzb:=B3.out.size;have HO:=hid (Cza K3.out);have Y4:=hid (show NdW (Els (fun b=>w.heap.size≤b) (.slice ao ks.length cap) w4) w4 y (.slice b1 y.names.length p1) (.slice b2 y.kids.length p2) from nzd (fun k hk=>⟨⟨by have:=hk.1;omega,hk.2,fun e=>by have:=HO.out k e.symm;have:=hk.1;omega⟩,rfl⟩) _ _ _ n4);clear s4 b4 n4 S3 B3 K3 HC;have AL:=(Below.refl _ w4).alloc (Nat.le_refl _) (.cells (ndc y (.slice b1 y.names.length p1) (.slice b2 y.kids.length p2)) 26);have S4':=hid (S4.out.on AL);have B4':=hid (B4.out.trans (But.of AL));have HO4:=hid (Cza K4.out);clear AL S4 B4;unfold ndv;unfold ndc at S4' B4';go_wp2_with (at_builtin;refine Xzs rfl _ _ rfl w.heap.size (fun b=>w.heap.size≤b) ks y b1 b2 p1 p2 _ rfl _ (by rfl) K4.out Y4.out _ (by rfl) (by simp) (by omega) (by omega) (fun k hk=>by omega) ?_)
      intro v5 w5 k5 gr5;have S5:=hid (ozc S4'.out (czd gr5 (by simp;omega) (fun k hk=>by have:=(HO4.out k hk).2.1;omega)));have B5:=hid (show But P w w5 from⟨gr5.os.trans B4'.out.os,gr5.tape.trans B4'.out.tape,gr5.output.trans B4'.out.output,Nat.le_trans B4'.out.size gr5.size,fun k h1 h2=>(gr5.block k (by have:=B4'.out.size;omega) (fun e=>by have:=(HO4.out k e.symm).2.1;omega)).trans (B4'.out.block k h1 h2)⟩);have K5:=hid k5;have HLE:=hid (show tzc P L w5<tzc P L wr by rw [nzc S5.out,LW.out];simp;omega);have HE5:=hid (HE.out.trans (PR.bindL_ok y b3 l3 _));clear k5 gr5 S4' B4' K4 Y4 HO4 HO HE LW;go_wp2_with fail;go_roundw
      case rel=>exact⟨n,ks++[y],l3,HE5.out,by simp;omega,by omega,K5.out,S5.out,B5.out⟩
      case measure=>exact HLE.out
    ·have HE:=hid (hE.out.trans (show rzd f (n+1) ks l'=.bad l' by rw [rzd];unfold Go.Proofs.YtdnnmjhfidimcaaGreatDoor.mustL;rw [if_neg hh]));have HN:=hid (show isH l' (⟨#[44]⟩:ByteArray).data.toList=false by simpa using hh);clear hE hh LW HR;go_wp2_with fail;refine (Hzd P L l' ⟨#[44]⟩ _ hS HN.out).mono ?_;rintro e w3 ⟨rfl,b3⟩;have S3:=hid (hS.out.on b3);have B3:=hid (hB.out.trans (But.of b3));clear b3 hS hB hK HN;unfold uza;go_wp2_with fail;refine⟨rfl,?_⟩;rw [HE.out];exact⟨rfl,S3.out,B3.out⟩

end Go.Proofs.YtdnnmjhfidimcaaGreatDoor

namespace Go.Proofs.YtdnnmjhfidimcaaGreatDoor
open Go.RowKit

structure C1 (P kb pb lo:Nat) (ok:Nat→Prop):Prop where
 p:P<lo
 k:lo≤kb
 q:P<pb
 ne:kb≠pb
 nk:¬ ok kb
 nq:¬ ok pb
 np:¬ ok P
 up:∀ b,kb<b→pb<b→ok b

set_option maxRecDepth 100000 in
set_option maxHeartbeats 12800000 in
theorem Hzu (P:Nat) (L:List Tok) (ok:Nat→Prop) (x:Nd) (a1 a2:Option Addr) (q1 q2:Nat) (w:World) (o:PL)
  (CC:Hid (Calls Tryz.prog 187 #[.pointer (some ⟨P,0,none⟩),.int .i64 6,.string ⟨#[41]⟩,.func (.func 188) #[] #[.pointer (some ⟨w.heap.size+1+1+1,0,none⟩),.pointer (some ⟨w.heap.size,0,none⟩)]] ((((w.alloc (.cells #[.pointer (some ⟨P,0,none⟩)] 43)).alloc (.cells #[.int .i64 x.kind,.int .i64 x.op,.int .i64 x.num,.string x.str,.slice a1 x.names.length q1,.slice a2 x.kids.length q2,.int .i64 x.pl] 26)).alloc (.cells #[.int .i64 x.kind,.int .i64 x.op,.int .i64 x.num,.string x.str,.slice a1 x.names.length q1,.slice a2 x.kids.length q2,.int .i64 x.pl] 26)).alloc (.cells #[.slice (some ⟨w.heap.size+1+1,0,none⟩) 1 1] 24)) (qzl P (w.heap.size+1+1+1) (w.heap.size) w.heap.size L (fun b=>ok b∧b≠w.heap.size+1+1+1∧b≠w.heap.size) ((((w.alloc (.cells #[.pointer (some ⟨P,0,none⟩)] 43)).alloc (.cells #[.int .i64 x.kind,.int .i64 x.op,.int .i64 x.num,.string x.str,.slice a1 x.names.length q1,.slice a2 x.kids.length q2,.int .i64 x.pl] 26)).alloc (.cells #[.int .i64 x.kind,.int .i64 x.op,.int .i64 x.num,.string x.str,.slice a1 x.names.length q1,.slice a2 x.kids.length q2,.int .i64 x.pl] 26)).alloc (.cells #[.slice (some ⟨w.heap.size+1+1,0,none⟩) 1 1] 24)) o))) :
  Calls Tryz.prog 174 #[.pointer (some ⟨P,0,none⟩),ndv x (.slice a1 x.names.length q1) (.slice a2 x.kids.length q2)] w (nzw P L ok w o):=by
 have B0:=hid (show But P w ((((w.alloc (.cells #[.pointer (some ⟨P,0,none⟩)] 43)).alloc (.cells #[.int .i64 x.kind,.int .i64 x.op,.int .i64 x.num,.string x.str,.slice a1 x.names.length q1,.slice a2 x.kids.length q2,.int .i64 x.pl] 26)).alloc (.cells #[.int .i64 x.kind,.int .i64 x.op,.int .i64 x.num,.string x.str,.slice a1 x.names.length q1,.slice a2 x.kids.length q2,.int .i64 x.pl] 26)).alloc (.cells #[.slice (some ⟨w.heap.size+1+1,0,none⟩) 1 1] 24)) from (((But.of ((Below.refl _ w).alloc (Nat.le_refl _) _)).trans (But.of ((Below.refl _ _).alloc (Nat.le_refl _) _))).trans (But.of ((Below.refl _ _).alloc (Nat.le_refl _) _))).trans (But.of ((Below.refl _ _).alloc (Nat.le_refl _) _)));have lift:∀ w',ButLo w.heap.size P ((((w.alloc (.cells #[.pointer (some ⟨P,0,none⟩)] 43)).alloc (.cells #[.int .i64 x.kind,.int .i64 x.op,.int .i64 x.num,.string x.str,.slice a1 x.names.length q1,.slice a2 x.kids.length q2,.int .i64 x.pl] 26)).alloc (.cells #[.int .i64 x.kind,.int .i64 x.op,.int .i64 x.num,.string x.str,.slice a1 x.names.length q1,.slice a2 x.kids.length q2,.int .i64 x.pl] 26)).alloc (.cells #[.slice (some ⟨w.heap.size+1+1,0,none⟩) 1 1] 24)) w'→But P w w':=fun w' h=>⟨h.os.trans B0.out.os,h.tape.trans B0.out.tape,h.output.trans B0.out.output,Nat.le_trans B0.out.size h.size,fun k h1 h2=>(h.block k h1 h2).trans (B0.out.block k h1 h2)⟩
 have LF:=hid lift;clear lift B0;unfold ndv;cases o with
 | bad l'=>
  go_enter Tryz.func174,Tryz.ntmps174;go_wp2_with fail;refine CC.out.mono ?_;rintro e w1 ⟨rfl,s1,b1⟩;have S1:=hid s1;have B1:=hid (LF.out w1 b1);clear s1 b1 CC LF;unfold uza;go_wp2_with fail;exact⟨rfl,rfl,S1.out,B1.out⟩
 | ok ns ks l'=>
  go_enter Tryz.func174,Tryz.ntmps174;go_wp2_with fail;refine CC.out.mono ?_;rintro e w1 ⟨rfl,⟨v,k1,r1⟩,_,s1,b1⟩;obtain⟨ao,cap,rfl⟩:=Rzd r1;have S1:=hid s1;have B1:=hid (LF.out w1 b1);have K1:=hid (Wzl (ok':=ok) (qze r1) (fun b h _=>h.1));have c1:=aza k1 0;simp at c1;clear s1 b1 CC LF r1 k1;go_wp2_with fail;go_ret;exact⟨⟨_,rfl,K1.out⟩,S1.out,B1.out⟩

theorem Lzr (f:Nat) (h1:∀ g,g≤f→∀ (P kb pb lo:Nat) (L:List Tok) (ok:Nat→Prop),C1 P kb pb lo ok→ozo g P kb pb lo L ok):Vzs (f+1):=by
 intro P L l ok x nv kv w hf FR H N;obtain⟨a1,q1,a2,q2,rfl,rfl⟩:=wzd N.out;have hP:=H.out.lt;refine Hzu P L ok x a1 a2 q1 q2 w _ ?_;have A1:=(Below.refl _ w).alloc (Nat.le_refl _) (.cells #[.pointer (some ⟨P,0,none⟩)] 43);have A2:=(Below.refl _ (w.alloc (.cells #[.pointer (some ⟨P,0,none⟩)] 43))).alloc (Nat.le_refl _) (.cells #[.int .i64 x.kind,.int .i64 x.op,.int .i64 x.num,.string x.str,.slice a1 x.names.length q1,.slice a2 x.kids.length q2,.int .i64 x.pl] 26);have A3:=(Below.refl _ ((w.alloc (.cells #[.pointer (some ⟨P,0,none⟩)] 43)).alloc (.cells #[.int .i64 x.kind,.int .i64 x.op,.int .i64 x.num,.string x.str,.slice a1 x.names.length q1,.slice a2 x.kids.length q2,.int .i64 x.pl] 26))).alloc (Nat.le_refl _) (.cells #[.int .i64 x.kind,.int .i64 x.op,.int .i64 x.num,.string x.str,.slice a1 x.names.length q1,.slice a2 x.kids.length q2,.int .i64 x.pl] 26);have A4:=(Below.refl _ (((w.alloc (.cells #[.pointer (some ⟨P,0,none⟩)] 43)).alloc (.cells #[.int .i64 x.kind,.int .i64 x.op,.int .i64 x.num,.string x.str,.slice a1 x.names.length q1,.slice a2 x.kids.length q2,.int .i64 x.pl] 26)).alloc (.cells #[.int .i64 x.kind,.int .i64 x.op,.int .i64 x.num,.string x.str,.slice a1 x.names.length q1,.slice a2 x.kids.length q2,.int .i64 x.pl] 26))).alloc (Nat.le_refl _) (.cells #[.slice (some ⟨w.heap.size+1+1,0,none⟩) 1 1] 24);have S4:=hid ((((H.out.on A1).on A2).on A3).on A4);have Q4:=hid (bza (bza (bza (iza w 43 #[.pointer (some ⟨P,0,none⟩)]) A2) A3) A4);have K4:=hid (show Blk (w.heap.size+1+1+1) 24 #[.slice (some ⟨w.heap.size+1+1,0,none⟩) 1 1] ((((w.alloc (.cells #[.pointer (some ⟨P,0,none⟩)] 43)).alloc (.cells #[.int .i64 x.kind,.int .i64 x.op,.int .i64 x.num,.string x.str,.slice a1 x.names.length q1,.slice a2 x.kids.length q2,.int .i64 x.pl] 26)).alloc (.cells #[.int .i64 x.kind,.int .i64 x.op,.int .i64 x.num,.string x.str,.slice a1 x.names.length q1,.slice a2 x.kids.length q2,.int .i64 x.pl] 26)).alloc (.cells #[.slice (some ⟨w.heap.size+1+1,0,none⟩) 1 1] 24)) from by
  have:=iza (((w.alloc (.cells #[.pointer (some ⟨P,0,none⟩)] 43)).alloc (.cells #[.int .i64 x.kind,.int .i64 x.op,.int .i64 x.num,.string x.str,.slice a1 x.names.length q1,.slice a2 x.kids.length q2,.int .i64 x.pl] 26)).alloc (.cells #[.int .i64 x.kind,.int .i64 x.op,.int .i64 x.num,.string x.str,.slice a1 x.names.length q1,.slice a2 x.kids.length q2,.int .i64 x.pl] 26)) 24 #[.slice (some ⟨w.heap.size+1+1,0,none⟩) 1 1];simpa using this)
 have N2:NdO (fun b=>ok b∧b≠w.heap.size+1+1+1∧b≠w.heap.size) ((w.alloc (.cells #[.pointer (some ⟨P,0,none⟩)] 43)).alloc (.cells #[.int .i64 x.kind,.int .i64 x.op,.int .i64 x.num,.string x.str,.slice a1 x.names.length q1,.slice a2 x.kids.length q2,.int .i64 x.pl] 26)) x (.slice a1 x.names.length q1) (.slice a2 x.kids.length q2):=tza (sza A2) (tza (sza A1) (Bzp N.out (fun b h hb=>⟨h,by omega,by omega⟩)));have R3:=Izp (lo:=w.heap.size) (ok:=(fun b=>ok b∧b≠w.heap.size+1+1+1∧b≠w.heap.size)) (w:=((w.alloc (.cells #[.pointer (some ⟨P,0,none⟩)] 43)).alloc (.cells #[.int .i64 x.kind,.int .i64 x.op,.int .i64 x.num,.string x.str,.slice a1 x.names.length q1,.slice a2 x.kids.length q2,.int .i64 x.pl] 26))) (by simp;omega) ⟨FR.up _ (by simp;omega),by simp,by simp;omega⟩ N2;have R4:=hid (show aze w.heap.size (fun b=>ok b∧b≠w.heap.size+1+1+1∧b≠w.heap.size) ((((w.alloc (.cells #[.pointer (some ⟨P,0,none⟩)] 43)).alloc (.cells #[.int .i64 x.kind,.int .i64 x.op,.int .i64 x.num,.string x.str,.slice a1 x.names.length q1,.slice a2 x.kids.length q2,.int .i64 x.pl] 26)).alloc (.cells #[.int .i64 x.kind,.int .i64 x.op,.int .i64 x.num,.string x.str,.slice a1 x.names.length q1,.slice a2 x.kids.length q2,.int .i64 x.pl] 26)).alloc (.cells #[.slice (some ⟨w.heap.size+1+1,0,none⟩) 1 1] 24)) (.slice (some ⟨w.heap.size+1+1,0,none⟩) 1 1) [x] from by
  have:=Fza R3 A4;simpa [ndc] using this)
 have hcl:C1 P (w.heap.size+1+1+1) (w.heap.size) w.heap.size (fun b=>ok b∧b≠w.heap.size+1+1+1∧b≠w.heap.size):=⟨hP,by omega,hP,by omega,fun h=>h.2.1 rfl,fun h=>h.2.2 rfl,fun h=>FR.no h.1,fun b h1 h2=>⟨FR.up b (by omega),by omega,by omega⟩⟩
 clear A1 A2 A3 A4 R3 N2;rw [Zzd];by_cases hh:isH l [41]=true
 ·obtain⟨t,q,rfl,ht⟩:=wza hh;rw [if_pos hh];exact hid (Azr P _ _ _ L _ t q _ [x] _ (by simp;omega) (by omega) (by omega) (fun h=>FR.no h.1) S4 K4 Q4 R4 ht)
 ·rw [if_neg hh];cases hq:rza f 1 l with
  | bad l1=>
   rw [PR.bindL_bad];exact hid (Bzw f P _ _ _ L _ (h1 f (Nat.le_refl _) P _ _ _ L _ hcl) l _ [x] _ (by omega) (by simp) (by simp;omega) S4 K4 Q4 R4 (by simpa using hh) l1 hq)
  | ok y b l1=>
   rw [PR.bindL_ok];exact hid (zzu f P _ _ _ L _ (fun g hg=>h1 g hg P _ _ _ L _ hcl) l _ [x] _ (by omega) rfl (by simp;omega) (by omega) (by omega) (fun h=>FR.no h.1) S4 K4 Q4 R4 (by simpa using hh) y b l1 hq)

end Go.Proofs.YtdnnmjhfidimcaaGreatDoor

namespace Go.Proofs.YtdnnmjhfidimcaaGreatDoor
open Go.RowKit

inductive PG (σ:Type) where
 | ok:σ→List Tok→PG σ
 | bad:List Tok→PG σ
def PG.bind {σ τ:Type} : PG σ→(σ→List Tok→PG τ)→PG τ
 | .ok s l,k=>k s l
 | .bad l,_=>.bad l
theorem PG.bind_ok {σ τ:Type} (s:σ) (l:List Tok) (k:σ→List Tok→PG τ):(PG.ok s l).bind k=k s l:=rfl
theorem PG.bind_bad {σ τ:Type} (l:List Tok) (k:σ→List Tok→PG τ):(PG.bad l:PG σ).bind k=.bad l:=rfl
def ezm {σ:Type} (en:UInt8) (s:σ) (l:List Tok):PG σ:=if isH l [en] then .ok s l.tail else .bad l
def Fze {σ:Type} (step:Nat→σ→List Tok→PG σ) (cnt:σ→Nat) (most:Nat) (en:UInt8):Nat→σ→List Tok→PG σ
 | 0,_,l=>.bad l
 | 1,s,l=>if cnt s<most∧isH l [44]=true then .bad l.tail else ezm en s l
 | f+2,s,l=>if cnt s<most∧isH l [44]=true then (step f s l.tail).bind fun s l=>Fze step cnt most en f s l else ezm en s l
def ezj {σ:Type} (step:Nat→σ→List Tok→PG σ) (cnt:σ→Nat) (most:Nat) (en:UInt8) (f:Nat) (s:σ) (l:List Tok):PG σ:=
 if isH l [en] then .ok s l.tail else (step f s l).bind fun s l=>Fze step cnt most en f s l
def Gze {σ:Type} (I:σ→World→Prop) (lo P:Nat) (L:List Tok) (w:World) (out:PG σ) (e:Ending) (w':World):Prop:=
 match out with
 | .ok s l=>e=.returned (.tuple #[])∧I s w'∧PSt P L w' l∧ButLo lo P w w'
 | .bad l=>e=uza∧PSt P L w' l∧ButLo lo P w w'
def Nzp {σ:Type} (N:Nat) (c1 c2:Value) (I:σ→World→Prop) (cnt:σ→Nat) (most:Nat) (step:Nat→σ→List Tok→PG σ) (lo P:Nat) (L:List Tok) (g:Nat):Prop:=
 ∀ (s:σ) (l:List Tok) (w:World),20*l.length+10≤g→cnt s<most→lo≤w.heap.size→Hid (PSt P L w l)→Hid (I s w)→Calls Tryz.prog N #[c1,c2] w (Gze I lo P L w (step g s l))
theorem Nzr {σ:Type} {step:Nat→σ→List Tok→PG σ} {cnt:σ→Nat} {most:Nat} {en:UInt8} {g:Nat} {s:σ} {t:Tok} {z:List Tok} (h:cnt s<most∧isH (t::z) [44]=true):Fze step cnt most en (g+2) s (t::z)=(step g s z).bind fun s l=>Fze step cnt most en g s l:=by rw [Fze,if_pos h];rfl
theorem fzm {σ:Type} {step:Nat→σ→List Tok→PG σ} {cnt:σ→Nat} {most:Nat} {en:UInt8} {g:Nat} {s:σ} {m:List Tok} (h:¬ (cnt s<most∧isH m [44]=true)):Fze step cnt most en (g+2) s m=ezm en s m:=by rw [Fze,if_neg h]
theorem Ozp {σ:Type} {en:UInt8} {s:σ} {u:Tok} {z:List Tok} (h:isH (u::z) [en]=true):ezm en s (u::z)=.ok s z:=by unfold ezm;rw [if_pos h];rfl
theorem czt {σ:Type} {en:UInt8} {s:σ} {m:List Tok} (h:¬ isH m [en]=true):ezm en s m=.bad m:=by unfold ezm;rw [if_neg h]

end Go.Proofs.YtdnnmjhfidimcaaGreatDoor

namespace Go.Proofs.YtdnnmjhfidimcaaGreatDoor
open Go.RowKit

theorem Wzz {l:List UInt8} {k:Nat} (h:(qzb l k).2.2=0):k<(qzb l k).2.1∧(qzb l k).2.1≤k+l.length∧(qzb l k).1.pl=k:=by
 match l with
 | []=>simp [qzb] at h
 | b::r=>
  unfold qzb at h ⊢;simp only at h ⊢;by_cases hl:Xza b.toNat=true
  ·rw [if_pos hl] at h ⊢;have h1:=Mzi Kzc (b::r);have h2:0<tze Kzc (b::r):=by rw [tze,if_pos (Uzk hl)];omega
   unfold vze at h ⊢;split
   ·exact⟨by simp only;omega,by simp only;omega,rfl⟩
   ·rename_i hk;rw [if_neg hk] at h;split
    ·exact⟨by simp only;omega,by simp only;omega,rfl⟩
    ·rename_i hm;rw [if_neg hm] at h;cases h
  ·rw [if_neg hl] at h ⊢;by_cases hd:Yza b.toNat=true
   ·rw [if_pos hd] at h ⊢;have h1:=Mzi Yza (b::r);have h2:0<tze Yza (b::r):=by rw [tze,if_pos hd];omega
    unfold Ize at h ⊢;split
    ·exact⟨by simp only;omega,by simp only;omega,rfl⟩
    ·rename_i hk;rw [if_neg hk] at h;exact absurd h hk
   ·rw [if_neg hd] at h ⊢;by_cases h34:b.toNat=34
    ·rw [if_pos h34] at h ⊢;have h3:(takeOut (b::r)).2.2=0:=by
      unfold Lzf at h;by_cases h3:(takeOut (b::r)).2.2=0
      ·exact h3
      ·rw [if_neg h3] at h;exact h
     have hg:takeOut (b::r)=((takeOut (b::r)).1,(takeOut (b::r)).2.1,0):=by rw [← h3]
     obtain⟨r',e',hgo⟩:=Gzl hg;obtain⟨body,rest,y,er,en,_,_⟩:=Yzh _ _ _ _ _ _ hgo;have hlen:(b::r).length=body.length+rest.length+2:=by rw [e',er];simp;omega
     unfold Lzf at h ⊢;rw [if_pos h3] at h ⊢;split
     ·rename_i hk;rw [if_pos hk] at h;cases h
     ·exact⟨by simp only;omega,by simp only;omega,rfl⟩
    ·rw [if_neg h34] at h ⊢;unfold jzg at h ⊢;by_cases hk:signL (b::r)=[]
     ·rw [if_pos hk] at h;cases h
     ·rw [if_neg hk];have hp:∀ L:List (List UInt8),Xzc L (b::r)≠[]→(Xzc L (b::r)).length≤(b::r).length:=by
       intro L;induction L with
       | nil=>intro h;exact absurd rfl h
       | cons x L ih=>
        intro h;rw [Xzc] at h ⊢;split
        ·rename_i hx;exact (List.isPrefixOf_iff_prefix.1 hx).length_le
        ·rename_i hx;rw [if_neg hx] at h;exact ih h
      have h1:=hp sgnL hk;have h2:=List.length_pos_iff.2 hk;refine⟨?_,?_,rfl⟩
      ·simp only;omega
      ·simp only;unfold signL;omega
theorem Vzp (s:ByteArray):∀ (f k:Nat) (acc out:List Tok) (p:Nat),gze s f k acc=(out,p,0)→0<f→s.size<k+f→k≤s.size→
  ∃ new,out=acc++new∧(∃ t∈new,t.kind=6)∧∀ t∈new,∃ a:Nat,t.pl=a∧k≤a∧a≤s.size
 | 0,_,_,_,_,_,h0,_,_=>by omega
 | f+1,k,acc,out,p,h,_,hf,hk=>by
  rw [gze] at h;split at h
  ·rename_i hks;injection h with h1 h2;exact⟨_,h1.symm,⟨_,List.mem_singleton.2 rfl,rfl⟩,fun t ht=>by rw [List.mem_singleton.1 ht];exact⟨s.size,rfl,hk,Nat.le_refl _⟩⟩
  ·rename_i hks;split at h
   ·rename_i he;injection h with h1 h2;injection h2 with h2 h3;exact absurd h3 he
   ·rename_i he;have he0:(qzb (s.data.toList.drop k) k).2.2=0:=by simpa using he
    split at h
    ·injection h with h1 h2;injection h2 with h2 h3;cases h3
    ·obtain⟨g1,g2,g3⟩:=Wzz he0;rw [List.length_drop,fzb] at g2;have g4:=ozn false s (qzb (s.data.toList.drop k) k).2.1;have g5:=Nzi (f:=false) (s:=s) (k:=(qzb (s.data.toList.drop k) k).2.1) (by omega);obtain⟨new,e1,e2,e3⟩:=Vzp s f _ _ out p h (by omega) (by omega) g5;refine⟨(qzb (s.data.toList.drop k) k).1::new,by rw [e1];simp,by obtain⟨u,u1,u2⟩:=e2;exact⟨u,List.mem_cons_of_mem _ u1,u2⟩,fun t ht=>?_⟩;rcases List.mem_cons.1 ht with rfl | ht
     ·exact⟨k,g3,Nat.le_refl _,by omega⟩
     ·obtain⟨a,a1,a2,a3⟩:=e3 t ht;exact⟨a,a1,by omega,a3⟩
theorem Czy {s:ByteArray} {out:List Tok} {p:Nat} (h:tokOut s=(out,p,0)):(∃ t∈out,t.kind=6)∧∀ t∈out,∃ a:Nat,t.pl=a∧a≤s.size:=by
 unfold tokOut at h;split at h
 ·injection h with h1 h2;injection h2 with h2 h3;cases h3
 ·have hk:=Nzi (f:=false) (s:=s) (k:=0) (Nat.zero_le _);obtain⟨new,en,nn,nt⟩:=Vzp s _ _ _ _ _ h (by omega) (by omega) hk;rw [List.nil_append] at en;subst en;exact⟨nn,fun t ht=>by obtain⟨a,a1,_,a3⟩:=nt t ht;exact⟨a,a1,a3⟩⟩

end Go.Proofs.YtdnnmjhfidimcaaGreatDoor
