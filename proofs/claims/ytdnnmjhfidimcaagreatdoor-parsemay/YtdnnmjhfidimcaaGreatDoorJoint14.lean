/- A block, and a whole program. What an if or a while asks. A statement: an if, a while, or a short one. A let behind its key. -/
import Derived.Test.YtdnnmjhfidimcaaGreatDoorJoint12
namespace Go.Proofs.YtdnnmjhfidimcaaGreatDoor
open Go.RowKit

def Yzl (P:Nat) (L:List Tok) (w:World) (out:PL) (e:Ending) (w':World):Prop:=
 match out with
 | .ok _ ks l=>(∃ kv,e=.returned kv∧KdR w.heap.size w' kv ks)∧PSt P L w' l∧But P w w'
 | .bad l=>e=uza∧PSt P L w' l∧But P w w'
def Zzl (f:Nat):Prop:=∀ (P:Nat) (L l:List Tok) (w:World),20*l.length+14≤f→Hid (PSt P L w l)→Calls Tryz.prog 40 #[.pointer (some ⟨P,0,none⟩)] w (Yzl P L w (fzc f [] l))
def Ezg (f:Nat):Prop:=∀ (P:Nat) (L l:List Tok) (w:World),20*l.length+5≤f→Hid (PSt P L w l)→Calls Tryz.prog 100 #[.pointer (some ⟨P,0,none⟩)] w (Sza P L w (Xzb f l))
theorem Qzi {lo:Nat} {w:World} {kv:Value} {ks:List Nd} (h:KdR lo w kv ks):∃ a c,kv=.slice a ks.length c:=by
 rcases h with ⟨ao,cap,e1,e2⟩ | ⟨b,off,cap,e,_,_,_⟩
 ·subst e2;exact⟨ao,cap,e1⟩
 ·exact⟨_,cap,e⟩

set_option maxRecDepth 100000 in
set_option maxHeartbeats 3200000 in
theorem uzw (P:Nat) (L l:List Tok) (w:World) (H:Hid (PSt P L w l)) (hh:isH l [123]=false) :
  Calls Tryz.prog 100 #[.pointer (some ⟨P,0,none⟩)] w (Sza P L w (.bad l)):=by
 have A:=hid ((Below.refl _ w).alloc (Nat.le_refl _) (.cells znd 26));have S0:=hid (H.out.on A.out);have HN:=hid hh;unfold znd at *
 clear H hh;go_enter Tryz.func100,Tryz.ntmps100;go_wp2_with fail;refine (Hzd P L l ⟨#[123]⟩ _ S0 HN.out).mono ?_;rintro e w1 ⟨rfl,b1⟩;have S1:=hid (S0.out.on b1);have B1:=hid (But.of (P:=P) (gza A.out (Nat.le_refl _) b1));clear b1 S0 A HN;unfold uza;go_wp2_with fail;exact⟨rfl,rfl,S1.out,B1.out⟩

set_option maxRecDepth 100000 in
set_option maxHeartbeats 3200000 in
theorem rzu (f:Nat) (hR:Zzl f) (P:Nat) (L:List Tok) (t:Tok) (q:List Tok) (w:World) (hf:20*q.length+14≤f) (H:Hid (PSt P L w (t::q))) (ht:isT t [123]=true) :
  Calls Tryz.prog 100 #[.pointer (some ⟨P,0,none⟩)] w (Sza P L w ((fzc f [] q).bind fun _ ks l=>must [125] l fun l=>.ok (ndK 29 ks) false l)):=by
 have A:=hid ((Below.refl _ w).alloc (Nat.le_refl _) (.cells znd 26));have S0:=hid (H.out.on A.out);have G0:=hid (iza w 26 znd);have hP:=H.out.lt;have HC:=hid (fun w' S=>hR P L q w' hf S);have HT:=hid ht;unfold znd at *
 clear H hR ht;cases hq:fzc f [] q with
 | bad l'=>
  rw [hq] at HC;rw [PL.bind_bad];go_enter Tryz.func100,Tryz.ntmps100;go_wp2_with fail;refine (Jzb P L t q ⟨#[123]⟩ _ S0 HT.out).mono ?_;rintro e w1 ⟨rfl,s1,b1⟩;have S1:=hid s1;have B1:=hid ((But.of (P:=P) A.out).trans b1);have G1:=hid (dza G0.out b1 (by omega));have hg1:=fza G1.out;clear s1 b1 S0 A G0 HT;go_wp2_with fail;refine (HC.out _ S1).mono ?_;rintro e w2 ⟨rfl,s2,b2⟩;have S2:=hid s2;have B2:=hid (B1.out.trans b2);clear s2 b2 S1 B1 G1 HC;unfold uza;go_wp2_with fail;exact⟨rfl,rfl,S2.out,B2.out⟩
 | ok ns ks l'=>
  rw [hq] at HC;rw [PL.bind_ok];unfold Go.Proofs.YtdnnmjhfidimcaaGreatDoor.must;by_cases hh:isH l' [125]=true
  ·obtain⟨u,z,rfl,hu⟩:=wza hh;rw [if_pos hh];have HU:=hid hu;clear hh hu;go_enter Tryz.func100,Tryz.ntmps100;go_wp2_with fail;refine (Jzb P L t q ⟨#[123]⟩ _ S0 HT.out).mono ?_;rintro e w1 ⟨rfl,s1,b1⟩;have S1:=hid s1;have B1:=hid ((But.of (P:=P) A.out).trans b1);have G1:=hid (dza G0.out b1 (by omega));have hg1:=fza G1.out;clear s1 b1 S0 A G0 HT;go_wp2_with fail;refine (HC.out _ S1).mono ?_;rintro e w2 ⟨⟨kv,rfl,n2⟩,s2,b2⟩;obtain⟨a1,q1,rfl⟩:=Qzi n2;have hz2:=b2.size;have AA:=(Below.refl _ w2).alloc (Nat.le_refl _) (.cells #[.int .i64 29,.int .i64 0,.int .i64 0,.string ⟨#[]⟩,.slice none 0 0,.slice a1 ks.length q1,.int .i64 0] 26);have S2:=hid (s2.on AA);have B2:=hid ((B1.out.trans b2).trans (But.of AA));have G2:=hid (bza (dza G1.out b2 (by omega)) AA);have V2:=hid (iza w2 26 #[.int .i64 29,.int .i64 0,.int .i64 0,.string ⟨#[]⟩,.slice none 0 0,.slice a1 ks.length q1,.int .i64 0]);have N2:=hid (uzg (Pza AA) (lzd hg1 n2));clear s2 b2 n2 AA S1 B1 G1 HC;go_wp2_with fail;refine (Jzb P L u z ⟨#[125]⟩ _ S2 HU.out).mono ?_;rintro e w3 ⟨rfl,s3,b3⟩;have S3:=hid s3;have B3:=hid (B2.out.trans b3);have G3:=hid (dza G2.out b3 (by omega));have V3:=hid (dza V2.out b3 (by omega));have N3:=hid (uzg (bzf b3 (by omega)) N2.out);have hg3:=fza G3.out;have hv3:=fza V3.out;obtain⟨r0,r1,r2,r3,r4,r5,r6⟩:=oza G3.out;obtain⟨u0,u1,u2,u3,u4,u5,u6⟩:=Qza G3.out;obtain⟨v0,v1,v2,v3,v4,v5,v6⟩:=oza V3.out;clear s3 b3 S2 B2 G2 V2 N2 HU;go_wp2_with fail;have Z:=Tza hP (Nat.le_refl _) S3.out B3.out G3.out (.int .i64 29) (.int .i64 0) (.int .i64 0) (.string ⟨#[]⟩) (.slice none 0 0) (.slice a1 ks.length q1) (.int .i64 0);exact bodyPost_ret (jzb rfl rfl Z.1) rfl ⟨⟨_,_,rfl,mzc ⟨bzd,lzd (Nat.le_succ _) (uzg (yzb w3 (Nat.lt_succ_self _) _ _ _ _ _ _ _) N3.out)⟩⟩,Z.2.1,Z.2.2⟩
  ·rw [if_neg hh];have HN:=hid (show isH l' [125]=false by simpa using hh);clear hh;go_enter Tryz.func100,Tryz.ntmps100;go_wp2_with fail;refine (Jzb P L t q ⟨#[123]⟩ _ S0 HT.out).mono ?_;rintro e w1 ⟨rfl,s1,b1⟩;have S1:=hid s1;have B1:=hid ((But.of (P:=P) A.out).trans b1);have G1:=hid (dza G0.out b1 (by omega));have hg1:=fza G1.out;clear s1 b1 S0 A G0 HT;go_wp2_with fail;refine (HC.out _ S1).mono ?_;rintro e w2 ⟨⟨kv,rfl,n2⟩,s2,b2⟩;obtain⟨a1,q1,rfl⟩:=Qzi n2;have hz2:=b2.size;have AA:=(Below.refl _ w2).alloc (Nat.le_refl _) (.cells #[.int .i64 29,.int .i64 0,.int .i64 0,.string ⟨#[]⟩,.slice none 0 0,.slice a1 ks.length q1,.int .i64 0] 26);have S2:=hid (s2.on AA);have B2:=hid ((B1.out.trans b2).trans (But.of AA));have G2:=hid (bza (dza G1.out b2 (by omega)) AA);have V2:=hid (iza w2 26 #[.int .i64 29,.int .i64 0,.int .i64 0,.string ⟨#[]⟩,.slice none 0 0,.slice a1 ks.length q1,.int .i64 0]);have N2:=hid (uzg (Pza AA) (lzd hg1 n2));clear s2 b2 n2 AA S1 B1 G1 HC;go_wp2_with fail;refine (Hzd P L l' ⟨#[125]⟩ _ S2 HN.out).mono ?_;rintro e w3 ⟨rfl,b3⟩;have S3:=hid (S2.out.on b3);have B3:=hid (B2.out.trans (But.of b3));clear b3 S2 B2 G2 V2 N2 HN;unfold uza;go_wp2_with fail;exact⟨rfl,rfl,S3.out,B3.out⟩

theorem Ezp (f:Nat) (hR:Zzl f):Ezg (f+1):=by
 intro P L l w hf H;rw [Xzb];unfold Go.Proofs.YtdnnmjhfidimcaaGreatDoor.must;by_cases hh:isH l [123]=true
 ·obtain⟨t,q,rfl,ht⟩:=wza hh;rw [if_pos hh];exact rzu f hR P L t q w (by simp at hf;omega) H ht
 ·rw [if_neg hh];exact uzw P L l w H (by simpa using hh)

set_option maxRecDepth 100000 in
set_option maxHeartbeats 3200000 in
theorem uzr (f:Nat) (hR:Zzl f) (P:Nat) (L l:List Tok) (w:World) (hf:20*l.length+14≤f) (H:Hid (PSt P L w l)) :
  Calls Tryz.prog 21 #[.pointer (some ⟨P,0,none⟩)] w (Sza P L w ((fzc f [] l).bind fun _ ks l=>.ok (ndK 29 ks) false l)):=by
 have A:=hid ((Below.refl _ w).alloc (Nat.le_refl _) (.cells znd 26));have S0:=hid (H.out.on A.out);have G0:=hid (iza w 26 znd);have hP:=H.out.lt;have HC:=hid (fun w' S=>hR P L l w' hf S);unfold znd at *
 clear H hR;cases hq:fzc f [] l with
 | bad l'=>
  rw [hq] at HC;rw [PL.bind_bad];go_enter Tryz.func21,Tryz.ntmps21;go_wp2_with fail;refine (HC.out _ S0).mono ?_;rintro e w2 ⟨rfl,s2,b2⟩;have S2:=hid s2;have B2:=hid ((But.of A.out).trans b2);clear s2 b2 S0 A G0 HC;unfold uza;go_wp2_with fail;exact⟨rfl,rfl,S2.out,B2.out⟩
 | ok ns ks l'=>
  rw [hq] at HC;rw [PL.bind_ok];go_enter Tryz.func21,Tryz.ntmps21;go_wp2_with fail;refine (HC.out _ S0).mono ?_;rintro e w2 ⟨⟨kv,rfl,n2⟩,s2,b2⟩;obtain⟨a1,q1,rfl⟩:=Qzi n2;have S3:=hid s2;have B3:=hid ((But.of A.out).trans b2);have G3:=hid (dza G0.out b2 (by omega));have N3:=hid (lzd (lo':=w.heap.size+1) (by simp) n2);have hg3:=fza G3.out;obtain⟨r0,r1,r2,r3,r4,r5,r6⟩:=oza G3.out;obtain⟨u0,u1,u2,u3,u4,u5,u6⟩:=Qza G3.out;clear s2 b2 n2 S0 A G0 HC;go_wp2_with fail;have Z:=Tza hP (Nat.le_refl _) S3.out B3.out G3.out (.int .i64 29) (.int .i64 0) (.int .i64 0) (.string ⟨#[]⟩) (.slice none 0 0) (.slice a1 ks.length q1) (.int .i64 0);exact bodyPost_ret (jzb rfl rfl Z.1) rfl ⟨⟨_,_,rfl,mzc ⟨bzd,lzd (Nat.le_succ _) (uzg (yzb w2 (Nat.lt_succ_self _) _ _ _ _ _ _ _) N3.out)⟩⟩,Z.2.1,Z.2.2⟩

end Go.Proofs.YtdnnmjhfidimcaaGreatDoor

namespace Go.Proofs.YtdnnmjhfidimcaaGreatDoor
open Go.RowKit

def Yzm (f:Nat):Prop:=∀ (P:Nat) (L l:List Tok) (w:World),20*l.length+5≤f→Hid (PSt P L w l)→Calls Tryz.prog 99 #[.pointer (some ⟨P,0,none⟩)] w (Sza P L w (Mzf f l))

set_option maxHeartbeats 3200000 in
theorem Lzz (P:Nat) (L l:List Tok) (w:World) (H:Hid (PSt P L w l)) (hh:isH l [40]=false) :
  Calls Tryz.prog 99 #[.pointer (some ⟨P,0,none⟩)] w (Sza P L w (.bad l)):=by
 have A:=hid ((Below.refl _ w).alloc (Nat.le_refl _) (.cells znd 26));have S0:=hid (H.out.on A.out);have HN:=hid hh;unfold znd at *
 clear H hh;go_enter Tryz.func99,Tryz.ntmps99;go_wp2_with fail;refine (Hzd P L l ⟨#[40]⟩ _ S0 HN.out).mono ?_;rintro e w1 ⟨rfl,b1⟩;have S1:=hid (S0.out.on b1);have B1:=hid (But.of (P:=P) (gza A.out (Nat.le_refl _) b1));clear b1 S0 A HN;unfold uza;go_wp2_with fail;exact⟨rfl,rfl,S1.out,B1.out⟩

set_option maxHeartbeats 3200000 in
theorem kzy (f:Nat) (hR:mzd f) (P:Nat) (L:List Tok) (t:Tok) (q:List Tok) (w:World) (hf:20*q.length+10≤f) (H:Hid (PSt P L w (t::q))) (ht:isT t [40]=true) :
  Calls Tryz.prog 99 #[.pointer (some ⟨P,0,none⟩)] w (Sza P L w ((rza f 1 q).bind fun e _ l=>must [41] l fun l=>.ok e false l)):=by
 have A:=hid ((Below.refl _ w).alloc (Nat.le_refl _) (.cells znd 26));have S0:=hid (H.out.on A.out);have G0:=hid (iza w 26 znd);have hP:=H.out.lt;have HC:=hid (show ∀ w',Hid (PSt P L w' q)→Calls Tryz.prog 24 #[.pointer (some ⟨P,0,none⟩)] w' (Sza P L w' (rza f 1 q)) from fun w' S=>hR 1 P L q w' (by omega) (by omega) (by omega) S);have HT:=hid ht;unfold znd at *
 clear H hR ht;cases hq:rza f 1 q with
 | bad l'=>
  rw [hq] at HC;rw [PR.bind_bad];go_enter Tryz.func99,Tryz.ntmps99;go_wp2_with fail;refine (Jzb P L t q ⟨#[40]⟩ _ S0 HT.out).mono ?_;rintro e w1 ⟨rfl,s1,b1⟩;have S1:=hid s1;have B1:=hid ((But.of (P:=P) A.out).trans b1);have G1:=hid (dza G0.out b1 (by omega));have hg1:=fza G1.out;clear s1 b1 S0 A G0 HT;go_wp2_with fail;refine (HC.out _ S1).mono ?_;rintro e w2 ⟨rfl,s2,b2⟩;have S2:=hid s2;have B2:=hid (B1.out.trans b2);clear s2 b2 S1 B1 G1 HC;unfold uza;go_wp2_with fail;exact⟨rfl,rfl,S2.out,B2.out⟩
 | ok x b l'=>
  rw [hq] at HC;rw [PR.bind_ok];unfold Go.Proofs.YtdnnmjhfidimcaaGreatDoor.must;by_cases hh:isH l' [41]=true
  ·obtain⟨u,z,rfl,hu⟩:=wza hh;rw [if_pos hh];have HU:=hid hu;clear hh hu;go_enter Tryz.func99,Tryz.ntmps99;go_wp2_with fail;refine (Jzb P L t q ⟨#[40]⟩ _ S0 HT.out).mono ?_;rintro e w1 ⟨rfl,s1,b1⟩;have S1:=hid s1;have B1:=hid ((But.of (P:=P) A.out).trans b1);have G1:=hid (dza G0.out b1 (by omega));have hg1:=fza G1.out;clear s1 b1 S0 A G0 HT;go_wp2_with fail;refine (HC.out _ S1).mono ?_;rintro e w2 ⟨⟨nv,kv,rfl,n2⟩,s2,b2⟩;obtain⟨a1,q1,a2,q2,rfl,rfl⟩:=pza n2;have hz2:=b2.size;have AA:=(Below.refl _ w2).alloc (Nat.le_refl _) (.cells (ndc x (.slice a1 x.names.length q1) (.slice a2 x.kids.length q2)) 26);have S2:=hid (s2.on AA);have B2:=hid ((B1.out.trans b2).trans (But.of AA));have G2:=hid (bza (dza G1.out b2 (by omega)) AA);have V2:=hid (iza w2 26 (ndc x (.slice a1 x.names.length q1) (.slice a2 x.kids.length q2)));have N2:=hid (xza (Pza AA) (Gza hg1 n2));clear s2 b2 n2 AA S1 B1 G1 HC;unfold ndv;unfold ndc at *
   go_wp2_with fail;refine (Jzb P L u z ⟨#[41]⟩ _ S2 HU.out).mono ?_;rintro e w3 ⟨rfl,s3,b3⟩;have S3:=hid s3;have B3:=hid (B2.out.trans b3);have G3:=hid (dza G2.out b3 (by omega));have V3:=hid (dza V2.out b3 (by omega));have N3:=hid (xza (bzf b3 (by omega)) N2.out);have hg3:=fza G3.out;have hv3:=fza V3.out;obtain⟨r0,r1,r2,r3,r4,r5,r6⟩:=oza G3.out;obtain⟨u0,u1,u2,u3,u4,u5,u6⟩:=Qza G3.out;obtain⟨v0,v1,v2,v3,v4,v5,v6⟩:=oza V3.out;clear s3 b3 S2 B2 G2 V2 N2 HU;go_wp2_with fail;have Z:=Tza hP (Nat.le_refl _) S3.out B3.out G3.out (.int .i64 x.kind) (.int .i64 x.op) (.int .i64 x.num) (.string x.str) (.slice a1 x.names.length q1) (.slice a2 x.kids.length q2) (.int .i64 x.pl);exact bodyPost_ret (jzb rfl rfl Z.1) rfl ⟨⟨_,_,rfl,Gza (Nat.le_succ _) (xza (yzb w3 (Nat.lt_succ_self _) _ _ _ _ _ _ _) N3.out)⟩,Z.2.1,Z.2.2⟩
  ·rw [if_neg hh];have HN:=hid (show isH l' [41]=false by simpa using hh);clear hh;go_enter Tryz.func99,Tryz.ntmps99;go_wp2_with fail;refine (Jzb P L t q ⟨#[40]⟩ _ S0 HT.out).mono ?_;rintro e w1 ⟨rfl,s1,b1⟩;have S1:=hid s1;have B1:=hid ((But.of (P:=P) A.out).trans b1);have G1:=hid (dza G0.out b1 (by omega));have hg1:=fza G1.out;clear s1 b1 S0 A G0 HT;go_wp2_with fail;refine (HC.out _ S1).mono ?_;rintro e w2 ⟨⟨nv,kv,rfl,n2⟩,s2,b2⟩;obtain⟨a1,q1,a2,q2,rfl,rfl⟩:=pza n2;have hz2:=b2.size;have AA:=(Below.refl _ w2).alloc (Nat.le_refl _) (.cells (ndc x (.slice a1 x.names.length q1) (.slice a2 x.kids.length q2)) 26);have S2:=hid (s2.on AA);have B2:=hid ((B1.out.trans b2).trans (But.of AA));have G2:=hid (bza (dza G1.out b2 (by omega)) AA);have V2:=hid (iza w2 26 (ndc x (.slice a1 x.names.length q1) (.slice a2 x.kids.length q2)));have N2:=hid (xza (Pza AA) (Gza hg1 n2));clear s2 b2 n2 AA S1 B1 G1 HC;unfold ndv;unfold ndc at *
   go_wp2_with fail;refine (Hzd P L l' ⟨#[41]⟩ _ S2 HN.out).mono ?_;rintro e w3 ⟨rfl,b3⟩;have S3:=hid (S2.out.on b3);have B3:=hid (B2.out.trans (But.of b3));clear b3 S2 B2 G2 V2 N2 HN;unfold uza;go_wp2_with fail;exact⟨rfl,rfl,S3.out,B3.out⟩

theorem szu (f:Nat) (hR:mzd f):Yzm (f+1):=by
 intro P L l w hf H;rw [Mzf];unfold Go.Proofs.YtdnnmjhfidimcaaGreatDoor.must;by_cases hh:isH l [40]=true
 ·obtain⟨t,q,rfl,ht⟩:=wza hh;rw [if_pos hh];exact kzy f hR P L t q w (by simp at hf;omega) H ht
 ·rw [if_neg hh];exact Lzz P L l w H (by simpa using hh)

end Go.Proofs.YtdnnmjhfidimcaaGreatDoor

namespace Go.Proofs.YtdnnmjhfidimcaaGreatDoor
open Go.RowKit

def pzl (f:Nat) (l:List Tok):PR:=(Mzf f l).bind fun e _ l=>(Xzb f l).bind fun y _ l=>
 if isH l [101,108,115,101] then (Xzb f l.tail).bind fun z _ l=>.ok (ndK 28 [e,y,z]) false l else .ok (ndK 28 [e,y,ndK 29 []]) false l
def Yzs (f:Nat):Prop:=∀ (P:Nat) (L l:List Tok) (w:World),20*l.length+5≤f→Hid (PSt P L w l)→Calls Tryz.prog 98 #[.pointer (some ⟨P,0,none⟩)] w (Sza P L w (pzl f l))
def mzo (f:Nat):Prop:=∀ (P:Nat) (L l:List Tok) (w:World),20*l.length+12≤f→Hid (PSt P L w l)→Calls Tryz.prog 101 #[.pointer (some ⟨P,0,none⟩)] w (Sza P L w (Jzd f l))

set_option maxRecDepth 100000 in
set_option maxHeartbeats 3200000 in
theorem lzy (f:Nat) (hR:Yzs f) (P:Nat) (L:List Tok) (t:Tok) (q:List Tok) (w:World) (hf:20*q.length+5≤f) (H:Hid (PSt P L w (t::q))) (ht:isT t [105,102]=true) :
  Calls Tryz.prog 65 #[.pointer (some ⟨P,0,none⟩)] w (Sza P L w (pzl f q)):=by
 have A:=hid ((Below.refl _ w).alloc (Nat.le_refl _) (.cells znd 26));have S0:=hid (H.out.on A.out);have G0:=hid (iza w 26 znd);have hP:=H.out.lt;have HC:=hid (fun w' S=>hR P L q w' hf S);have HT:=hid ht;unfold znd at *
 clear H hR ht;cases hq:pzl f q with
 | bad l'=>
  rw [hq] at HC;go_enter Tryz.func65,Tryz.ntmps65;go_wp2_with fail;refine (szb P L t q ⟨#[105,102]⟩ _ S0 HT.out).mono ?_;rintro e w1 ⟨rfl,s1,b1⟩;have S9:=hid s1;have B9:=hid ((But.of (P:=P) A.out).trans b1);have G9:=hid (dza G0.out b1 (by omega));have hg9:=fza G9.out;clear s1 b1 S0 A G0 HT;go_wp2_with fail;refine (HC.out _ S9).mono ?_;rintro e wb ⟨rfl,sb,bb⟩;have S8:=hid sb;have B8:=hid (B9.out.trans bb);clear sb bb S9 B9 G9;unfold uza;go_wp2_with fail;exact⟨rfl,rfl,S8.out,B8.out⟩
 | ok x b l'=>
  rw [hq] at HC;go_enter Tryz.func65,Tryz.ntmps65;go_wp2_with fail;refine (szb P L t q ⟨#[105,102]⟩ _ S0 HT.out).mono ?_;rintro e w1 ⟨rfl,s1,b1⟩;have S9:=hid s1;have B9:=hid ((But.of (P:=P) A.out).trans b1);have G9:=hid (dza G0.out b1 (by omega));have hg9:=fza G9.out;clear s1 b1 S0 A G0 HT;go_wp2_with fail;refine (HC.out _ S9).mono ?_;rintro e w2 ⟨⟨nv,kv,rfl,n2⟩,s2,b2⟩;obtain⟨a1,q1,a2,q2,rfl,rfl⟩:=pza n2;have S3:=hid s2;have hg2:=fza G9.out;have N3:=hid (Gza hg2 n2);have B3:=hid (B9.out.trans b2);have G3:=hid (dza G9.out b2 (by omega));have hg3:=fza G3.out;obtain⟨r0,r1,r2,r3,r4,r5,r6⟩:=oza G3.out;obtain⟨u0,u1,u2,u3,u4,u5,u6⟩:=Qza G3.out;clear s2 b2 S9 B9 G9 n2;unfold ndv;go_wp2_with fail;have Z:=Tza hP (Nat.le_refl _) S3.out B3.out G3.out (.int .i64 x.kind) (.int .i64 x.op) (.int .i64 x.num) (.string x.str) (.slice a1 x.names.length q1) (.slice a2 x.kids.length q2) (.int .i64 x.pl);exact bodyPost_ret (jzb rfl rfl Z.1) rfl ⟨⟨_,_,rfl,Gza (Nat.le_succ _) (xza (yzb w2 (Nat.lt_succ_self _) _ _ _ _ _ _ _) N3.out)⟩,Z.2.1,Z.2.2⟩

set_option maxRecDepth 100000 in
set_option maxHeartbeats 3200000 in
theorem vzr (f:Nat) (hR:mzo f) (P:Nat) (L l:List Tok) (w:World) (hf:20*l.length+12≤f) (H:Hid (PSt P L w l)) (h1:isH l [105,102]=false) (h2:isH l [119,104,105,108,101]=false) :
  Calls Tryz.prog 65 #[.pointer (some ⟨P,0,none⟩)] w (Sza P L w ((Jzd f l).bind fun e _ l=>must [59] l fun l=>.ok e false l)):=by
 have A:=hid ((Below.refl _ w).alloc (Nat.le_refl _) (.cells znd 26));have S0:=hid (H.out.on A.out);have G0:=hid (iza w 26 znd);have hP:=H.out.lt;have HC:=hid (fun w' S=>hR P L l w' hf S);have H1:=hid h1;have H2:=hid h2;unfold znd at *
 clear H hR h1 h2;cases hq:Jzd f l with
 | bad l'=>
  rw [hq] at HC;rw [PR.bind_bad];go_enter Tryz.func65,Tryz.ntmps65;go_wp2_with fail;refine (Hza P L l ⟨#[105,102]⟩ _ S0 H1.out).mono ?_;rintro e wn0 ⟨rfl,bn⟩;have S1:=hid (S0.out.on bn);have A1:=hid (gza A.out (Nat.le_refl _) bn);have G1:=hid (bza G0.out bn);have hzn0:=bn.size;try simp only [World.size_alloc] at hzn0
  clear bn S0 A G0 H1;go_wp2_with fail;refine (Hza P L l ⟨#[119,104,105,108,101]⟩ _ S1 H2.out).mono ?_;rintro e wn1 ⟨rfl,bn⟩;have S2:=hid (S1.out.on bn);have A2:=hid (gza A1.out (Nat.le_refl _) bn);have G2:=hid (bza G1.out bn);have hzn1:=bn.size;try simp only [World.size_alloc] at hzn1
  clear bn S1 A1 G1 H2;go_wp2_with fail;have B2:=hid (But.of (P:=P) A2.out);refine (HC.out _ S2).mono ?_;rintro e wb ⟨rfl,sb,bb⟩;have S8:=hid sb;have B8:=hid (B2.out.trans bb);clear sb bb S2 B2 G2;unfold uza;go_wp2_with fail;exact⟨rfl,rfl,S8.out,B8.out⟩
 | ok x b l'=>
  rw [hq] at HC;rw [PR.bind_ok];unfold Go.Proofs.YtdnnmjhfidimcaaGreatDoor.must;by_cases hh:isH l' [59]=true
  ·obtain⟨u,z,rfl,hu⟩:=wza hh;rw [if_pos hh];have HU:=hid hu;clear hh hu;go_enter Tryz.func65,Tryz.ntmps65;go_wp2_with fail;refine (Hza P L l ⟨#[105,102]⟩ _ S0 H1.out).mono ?_;rintro e wn0 ⟨rfl,bn⟩;have S1:=hid (S0.out.on bn);have A1:=hid (gza A.out (Nat.le_refl _) bn);have G1:=hid (bza G0.out bn);have hzn0:=bn.size;try simp only [World.size_alloc] at hzn0
   clear bn S0 A G0 H1;go_wp2_with fail;refine (Hza P L l ⟨#[119,104,105,108,101]⟩ _ S1 H2.out).mono ?_;rintro e wn1 ⟨rfl,bn⟩;have S2:=hid (S1.out.on bn);have A2:=hid (gza A1.out (Nat.le_refl _) bn);have G2:=hid (bza G1.out bn);have hzn1:=bn.size;try simp only [World.size_alloc] at hzn1
   clear bn S1 A1 G1 H2;go_wp2_with fail;refine (HC.out _ S2).mono ?_;rintro e w2 ⟨⟨nv,kv,rfl,n2⟩,s2,b2⟩;obtain⟨a1,q1,a2,q2,rfl,rfl⟩:=pza n2;have hz2:=b2.size;have hg2:=fza G2.out;have AA:=(Below.refl _ w2).alloc (Nat.le_refl _) (.cells (ndc x (.slice a1 x.names.length q1) (.slice a2 x.kids.length q2)) 26);have S3:=hid (s2.on AA);have B3:=hid (((But.of (P:=P) A2.out).trans b2).trans (But.of AA));have G3:=hid (bza (dza G2.out b2 (by omega)) AA);have V3:=hid (iza w2 26 (ndc x (.slice a1 x.names.length q1) (.slice a2 x.kids.length q2)));have N3:=hid (xza (Pza AA) (Gza hg2 n2));clear s2 b2 n2 AA S2 A2 G2 HC;unfold ndv;unfold ndc at *
   go_wp2_with fail;refine (Jzb P L u z ⟨#[59]⟩ _ S3 HU.out).mono ?_;rintro e w3 ⟨rfl,s3,b3⟩;have S4:=hid s3;have B4:=hid (B3.out.trans b3);have G4:=hid (dza G3.out b3 (by omega));have V4:=hid (dza V3.out b3 (by omega));have N4:=hid (xza (bzf b3 (by omega)) N3.out);have hg4:=fza G4.out;have hv4:=fza V4.out;obtain⟨r0,r1,r2,r3,r4,r5,r6⟩:=oza G4.out;obtain⟨u0,u1,u2,u3,u4,u5,u6⟩:=Qza G4.out;obtain⟨v0,v1,v2,v3,v4,v5,v6⟩:=oza V4.out;clear s3 b3 S3 B3 G3 V3 N3 HU;go_wp2_with fail;have Z:=Tza hP (Nat.le_refl _) S4.out B4.out G4.out (.int .i64 x.kind) (.int .i64 x.op) (.int .i64 x.num) (.string x.str) (.slice a1 x.names.length q1) (.slice a2 x.kids.length q2) (.int .i64 x.pl);exact bodyPost_ret (jzb rfl rfl Z.1) rfl ⟨⟨_,_,rfl,Gza (Nat.le_succ _) (xza (yzb w3 (Nat.lt_succ_self _) _ _ _ _ _ _ _) N4.out)⟩,Z.2.1,Z.2.2⟩
  ·rw [if_neg hh];have HN:=hid (show isH l' [59]=false by simpa using hh);clear hh;go_enter Tryz.func65,Tryz.ntmps65;go_wp2_with fail;refine (Hza P L l ⟨#[105,102]⟩ _ S0 H1.out).mono ?_;rintro e wn0 ⟨rfl,bn⟩;have S1:=hid (S0.out.on bn);have A1:=hid (gza A.out (Nat.le_refl _) bn);have G1:=hid (bza G0.out bn);have hzn0:=bn.size;try simp only [World.size_alloc] at hzn0
   clear bn S0 A G0 H1;go_wp2_with fail;refine (Hza P L l ⟨#[119,104,105,108,101]⟩ _ S1 H2.out).mono ?_;rintro e wn1 ⟨rfl,bn⟩;have S2:=hid (S1.out.on bn);have A2:=hid (gza A1.out (Nat.le_refl _) bn);have G2:=hid (bza G1.out bn);have hzn1:=bn.size;try simp only [World.size_alloc] at hzn1
   clear bn S1 A1 G1 H2;go_wp2_with fail;refine (HC.out _ S2).mono ?_;rintro e w2 ⟨⟨nv,kv,rfl,n2⟩,s2,b2⟩;obtain⟨a1,q1,a2,q2,rfl,rfl⟩:=pza n2;have AA:=(Below.refl _ w2).alloc (Nat.le_refl _) (.cells (ndc x (.slice a1 x.names.length q1) (.slice a2 x.kids.length q2)) 26);have S3:=hid (s2.on AA);have B3:=hid (((But.of (P:=P) A2.out).trans b2).trans (But.of AA));clear s2 b2 n2 AA S2 A2 G2 HC;unfold ndv;unfold ndc at *
   go_wp2_with fail;refine (Hzd P L l' ⟨#[59]⟩ _ S3 HN.out).mono ?_;rintro e w3 ⟨rfl,b3⟩;have S4:=hid (S3.out.on b3);have B4:=hid (B3.out.trans (But.of b3));clear b3 S3 B3 HN;unfold uza;go_wp2_with fail;exact⟨rfl,rfl,S4.out,B4.out⟩

end Go.Proofs.YtdnnmjhfidimcaaGreatDoor

namespace Go.Proofs.YtdnnmjhfidimcaaGreatDoor
open Go.RowKit

theorem fzi (t:Tok) (w:World):(Instr.field 67 (.agg #[.int .i64 t.kind,.string t.text,.int .i64 t.num,.int .i64 t.pl]) 3).run Tryz.prog w=.ok (.int .i64 t.pl) w:=by kernel_rfl
theorem Dzh (t:Tok) (w:World):(Instr.field 67 (.agg #[.int .i64 t.kind,.string t.text,.int .i64 t.num,.int .i64 t.pl]) 0).run Tryz.prog w=.ok (.int .i64 t.kind) w:=by kernel_rfl
def pzy (f:Nat) (l:List Tok):PR:=Bze false l fun s l'=>must [61] l' fun l'=>(rza f 1 l').bind fun e _ l'=>.ok (.mk 21 0 0 s [] [e] (cur l).pl) false l'

set_option maxRecDepth 100000 in
set_option maxHeartbeats 3200000 in
theorem Mzz (P:Nat) (L l:List Tok) (w:World) (H:Hid (PSt P L w l)) (hh:isW false l=false) :
  Calls Tryz.prog 131 #[.pointer (some ⟨P,0,none⟩)] w (Sza P L w (.bad l)):=by
 have A:=hid ((Below.refl _ w).alloc (Nat.le_refl _) (.cells znd 26));have S0:=hid (H.out.on A.out);have G0:=hid (iza w 26 znd);have hP:=H.out.lt;have HN:=hid hh;unfold znd at *
 clear H hh;go_enter Tryz.func131,Tryz.ntmps131;go_wp2_with fail;refine (xzb P L l _ S0).mono ?_;rintro e wh ⟨rfl,bh⟩;have Sh:=hid (S0.out.on bh);have Ah:=hid (gza A.out (Nat.le_refl _) bh);have Gh:=hid (bza G0.out bh);have hzh:=bh.size;simp only [World.size_alloc] at hzh;clear bh S0 A G0;have hfd:=fun (w:World)=>fzi (cur l) w
 unfold Tok.val;go_wp2_with fail;clear hfd;refine (hzo P L l _ Sh HN.out).mono ?_;rintro e w1 ⟨rfl,b1⟩;have S9:=hid (Sh.out.on b1);have B9:=hid (But.of (P:=P) (gza Ah.out (Nat.le_refl _) b1));clear b1 Sh Ah Gh HN;unfold uza;go_wp2_with fail;exact⟨rfl,rfl,S9.out,B9.out⟩

set_option maxRecDepth 100000 in
set_option maxHeartbeats 3200000 in
theorem Azw (P:Nat) (L:List Tok) (t:Tok) (q:List Tok) (w:World) (H:Hid (PSt P L w (t::q))) (ht:t.kind=1) (hh:isH q [61]=false) :
  Calls Tryz.prog 131 #[.pointer (some ⟨P,0,none⟩)] w (Sza P L w (.bad q)):=by
 have A:=hid ((Below.refl _ w).alloc (Nat.le_refl _) (.cells znd 26));have S0:=hid (H.out.on A.out);have G0:=hid (iza w 26 znd);have hP:=H.out.lt;have HN:=hid hh;have HT:=hid ht;unfold znd at *
 clear H hh ht;go_enter Tryz.func131,Tryz.ntmps131;go_wp2_with fail;refine (xzb P L (t::q) _ S0).mono ?_;rintro e wh ⟨rfl,bh⟩;have Sh:=hid (S0.out.on bh);have Ah:=hid (gza A.out (Nat.le_refl _) bh);have Gh:=hid (bza G0.out bh);have hzh:=bh.size;simp only [World.size_alloc] at hzh;clear bh S0 A G0;have hfd:=fun (w:World)=>fzi (cur (t::q)) w
 unfold Tok.val;go_wp2_with fail;clear hfd;refine (azi P L t q _ Sh HT.out).mono ?_;rintro e w1 ⟨rfl,s1,b1⟩;have S1:=hid s1;have B1:=hid ((But.of (P:=P) Ah.out).trans b1);have G1:=hid (dza Gh.out b1 (by omega));have hg1:=fza G1.out;clear s1 b1 Sh Ah Gh HT;go_wp2_with fail;refine (Hzd P L q ⟨#[61]⟩ _ S1 HN.out).mono ?_;rintro e w2 ⟨rfl,b2⟩;have S9:=hid (S1.out.on b2);have B9:=hid (B1.out.trans (But.of b2));clear b2 S1 B1 G1 HN;unfold uza;go_wp2_with fail;exact⟨rfl,rfl,S9.out,B9.out⟩

set_option maxRecDepth 100000 in
set_option maxHeartbeats 3200000 in
theorem qzy (f:Nat) (hR:mzd f) (P:Nat) (L:List Tok) (t u:Tok) (z:List Tok) (w:World) (hf:20*z.length+10≤f) (H:Hid (PSt P L w (t::u::z))) (ht:t.kind=1) (hu:isT u [61]=true) :
  Calls Tryz.prog 131 #[.pointer (some ⟨P,0,none⟩)] w (Sza P L w ((rza f 1 z).bind fun e _ l'=>.ok (.mk 21 0 0 t.text [] [e] t.pl) false l')):=by
 have A:=hid ((Below.refl _ w).alloc (Nat.le_refl _) (.cells znd 26));have S0:=hid (H.out.on A.out);have G0:=hid (iza w 26 znd);have hP:=H.out.lt;have HC:=hid (show ∀ w',Hid (PSt P L w' z)→Calls Tryz.prog 24 #[.pointer (some ⟨P,0,none⟩)] w' (Sza P L w' (rza f 1 z)) from fun w' S=>hR 1 P L z w' (by omega) (by omega) (by omega) S);have HT:=hid ht;have HU:=hid hu;unfold znd at *
 clear H hR ht hu;cases hq:rza f 1 z with
 | bad l'=>
  rw [hq] at HC;rw [PR.bind_bad];go_enter Tryz.func131,Tryz.ntmps131;go_wp2_with fail;refine (xzb P L (t::u::z) _ S0).mono ?_;rintro e wh ⟨rfl,bh⟩;have Sh:=hid (S0.out.on bh);have Ah:=hid (gza A.out (Nat.le_refl _) bh);have Gh:=hid (bza G0.out bh);have hzh:=bh.size;simp only [World.size_alloc] at hzh;clear bh S0 A G0;have hfd:=fun (w:World)=>fzi (cur (t::u::z)) w
  unfold Tok.val;go_wp2_with fail;clear hfd;refine (azi P L t (u::z) _ Sh HT.out).mono ?_;rintro e w1 ⟨rfl,s1,b1⟩;have S1:=hid s1;have B1:=hid ((But.of (P:=P) Ah.out).trans b1);have G1:=hid (dza Gh.out b1 (by omega));have hg1:=fza G1.out;clear s1 b1 Sh Ah Gh HT;go_wp2_with fail;refine (Jzb P L u z ⟨#[61]⟩ _ S1 HU.out).mono ?_;rintro e w2 ⟨rfl,s2,b2⟩;have S2:=hid s2;have B2:=hid (B1.out.trans b2);have G2:=hid (dza G1.out b2 (by omega));have hg2:=fza G2.out;clear s2 b2 S1 B1 G1 HU hg1;go_wp2_with fail;refine (HC.out _ S2).mono ?_;rintro e w3 ⟨rfl,s3,b3⟩;have S9:=hid s3;have B9:=hid (B2.out.trans b3);clear s3 b3 S2 B2 G2 HC;unfold uza;go_wp2_with fail;exact⟨rfl,rfl,S9.out,B9.out⟩
 | ok x b l'=>
  rw [hq] at HC;rw [PR.bind_ok];go_enter Tryz.func131,Tryz.ntmps131;go_wp2_with fail;refine (xzb P L (t::u::z) _ S0).mono ?_;rintro e wh ⟨rfl,bh⟩;have Sh:=hid (S0.out.on bh);have Ah:=hid (gza A.out (Nat.le_refl _) bh);have Gh:=hid (bza G0.out bh);have hzh:=bh.size;simp only [World.size_alloc] at hzh;clear bh S0 A G0;have hfd:=fun (w:World)=>fzi (cur (t::u::z)) w
  unfold Tok.val;go_wp2_with fail;clear hfd;refine (azi P L t (u::z) _ Sh HT.out).mono ?_;rintro e w1 ⟨rfl,s1,b1⟩;have S1:=hid s1;have B1:=hid ((But.of (P:=P) Ah.out).trans b1);have G1:=hid (dza Gh.out b1 (by omega));have hg1:=fza G1.out;clear s1 b1 Sh Ah Gh HT;go_wp2_with fail;refine (Jzb P L u z ⟨#[61]⟩ _ S1 HU.out).mono ?_;rintro e w2 ⟨rfl,s2,b2⟩;have S2:=hid s2;have B2:=hid (B1.out.trans b2);have G2:=hid (dza G1.out b2 (by omega));have hg2:=fza G2.out;clear s2 b2 S1 B1 G1 HU hg1;go_wp2_with fail;refine (HC.out _ S2).mono ?_;rintro e w3 ⟨⟨nv,kv,rfl,n3⟩,s3,b3⟩;have S3:=hid s3;have N3:=hid (Gza hg2 n3);have B3:=hid (B2.out.trans b3);have G3:=hid (dza G2.out b3 (by omega));have hg3:=fza G3.out;obtain⟨r0,r1,r2,r3,r4,r5,r6⟩:=oza G3.out;obtain⟨u0,u1,u2,u3,u4,u5,u6⟩:=Qza G3.out;clear s3 b3 S2 B2 G2 HC n3;unfold ndv;go_wp2_with fail;have Z:=Uzd (Tza hP (Nat.le_refl _) S3.out B3.out G3.out (.int .i64 21) (.int .i64 0) (.int .i64 0) (.string t.text) (.slice none 0 0) (.slice (some ⟨w3.heap.size,0,none⟩) 1 1) (.int .i64 t.pl)) (.cells (ndc x nv kv) 26);have K:=Bzh (g:=w.heap.size) (T:=26) (Nat.lt_succ_self _) hg3 N3.out (.int .i64 21) (.int .i64 0) (.int .i64 0) (.string t.text) (.slice none 0 0) (.slice (some ⟨w3.heap.size,0,none⟩) 1 1) (.int .i64 t.pl);exact bodyPost_ret (jzb rfl rfl Z.1) rfl ⟨⟨_,_,rfl,mzc ⟨bzd,lzd (Nat.le_succ _) K⟩⟩,Z.2.1,Z.2.2⟩

theorem xzu (f:Nat) (hR:mzd f) (P:Nat) (L l:List Tok) (w:World) (hf:20*l.length≤f+30) (H:Hid (PSt P L w l)) :
  Calls Tryz.prog 131 #[.pointer (some ⟨P,0,none⟩)] w (Sza P L w (pzy f l)):=by
 unfold pzy Bze;by_cases hh:isW false l=true
 ·obtain⟨t,q,rfl,ht⟩:=Kzj hh;have ht1:t.kind=1:=by rcases ht with h | ⟨h,_⟩;exact h;cases h
  rw [if_pos hh];unfold Go.Proofs.YtdnnmjhfidimcaaGreatDoor.must;by_cases h2:isH q [61]=true
  ·obtain⟨u,z,rfl,hu⟩:=wza h2;show Calls Tryz.prog _ _ w (Sza P L w (if isH (u::z) [61]=true then (rza f 1 z).bind (fun e _ l'=>.ok (.mk 21 0 0 t.text [] [e] t.pl) false l') else .bad (u::z)));rw [if_pos h2];exact qzy f hR P L t u z w (by simp at hf;omega) H ht1 hu
  ·show Calls Tryz.prog _ _ w (Sza P L w (if isH q [61]=true then (rza f 1 q.tail).bind (fun e _ l'=>.ok (.mk 21 0 0 t.text [] [e] t.pl) false l') else .bad q));rw [if_neg h2];exact Azw P L t q w H ht1 (by simpa using h2)
 ·rw [if_neg hh];exact Mzz P L l w H (by simpa using hh)

end Go.Proofs.YtdnnmjhfidimcaaGreatDoor
